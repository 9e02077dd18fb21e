/- Merged texts: LawNt, NtJ, NtP, NtO, NtQ, NtY, LawNtA, LaidFlat, LawElevenFacts, LawExFacts, RepOpen, OpenUnit, OpenPr, OpenState, OpenStates, OpenCase, ExOpen, NtOpen. -/
import Derived.Test.YtknbomikiakpmaaDoorMg0
import Derived.Test.YtknbomikiakpmaaDoorMg5
import Derived.Test.YtknbomikiakpmaaDoorMg3
import Derived.Test.YtknbomikiakpmaaDoorMg1
import Derived.LoopTactic
import Derived.Test.YtknbomikiakpmaaDoorMg4
import Derived.Test.YtknbomikiakpmaaDoorLaid
import Derived.Test.YtknbomikiakpmaaDoorBase
import Derived.Deep.Slices
import Derived.ChangeSame
import Derived.ChangeArms
/- Layer 44: the walk of NetTells. -/
namespace Go.Proofs.YtknbomikiakpmaaDoor
open Go.RowKit
open NN
set_option linter.unusedSimpArgs false
set_option linter.unusedVariables false
set_option maxRecDepth 100000 in
set_option maxHeartbeats 8000000 in
theorem netTells_walk_of (hAw : ∀ W, AGoes W → BTab W → Calls Tryd.prog 20 #[] W fun r w' => r = .returned (.bool true) ∧ Below W.heap.size W w') (pa pb pc pd : Value) (p : Pr) (u : Int) (f g : Value) (s : St) (y : Value) (Y : List Int) (va : Value) (na : Nt) (vb : Value) (nb : Nt) (w : World) (hp : PrAt w pa pb pc pd p) (hs : StAt w f g s) (hy : RowR 1 intR w y Y) (hva : NtV w va na) (hvb : NtV w vb nb) (hg : AGoes w) (hT : BTab w) :
    Calls Tryd.prog 4 #[.agg #[pa, pb, pc, pd, .int .i64 u, f, g, .int .i64 s.now, .int .i64 s.fault, y], va, vb] w fun r w' => r = .returned (.bool true) ∧ Below w.heap.size w w' := by
  have HA := Lib.hid (fun W (h : Below w.heap.size w W) => hAw W (hg.below h) (hT.below h))
  have HFt := Lib.hid (fun W (h : Below w.heap.size w W) => law27_Fits pa pb pc pd p u f g s y Y W (hp.below h) (hs.below h) (hy.below intR_stable h))
  have HFa := Lib.hid (fun W (h : Below w.heap.size w W) => ref44_Few na W va (hva.below h))
  have HFb := Lib.hid (fun W (h : Below w.heap.size w W) => ref44_Few nb W vb (hvb.below h))
  have HSa := Lib.hid (fun (h : 0 ≤ roomN na 100 30) => roomN_small h)
  have HSc := Lib.hid (fun (hf : fewP p = true) W (hb : Below w.heap.size w W) => ref17_Scope pa pb pc pd p u W (hp.below hb) hf)
  have HG := Lib.hid hg
  have HT := Lib.hid hT
  have HXa := Lib.hid hva
  have HXb := Lib.hid hvb
  obtain ⟨ea1, el1, ec1, sa1, N1, sc1, rfl, h1a, h1b, h1c, h1d⟩ := nt_form hva
  obtain ⟨ea2, el2, ec2, sa2, N2, sc2, rfl, h2a, h2b, h2c, h2d⟩ := nt_form hvb
  clear hva hvb hg hT hp hs hy hAw h1a h1b h1c h1d h2a h2b h2c h2d
  generalize na.kind = k1 at *
  generalize na.neg = g1 at *
  generalize na.e.op = eo1 at *
  generalize na.e.t = et1 at *
  generalize na.e.n = en1 at *
  generalize na.e.m = em1 at *
  generalize nb.kind = k2 at *
  generalize nb.neg = g2 at *
  generalize nb.e.op = eo2 at *
  generalize nb.e.t = et2 at *
  generalize nb.e.n = en2 at *
  generalize nb.e.m = em2 at *
  have mixed : Tryd.prog.follows .mixedOrders = true := by kernel_rfl
  obtain ⟨W0, hW0⟩ : ∃ W0, W0 = ((w.alloc (.cells #[pa, pb, pc, pd, .int .i64 u, f, g, .int .i64 s.now, .int .i64 s.fault, y] 34)).alloc (.cells #[.int .i64 k1, .int .i64 g1, .int .i64 eo1, .int .i64 et1, .int .i64 en1, .int .i64 em1, .slice ea1 el1 ec1, .slice sa1 N1 sc1] 54)).alloc (.cells #[.int .i64 k2, .int .i64 g2, .int .i64 eo2, .int .i64 et2, .int .i64 en2, .int .i64 em2, .slice ea2 el2 ec2, .slice sa2 N2 sc2] 54) := ⟨_, rfl⟩
  have C0 := Lib.hid (show W0.heap[w.heap.size]? = some (.cells #[pa, pb, pc, pd, .int .i64 u, f, g, .int .i64 s.now, .int .i64 s.fault, y] 34) by rw [hW0]; exact (get_past (by simp; omega)).trans ((get_past (by simp)).trans (get_last rfl)))
  have D0 := Lib.hid (show W0.heap[w.heap.size + 1]? = some (.cells #[.int .i64 k1, .int .i64 g1, .int .i64 eo1, .int .i64 et1, .int .i64 en1, .int .i64 em1, .slice ea1 el1 ec1, .slice sa1 N1 sc1] 54) by rw [hW0]; exact (get_past (by simp)).trans (get_last (by simp)))
  have E0 := Lib.hid (show W0.heap[w.heap.size + 1 + 1]? = some (.cells #[.int .i64 k2, .int .i64 g2, .int .i64 eo2, .int .i64 et2, .int .i64 en2, .int .i64 em2, .slice ea2 el2 ec2, .slice sa2 N2 sc2] 54) by rw [hW0]; exact get_last (by simp))
  have B0 := Lib.hid (show Below w.heap.size w W0 by rw [hW0]; exact by (repeat' (first | (with_reducible exact Below.refl _ _) | (with_reducible assumption) | (with_reducible refine below_drewN ?_ _) | (with_reducible refine Below.alloc ?_ ?_ _) | (with_reducible refine Below.drew ?_) | (with_reducible refine Below.setCell ?_ ?_ _) | go_size)))
  have HW0 := Lib.hid hW0
  clear hW0
  go_enter Tryd.func4, Tryd.ntmps4
  go_wp2_with fail
  rw [← HW0.out]
  refine (HFt.out _ B0.out).mono ?_; rintro r w1 ⟨z, rfl, hz, hb⟩
  have C1 := Lib.hid (obj_below C0.out hb (heap_lt C0.out))
  have D1 := Lib.hid (obj_below D0.out hb (heap_lt D0.out))
  have E1 := Lib.hid (obj_below E0.out hb (heap_lt E0.out))
  have B1 := Lib.hid (B0.out.trans (hb.mono B0.out.size))
  clear hb
  cases z
  case false =>
    go_wp2_with fail
    refine (HA.out _ B1.out).mono ?_; rintro r w2 ⟨rfl, hb⟩
    have BB := Lib.hid (B1.out.trans (hb.mono B1.out.size))
    clear hb
    go_wp2_with fail
    go_ret
    exact ⟨rfl, BB.out⟩
  have HFP := Lib.hid (hz rfl)
  clear hz
  have HScp := Lib.hid (HSc.out HFP.out)
  clear HSc HFP
  obtain ⟨a0, a1, a2, a3, a4, a5, a6, a7⟩ := boxed_nt8 D1.out
  have za := heap_lt D1.out
  go_wp2_with fail
  refine (HFa.out _ B1.out).mono ?_; rintro r w2 ⟨rfl, hb⟩
  have C2 := Lib.hid (obj_below C1.out hb (heap_lt C1.out))
  have D2 := Lib.hid (obj_below D1.out hb (heap_lt D1.out))
  have E2 := Lib.hid (obj_below E1.out hb (heap_lt E1.out))
  have B2 := Lib.hid (B1.out.trans (hb.mono B1.out.size))
  clear hb
  clear a0 a1 a2 a3 a4 a5 a6 a7 za
  cases hfa : decide (0 ≤ roomN na 100 30)
  case false =>
    clear hfa
    go_wp2_with fail
    refine (HA.out _ B2.out).mono ?_; rintro r w3 ⟨rfl, hb⟩
    have BB := Lib.hid (B2.out.trans (hb.mono B2.out.size))
    clear hb
    go_wp2_with fail
    go_ret
    exact ⟨rfl, BB.out⟩
  have HSM := Lib.hid (HSa.out (of_decide_eq_true hfa))
  clear hfa HSa HFa
  obtain ⟨b0, b1, b2, b3, b4, b5, b6, b7⟩ := boxed_nt8 E2.out
  have zb := heap_lt E2.out
  go_wp2_with fail
  refine (HFb.out _ B2.out).mono ?_; rintro r w3 ⟨rfl, hb⟩
  have C3 := Lib.hid (obj_below C2.out hb (heap_lt C2.out))
  have D3 := Lib.hid (obj_below D2.out hb (heap_lt D2.out))
  have E3 := Lib.hid (obj_below E2.out hb (heap_lt E2.out))
  have B3 := Lib.hid (B2.out.trans (hb.mono B2.out.size))
  clear hb
  clear b0 b1 b2 b3 b4 b5 b6 b7 zb
  generalize decide (0 ≤ roomN nb 100 30) = fb at *
  cases fb
  case false =>
    go_wp2_with fail
    refine (HA.out _ B3.out).mono ?_; rintro r w4 ⟨rfl, hb⟩
    have BB := Lib.hid (B3.out.trans (hb.mono B3.out.size))
    clear hb
    go_wp2_with fail
    go_ret
    exact ⟨rfl, BB.out⟩
  clear HFb
  have k0 := obj_cell C3.out (i := 0) rfl
  have k1' := obj_cell C3.out (i := 1) rfl
  have k2' := obj_cell C3.out (i := 2) rfl
  have k3 := obj_cell C3.out (i := 3) rfl
  have k4 := obj_cell C3.out (i := 4) rfl
  have yk := heap_lt C3.out
  go_wp2_with fail
  refine (HScp.out _ B3.out).mono ?_; rintro r w4 ⟨a, b, c, d, rfl, hsc, hb⟩
  have D4 := Lib.hid (obj_below D3.out hb (heap_lt D3.out))
  have E4 := Lib.hid (obj_below E3.out hb (heap_lt E3.out))
  have B4 := Lib.hid (B3.out.trans (hb.mono B3.out.size))
  clear hb
  clear k0 k1' k2' k3 k4 yk
  obtain ⟨v1, n1, q1, rfl⟩ : ∃ v1 n1 k1, a = .slice v1 n1 k1 := by obtain ⟨x, y, z⟩ := row_get hsc.1; exact ⟨_, _, _, z⟩
  obtain ⟨v2, n2, q2, rfl⟩ : ∃ v1 n1 k1, b = .slice v1 n1 k1 := by obtain ⟨x, y, z⟩ := row_get hsc.2.1; exact ⟨_, _, _, z⟩
  obtain ⟨v3, n3, q3, rfl⟩ : ∃ v1 n1 k1, c = .slice v1 n1 k1 := by obtain ⟨x, y, z⟩ := row_get hsc.2.2.1; exact ⟨_, _, _, z⟩
  obtain ⟨v4, n4, q4, rfl⟩ : ∃ v1 n1 k1, d = .slice v1 n1 k1 := by obtain ⟨x, y, z⟩ := row_get hsc.2.2.2; exact ⟨_, _, _, z⟩
  have HSC := Lib.hid (scAt_of hsc)
  have hslc : ∃ p q k, Value.slice v3 n3 q3 = .slice p q k := ⟨_, _, _, rfl⟩
  clear hsc
  generalize scP p u = S at *
  go_upto_region 4 with fail
  have S4 := Lib.hid (show (w4.alloc (.cells #[.slice v1 n1 q1, .slice v2 n2 q2, .slice v3 n3 q3, .slice v4 n4 q4] 43)).heap[w4.heap.size]? = some (.cells #[.slice v1 n1 q1, .slice v2 n2 q2, .slice v3 n3 q3, .slice v4 n4 q4] 43) from get_last rfl)
  have hb : Below w4.heap.size w4 (w4.alloc (.cells #[.slice v1 n1 q1, .slice v2 n2 q2, .slice v3 n3 q3, .slice v4 n4 q4] 43)) := by (repeat' (first | (with_reducible exact Below.refl _ _) | (with_reducible assumption) | (with_reducible refine below_drewN ?_ _) | (with_reducible refine Below.alloc ?_ ?_ _) | (with_reducible refine Below.drew ?_) | (with_reducible refine Below.setCell ?_ ?_ _) | go_size))
  generalize w4.alloc (.cells #[.slice v1 n1 q1, .slice v2 n2 q2, .slice v3 n3 q3, .slice v4 n4 q4] 43) = w5 at *
  have HSC4 := Lib.hid (HSC.out.below hb)
  have D5 := Lib.hid (obj_below D4.out hb (heap_lt D4.out))
  have E5 := Lib.hid (obj_below E4.out hb (heap_lt E4.out))
  have B5 := Lib.hid (B4.out.trans (hb.mono B4.out.size))
  clear hb
  generalize w4.heap.size = sb at *
  obtain ⟨s0, s1, s2, s3⟩ := boxed_four S4.out
  have zS := heap_lt S4.out
  obtain ⟨a0, a1, a2, a3, a4, a5, a6, a7⟩ := boxed_nt8 D5.out
  have za := heap_lt D5.out
  obtain ⟨b0, b1, b2, b3, b4, b5, b6, b7⟩ := boxed_nt8 E5.out
  have zb := heap_lt E5.out
  have HBe := Lib.hid (fun W (h : Below w5.heap.size w5 W) => B5.out.trans (h.mono B5.out.size))
  have H1 := Lib.hid (fun W (h : Below w5.heap.size w5 W) => net_Right (.slice v1 n1 q1) (.slice v2 n2 q2) (.slice v3 n3 q3) (.slice v4 n4 q4) S na HSM.out W _ (HSC4.out.below h) (HXa.out.below (HBe.out W h)) (HG.out.below (HBe.out W h)) (HT.out.below (HBe.out W h)))
  have H2 := Lib.hid (fun W (h : Below w5.heap.size w5 W) => ref44_Right (.slice v1 n1 q1) (.slice v2 n2 q2) (.slice v3 n3 q3) (.slice v4 n4 q4) S hslc na HSM.out W _ (HSC4.out.below h) (HXa.out.below (HBe.out W h)))
  have H3 := Lib.hid (fun W (h : Below w5.heap.size w5 W) => net_Contacts na HSM.out W _ (HXa.out.below (HBe.out W h)))
  have H4 := Lib.hid (fun W (h : Below w5.heap.size w5 W) => ref44_Contacts na HSM.out W _ (HXa.out.below (HBe.out W h)))
  have H5 := Lib.hid (fun W (h : Below w5.heap.size w5 W) => net_Same na nb W _ _ (HXa.out.below (HBe.out W h)) (HXb.out.below (HBe.out W h)))
  have H6 := Lib.hid (fun W (h : Below w5.heap.size w5 W) => ref44_Same na nb W _ _ (HXa.out.below (HBe.out W h)) (HXb.out.below (HBe.out W h)))
  have H7 := Lib.hid (fun W (h : Below w5.heap.size w5 W) => net_Same na na W _ _ (HXa.out.below (HBe.out W h)) (HXa.out.below (HBe.out W h)))
  have H8 := Lib.hid (fun W (h : Below w5.heap.size w5 W) => HA.out W (HBe.out W h))
  rw [sameN_yes (show na = na from rfl)] at H7
  generalize rightN S na = Z1 at *
  generalize cntN na = Z2 at *
  generalize sameN na nb = Z3 at *
  have t1 : (Z1 == Z1) = true := by simp
  have t2 : (Z2 == Z2) = true := by simp
  have t3 : (Z3 == Z3) = true := by simp
  clear HA HG HT HSC HSC4 HXa HXb HSM C3 C2 C1 C0 D0 D1 D2 D3 D4 D5 E0 E1 E2 E3 E4 E5 B0 B1 B2 B3 B4 HW0 HFt HScp hslc S4
  have qq0 := fun wt (h : Below w5.heap.size w5 wt) => cellB h s0 zS
  have qq1 := fun wt (h : Below w5.heap.size w5 wt) => cellB h s1 zS
  have qq2 := fun wt (h : Below w5.heap.size w5 wt) => cellB h s2 zS
  have qq3 := fun wt (h : Below w5.heap.size w5 wt) => cellB h s3 zS
  have qq4 := fun wt (h : Below w5.heap.size w5 wt) => cellB h a0 za
  have qq5 := fun wt (h : Below w5.heap.size w5 wt) => cellB h a1 za
  have qq6 := fun wt (h : Below w5.heap.size w5 wt) => cellB h a2 za
  have qq7 := fun wt (h : Below w5.heap.size w5 wt) => cellB h a3 za
  have qq8 := fun wt (h : Below w5.heap.size w5 wt) => cellB h a4 za
  have qq9 := fun wt (h : Below w5.heap.size w5 wt) => cellB h a5 za
  have qq10 := fun wt (h : Below w5.heap.size w5 wt) => cellB h a6 za
  have qq11 := fun wt (h : Below w5.heap.size w5 wt) => cellB h a7 za
  have qq12 := fun wt (h : Below w5.heap.size w5 wt) => cellB h b0 zb
  have qq13 := fun wt (h : Below w5.heap.size w5 wt) => cellB h b1 zb
  have qq14 := fun wt (h : Below w5.heap.size w5 wt) => cellB h b2 zb
  have qq15 := fun wt (h : Below w5.heap.size w5 wt) => cellB h b3 zb
  have qq16 := fun wt (h : Below w5.heap.size w5 wt) => cellB h b4 zb
  have qq17 := fun wt (h : Below w5.heap.size w5 wt) => cellB h b5 zb
  have qq18 := fun wt (h : Below w5.heap.size w5 wt) => cellB h b6 zb
  have qq19 := fun wt (h : Below w5.heap.size w5 wt) => cellB h b7 zb
  refine wp_region_held_drew (S := (fun w' => Below w5.heap.size w5 w')) (by kernel_rfl) ?_ (fun hHeld => ?_)
  · (try dsimp only); first | assumption | exact Below.alloc hHeld hHeld.size _ | exact (Below.refl _ _).drew | exact Below.drew (Below.refl _ _) | exact Below_drewN _ _ _ | exact Below.refl _ _
  refine tk 0 (v := ?_) (hy := ?_) (h := ?_); rotate_left
  · intro wt hSw; (try dsimp only at hSw); go_simp <;> with_reducible rfl
  try simp only [pu, pa, pz, ps]
  refine tk 1 (v := ?_) (hy := ?_) (h := ?_); rotate_left
  · intro wt hSw; (try dsimp only at hSw); go_simp <;> with_reducible rfl
  try simp only [pu, pa, pz, ps]
  refine tk 3 (v := ?_) (hy := ?_) (h := ?_); rotate_left
  · intro wt hSw; (try dsimp only at hSw); go_simp <;> with_reducible rfl
  try simp only [pu, pa, pz, ps]
  refine tk 4 (v := ?_) (hy := ?_) (h := ?_); rotate_left
  · intro wt hSw; (try dsimp only at hSw); go_simp <;> with_reducible rfl
  try simp only [pu, pa, pz, ps]
  refine wpAnyH_ready (rs := [2]) (by kernel_rfl) (by simp) ?_
  refine AllReadyH.cons (o := ⟨_, _, _, _, _, _⟩) rfl (fun K hK => ?_) AllReadyH.nil
  go_simp
  refine (H1.out _ hHeld).mono ?_; rintro r w2 ⟨rfl, hb⟩; have hHeld := hHeld.trans (hb.mono hHeld.size); clear hb
  go_wp2_with fail
  refine hK.out _ _ ?_ (fun hHeld => ?_)
  · (try dsimp only); first | assumption | exact Below.alloc hHeld hHeld.size _ | exact (Below.refl _ _).drew | exact Below.drew (Below.refl _ _) | exact Below_drewN _ _ _ | exact Below.refl _ _
  clear hK K
  try simp only [pu, pa, pz, ps]
  refine wpAnyH_ready (rs := [5]) (by kernel_rfl) (by simp) ?_
  refine AllReadyH.cons (o := ⟨_, _, _, _, _, _⟩) rfl (fun K hK => ?_) AllReadyH.nil
  go_simp
  refine (H2.out _ hHeld).mono ?_; rintro r w2 ⟨rfl, hb⟩; have hHeld := hHeld.trans (hb.mono hHeld.size); clear hb
  go_wp2_with fail
  refine hK.out _ _ ?_ (fun hHeld => ?_)
  · (try dsimp only); first | assumption | exact Below.alloc hHeld hHeld.size _ | exact (Below.refl _ _).drew | exact Below.drew (Below.refl _ _) | exact Below_drewN _ _ _ | exact Below.refl _ _
  clear hK K
  try simp only [pu, pa, pz, ps]
  refine tk 6 (v := ?_) (hy := ?_) (h := ?_); rotate_left
  · intro _ _; go_simp <;> with_reducible rfl
  try simp only [pu, pa, pz, ps]
  refine tk 7 (v := ?_) (hy := ?_) (h := ?_); rotate_left
  · intro _ _; go_simp <;> with_reducible rfl
  try simp only [pu, pa, pz, ps]
  refine tk 8 (v := ?_) (hy := ?_) (h := ?_); rotate_left
  · intro wt hSw; (try dsimp only at hSw); go_simp <;> with_reducible rfl
  try simp only [pu, pa, pz, ps]
  refine tk 10 (v := ?_) (hy := ?_) (h := ?_); rotate_left
  · intro wt hSw; (try dsimp only at hSw); go_simp <;> with_reducible rfl
  try simp only [pu, pa, pz, ps]
  refine wpAnyH_ready (rs := [9]) (by kernel_rfl) (by simp) ?_
  refine AllReadyH.cons (o := ⟨_, _, _, _, _, _⟩) rfl (fun K hK => ?_) AllReadyH.nil
  go_simp
  refine (H3.out _ hHeld).mono ?_; rintro r w2 ⟨rfl, hb⟩; have hHeld := hHeld.trans (hb.mono hHeld.size); clear hb
  go_wp2_with fail
  refine hK.out _ _ ?_ (fun hHeld => ?_)
  · (try dsimp only); first | assumption | exact Below.alloc hHeld hHeld.size _ | exact (Below.refl _ _).drew | exact Below.drew (Below.refl _ _) | exact Below_drewN _ _ _ | exact Below.refl _ _
  clear hK K
  try simp only [pu, pa, pz, ps]
  refine wpAnyH_ready (rs := [11]) (by kernel_rfl) (by simp) ?_
  refine AllReadyH.cons (o := ⟨_, _, _, _, _, _⟩) rfl (fun K hK => ?_) AllReadyH.nil
  go_simp
  refine (H4.out _ hHeld).mono ?_; rintro r w2 ⟨rfl, hb⟩; have hHeld := hHeld.trans (hb.mono hHeld.size); clear hb
  go_wp2_with fail
  refine hK.out _ _ ?_ (fun hHeld => ?_)
  · (try dsimp only); first | assumption | exact Below.alloc hHeld hHeld.size _ | exact (Below.refl _ _).drew | exact Below.drew (Below.refl _ _) | exact Below_drewN _ _ _ | exact Below.refl _ _
  clear hK K
  try simp only [pu, pa, pz, ps]
  refine tk 12 (v := ?_) (hy := ?_) (h := ?_); rotate_left
  · intro _ _; go_simp <;> with_reducible rfl
  try simp only [pu, pa, pz, ps]
  refine tk 13 (v := ?_) (hy := ?_) (h := ?_); rotate_left
  · intro _ _; go_simp <;> with_reducible rfl
  try simp only [pu, pa, pz, ps]
  refine tk 14 (v := ?_) (hy := ?_) (h := ?_); rotate_left
  · intro _ _; go_simp <;> with_reducible rfl
  try simp only [pu, pa, pz, ps]
  refine tk 15 (v := ?_) (hy := ?_) (h := ?_); rotate_left
  · intro wt hSw; (try dsimp only at hSw); go_simp <;> with_reducible rfl
  try simp only [pu, pa, pz, ps]
  refine tk 16 (v := ?_) (hy := ?_) (h := ?_); rotate_left
  · intro wt hSw; (try dsimp only at hSw); go_simp <;> with_reducible rfl
  try simp only [pu, pa, pz, ps]
  refine tk 18 (v := ?_) (hy := ?_) (h := ?_); rotate_left
  · intro wt hSw; (try dsimp only at hSw); go_simp <;> with_reducible rfl
  try simp only [pu, pa, pz, ps]
  refine tk 19 (v := ?_) (hy := ?_) (h := ?_); rotate_left
  · intro wt hSw; (try dsimp only at hSw); go_simp <;> with_reducible rfl
  try simp only [pu, pa, pz, ps]
  refine wpAnyH_ready (rs := [17]) (by kernel_rfl) (by simp) ?_
  refine AllReadyH.cons (o := ⟨_, _, _, _, _, _⟩) rfl (fun K hK => ?_) AllReadyH.nil
  go_simp
  refine (H5.out _ hHeld).mono ?_; rintro r w2 ⟨rfl, hb⟩; have hHeld := hHeld.trans (hb.mono hHeld.size); clear hb
  go_wp2_with fail
  refine hK.out _ _ ?_ (fun hHeld => ?_)
  · (try dsimp only); first | assumption | exact Below.alloc hHeld hHeld.size _ | exact (Below.refl _ _).drew | exact Below.drew (Below.refl _ _) | exact Below_drewN _ _ _ | exact Below.refl _ _
  clear hK K
  try simp only [pu, pa, pz, ps]
  refine wpAnyH_ready (rs := [20]) (by kernel_rfl) (by simp) ?_
  refine AllReadyH.cons (o := ⟨_, _, _, _, _, _⟩) rfl (fun K hK => ?_) AllReadyH.nil
  go_simp
  refine (H6.out _ hHeld).mono ?_; rintro r w2 ⟨rfl, hb⟩; have hHeld := hHeld.trans (hb.mono hHeld.size); clear hb
  go_wp2_with fail
  refine hK.out _ _ ?_ (fun hHeld => ?_)
  · (try dsimp only); first | assumption | exact Below.alloc hHeld hHeld.size _ | exact (Below.refl _ _).drew | exact Below.drew (Below.refl _ _) | exact Below_drewN _ _ _ | exact Below.refl _ _
  clear hK K
  try simp only [pu, pa, pz, ps]
  refine tk 21 (v := ?_) (hy := ?_) (h := ?_); rotate_left
  · intro _ _; go_simp <;> with_reducible rfl
  try simp only [pu, pa, pz, ps]
  refine tk 22 (v := ?_) (hy := ?_) (h := ?_); rotate_left
  · intro _ _; go_simp <;> with_reducible rfl
  try simp only [pu, pa, pz, ps]
  refine tk 23 (v := ?_) (hy := ?_) (h := ?_); rotate_left
  · intro _ _; go_simp <;> with_reducible rfl
  try simp only [pu, pa, pz, ps]
  refine tk 24 (v := ?_) (hy := ?_) (h := ?_); rotate_left
  · intro wt hSw; (try dsimp only at hSw); go_simp <;> with_reducible rfl
  try simp only [pu, pa, pz, ps]
  refine tk 25 (v := ?_) (hy := ?_) (h := ?_); rotate_left
  · intro wt hSw; (try dsimp only at hSw); go_simp <;> with_reducible rfl
  try simp only [pu, pa, pz, ps]
  refine wpAnyH_ready (rs := [26]) (by kernel_rfl) (by simp) ?_
  refine AllReadyH.cons (o := ⟨_, _, _, _, _, _⟩) rfl (fun K hK => ?_) AllReadyH.nil
  go_simp
  refine (H7.out _ hHeld).mono ?_; rintro r w2 ⟨rfl, hb⟩; have hHeld := hHeld.trans (hb.mono hHeld.size); clear hb
  go_wp2_with fail
  refine hK.out _ _ ?_ (fun hHeld => ?_)
  · (try dsimp only); first | assumption | exact Below.alloc hHeld hHeld.size _ | exact (Below.refl _ _).drew | exact Below.drew (Below.refl _ _) | exact Below_drewN _ _ _ | exact Below.refl _ _
  clear hK K
  try simp only [pu, pa, pz, ps]
  refine tk 27 (v := ?_) (hy := ?_) (h := ?_); rotate_left
  · intro _ _; go_simp <;> with_reducible rfl
  try simp only [pu, pa, pz, ps]
  refine tk 28 (v := ?_) (hy := ?_) (h := ?_); rotate_left
  · intro _ _; go_simp <;> with_reducible rfl
  try simp only [pu, pa, pz, ps]
  refine wpAnyH_ready (rs := [29]) (by kernel_rfl) (by simp) ?_
  refine AllReadyH.cons (o := ⟨_, _, _, _, _, _⟩) rfl (fun K hK => ?_) AllReadyH.nil
  go_simp
  refine (H8.out _ hHeld).mono ?_; rintro r w2 ⟨rfl, hb⟩; have hHeld := hHeld.trans (hb.mono hHeld.size); clear hb
  go_wp2_with fail
  refine hK.out _ _ ?_ (fun hHeld => ?_)
  · (try dsimp only); first | assumption | exact Below.alloc hHeld hHeld.size _ | exact (Below.refl _ _).drew | exact Below.drew (Below.refl _ _) | exact Below_drewN _ _ _ | exact Below.refl _ _
  clear hK K
  try simp only [pu, pa, pz, ps]
  refine tk 30 (v := ?_) (hy := ?_) (h := ?_); rotate_left
  · intro _ _; go_simp <;> with_reducible rfl
  try simp only [pu, pa, pz, ps]
  refine tk 31 (v := ?_) (hy := ?_) (h := ?_); rotate_left
  · intro _ _; go_simp <;> with_reducible rfl
  try simp only [pu, pa, pz, ps]
  refine wpAnyH_done (by kernel_rfl) ?_ _
  have HHw := Lib.hid (HBe.out _ hHeld)
  clear hHeld
  go_wp2_with fail
  go_ret
  exact ⟨rfl, HHw.out⟩
end Go.Proofs.YtknbomikiakpmaaDoor
/- Layer 44: net.join. -/
namespace Go.Proofs.YtknbomikiakpmaaDoor
open Go.RowKit
open NN
set_option linter.unusedSimpArgs false
set_option linter.unusedVariables false
def joinL (k : Int) (x : Nt) : List Nt := if x.kind = k then x.l else [x]
theorem nt_one {w : World} {cs : List Value} {x : Nt} (h : ntR w cs x) : ∀ u ∈ cs, u.oneCell' = true := by
  obtain ⟨s, v, rfl, _, he, hr⟩ := ntR_eq.1 h
  obtain ⟨a, c, rfl⟩ := row_get hr
  obtain ⟨a2, c2, k2, he2⟩ := ex_form he
  injection he2 with he2
  have he2 := congrArg Array.toList he2
  simp only [List.cons.injEq, and_true, true_and] at he2
  subst he2
  intro u hu
  simp at hu
  rcases hu with rfl | rfl | rfl | rfl | rfl | rfl | rfl | rfl <;> rfl
/-- what is put together so far -/
structure JSt (k : Int) (ty : TypeId) (w0 : World) (R p : Nat) (L : List Nt) (W : World) (ov : Value) (CH : List (Chunk 8)) : Prop where
  z : W.heap[R]? = some (.cells #[.int .i64 0, .int .i64 0, .int .i64 0, .int .i64 0, .int .i64 0, .int .i64 0, .slice none 0 0, .slice none 0 0] ty)
  o : W.heap[p]? = some (.cells #[.int .i64 k, .int .i64 0, .int .i64 0, .int .i64 0, .int .i64 0, .int .i64 0, .slice none 0 0, ov] ty)
  r : W.ownsRow (p + 1) ty 8 ov L.length (flatC CH)
  n : CH.length = L.length
  c : ∀ (i : Nat) (c : Chunk 8) (x : Nt), CH[i]? = some c → L[i]? = some x → ntR w0 c.1 x
  b : Below w0.heap.size w0 W
  lt : R < p
  le : w0.heap.size ≤ R
theorem JSt.below {k : Int} {ty : TypeId} {w0 : World} {R p : Nat} {L : List Nt} {W W' : World} {ov : Value} {CH : List (Chunk 8)} (h : JSt k ty w0 R p L W ov CH) (hb : Below W.heap.size W W') : JSt k ty w0 R p L W' ov CH :=
  ⟨obj_below h.z hb (heap_lt h.z), obj_below h.o hb (heap_lt h.o), owns_below h.r hb, h.n, h.c, h.b.trans (hb.mono h.b.size), h.lt, h.le⟩
theorem JSt.ne {k : Int} {ty : TypeId} {w0 : World} {R p : Nat} {L : List Nt} {W : World} {ov : Value} {CH : List (Chunk 8)} (h : JSt k ty w0 R p L W ov CH) {q : Nat} (hq : q ≤ p) : some q ≠ ov.ownBlock := fun e => by
  have := (h.r.lt q e.symm).1
  omega
theorem JSt.step {k : Int} {ty : TypeId} {w0 : World} {R p m : Nat} {L M : List Nt} {W W2 : World} {ov v2 : Value} {CH CH2 : List (Chunk 8)} (h : JSt k ty w0 R p L W ov CH) (hO : W2.ownsRow (p + 1) ty 8 v2 (L.length + m) (flatC CH ++ flatC CH2)) (hG : W.grownBy W2 ov.ownBlock)
    (hm : CH2.length = M.length) (hm2 : M.length = m) (hc : ∀ (i : Nat) (c : Chunk 8) (x : Nt), CH2[i]? = some c → M[i]? = some x → ntR w0 c.1 x) : JSt k ty w0 R p (L ++ M) (W2.setCell ⟨p, 7, none⟩ v2) v2 (CH ++ CH2) := by
  have ho : W2.heap[p]? = some (.cells #[.int .i64 k, .int .i64 0, .int .i64 0, .int .i64 0, .int .i64 0, .int .i64 0, .slice none 0 0, ov] ty) := (hG.block p (heap_lt h.o) (h.ne (Nat.le_refl _))).trans h.o
  have hz : W2.heap[R]? = _ := (hG.block R (heap_lt h.z) (h.ne (Nat.le_of_lt h.lt))).trans h.z
  refine ⟨(get_set (by show p ≠ R; have := h.lt; omega)).trans hz, obj_self ho, ?_, by simp [h.n, hm], ?_, ?_, h.lt, h.le⟩
  · rw [List.length_append, hm2, flatC_app]
    exact owns_set hO (fun e => by have := (hO.lt p e).1; omega)
  · intro i c x hc1 hx1
    rcases Nat.lt_or_ge i CH.length with hi | hi
    · rw [List.getElem?_append_left hi] at hc1
      rw [List.getElem?_append_left (by rw [← h.n]; exact hi)] at hx1
      exact h.c i c x hc1 hx1
    · rw [List.getElem?_append_right hi] at hc1
      rw [List.getElem?_append_right (by rw [← h.n]; exact hi), ← h.n] at hx1
      exact hc _ c x hc1 hx1
  · have hb2 : Below w0.heap.size w0 W2 := h.b.trans ⟨hG.os, hG.tape, hG.output, hG.size, fun q hq => hG.block q (Nat.lt_of_lt_of_le hq h.b.size) (h.ne (by have := h.lt; have := h.le; omega))⟩
    exact hb2.setCell (by show w0.heap.size ≤ p; have := h.lt; have := h.le; omega) _
theorem ntR_of {w : World} {a b c d e f : Int} {s u : Value} {n : Nt} (h : NtV w (.agg #[.int .i64 a, .int .i64 b, .int .i64 c, .int .i64 d, .int .i64 e, .int .i64 f, s, u]) n) : ntR w [.int .i64 a, .int .i64 b, .int .i64 c, .int .i64 d, .int .i64 e, .int .i64 f, s, u] n := by
  obtain ⟨s', u', h1, h2, h3, h4⟩ := h
  injection h1 with h1
  have h1 := congrArg Array.toList h1
  simp only at h1
  exact ntR_eq.2 ⟨s', u', h1, h2, h3, h4⟩
theorem nt_row {w : World} {a b c d e f : Int} {s u1 : Option Addr} {sn sc un uc : Nat} {n : Nt} (h : NtV w (.agg #[.int .i64 a, .int .i64 b, .int .i64 c, .int .i64 d, .int .i64 e, .int .i64 f, .slice s sn sc, .slice u1 un uc]) n) : un = n.l.length ∧ RowR 8 ntR w (.slice u1 un uc) n.l := by
  obtain ⟨s', u', h1, h2, h3, h4⟩ := h
  injection h1 with h1
  have h1 := congrArg Array.toList h1
  simp only [List.cons.injEq, and_true] at h1
  obtain ⟨_, _, _, _, _, _, _, h8⟩ := h1
  rw [← h8] at h4
  obtain ⟨a, cc, h9⟩ := row_get h4
  injection h9 with _ h10 _
  exact ⟨h10, h4⟩
set_option maxHeartbeats 2000000 in
theorem JSt.fin {k : Int} {ty : TypeId} {w0 : World} {R p : Nat} {L : List Nt} {W : World} {ov : Value} {CH : List (Chunk 8)} (h : JSt k ty w0 R p L W ov CH) :
    ∃ W5, W5 = ((((((((W.setCell ⟨R, 0, none⟩ (.int .i64 k)).setCell ⟨R, 1, none⟩ (.int .i64 0)).setCell ⟨R, 2, none⟩ (.int .i64 0)).setCell ⟨R, 3, none⟩ (.int .i64 0)).setCell ⟨R, 4, none⟩ (.int .i64 0)).setCell ⟨R, 5, none⟩ (.int .i64 0)).setCell ⟨R, 6, none⟩ (.slice none 0 0)).setCell ⟨R, 7, none⟩ ov) ∧
      W5.heap[R]? = some (.cells #[.int .i64 k, .int .i64 0, .int .i64 0, .int .i64 0, .int .i64 0, .int .i64 0, .slice none 0 0, ov] ty) ∧ RowR 8 ntR W5 ov L ∧ Below w0.heap.size w0 W5 := by
  have hne : ov.ownBlock ≠ some R := fun e => by have := (h.r.lt R e).1; have := h.lt; omega
  have g0 := obj_self (i := 0) (x := .int .i64 k) h.z
  have g1 := obj_self (i := 1) (x := .int .i64 0) g0
  have g2 := obj_self (i := 2) (x := .int .i64 0) g1
  have g3 := obj_self (i := 3) (x := .int .i64 0) g2
  have g4 := obj_self (i := 4) (x := .int .i64 0) g3
  have g5 := obj_self (i := 5) (x := .int .i64 0) g4
  have g6 := obj_self (i := 6) (x := .slice none 0 0) g5
  have g7 := obj_self (i := 7) (x := ov) g6
  have r0 := owns_set (g := R) (o := 0) (x := .int .i64 k) h.r hne
  have r1 := owns_set (g := R) (o := 1) (x := .int .i64 0) r0 hne
  have r2 := owns_set (g := R) (o := 2) (x := .int .i64 0) r1 hne
  have r3 := owns_set (g := R) (o := 3) (x := .int .i64 0) r2 hne
  have r4 := owns_set (g := R) (o := 4) (x := .int .i64 0) r3 hne
  have r5 := owns_set (g := R) (o := 5) (x := .int .i64 0) r4 hne
  have r6 := owns_set (g := R) (o := 6) (x := .slice none 0 0) r5 hne
  have r7 := owns_set (g := R) (o := 7) (x := ov) r6 hne
  have b0 := h.b.setCell (p := ⟨R, 0, none⟩) h.le (.int .i64 k)
  have b1 := b0.setCell (p := ⟨R, 1, none⟩) h.le (.int .i64 0)
  have b2 := b1.setCell (p := ⟨R, 2, none⟩) h.le (.int .i64 0)
  have b3 := b2.setCell (p := ⟨R, 3, none⟩) h.le (.int .i64 0)
  have b4 := b3.setCell (p := ⟨R, 4, none⟩) h.le (.int .i64 0)
  have b5 := b4.setCell (p := ⟨R, 5, none⟩) h.le (.int .i64 0)
  have b6 := b5.setCell (p := ⟨R, 6, none⟩) h.le (.slice none 0 0)
  have b7 := b6.setCell (p := ⟨R, 7, none⟩) h.le (ov)
  exact ⟨_, rfl, g7, row_of_chunks r7 h.n.symm h.n (fun i c x hc hx => ntR_stable _ _ _ _ (h.c i c x hc hx) b7), b7⟩
theorem flat_snoc {l : List Nt} {k : Int} {j : Nat} {x : Nt} (hx : l[j]? = some x) : (l.take (j + 1)).flatMap (joinL k) = (l.take j).flatMap (joinL k) ++ joinL k x := by
  rw [List.take_add_one, hx]; simp
theorem flat_take_le {l : List Nt} {k : Int} (j : Nat) : ((l.take j).flatMap (joinL k)).length ≤ (l.flatMap (joinL k)).length := by
  conv => rhs; rw [← List.take_append_drop j l]
  rw [List.flatMap_append, List.length_append]; omega
set_option maxRecDepth 100000 in
set_option maxHeartbeats 8000000 in
theorem net_join (k : Int) (l : List Nt) (w : World) (v : Value) (hk : I64 k) (hv : RowR 8 ntR w v l) (hL : (l.flatMap (joinL k)).length ≤ 20000) (hl9 : l.length ≤ 1000) :
    Calls Tryd.prog 65 #[.int .i64 k, v] w fun r w' => ∃ z, r = .returned z ∧ NtV w' z ⟨k, 0, ex0, l.flatMap (joinL k)⟩ ∧ Below w.heap.size w w' := by
  obtain ⟨i, zz, hi, hz, hsize, hby, hzs⟩ : ∃ i z, Tryd.prog.info? 54 = some i ∧ i.zero = some z ∧ i.size = 8 ∧ i.bytes = 96 ∧ z.cells.size = 8 := ⟨(Tryd.prog.info? 54).get!, .agg #[.int .i64 0, .int .i64 0, .int .i64 0, .int .i64 0, .int .i64 0, .int .i64 0, .slice none 0 0, .slice none 0 0], by kernel_rfl, by kernel_rfl, by kernel_rfl, by kernel_rfl, by kernel_rfl⟩
  obtain ⟨sa, sc, rfl⟩ := row_get hv
  obtain ⟨N, hN⟩ : ∃ N, l.length = N := ⟨_, rfl⟩
  have HN := Lib.hid hN
  rw [hN] at hv hl9 ⊢
  have HX := Lib.hid hv
  have HL := Lib.hid hL
  have HK := Lib.hid hk
  obtain ⟨W0, hW0⟩ : ∃ W0, W0 = (w.alloc (.cells #[.int .i64 0, .int .i64 0, .int .i64 0, .int .i64 0, .int .i64 0, .int .i64 0, .slice none 0 0, .slice none 0 0] 54)).alloc (.cells #[.int .i64 k, .int .i64 0, .int .i64 0, .int .i64 0, .int .i64 0, .int .i64 0, .slice none 0 0, .slice none 0 0] 54) := ⟨_, rfl⟩
  have hJ0 : JSt k 54 w w.heap.size (w.heap.size + 1) [] W0 (.slice none 0 0) [] := by
    refine ⟨by rw [hW0, get_past (by simp)]; exact get_last rfl, by rw [hW0]; exact get_last (by simp), World.ownsRow_nil _ _ _ _, rfl, fun i c x hc => by simp at hc, by rw [hW0]; exact by (repeat' (first | (with_reducible exact Below.refl _ _) | (with_reducible assumption) | (with_reducible refine below_drewN ?_ _) | (with_reducible refine Below.alloc ?_ ?_ _) | (with_reducible refine Below.drew ?_) | (with_reducible refine Below.setCell ?_ ?_ _) | go_size)), by omega, by omega⟩
  have HW0 := Lib.hid hW0
  have HJ0 := Lib.hid hJ0
  clear hW0 hJ0 hN hv hL hk
  go_enter Tryd.func65, Tryd.ntmps65
  go_wp2_with fail
  rw [← HW0.out]
  go_loopw [12] (fun jj wr => ∃ (j : Nat) (ov : Value) (CH : List (Chunk 8)), j ≤ N ∧ jj = .int .i64 j ∧ Hid (JSt k 54 w w.heap.size (w.heap.size + 1) ((l.take j).flatMap (joinL k)) wr ov CH)) (fun jj _ => N - (intOf jj).toNat)
  case atStart => exact ⟨0, _, _, by omega, rfl, by simpa using HJ0⟩
  case round =>
    obtain ⟨j, ov, CH, hk, rfl, HJ⟩ := hrel
    by_cases hlt : j < N
    case neg =>
      obtain rfl : j = N := by omega
      have qk : ((j : Int) < (j : Int)) = False := eq_false (by omega)
      have qk' : (j < j) = False := eq_false (by omega)
      have hful : l.take j = l := List.take_of_length_le (by rw [HN.out]; exact Nat.le_refl _)
      rw [hful] at HJ
      have HJJ := HJ
      obtain ⟨oa, oc, rfl⟩ := owns_form HJ.out.r
      generalize hLL : l.flatMap (joinL k) = LL at *
      have HLQ := Lib.hid hLL
      obtain ⟨M, hM⟩ : ∃ M, LL.length = M := ⟨_, rfl⟩
      rw [hM] at HJ
      obtain ⟨o0, o1, o2, o3, o4, o5, o6, o7⟩ := boxed_nt8 HJ.out.o
      have yo := heap_lt HJ.out.o
      obtain ⟨z0, z1, z2, z3, z4, z5, z6, z7⟩ := boxed_nt8 HJ.out.z
      have yz := heap_lt HJ.out.z
      have f0 := obj_frozen HJ.out.z 0
      have f1 := obj_frozen HJ.out.z 1
      have f2 := obj_frozen HJ.out.z 2
      have f3 := obj_frozen HJ.out.z 3
      have f4 := obj_frozen HJ.out.z 4
      have f5 := obj_frozen HJ.out.z 5
      have f6 := obj_frozen HJ.out.z 6
      have f7 := obj_frozen HJ.out.z 7
      clear hLL hM hful
      go_wp2_with fail
      obtain ⟨w5, hW5, oo, hrow, HB5⟩ := HJ.out.fin
      rw [← hW5]
      obtain ⟨e0, e1, e2, e3, e4, e5, e6, e7⟩ := boxed_nt8 oo
      refine bodyPost_ret (by simp [results, Tryd.results65, go_sem, e0, e1, e2, e3, e4, e5, e6, e7]; try rfl) rfl ?_
      rw [HLQ.out]
      have HNI : ntI ⟨k, 0, ex0, LL⟩ := ⟨HK.out, by show I64 0; unfold I64; omega⟩
      have i0 : I64 0 := by unfold I64; omega
      have HEX : ExV w5 (.agg #[.int .i64 0, .int .i64 0, .int .i64 0, .int .i64 0, .slice none 0 0]) ex0 := exV_lit ⟨i0, i0, i0, i0⟩ row_none
      exact ⟨_, rfl, ⟨_, _, rfl, HNI, HEX, hrow⟩, HB5⟩
    have qk : ((j : Int) < (N : Int)) = True := eq_true (by omega)
    have qk' : (j < N) = True := eq_true hlt
    obtain ⟨x, hx⟩ := get_some (L := l) (n := j) (by rw [HN.out]; exact hlt)
    obtain ⟨b, off, p1, pn1, pc1, u1, un1, uc1, rfl, hbw, hc1, hc2, d0, d1, d2, d3, d4, d5, d6, d7, hxv⟩ := nt_at HX.out hx
    have HBw := Lib.hid HJ.out.b
    have d0 := (HBw.out.cell (p := ⟨b, off + j * 8, none⟩) hbw).trans d0
    have d1 := (HBw.out.cell (p := ⟨b, off + j * 8 + 1, none⟩) hbw).trans d1
    have d2 := (HBw.out.cell (p := ⟨b, off + j * 8 + 2, none⟩) hbw).trans d2
    have d3 := (HBw.out.cell (p := ⟨b, off + j * 8 + 3, none⟩) hbw).trans d3
    have d4 := (HBw.out.cell (p := ⟨b, off + j * 8 + 4, none⟩) hbw).trans d4
    have d5 := (HBw.out.cell (p := ⟨b, off + j * 8 + 5, none⟩) hbw).trans d5
    have d6 := (HBw.out.cell (p := ⟨b, off + j * 8 + 6, none⟩) hbw).trans d6
    have d7 := (HBw.out.cell (p := ⟨b, off + j * 8 + 7, none⟩) hbw).trans d7
    have zx : b < wr.heap.size := Nat.lt_of_lt_of_le hbw HBw.out.size
    have hk63 : j ≤ 9223372036854775806 := by omega
    have HLT := Lib.hid hlt
    have HSn := Lib.hid (flat_snoc (k := k) hx)
    have HLe := Lib.hid (flat_take_le (l := l) (k := k) (j + 1))
    have HXV := Lib.hid hxv
    obtain ⟨hxn, hxr⟩ := nt_row hxv
    have HXR := Lib.hid hxr
    have HXN := Lib.hid hxn
    clear hxv hx hlt hxr hxn
    go_upto_region 5 with fail
    have hbX : Below wr.heap.size wr (wr.alloc (.cells #[.int .i64 x.kind, .int .i64 x.neg, .int .i64 x.e.op, .int .i64 x.e.t, .int .i64 x.e.n, .int .i64 x.e.m, .slice p1 pn1 pc1, .slice u1 un1 uc1] 54)) := by (repeat' (first | (with_reducible exact Below.refl _ _) | (with_reducible assumption) | (with_reducible refine below_drewN ?_ _) | (with_reducible refine Below.alloc ?_ ?_ _) | (with_reducible refine Below.drew ?_) | (with_reducible refine Below.setCell ?_ ?_ _) | go_size))
    have oX : (wr.alloc (.cells #[.int .i64 x.kind, .int .i64 x.neg, .int .i64 x.e.op, .int .i64 x.e.t, .int .i64 x.e.n, .int .i64 x.e.m, .slice p1 pn1 pc1, .slice u1 un1 uc1] 54)).heap[wr.heap.size]? = some (.cells #[.int .i64 x.kind, .int .i64 x.neg, .int .i64 x.e.op, .int .i64 x.e.t, .int .i64 x.e.n, .int .i64 x.e.m, .slice p1 pn1 pc1, .slice u1 un1 uc1] 54) := get_last rfl
    clear d0 d1 d2 d3 d4 d5 d6 d7 zx
    have HJX := Lib.hid (HJ.out.below hbX)
    generalize wr.alloc (.cells #[.int .i64 x.kind, .int .i64 x.neg, .int .i64 x.e.op, .int .i64 x.e.t, .int .i64 x.e.n, .int .i64 x.e.m, .slice p1 pn1 pc1, .slice u1 un1 uc1] 54) = WX at *
    clear hbX HJ HBw
    generalize wr.heap.size = nb at *
    obtain ⟨c0, c1, c2, c3, c4, c5, c6, c7⟩ := boxed_nt8 oX
    have z6 := heap_lt oX
    obtain ⟨oa, oc, rfl⟩ := owns_form HJX.out.r
    obtain ⟨M, hM⟩ : ∃ M, ((l.take j).flatMap (joinL k)).length = M := ⟨_, rfl⟩
    rw [hM] at HJX
    have HM := Lib.hid hM
    have HRM := Lib.hid (show WX.ownsRow (w.heap.size + 1 + 1) 54 8 (.slice oa M oc) M (flatC CH) by have := HJX.out.r; rw [hM] at this; exact this)
    have o7 : WX.cell? ⟨w.heap.size + 1, 7, none⟩ = some (.slice oa M oc) := obj_cell HJX.out.o (i := 7) rfl
    have yo := heap_lt HJX.out.o
    by_cases hkk : x.kind = k
    · have hjl : joinL k x = x.l := if_pos hkk
      rw [hjl] at HSn
      obtain ⟨CX, hC1, hC2, hC3⟩ := row_chunks HXR.out
      have HC1 := Lib.hid hC1
      have HC2 := Lib.hid hC2
      have HC3 := Lib.hid (show Src WX (.slice u1 un1 uc1) un1 (flatC CX) by have h := hC3.below HJX.out.b; rw [← HXN.out] at h; exact h)
      have hone := chunks_one (CH := CX) (fun q c hc => by obtain ⟨y, hy⟩ := get_some (L := x.l) (n := q) (by rw [← hC1]; exact lt_of_get hc); exact nt_one (hC2 q c y hc hy))
      have HON := Lib.hid hone
      have hmx : M + un1 ≤ 20000 := by have h1 := HLe.out; have h2 := HL.out; rw [HSn.out, List.length_append, hM, ← HXN.out] at h1; omega
      have HLEN := Lib.hid (show (flatC CX).length = un1 * 8 by rw [flatC_len, HC1.out, HXN.out])
      clear hC1 hC2 hC3 hone hM hjl
      generalize x.kind = x0 at *
      subst hkk
      have qq : (x0 == x0) = true := by simp
      go_wp2_with (first | (at_builtin; go_loud (refine wpList_append_src rfl (.tmp 21) (.tmp 23) 52 rfl (w.heap.size + 1 + 1) 54 i zz 8 96 Tryd.underlying52 hi hz hsize hby hzs (by omega) _ M (flatC CH) rfl HRM.out _ un1 (flatC CX) rfl HC3.out (HLEN.out) HON.out (by unfold maxLen; omega) (by omega) (by have := heap_lt HJX.out.o; omega) ?_); intro v2 w2 hO2 hG2; have HG2 := Lib.hid hG2; have HO2 := Lib.hid hO2; have P2 := Lib.hid ((hG2.block _ (heap_lt HJX.out.o) (HJX.out.ne (Nat.le_refl _))).trans HJX.out.o); have f7 := obj_frozen P2.out 7; have c7 := obj_cell P2.out (i := 7) rfl; have yp := heap_lt P2.out; obtain ⟨av, cv, hv2⟩ := owns_form hO2; subst hv2; clear hO2 hG2) | fail)
      have hst := HJX.out.step (by rw [HM.out]; exact HO2.out) HG2.out HC1.out HXN.out.symm HC2.out
      have HST := Lib.hid hst
      clear hst
      go_roundw
      case rel => exact ⟨j + 1, _, _, by have := HLT.out; omega, by simp, Lib.hid (by rw [HSn.out]; exact HST.out)⟩
      case measure => have := HLT.out; first | (simp [intOf]; done) | (simp [intOf]; omega)
    · have hjl : joinL k x = [x] := if_neg hkk
      rw [hjl] at HSn
      have qq : (x.kind == k) = false := beq_eq_false_iff_ne.2 hkk
      have hmx : M + 1 ≤ 20000 := by have h1 := HLe.out; have h2 := HL.out; rw [HSn.out, List.length_append, hM, List.length_singleton] at h1; omega
      have hbY : Below WX.heap.size WX (WX.alloc (.cells #[.int .i64 x.kind, .int .i64 x.neg, .int .i64 x.e.op, .int .i64 x.e.t, .int .i64 x.e.n, .int .i64 x.e.m, .slice p1 pn1 pc1, .slice u1 un1 uc1] 54)) := by (repeat' (first | (with_reducible exact Below.refl _ _) | (with_reducible assumption) | (with_reducible refine below_drewN ?_ _) | (with_reducible refine Below.alloc ?_ ?_ _) | (with_reducible refine Below.drew ?_) | (with_reducible refine Below.setCell ?_ ?_ _) | go_size))
      have HJY := Lib.hid (HJX.out.below hbY)
      have HRY := Lib.hid (owns_below HRM.out hbY)
      have HSY := Lib.hid (src_at (n := 1) (C := [.int .i64 x.kind, .int .i64 x.neg, .int .i64 x.e.op, .int .i64 x.e.t, .int .i64 x.e.n, .int .i64 x.e.m, .slice p1 pn1 pc1, .slice u1 un1 uc1]) (show (WX.alloc (.cells #[.int .i64 x.kind, .int .i64 x.neg, .int .i64 x.e.op, .int .i64 x.e.t, .int .i64 x.e.n, .int .i64 x.e.m, .slice p1 pn1 pc1, .slice u1 un1 uc1] 54)).heap[WX.heap.size]? = _ from get_last rfl))
      have hnr := ntR_of HXV.out
      have hone := nt_one hnr
      have HNR := Lib.hid hnr
      have HON := Lib.hid hone
      clear hbY hkk hjl hM hone hnr
      go_wp2_with (first | (at_builtin; go_loud (refine wpList_append_src rfl (.tmp 27) (.tmp 29) 52 rfl (w.heap.size + 1 + 1) 54 i zz 8 96 Tryd.underlying52 hi hz hsize hby hzs (by omega) _ M (flatC CH) rfl HRY.out _ 1 (flatC [(⟨[.int .i64 x.kind, .int .i64 x.neg, .int .i64 x.e.op, .int .i64 x.e.t, .int .i64 x.e.n, .int .i64 x.e.m, .slice p1 pn1 pc1, .slice u1 un1 uc1], rfl⟩ : Chunk 8)]) rfl (by rw [flatC_one]; exact HSY.out) (by rw [flatC_one]; rfl) (by rw [flatC_one]; exact HON.out) (by unfold maxLen; omega) (by omega) (by have := heap_lt HJY.out.o; omega) ?_); intro v2 w2 hO2 hG2; have HG2 := Lib.hid hG2; have HO2 := Lib.hid hO2; have P2 := Lib.hid ((hG2.block _ (heap_lt HJY.out.o) (HJY.out.ne (Nat.le_refl _))).trans HJY.out.o); have f7 := obj_frozen P2.out 7; have c7 := obj_cell P2.out (i := 7) rfl; have yp := heap_lt P2.out; obtain ⟨av, cv, hv2⟩ := owns_form hO2; subst hv2; clear hO2 hG2) | fail)
      have hst := HJY.out.step (M := [x]) (by rw [HM.out]; exact HO2.out) HG2.out rfl rfl (fun q c y hc hy => by
        have hq : q = 0 := by have := lt_of_get hy; simp at this; exact this
        subst hq
        obtain rfl : x = y := by simpa using hy
        have hc := (Option.some.inj hc)
        rw [← hc]
        exact HNR.out)
      have HST := Lib.hid hst
      clear hst
      go_roundw
      case rel => exact ⟨j + 1, _, _, by have := HLT.out; omega, by simp, Lib.hid (by rw [HSn.out]; exact HST.out)⟩
      case measure => have := HLT.out; first | (simp [intOf]; done) | (simp [intOf]; omega)
end Go.Proofs.YtknbomikiakpmaaDoor

/- Layer 44, plain: normal forms and their networks; what a write into a block of an empty network leaves. -/
namespace Go.Proofs.YtknbomikiakpmaaDoor
open Go.RowKit
open NN
set_option linter.unusedSimpArgs false
set_option linter.unusedVariables false
inductive NF : Ex → Prop
  | leaf (e : Ex) : e.l = [] → e.op ≠ 6 → e.op ≠ 7 → e.op ≠ 0 → NF e
  | un (x : Ex) : x.l = [] → x.op ≠ 0 → NF ⟨6, 0, 0, 17, [x]⟩
  | bin (m : Int) (x y : Ex) : m = 14 ∨ m = 15 → NF x → NF y → NF (binE m x y)
theorem nf_as {s : Sc} (e : Ex) : truE s e = true → NF (asE e).1 ∧ NF (asE e).2 := by
  induction e using Ex.ind with
  | h op t n m l ih =>
    intro ht
    rcases tru_cases ht with ⟨h1, h0⟩ | ⟨x, hx, hxt⟩ | ⟨m', x, y, hx, hxt, hyt, hj⟩
    · have hop := leaf_op h1
      simp only at hop h0
      rw [asE_mk, if_neg (by simp only; omega), if_neg (by simp only; omega)]
      refine ⟨.leaf _ h0 (by simp only; omega) (by simp only; omega) (by simp only; omega), ?_⟩
      show NF (if op = 1 then _ else _)
      split
      · exact .leaf _ rfl (show (1 : Int) ≠ 6 by decide) (show (1 : Int) ≠ 7 by decide) (show (1 : Int) ≠ 0 by decide)
      · exact .un _ h0 (by simp only; omega)
    · obtain ⟨i1, i2⟩ := ih x (by injection hx with _ _ _ _ hl; rw [hl]; simp) hxt
      rw [hx, asE_mk, if_pos rfl]
      exact ⟨i2, i1⟩
    · obtain ⟨i1, i2⟩ := ih x (by injection hx with _ _ _ _ hl; rw [hl]; simp) hxt
      obtain ⟨k1, k2⟩ := ih y (by injection hx with _ _ _ _ hl; rw [hl]; simp) hyt
      rw [hx, as_bin]
      split
      · rename_i hm
        exact ⟨.bin _ _ _ hm i1 k1, .bin _ _ _ (by omega) i2 k2⟩
      · split
        · exact ⟨.bin _ _ _ (Or.inr rfl) (.bin _ _ _ (Or.inl rfl) i1 k1) (.bin _ _ _ (Or.inl rfl) i2 k2), .bin _ _ _ (Or.inr rfl) (.bin _ _ _ (Or.inl rfl) i1 k2) (.bin _ _ _ (Or.inl rfl) i2 k1)⟩
        · exact ⟨.bin _ _ _ (Or.inr rfl) (.bin _ _ _ (Or.inl rfl) i1 k2) (.bin _ _ _ (Or.inl rfl) i2 k1), .bin _ _ _ (Or.inr rfl) (.bin _ _ _ (Or.inl rfl) i1 k1) (.bin _ _ _ (Or.inl rfl) i2 k2)⟩
theorem nf_form {s : Sc} {e : Ex} (h : truE s e = true) (t : Bool) : NF (formE e t) := by
  obtain ⟨h1, h2⟩ := form_same s e h
  obtain ⟨i1, i2⟩ := nf_as e h
  cases t
  · rw [h1]; exact i1
  · rw [h2]; exact i2
def nt0 : Nt := ⟨0, 0, ex0, []⟩
/-- networks put together -/
def joinN (k : Int) (l : List Nt) : Nt := ⟨k, 0, ex0, l.flatMap (joinL k)⟩
/-- the network of a normal form -/
noncomputable def netE : Ex → Nt := foldE (α := Nt) fun e l => if e.op = 6 then ⟨1, 1, e.l.getD 0 ex0, []⟩ else if e.op = 7 then (if e.m = 14 then joinN 2 l else joinN 3 l) else ⟨1, 0, e, []⟩
theorem netE_mk (e : Ex) : netE e = if e.op = 6 then ⟨1, 1, e.l.getD 0 ex0, []⟩ else if e.op = 7 then (if e.m = 14 then joinN 2 (e.l.map netE) else joinN 3 (e.l.map netE)) else ⟨1, 0, e, []⟩ := foldE_eq _ e
theorem netE_un (x : Ex) : netE ⟨6, 0, 0, 17, [x]⟩ = ⟨1, 1, x, []⟩ := by rw [netE_mk, if_pos rfl]; rfl
theorem netE_leaf (e : Ex) (h6 : e.op ≠ 6) (h7 : e.op ≠ 7) : netE e = ⟨1, 0, e, []⟩ := by rw [netE_mk, if_neg h6, if_neg h7]
theorem netE_and (x y : Ex) : netE (binE 14 x y) = joinN 2 [netE x, netE y] := by rw [netE_mk]; simp [binE]
theorem netE_or (x y : Ex) : netE (binE 15 x y) = joinN 3 [netE x, netE y] := by rw [netE_mk]; simp [binE]
/-- no network, no expression within is an empty one -/
noncomputable def noZN : Nt → Prop := foldN (α := Prop) fun n ps => noZ n.e = true ∧ (∀ x ∈ n.l, x.kind ≠ 0) ∧ ∀ (i : Nat) (p : Prop), ps[i]? = some p → p
theorem noZN_mk (n : Nt) : noZN n ↔ noZ n.e = true ∧ (∀ x ∈ n.l, x.kind ≠ 0) ∧ ∀ x ∈ n.l, noZN x := by
  unfold noZN
  rw [foldN_eq]
  constructor
  · rintro ⟨h1, h3, h2⟩
    refine ⟨h1, h3, fun x hx => ?_⟩
    obtain ⟨i, hi, rfl⟩ := List.getElem_of_mem hx
    exact h2 i _ (by rw [List.getElem?_map, List.getElem?_eq_getElem hi]; rfl)
  · rintro ⟨h1, h3, h2⟩
    refine ⟨h1, h3, fun i p hp => ?_⟩
    rw [List.getElem?_map] at hp
    obtain ⟨x, hx, rfl⟩ := Option.map_eq_some_iff.1 hp
    exact h2 x (List.mem_of_getElem? hx)
theorem joinN_noZ {k : Int} {l : List Nt} (h : ∀ x ∈ l, x.kind ≠ 0 ∧ noZN x) : noZN (joinN k l) := by
  have h1 : ∀ y ∈ l.flatMap (joinL k), y.kind ≠ 0 ∧ noZN y := by
    intro y hy
    obtain ⟨x, hx, hy⟩ := List.mem_flatMap.1 hy
    unfold joinL at hy
    split at hy
    · obtain ⟨_, h3, h4⟩ := (noZN_mk x).1 (h x hx).2
      exact ⟨h3 y hy, h4 y hy⟩
    · rw [show y = x by simpa using hy]
      exact h x hx
  exact (noZN_mk _).2 ⟨noZ_nil rfl, fun y hy => (h1 y hy).1, fun y hy => (h1 y hy).2⟩
theorem net_told {e : Ex} (h : NF e) : (netE e).kind ≠ 0 ∧ noZN (netE e) ∧ (netE e).l.length + 1 ≤ 2 * sizeE e := by
  induction h with
  | leaf e h0 h6 h7 h9 =>
    rw [netE_leaf e h6 h7]
    exact ⟨by show (1 : Int) ≠ 0; decide, (noZN_mk _).2 ⟨noZ_nil h0, by simp, by simp⟩, by have := sizeE_pos e; simp; omega⟩
  | un x h0 h9 =>
    rw [netE_un]
    exact ⟨by show (1 : Int) ≠ 0; decide, (noZN_mk _).2 ⟨noZ_nil h0, by simp, by simp⟩, by have := sizeE_pos ⟨6, 0, 0, 17, [x]⟩; simp; omega⟩
  | bin m x y hm hx hy ix iy =>
    have hsz : sizeE (binE m x y) = 1 + (sizeE x + sizeE y) := by rw [sizeE_mk]; simp [binE]
    have key : ∀ k : Int, ([netE x, netE y].flatMap (joinL k)).length + 1 ≤ 2 * sizeE (binE m x y) := by
      intro k
      have h1 : (joinL k (netE x)).length + 1 ≤ 2 * sizeE x + 1 := by unfold joinL; split <;> simp <;> omega
      have h2 : (joinL k (netE y)).length + 1 ≤ 2 * sizeE y + 1 := by unfold joinL; split <;> simp <;> omega
      rw [hsz]
      simp
      omega
    have hz : ∀ z ∈ [netE x, netE y], z.kind ≠ 0 ∧ noZN z := by
      intro z hz
      simp at hz
      rcases hz with rfl | rfl
      · exact ⟨ix.1, ix.2.1⟩
      · exact ⟨iy.1, iy.2.1⟩
    rcases hm with rfl | rfl
    · rw [netE_and]
      exact ⟨by show (2 : Int) ≠ 0; decide, joinN_noZ hz, key 2⟩
    · rw [netE_or]
      exact ⟨by show (3 : Int) ≠ 0; decide, joinN_noZ hz, key 3⟩
/-- as exR_over, by what a row of expressions could read in the block -/
theorem exR_overG {R : Nat} {w w' : World} (hR : ∀ (o : Nat) (a b c d : Int) (s : Option Addr) (n m : Nat), w.cell? ⟨R, o, none⟩ = some (.int .i64 a) → w.cell? ⟨R, o + 1, none⟩ = some (.int .i64 b) → w.cell? ⟨R, o + 2, none⟩ = some (.int .i64 c) → w.cell? ⟨R, o + 3, none⟩ = some (.int .i64 d) → w.cell? ⟨R, o + 4, none⟩ = some (.slice s n m) → a = 0) (ho : Over R w w') (e : Ex) : ∀ C, noZ e = true → exR w C e → exR w' C e := by
  induction e using Ex.ind with
  | h op t n m l ih =>
    intro C hz h
    obtain ⟨v, h1, h2, h3⟩ := exR_eq.1 h
    refine exR_eq.2 ⟨v, h1, h2, ?_⟩
    simp only at h3 ⊢
    rcases h3 with h3 | ⟨b, off, cap, g1, g2, g3, g4, g5, g6⟩
    · exact Or.inl h3
    · refine Or.inr ⟨b, off, cap, g1, g2, g3, g4, Nat.lt_of_lt_of_le g5 ho.size, fun i x hx => ?_⟩
      obtain ⟨D, d1, d2, d3⟩ := g6 i x hx
      obtain ⟨z1, z2⟩ := noZ_within hz (List.mem_of_getElem? hx)
      refine ⟨D, d1, fun j u hu => ?_, ih x (List.mem_of_getElem? hx) D z2 d3⟩
      by_cases hb : b = R
      · subst hb
        exfalso
        obtain ⟨sv', e1, _, hrow⟩ := exR_eq.1 d3
        obtain ⟨s, cp, rfl⟩ := row_get hrow
        exact z1 (hR (off + i * 5) _ _ _ _ _ _ _ (d2 0 _ (by rw [e1]; rfl)) (d2 1 _ (by rw [e1]; rfl)) (d2 2 _ (by rw [e1]; rfl)) (d2 3 _ (by rw [e1]; rfl)) (d2 4 _ (by rw [e1]; rfl)))
      · rw [ho.cell _ _ hb]
        exact d2 j u hu
theorem exV_overG {R : Nat} {w w' : World} {v : Value} {e : Ex} (hR : ∀ (o : Nat) (a b c d : Int) (s : Option Addr) (n m : Nat), w.cell? ⟨R, o, none⟩ = some (.int .i64 a) → w.cell? ⟨R, o + 1, none⟩ = some (.int .i64 b) → w.cell? ⟨R, o + 2, none⟩ = some (.int .i64 c) → w.cell? ⟨R, o + 3, none⟩ = some (.int .i64 d) → w.cell? ⟨R, o + 4, none⟩ = some (.slice s n m) → a = 0) (ho : Over R w w') (hz : noZ e = true) (h : ExV w v e) : ExV w' v e := by
  obtain ⟨sl, rfl, h2, h3⟩ := h
  have := exR_overG hR ho e [.int .i64 e.op, .int .i64 e.t, .int .i64 e.n, .int .i64 e.m, sl] hz (exR_eq.2 ⟨sl, rfl, h2, h3⟩)
  obtain ⟨v, h1, _, h4⟩ := exR_eq.1 this
  simp only [List.cons.injEq, and_true, true_and] at h1
  exact ⟨sl, rfl, h2, by rw [h1]; exact h4⟩
abbrev zero8 : Array Value := #[.int .i64 0, .int .i64 0, .int .i64 0, .int .i64 0, .int .i64 0, .int .i64 0, .slice none 0 0, .slice none 0 0]
theorem zero8_ex {R : Nat} {ty : TypeId} {w : World} (h : w.heap[R]? = some (.cells zero8 ty)) (o : Nat) (a b c d : Int) (s : Option Addr) (n m : Nat) (h0 : w.cell? ⟨R, o, none⟩ = some (.int .i64 a)) (h1 : w.cell? ⟨R, o + 1, none⟩ = some (.int .i64 b)) (h2 : w.cell? ⟨R, o + 2, none⟩ = some (.int .i64 c)) (h3 : w.cell? ⟨R, o + 3, none⟩ = some (.int .i64 d)) (h4 : w.cell? ⟨R, o + 4, none⟩ = some (.slice s n m)) : a = 0 := by
  unfold World.cell? at h0 h1 h2 h3 h4
  simp only [h] at h0 h1 h2 h3 h4
  match o with
  | 0 => simp at h4
  | 1 => simp at h4
  | 2 => simp at h0; exact h0.symm
  | 3 => simp at h3
  | 4 => simp at h4
  | 5 => simp at h4
  | 6 => simp at h0
  | 7 => simp at h0
  | o + 8 => simp at h0
theorem ntR_over {R : Nat} {ty : TypeId} {w w' : World} (hR : w.heap[R]? = some (.cells zero8 ty)) (ho : Over R w w') (n : Nt) : ∀ C, noZN n → ntR w C n → ntR w' C n := by
  induction n using Nt.ind with
  | h k g e l ih =>
    intro C hz h
    obtain ⟨z1, z2, z3⟩ := (noZN_mk _).1 hz
    obtain ⟨s, v, h1, h2, h4, h3⟩ := ntR_eq.1 h
    refine ntR_eq.2 ⟨s, v, h1, h2, exV_overG (zero8_ex hR) ho z1 h4, ?_⟩
    simp only at h3 z2 z3 ⊢
    rcases h3 with h3 | ⟨b, off, cap, g1, g2, g3, g4, g5, g6⟩
    · exact Or.inl h3
    · refine Or.inr ⟨b, off, cap, g1, g2, g3, g4, Nat.lt_of_lt_of_le g5 ho.size, fun i x hx => ?_⟩
      obtain ⟨D, d1, d2, d3⟩ := g6 i x hx
      have hm := List.mem_of_getElem? hx
      refine ⟨D, d1, fun j u hu => ?_, ih x hm D (z3 x hm) d3⟩
      by_cases hb : b = R
      · subst hb
        exfalso
        obtain ⟨s', v', e1, _, _, _⟩ := ntR_eq.1 d3
        have a7 := d2 7 _ (by rw [e1]; rfl)
        have a0 := d2 0 _ (by rw [e1]; rfl)
        unfold World.cell? at a7 a0
        simp only [hR] at a7 a0
        have hlt : off + i * 8 + 7 < 8 := by
          rcases Nat.lt_or_ge (off + i * 8 + 7) 8 with h9 | h9
          · exact h9
          · simp [Array.getElem?_eq_none (show zero8.size ≤ off + i * 8 + 7 from h9)] at a7
        have h00 : off + i * 8 + 0 = 0 := by omega
        simp [h00] at a0
        exact z2 x hm a0.symm
      · rw [ho.cell _ _ hb]
        exact d2 j u hu
theorem ntV_over {R : Nat} {ty : TypeId} {w w' : World} {v : Value} {n : Nt} (hR : w.heap[R]? = some (.cells zero8 ty)) (ho : Over R w w') (hz : noZN n) (h : NtV w v n) : NtV w' v n := by
  obtain ⟨s, u, rfl, h2, h3, h4⟩ := h
  have := ntR_over hR ho n _ hz (ntR_of ⟨s, u, rfl, h2, h3, h4⟩)
  have := ntV_of this
  exact this
end Go.Proofs.YtknbomikiakpmaaDoor

/- Layer 44: net.of. -/
namespace Go.Proofs.YtknbomikiakpmaaDoor
open Go.RowKit
open NN
set_option linter.unusedSimpArgs false
set_option linter.unusedVariables false
set_option maxHeartbeats 2000000 in
theorem store_nt {B g : Nat} {w0 w : World} {ty : TypeId} {n : Nt} {a b : Option Addr} {k c j d : Nat} (hO : w.heap[g]? = some (.cells zero8 ty)) (hX : NtV w (.agg #[.int .i64 n.kind, .int .i64 n.neg, .int .i64 n.e.op, .int .i64 n.e.t, .int .i64 n.e.n, .int .i64 n.e.m, .slice a k c, .slice b j d]) n) (hz : noZN n) (hB : Below B w0 w) (hg : B ≤ g) :
    ∃ w5, w5 = ((((((((w.setCell ⟨g, 0, none⟩ (.int .i64 n.kind)).setCell ⟨g, 1, none⟩ (.int .i64 n.neg)).setCell ⟨g, 2, none⟩ (.int .i64 n.e.op)).setCell ⟨g, 3, none⟩ (.int .i64 n.e.t)).setCell ⟨g, 4, none⟩ (.int .i64 n.e.n)).setCell ⟨g, 5, none⟩ (.int .i64 n.e.m)).setCell ⟨g, 6, none⟩ (.slice a k c)).setCell ⟨g, 7, none⟩ (.slice b j d)) ∧ w5.heap[g]? = some (.cells #[.int .i64 n.kind, .int .i64 n.neg, .int .i64 n.e.op, .int .i64 n.e.t, .int .i64 n.e.n, .int .i64 n.e.m, .slice a k c, .slice b j d] ty) ∧ NtV w5 (.agg #[.int .i64 n.kind, .int .i64 n.neg, .int .i64 n.e.op, .int .i64 n.e.t, .int .i64 n.e.n, .int .i64 n.e.m, .slice a k c, .slice b j d]) n ∧ Below B w0 w5 := by
  have g0 := obj_self (i := 0) (x := .int .i64 n.kind) hO
  have g1 := obj_self (i := 1) (x := .int .i64 n.neg) g0
  have g2 := obj_self (i := 2) (x := .int .i64 n.e.op) g1
  have g3 := obj_self (i := 3) (x := .int .i64 n.e.t) g2
  have g4 := obj_self (i := 4) (x := .int .i64 n.e.n) g3
  have g5 := obj_self (i := 5) (x := .int .i64 n.e.m) g4
  have g6 := obj_self (i := 6) (x := .slice a k c) g5
  have g7 := obj_self (i := 7) (x := .slice b j d) g6
  have o0 := over_set (o := 0) (x := .int .i64 n.kind) (over_refl g w)
  have o1 := over_set (o := 1) (x := .int .i64 n.neg) o0
  have o2 := over_set (o := 2) (x := .int .i64 n.e.op) o1
  have o3 := over_set (o := 3) (x := .int .i64 n.e.t) o2
  have o4 := over_set (o := 4) (x := .int .i64 n.e.n) o3
  have o5 := over_set (o := 5) (x := .int .i64 n.e.m) o4
  have o6 := over_set (o := 6) (x := .slice a k c) o5
  have o7 := over_set (o := 7) (x := .slice b j d) o6
  have b0 := hB.setCell (p := ⟨g, 0, none⟩) hg (.int .i64 n.kind)
  have b1 := b0.setCell (p := ⟨g, 1, none⟩) hg (.int .i64 n.neg)
  have b2 := b1.setCell (p := ⟨g, 2, none⟩) hg (.int .i64 n.e.op)
  have b3 := b2.setCell (p := ⟨g, 3, none⟩) hg (.int .i64 n.e.t)
  have b4 := b3.setCell (p := ⟨g, 4, none⟩) hg (.int .i64 n.e.n)
  have b5 := b4.setCell (p := ⟨g, 5, none⟩) hg (.int .i64 n.e.m)
  have b6 := b5.setCell (p := ⟨g, 6, none⟩) hg (.slice a k c)
  have b7 := b6.setCell (p := ⟨g, 7, none⟩) hg (.slice b j d)
  exact ⟨_, rfl, g7, ntV_over hO o7 hz hX, b7⟩
theorem frozen8 {w : World} {g : Nat} {A : Array Value} {t : TypeId} (h : w.heap[g]? = some (.cells A t)) : w.frozen? ⟨g, 0, none⟩ = false ∧ w.frozen? ⟨g, 1, none⟩ = false ∧ w.frozen? ⟨g, 2, none⟩ = false ∧ w.frozen? ⟨g, 3, none⟩ = false ∧ w.frozen? ⟨g, 4, none⟩ = false ∧ w.frozen? ⟨g, 5, none⟩ = false ∧ w.frozen? ⟨g, 6, none⟩ = false ∧ w.frozen? ⟨g, 7, none⟩ = false :=
  ⟨obj_frozen h 0, obj_frozen h 1, obj_frozen h 2, obj_frozen h 3, obj_frozen h 4, obj_frozen h 5, obj_frozen h 6, obj_frozen h 7⟩
theorem row_nt2 {W : World} {b : Nat} {ty : TypeId} {C D : List Value} {x y : Nt} (h : W.heap[b]? = some (.cells (C ++ D).toArray ty)) (hl : C.length = 8) (hl2 : D.length = 8) (hx : ntR W C x) (hy : ntR W D y) : RowR 8 ntR W (.slice (some ⟨b, 0, none⟩) 2 2) [x, y] := by
  refine Or.inr ⟨b, 0, 2, rfl, by simp, by simp, by unfold maxLen; decide, heap_lt h, fun i z hz => ?_⟩
  have hi : i < 2 := by simpa using lt_of_get hz
  match i, hi, hz with
  | 0, _, hz =>
    obtain rfl : x = z := by simpa using hz
    refine ⟨C, hl, fun j u hu => obj_cell h ?_, hx⟩
    rw [List.getElem?_toArray, List.getElem?_append_left (by have := lt_of_get hu; omega)]
    simpa using hu
  | 1, _, hz =>
    obtain rfl : y = z := by simpa using hz
    refine ⟨D, hl2, fun j u hu => obj_cell h ?_, hy⟩
    rw [List.getElem?_toArray, List.getElem?_append_right (by omega)]
    rw [show 0 + 1 * 8 + j - C.length = j by omega]
    exact hu
def OfQ (e : Ex) (n : Nt) : Prop := ∀ w v, ExV w v e → Calls Tryd.prog 53 #[v] w fun r w' => ∃ z, r = .returned z ∧ NtV w' z n ∧ Below w.heap.size w w'
set_option maxRecDepth 100000 in
set_option maxHeartbeats 2000000 in
theorem of_leaf (e : Ex) (h6 : e.op ≠ 6) (h7 : e.op ≠ 7) : OfQ e ⟨1, 0, e, []⟩ := by
  intro w v hv
  obtain ⟨a, k, c, rfl⟩ := ex_form hv
  have HX := Lib.hid hv
  clear hv
  have q6 : (e.op == 6) = false := beq_eq_false_iff_ne.2 h6
  have q7 : (e.op == 7) = false := beq_eq_false_iff_ne.2 h7
  obtain ⟨xo, xt, xn, xm, xl⟩ := e
  simp only at HX q6 q7 ⊢
  clear h6 h7
  go_enter Tryd.func53, Tryd.ntmps53
  go_wp2_with fail
  refine bodyPost_ret (by simp [results, Tryd.results53, go_sem, more_cell, more_size, more_frozen]; try rfl) rfl ?_
  exact ⟨_, rfl, ⟨_, _, rfl, ⟨by show I64 1; unfold I64; omega, by show I64 0; unfold I64; omega⟩, HX.out.below (by (repeat' (first | (with_reducible exact Below.refl _ _) | (with_reducible assumption) | (with_reducible refine below_drewN ?_ _) | (with_reducible refine Below.alloc ?_ ?_ _) | (with_reducible refine Below.drew ?_) | (with_reducible refine Below.setCell ?_ ?_ _) | go_size))), row_none⟩, by (repeat' (first | (with_reducible exact Below.refl _ _) | (with_reducible assumption) | (with_reducible refine below_drewN ?_ _) | (with_reducible refine Below.alloc ?_ ?_ _) | (with_reducible refine Below.drew ?_) | (with_reducible refine Below.setCell ?_ ?_ _) | go_size))⟩
set_option maxRecDepth 100000 in
set_option maxHeartbeats 2000000 in
theorem of_un (x : Ex) (hx0 : x.l = []) : OfQ ⟨6, 0, 0, 17, [x]⟩ ⟨1, 1, x, []⟩ := by
  intro w v hv
  obtain ⟨sl, rfl, hr, hrow⟩ := hv
  simp only at hrow
  obtain ⟨sa, sc, rfl⟩ := row_get hrow
  obtain ⟨bx, ox, ss, sn, sc2, rfl, hbx, q1, q2, d0, d1, d2, d3, d4, dV⟩ := ex_at hrow (k := 0) (x := x) rfl
  have hl1 : ([x] : List Ex).length = 1 := rfl
  rw [hl1]
  clear hl1
  obtain ⟨W0, hW0⟩ : ∃ W0, W0 = (w.alloc (.cells #[.int .i64 6, .int .i64 0, .int .i64 0, .int .i64 17, .slice (some ⟨bx, ox, none⟩) 1 sc] 37)).alloc (.cells zero8 54) := ⟨_, rfl⟩
  have oE : W0.heap[w.heap.size]? = some (.cells #[.int .i64 6, .int .i64 0, .int .i64 0, .int .i64 17, .slice (some ⟨bx, ox, none⟩) 1 sc] 37) := by rw [hW0]; exact (get_past (by simp)).trans (get_last rfl)
  have oR : W0.heap[w.heap.size + 1]? = some (.cells zero8 54) := by rw [hW0]; exact get_last (by simp)
  have hbw : Below w.heap.size w W0 := by rw [hW0]; exact by (repeat' (first | (with_reducible exact Below.refl _ _) | (with_reducible assumption) | (with_reducible refine below_drewN ?_ _) | (with_reducible refine Below.alloc ?_ ?_ _) | (with_reducible refine Below.drew ?_) | (with_reducible refine Below.setCell ?_ ?_ _) | go_size))
  have HW0 := Lib.hid hW0
  have OR := Lib.hid oR
  have HB := Lib.hid hbw
  have e0 := obj_cell oE (i := 0) rfl
  have e4 := obj_cell oE (i := 4) rfl
  have ye := heap_lt oE
  have yr := heap_lt oR
  have yb : bx < W0.heap.size := Nat.lt_of_lt_of_le hbx hbw.size
  have c0 : W0.cell? ⟨bx, ox, none⟩ = some (.int .i64 x.op) := (hbw.cell (p := ⟨bx, ox, none⟩) hbx).trans (by simpa using d0)
  have c1 : W0.cell? ⟨bx, ox + 1, none⟩ = some (.int .i64 x.t) := (hbw.cell (p := ⟨bx, ox + 1, none⟩) hbx).trans (by simpa using d1)
  have c2 : W0.cell? ⟨bx, ox + 2, none⟩ = some (.int .i64 x.n) := (hbw.cell (p := ⟨bx, ox + 2, none⟩) hbx).trans (by simpa using d2)
  have c3 : W0.cell? ⟨bx, ox + 3, none⟩ = some (.int .i64 x.m) := (hbw.cell (p := ⟨bx, ox + 3, none⟩) hbx).trans (by simpa using d3)
  have c4 : W0.cell? ⟨bx, ox + 4, none⟩ = some (.slice ss sn sc2) := (hbw.cell (p := ⟨bx, ox + 4, none⟩) hbx).trans (by simpa using d4)
  have HNV := Lib.hid (show NtV W0 (.agg #[.int .i64 1, .int .i64 1, .int .i64 x.op, .int .i64 x.t, .int .i64 x.n, .int .i64 x.m, .slice ss sn sc2, .slice none 0 0]) ⟨1, 1, x, []⟩ from ⟨_, _, rfl, ⟨by show I64 1; unfold I64; omega, by show I64 1; unfold I64; omega⟩, dV.below hbw, row_none⟩)
  have HZ := Lib.hid (show noZN ⟨1, 1, x, []⟩ from (noZN_mk _).2 ⟨noZ_nil hx0, by simp, by simp⟩)
  obtain ⟨f0, f1, f2, f3, f4, f5, f6, f7⟩ := frozen8 oR
  obtain ⟨g0, g1, g2, g3, g4, g5, g6, g7⟩ := boxed_nt8 oR
  clear hW0 oE oR hbw d0 d1 d2 d3 d4 dV hr hrow q1 q2 hbx
  go_enter Tryd.func53, Tryd.ntmps53
  go_upto_region 2 with fail
  rw [← HW0.out]
  go_wp2_with fail
  obtain ⟨w5, hW5, oo, HE, HB3⟩ := store_nt OR.out HNV.out HZ.out HB.out (by omega)
  simp only at hW5 oo HE
  rw [← hW5]
  obtain ⟨e0, e1, e2, e3, e4, e5, e6, e7⟩ := boxed_nt8 oo
  refine bodyPost_ret (by simp [results, Tryd.results53, go_sem, e0, e1, e2, e3, e4, e5, e6, e7]; try rfl) rfl ?_
  exact ⟨_, rfl, HE, HB3⟩
theorem sets_get8 {g h : Nat} {w : World} (hne : g ≠ h) (a b c d e f s u : Value) : ((((((((w.setCell ⟨g, 0, none⟩ (a)).setCell ⟨g, 1, none⟩ (b)).setCell ⟨g, 2, none⟩ (c)).setCell ⟨g, 3, none⟩ (d)).setCell ⟨g, 4, none⟩ (e)).setCell ⟨g, 5, none⟩ (f)).setCell ⟨g, 6, none⟩ (s)).setCell ⟨g, 7, none⟩ (u)).heap[h]? = w.heap[h]? :=
  (get_set hne).trans ((get_set hne).trans ((get_set hne).trans ((get_set hne).trans ((get_set hne).trans ((get_set hne).trans ((get_set hne).trans (get_set hne)))))))
theorem sets_below8 {B g : Nat} {w0 w : World} (h : Below B w0 w) (hg : B ≤ g) (a b c d e f s u : Value) : Below B w0 ((((((((w.setCell ⟨g, 0, none⟩ (a)).setCell ⟨g, 1, none⟩ (b)).setCell ⟨g, 2, none⟩ (c)).setCell ⟨g, 3, none⟩ (d)).setCell ⟨g, 4, none⟩ (e)).setCell ⟨g, 5, none⟩ (f)).setCell ⟨g, 6, none⟩ (s)).setCell ⟨g, 7, none⟩ (u)) :=
  (((((((h.setCell (p := ⟨g, 0, none⟩) hg _).setCell (p := ⟨g, 1, none⟩) hg _).setCell (p := ⟨g, 2, none⟩) hg _).setCell (p := ⟨g, 3, none⟩) hg _).setCell (p := ⟨g, 4, none⟩) hg _).setCell (p := ⟨g, 5, none⟩) hg _).setCell (p := ⟨g, 6, none⟩) hg _).setCell (p := ⟨g, 7, none⟩) hg _
set_option maxRecDepth 100000 in
set_option maxHeartbeats 8000000 in
theorem of_and (x y : Ex) (nx ny : Nt) (hz : noZN (joinN 2 [nx, ny])) (hlen : ([nx, ny].flatMap (joinL 2)).length ≤ 20000) (HX : OfQ x nx) (HY : OfQ y ny) : OfQ (binE 14 x y) (joinN 2 [nx, ny]) := by
  intro w v hv
  obtain ⟨sl, rfl, hr, hrow⟩ := hv
  simp only [binE] at hrow ⊢
  obtain ⟨sa, sc, rfl⟩ := row_get hrow
  obtain ⟨bx, ox, ss, sn, sc2, rfl, hbx, q1, q2, d0, d1, d2, d3, d4, dV⟩ := ex_at hrow (k := 0) (x := x) rfl
  obtain ⟨_, _, ss', sn', sc2', hh, _, _, _, d5, d6, d7, d8, d9, dV'⟩ := ex_at hrow (k := 1) (x := y) rfl
  obtain ⟨rfl, rfl⟩ : bx = _ ∧ ox = _ := by injection hh with hh; injection hh with h1 h2; exact ⟨h1, h2⟩
  have hl2 : ([x, y] : List Ex).length = 2 := rfl
  rw [hl2]
  clear hl2 hh
  obtain ⟨W0, hW0⟩ : ∃ W0, W0 = (w.alloc (.cells #[.int .i64 7, .int .i64 0, .int .i64 0, .int .i64 14, .slice (some ⟨bx, ox, none⟩) 2 sc] 37)).alloc (.cells zero8 54) := ⟨_, rfl⟩
  have oE : W0.heap[w.heap.size]? = some (.cells #[.int .i64 7, .int .i64 0, .int .i64 0, .int .i64 14, .slice (some ⟨bx, ox, none⟩) 2 sc] 37) := by rw [hW0]; exact (get_past (by simp)).trans (get_last rfl)
  have oR : W0.heap[w.heap.size + 1]? = some (.cells zero8 54) := by rw [hW0]; exact get_last (by simp)
  have hbw : Below w.heap.size w W0 := by rw [hW0]; exact by (repeat' (first | (with_reducible exact Below.refl _ _) | (with_reducible assumption) | (with_reducible refine below_drewN ?_ _) | (with_reducible refine Below.alloc ?_ ?_ _) | (with_reducible refine Below.drew ?_) | (with_reducible refine Below.setCell ?_ ?_ _) | go_size))
  have HW0 := Lib.hid hW0
  have HVx := Lib.hid (fun W (hb : Below w.heap.size w W) => dV.below hb)
  have HVy := Lib.hid (fun W (hb : Below w.heap.size w W) => dV'.below hb)
  obtain ⟨xo, xt, xn, xm, xl⟩ := x
  obtain ⟨yo, yt, yn, ym, yl⟩ := y
  replace d0 : w.cell? ⟨bx, ox, none⟩ = some (.int .i64 xo) := by simpa using d0
  have D0 := fun W (hb : Below w.heap.size w W) => (hb.cell (p := ⟨bx, ox, none⟩) hbx).trans d0
  replace d1 : w.cell? ⟨bx, ox + 1, none⟩ = some (.int .i64 xt) := by simpa using d1
  have D1 := fun W (hb : Below w.heap.size w W) => (hb.cell (p := ⟨bx, ox + 1, none⟩) hbx).trans d1
  replace d2 : w.cell? ⟨bx, ox + 2, none⟩ = some (.int .i64 xn) := by simpa using d2
  have D2 := fun W (hb : Below w.heap.size w W) => (hb.cell (p := ⟨bx, ox + 2, none⟩) hbx).trans d2
  replace d3 : w.cell? ⟨bx, ox + 3, none⟩ = some (.int .i64 xm) := by simpa using d3
  have D3 := fun W (hb : Below w.heap.size w W) => (hb.cell (p := ⟨bx, ox + 3, none⟩) hbx).trans d3
  replace d4 : w.cell? ⟨bx, ox + 4, none⟩ = some (.slice ss sn sc2) := by simpa using d4
  have D4 := fun W (hb : Below w.heap.size w W) => (hb.cell (p := ⟨bx, ox + 4, none⟩) hbx).trans d4
  replace d5 : w.cell? ⟨bx, ox + 5, none⟩ = some (.int .i64 yo) := by simpa using d5
  have D5 := fun W (hb : Below w.heap.size w W) => (hb.cell (p := ⟨bx, ox + 5, none⟩) hbx).trans d5
  replace d6 : w.cell? ⟨bx, ox + 5 + 1, none⟩ = some (.int .i64 yt) := by simpa using d6
  have D6 := fun W (hb : Below w.heap.size w W) => (hb.cell (p := ⟨bx, ox + 5 + 1, none⟩) hbx).trans d6
  replace d7 : w.cell? ⟨bx, ox + 5 + 2, none⟩ = some (.int .i64 yn) := by simpa using d7
  have D7 := fun W (hb : Below w.heap.size w W) => (hb.cell (p := ⟨bx, ox + 5 + 2, none⟩) hbx).trans d7
  replace d8 : w.cell? ⟨bx, ox + 5 + 3, none⟩ = some (.int .i64 ym) := by simpa using d8
  have D8 := fun W (hb : Below w.heap.size w W) => (hb.cell (p := ⟨bx, ox + 5 + 3, none⟩) hbx).trans d8
  replace d9 : w.cell? ⟨bx, ox + 5 + 4, none⟩ = some (.slice ss' sn' sc2') := by simpa using d9
  have D9 := fun W (hb : Below w.heap.size w W) => (hb.cell (p := ⟨bx, ox + 5 + 4, none⟩) hbx).trans d9
  have D := Lib.hid (And.intro D0 (And.intro D1 (And.intro D2 (And.intro D3 (And.intro D4 (And.intro D5 (And.intro D6 (And.intro D7 (And.intro D8 D9)))))))))
  have HBX := Lib.hid hbx
  have HOE := Lib.hid oE
  have HOR := Lib.hid oR
  have HB0 := Lib.hid hbw
  have HZ := Lib.hid hz
  have HLen := Lib.hid hlen
  have HX := Lib.hid HX
  have HY := Lib.hid HY
  have e0 := obj_cell oE (i := 0) rfl
  have e3 := obj_cell oE (i := 3) rfl
  have ye := heap_lt oE
  have mixed : Tryd.prog.follows .mixedOrders = true := by kernel_rfl
  clear hW0 oE oR hbw dV dV' hr hrow q1 q2 d0 d1 d2 d3 d4 d5 d6 d7 d8 d9 D0 D1 D2 D3 D4 D5 D6 D7 D8 D9 hbx hz hlen
  go_enter Tryd.func53, Tryd.ntmps53
  go_upto_region 1 with fail
  rw [← HW0.out]
  go_upto_region 4 with fail
  clear e0 e3 ye
  have R0 := Lib.hid (show W0.drew.heap[w.heap.size + 1]? = _ from HOR.out)
  have B0 := Lib.hid (show Below w.heap.size w W0.drew from HB0.out.drew)
  have hT0 : Kept w.heap.size w.heap.size w.heap.size _ _ _ w W0.drew := ⟨⟨HOE.out, HOE.out, HOE.out⟩, B0.out⟩
  clear HOE HOR HB0 HW0
  refine wp_region_held_drew (S := (fun w' => Kept w.heap.size w.heap.size w.heap.size (.cells #[.int .i64 7, .int .i64 0, .int .i64 0, .int .i64 14, .slice (some ⟨bx, ox, none⟩) 2 sc] 37) (.cells #[.int .i64 7, .int .i64 0, .int .i64 0, .int .i64 14, .slice (some ⟨bx, ox, none⟩) 2 sc] 37) (.cells #[.int .i64 7, .int .i64 0, .int .i64 0, .int .i64 14, .slice (some ⟨bx, ox, none⟩) 2 sc] 37) w w')) (by kernel_rfl) ?_ (fun hHeld => ?_)
  · (try dsimp only); exact hT0
  refine tk 0 (v := ?_) (hy := ?_) (h := ?_); rotate_left
  · intro _ _; go_simp <;> with_reducible rfl
  try simp only [pu, pa, pz, ps]
  refine tk 1 (v := ?_) (hy := ?_) (h := ?_); rotate_left
  · intro wt hSw; (try dsimp only at hSw); have e4 := obj_cell hSw.o.e (i := 4) rfl; have ye := heap_lt hSw.o.e; have yb := Nat.lt_of_lt_of_le HBX.out hSw.b.size; obtain ⟨D0, D1, D2, D3, D4, D5, D6, D7, D8, D9⟩ := D.out; have c0 := D0 wt hSw.b; have c1 := D1 wt hSw.b; have c2 := D2 wt hSw.b; have c3 := D3 wt hSw.b; have c4 := D4 wt hSw.b; have c5 := D5 wt hSw.b; have c6 := D6 wt hSw.b; have c7 := D7 wt hSw.b; have c8 := D8 wt hSw.b; have c9 := D9 wt hSw.b; clear D0 D1 D2 D3 D4 D5 D6 D7 D8 D9; go_simp <;> with_reducible rfl
  try simp only [pu, pa, pz, ps]
  refine tk 2 (v := ?_) (hy := ?_) (h := ?_); rotate_left
  · intro _ _; go_simp <;> with_reducible rfl
  try simp only [pu, pa, pz, ps]
  refine tk 3 (v := ?_) (hy := ?_) (h := ?_); rotate_left
  · intro wt hSw; (try dsimp only at hSw); have e4 := obj_cell hSw.o.e (i := 4) rfl; have ye := heap_lt hSw.o.e; have yb := Nat.lt_of_lt_of_le HBX.out hSw.b.size; obtain ⟨D0, D1, D2, D3, D4, D5, D6, D7, D8, D9⟩ := D.out; have c0 := D0 wt hSw.b; have c1 := D1 wt hSw.b; have c2 := D2 wt hSw.b; have c3 := D3 wt hSw.b; have c4 := D4 wt hSw.b; have c5 := D5 wt hSw.b; have c6 := D6 wt hSw.b; have c7 := D7 wt hSw.b; have c8 := D8 wt hSw.b; have c9 := D9 wt hSw.b; clear D0 D1 D2 D3 D4 D5 D6 D7 D8 D9; go_simp <;> with_reducible rfl
  try simp only [pu, pa, pz, ps]
  refine tk 5 (v := ?_) (hy := ?_) (h := ?_); rotate_left
  · intro _ _; go_simp <;> with_reducible rfl
  try simp only [pu, pa, pz, ps]
  refine tk 6 (v := ?_) (hy := ?_) (h := ?_); rotate_left
  · intro wt hSw; (try dsimp only at hSw); have e4 := obj_cell hSw.o.e (i := 4) rfl; have ye := heap_lt hSw.o.e; have yb := Nat.lt_of_lt_of_le HBX.out hSw.b.size; obtain ⟨D0, D1, D2, D3, D4, D5, D6, D7, D8, D9⟩ := D.out; have c0 := D0 wt hSw.b; have c1 := D1 wt hSw.b; have c2 := D2 wt hSw.b; have c3 := D3 wt hSw.b; have c4 := D4 wt hSw.b; have c5 := D5 wt hSw.b; have c6 := D6 wt hSw.b; have c7 := D7 wt hSw.b; have c8 := D8 wt hSw.b; have c9 := D9 wt hSw.b; clear D0 D1 D2 D3 D4 D5 D6 D7 D8 D9; go_simp <;> with_reducible rfl
  try simp only [pu, pa, pz, ps]
  refine tk 7 (v := ?_) (hy := ?_) (h := ?_); rotate_left
  · intro _ _; go_simp <;> with_reducible rfl
  try simp only [pu, pa, pz, ps]
  refine tk 8 (v := ?_) (hy := ?_) (h := ?_); rotate_left
  · intro wt hSw; (try dsimp only at hSw); have e4 := obj_cell hSw.o.e (i := 4) rfl; have ye := heap_lt hSw.o.e; have yb := Nat.lt_of_lt_of_le HBX.out hSw.b.size; obtain ⟨D0, D1, D2, D3, D4, D5, D6, D7, D8, D9⟩ := D.out; have c0 := D0 wt hSw.b; have c1 := D1 wt hSw.b; have c2 := D2 wt hSw.b; have c3 := D3 wt hSw.b; have c4 := D4 wt hSw.b; have c5 := D5 wt hSw.b; have c6 := D6 wt hSw.b; have c7 := D7 wt hSw.b; have c8 := D8 wt hSw.b; have c9 := D9 wt hSw.b; clear D0 D1 D2 D3 D4 D5 D6 D7 D8 D9; go_simp <;> with_reducible rfl
  try simp only [pu, pa, pz, ps]
  refine wpAnyH_ready (rs := [4]) (by kernel_rfl) (by simp) ?_
  refine AllReadyH.cons (o := ⟨_, _, _, _, _, _⟩) rfl (fun K hK => ?_) AllReadyH.nil
  go_simp
  refine (HX.out _ _ (HVx.out _ B0.out)).mono ?_; rintro r v1 ⟨z0, rfl, hz0, hb⟩; have hb1 := Lib.hid hb; clear hb
  go_wp2_with fail
  refine hK.out _ _ ?_ (fun hHeld => ?_)
  · (try dsimp only); exact hHeld.below hb1.out
  clear hK K
  have R1 := Lib.hid (obj_below R0.out hb1.out (heap_lt R0.out))
  have B1 := Lib.hid (B0.out.trans (hb1.out.mono B0.out.size))
  have Z0 := Lib.hid hz0
  clear hz0
  try simp only [pu, pa, pz, ps]
  refine wpAnyH_ready (rs := [9]) (by kernel_rfl) (by simp) ?_
  refine AllReadyH.cons (o := ⟨_, _, _, _, _, _⟩) rfl (fun K hK => ?_) AllReadyH.nil
  go_simp
  refine (HY.out _ _ (HVy.out _ B1.out)).mono ?_; rintro r v2 ⟨z1, rfl, hz1, hb⟩; have hb2 := Lib.hid hb; clear hb
  go_wp2_with fail
  refine hK.out _ _ ?_ (fun hHeld => ?_)
  · (try dsimp only); exact hHeld.below hb2.out
  clear hK K
  have R2 := Lib.hid (obj_below R1.out hb2.out (heap_lt R1.out))
  have B2 := Lib.hid (B1.out.trans (hb2.out.mono B1.out.size))
  have Z1 := Lib.hid hz1
  have Z0 := Lib.hid (Z0.out.below hb2.out)
  clear hz1
  obtain ⟨a1, k1, c1, b1, j1, d1, hz0, hj1, hn1, he1, hr1⟩ := nt_form Z0.out
  obtain ⟨a2, k2, c2, b2, j2, d2, hz1, hj2, hn2, he2, hr2⟩ := nt_form Z1.out
  clear hj1 hn1 he1 hr1 hj2 hn2 he2 hr2
  rw [hz0] at Z0
  rw [hz1] at Z1
  rw [hz0, hz1]
  clear hz0 hz1
  have hb3 := Lib.hid (show Below v2.heap.size v2 (v2.alloc (.cells #[.int .i64 nx.kind, .int .i64 nx.neg, .int .i64 nx.e.op, .int .i64 nx.e.t, .int .i64 nx.e.n, .int .i64 nx.e.m, .slice a1 k1 c1, .slice b1 j1 d1, .int .i64 ny.kind, .int .i64 ny.neg, .int .i64 ny.e.op, .int .i64 ny.e.t, .int .i64 ny.e.n, .int .i64 ny.e.m, .slice a2 k2 c2, .slice b2 j2 d2] 54)) by (repeat' (first | (with_reducible exact Below.refl _ _) | (with_reducible assumption) | (with_reducible refine below_drewN ?_ _) | (with_reducible refine Below.alloc ?_ ?_ _) | (with_reducible refine Below.drew ?_) | (with_reducible refine Below.setCell ?_ ?_ _) | go_size)))
  have ROW := Lib.hid (row_nt2 (C := [.int .i64 nx.kind, .int .i64 nx.neg, .int .i64 nx.e.op, .int .i64 nx.e.t, .int .i64 nx.e.n, .int .i64 nx.e.m, .slice a1 k1 c1, .slice b1 j1 d1]) (D := [.int .i64 ny.kind, .int .i64 ny.neg, .int .i64 ny.e.op, .int .i64 ny.e.t, .int .i64 ny.e.n, .int .i64 ny.e.m, .slice a2 k2 c2, .slice b2 j2 d2]) (show (v2.alloc (.cells #[.int .i64 nx.kind, .int .i64 nx.neg, .int .i64 nx.e.op, .int .i64 nx.e.t, .int .i64 nx.e.n, .int .i64 nx.e.m, .slice a1 k1 c1, .slice b1 j1 d1, .int .i64 ny.kind, .int .i64 ny.neg, .int .i64 ny.e.op, .int .i64 ny.e.t, .int .i64 ny.e.n, .int .i64 ny.e.m, .slice a2 k2 c2, .slice b2 j2 d2] 54)).heap[v2.heap.size]? = _ from get_last rfl) rfl rfl (ntR_of (Z0.out.below hb3.out)) (ntR_of (Z1.out.below hb3.out)))
  try simp only [pu, pa, pz, ps]
  refine wpAnyH_ready (rs := [10]) (by kernel_rfl) (by simp) ?_
  refine AllReadyH.cons (o := ⟨_, _, _, _, _, _⟩) rfl (fun K hK => ?_) AllReadyH.nil
  go_simp
  refine hK.out _ _ ?_ (fun hHeld => ?_)
  · (try dsimp only); exact hHeld.below hb3.out
  clear hK K
  have R3 := Lib.hid (obj_below R2.out hb3.out (heap_lt R2.out))
  have B3 := Lib.hid (B2.out.trans (hb3.out.mono B2.out.size))
  try simp only [pu, pa, pz, ps]
  refine wpAnyH_ready (rs := [11]) (by kernel_rfl) (by simp) ?_
  refine AllReadyH.cons (o := ⟨_, _, _, _, _, _⟩) rfl (fun K hK => ?_) AllReadyH.nil
  go_simp
  refine (net_join 2 [nx, ny] _ _ (by unfold I64; omega) ROW.out HLen.out (by simp)).mono ?_; rintro r v4 ⟨z2, rfl, hz2, hb⟩; have hb4 := Lib.hid hb; clear hb
  go_wp2_with fail
  refine hK.out _ _ ?_ (fun hHeld => ?_)
  · (try dsimp only); exact hHeld.below hb4.out
  clear hK K
  have R4 := Lib.hid (obj_below R3.out hb4.out (heap_lt R3.out))
  have B4 := Lib.hid (B3.out.trans (hb4.out.mono B3.out.size))
  have Z2 := Lib.hid (show NtV v4 z2 (joinN 2 [nx, ny]) from hz2)
  clear hz2
  obtain ⟨n9, hn9⟩ : ∃ n9, joinN 2 [nx, ny] = n9 := ⟨_, rfl⟩
  have HN9 := Lib.hid hn9
  rw [hn9] at Z2 HZ
  clear hn9
  obtain ⟨a, k, c, b, j, d, hzf, hj1, hn1, he1, hr1⟩ := nt_form Z2.out
  clear hj1 hn1 he1 hr1
  rw [hzf] at Z2
  rw [hzf]
  clear hzf
  obtain ⟨f0, f1, f2, f3, f4, f5, f6, f7⟩ := frozen8 R4.out
  obtain ⟨g0, g1, g2, g3, g4, g5, g6, g7⟩ := boxed_nt8 R4.out
  have yr := heap_lt R4.out
  try simp only [pu, pa, pz, ps]
  refine wpAnyH_ready (rs := [12]) (by kernel_rfl) (by simp) ?_
  refine AllReadyH.cons (o := ⟨_, _, _, _, _, _⟩) rfl (fun K hK => ?_) AllReadyH.nil
  go_simp
  refine hK.out _ _ ?_ (fun hHeld => ?_)
  · (try dsimp only); exact ⟨⟨(sets_get8 (by omega) ..).trans hHeld.o.e, (sets_get8 (by omega) ..).trans hHeld.o.a, (sets_get8 (by omega) ..).trans hHeld.o.b⟩, sets_below8 hHeld.b (by omega) ..⟩
  clear hK K
  try simp only [pu, pa, pz, ps]
  refine wpAnyH_done (by kernel_rfl) ?_ _
  clear hHeld
  go_wp2_with fail
  obtain ⟨w5, hW5, oo, HE, HB3⟩ := store_nt R4.out Z2.out HZ.out B4.out (by omega)
  rw [← hW5]
  obtain ⟨e0, e1, e2, e3, e4, e5, e6, e7⟩ := boxed_nt8 oo
  refine bodyPost_ret (by simp [results, Tryd.results53, go_sem, e0, e1, e2, e3, e4, e5, e6, e7]; try rfl) rfl ?_
  exact ⟨_, rfl, by rw [HN9.out]; exact HE, HB3⟩
set_option maxRecDepth 100000 in
set_option maxHeartbeats 8000000 in
theorem of_or (x y : Ex) (nx ny : Nt) (hz : noZN (joinN 3 [nx, ny])) (hlen : ([nx, ny].flatMap (joinL 3)).length ≤ 20000) (HX : OfQ x nx) (HY : OfQ y ny) : OfQ (binE 15 x y) (joinN 3 [nx, ny]) := by
  intro w v hv
  obtain ⟨sl, rfl, hr, hrow⟩ := hv
  simp only [binE] at hrow ⊢
  obtain ⟨sa, sc, rfl⟩ := row_get hrow
  obtain ⟨bx, ox, ss, sn, sc2, rfl, hbx, q1, q2, d0, d1, d2, d3, d4, dV⟩ := ex_at hrow (k := 0) (x := x) rfl
  obtain ⟨_, _, ss', sn', sc2', hh, _, _, _, d5, d6, d7, d8, d9, dV'⟩ := ex_at hrow (k := 1) (x := y) rfl
  obtain ⟨rfl, rfl⟩ : bx = _ ∧ ox = _ := by injection hh with hh; injection hh with h1 h2; exact ⟨h1, h2⟩
  have hl2 : ([x, y] : List Ex).length = 2 := rfl
  rw [hl2]
  clear hl2 hh
  obtain ⟨W0, hW0⟩ : ∃ W0, W0 = (w.alloc (.cells #[.int .i64 7, .int .i64 0, .int .i64 0, .int .i64 15, .slice (some ⟨bx, ox, none⟩) 2 sc] 37)).alloc (.cells zero8 54) := ⟨_, rfl⟩
  have oE : W0.heap[w.heap.size]? = some (.cells #[.int .i64 7, .int .i64 0, .int .i64 0, .int .i64 15, .slice (some ⟨bx, ox, none⟩) 2 sc] 37) := by rw [hW0]; exact (get_past (by simp)).trans (get_last rfl)
  have oR : W0.heap[w.heap.size + 1]? = some (.cells zero8 54) := by rw [hW0]; exact get_last (by simp)
  have hbw : Below w.heap.size w W0 := by rw [hW0]; exact by (repeat' (first | (with_reducible exact Below.refl _ _) | (with_reducible assumption) | (with_reducible refine below_drewN ?_ _) | (with_reducible refine Below.alloc ?_ ?_ _) | (with_reducible refine Below.drew ?_) | (with_reducible refine Below.setCell ?_ ?_ _) | go_size))
  have HW0 := Lib.hid hW0
  have HVx := Lib.hid (fun W (hb : Below w.heap.size w W) => dV.below hb)
  have HVy := Lib.hid (fun W (hb : Below w.heap.size w W) => dV'.below hb)
  obtain ⟨xo, xt, xn, xm, xl⟩ := x
  obtain ⟨yo, yt, yn, ym, yl⟩ := y
  replace d0 : w.cell? ⟨bx, ox, none⟩ = some (.int .i64 xo) := by simpa using d0
  have D0 := fun W (hb : Below w.heap.size w W) => (hb.cell (p := ⟨bx, ox, none⟩) hbx).trans d0
  replace d1 : w.cell? ⟨bx, ox + 1, none⟩ = some (.int .i64 xt) := by simpa using d1
  have D1 := fun W (hb : Below w.heap.size w W) => (hb.cell (p := ⟨bx, ox + 1, none⟩) hbx).trans d1
  replace d2 : w.cell? ⟨bx, ox + 2, none⟩ = some (.int .i64 xn) := by simpa using d2
  have D2 := fun W (hb : Below w.heap.size w W) => (hb.cell (p := ⟨bx, ox + 2, none⟩) hbx).trans d2
  replace d3 : w.cell? ⟨bx, ox + 3, none⟩ = some (.int .i64 xm) := by simpa using d3
  have D3 := fun W (hb : Below w.heap.size w W) => (hb.cell (p := ⟨bx, ox + 3, none⟩) hbx).trans d3
  replace d4 : w.cell? ⟨bx, ox + 4, none⟩ = some (.slice ss sn sc2) := by simpa using d4
  have D4 := fun W (hb : Below w.heap.size w W) => (hb.cell (p := ⟨bx, ox + 4, none⟩) hbx).trans d4
  replace d5 : w.cell? ⟨bx, ox + 5, none⟩ = some (.int .i64 yo) := by simpa using d5
  have D5 := fun W (hb : Below w.heap.size w W) => (hb.cell (p := ⟨bx, ox + 5, none⟩) hbx).trans d5
  replace d6 : w.cell? ⟨bx, ox + 5 + 1, none⟩ = some (.int .i64 yt) := by simpa using d6
  have D6 := fun W (hb : Below w.heap.size w W) => (hb.cell (p := ⟨bx, ox + 5 + 1, none⟩) hbx).trans d6
  replace d7 : w.cell? ⟨bx, ox + 5 + 2, none⟩ = some (.int .i64 yn) := by simpa using d7
  have D7 := fun W (hb : Below w.heap.size w W) => (hb.cell (p := ⟨bx, ox + 5 + 2, none⟩) hbx).trans d7
  replace d8 : w.cell? ⟨bx, ox + 5 + 3, none⟩ = some (.int .i64 ym) := by simpa using d8
  have D8 := fun W (hb : Below w.heap.size w W) => (hb.cell (p := ⟨bx, ox + 5 + 3, none⟩) hbx).trans d8
  replace d9 : w.cell? ⟨bx, ox + 5 + 4, none⟩ = some (.slice ss' sn' sc2') := by simpa using d9
  have D9 := fun W (hb : Below w.heap.size w W) => (hb.cell (p := ⟨bx, ox + 5 + 4, none⟩) hbx).trans d9
  have D := Lib.hid (And.intro D0 (And.intro D1 (And.intro D2 (And.intro D3 (And.intro D4 (And.intro D5 (And.intro D6 (And.intro D7 (And.intro D8 D9)))))))))
  have HBX := Lib.hid hbx
  have HOE := Lib.hid oE
  have HOR := Lib.hid oR
  have HB0 := Lib.hid hbw
  have HZ := Lib.hid hz
  have HLen := Lib.hid hlen
  have HX := Lib.hid HX
  have HY := Lib.hid HY
  have e0 := obj_cell oE (i := 0) rfl
  have e3 := obj_cell oE (i := 3) rfl
  have ye := heap_lt oE
  have mixed : Tryd.prog.follows .mixedOrders = true := by kernel_rfl
  clear hW0 oE oR hbw dV dV' hr hrow q1 q2 d0 d1 d2 d3 d4 d5 d6 d7 d8 d9 D0 D1 D2 D3 D4 D5 D6 D7 D8 D9 hbx hz hlen
  go_enter Tryd.func53, Tryd.ntmps53
  go_upto_region 1 with fail
  rw [← HW0.out]
  go_upto_region 6 with fail
  clear e0 e3 ye
  have R0 := Lib.hid (show W0.drew.heap[w.heap.size + 1]? = _ from HOR.out)
  have B0 := Lib.hid (show Below w.heap.size w W0.drew from HB0.out.drew)
  have hT0 : Kept w.heap.size w.heap.size w.heap.size _ _ _ w W0.drew := ⟨⟨HOE.out, HOE.out, HOE.out⟩, B0.out⟩
  clear HOE HOR HB0 HW0
  refine wp_region_held_drew (S := (fun w' => Kept w.heap.size w.heap.size w.heap.size (.cells #[.int .i64 7, .int .i64 0, .int .i64 0, .int .i64 15, .slice (some ⟨bx, ox, none⟩) 2 sc] 37) (.cells #[.int .i64 7, .int .i64 0, .int .i64 0, .int .i64 15, .slice (some ⟨bx, ox, none⟩) 2 sc] 37) (.cells #[.int .i64 7, .int .i64 0, .int .i64 0, .int .i64 15, .slice (some ⟨bx, ox, none⟩) 2 sc] 37) w w')) (by kernel_rfl) ?_ (fun hHeld => ?_)
  · (try dsimp only); exact hT0
  refine tk 0 (v := ?_) (hy := ?_) (h := ?_); rotate_left
  · intro _ _; go_simp <;> with_reducible rfl
  try simp only [pu, pa, pz, ps]
  refine tk 1 (v := ?_) (hy := ?_) (h := ?_); rotate_left
  · intro wt hSw; (try dsimp only at hSw); have e4 := obj_cell hSw.o.e (i := 4) rfl; have ye := heap_lt hSw.o.e; have yb := Nat.lt_of_lt_of_le HBX.out hSw.b.size; obtain ⟨D0, D1, D2, D3, D4, D5, D6, D7, D8, D9⟩ := D.out; have c0 := D0 wt hSw.b; have c1 := D1 wt hSw.b; have c2 := D2 wt hSw.b; have c3 := D3 wt hSw.b; have c4 := D4 wt hSw.b; have c5 := D5 wt hSw.b; have c6 := D6 wt hSw.b; have c7 := D7 wt hSw.b; have c8 := D8 wt hSw.b; have c9 := D9 wt hSw.b; clear D0 D1 D2 D3 D4 D5 D6 D7 D8 D9; go_simp <;> with_reducible rfl
  try simp only [pu, pa, pz, ps]
  refine tk 2 (v := ?_) (hy := ?_) (h := ?_); rotate_left
  · intro _ _; go_simp <;> with_reducible rfl
  try simp only [pu, pa, pz, ps]
  refine tk 3 (v := ?_) (hy := ?_) (h := ?_); rotate_left
  · intro wt hSw; (try dsimp only at hSw); have e4 := obj_cell hSw.o.e (i := 4) rfl; have ye := heap_lt hSw.o.e; have yb := Nat.lt_of_lt_of_le HBX.out hSw.b.size; obtain ⟨D0, D1, D2, D3, D4, D5, D6, D7, D8, D9⟩ := D.out; have c0 := D0 wt hSw.b; have c1 := D1 wt hSw.b; have c2 := D2 wt hSw.b; have c3 := D3 wt hSw.b; have c4 := D4 wt hSw.b; have c5 := D5 wt hSw.b; have c6 := D6 wt hSw.b; have c7 := D7 wt hSw.b; have c8 := D8 wt hSw.b; have c9 := D9 wt hSw.b; clear D0 D1 D2 D3 D4 D5 D6 D7 D8 D9; go_simp <;> with_reducible rfl
  try simp only [pu, pa, pz, ps]
  refine tk 5 (v := ?_) (hy := ?_) (h := ?_); rotate_left
  · intro _ _; go_simp <;> with_reducible rfl
  try simp only [pu, pa, pz, ps]
  refine tk 6 (v := ?_) (hy := ?_) (h := ?_); rotate_left
  · intro wt hSw; (try dsimp only at hSw); have e4 := obj_cell hSw.o.e (i := 4) rfl; have ye := heap_lt hSw.o.e; have yb := Nat.lt_of_lt_of_le HBX.out hSw.b.size; obtain ⟨D0, D1, D2, D3, D4, D5, D6, D7, D8, D9⟩ := D.out; have c0 := D0 wt hSw.b; have c1 := D1 wt hSw.b; have c2 := D2 wt hSw.b; have c3 := D3 wt hSw.b; have c4 := D4 wt hSw.b; have c5 := D5 wt hSw.b; have c6 := D6 wt hSw.b; have c7 := D7 wt hSw.b; have c8 := D8 wt hSw.b; have c9 := D9 wt hSw.b; clear D0 D1 D2 D3 D4 D5 D6 D7 D8 D9; go_simp <;> with_reducible rfl
  try simp only [pu, pa, pz, ps]
  refine tk 7 (v := ?_) (hy := ?_) (h := ?_); rotate_left
  · intro _ _; go_simp <;> with_reducible rfl
  try simp only [pu, pa, pz, ps]
  refine tk 8 (v := ?_) (hy := ?_) (h := ?_); rotate_left
  · intro wt hSw; (try dsimp only at hSw); have e4 := obj_cell hSw.o.e (i := 4) rfl; have ye := heap_lt hSw.o.e; have yb := Nat.lt_of_lt_of_le HBX.out hSw.b.size; obtain ⟨D0, D1, D2, D3, D4, D5, D6, D7, D8, D9⟩ := D.out; have c0 := D0 wt hSw.b; have c1 := D1 wt hSw.b; have c2 := D2 wt hSw.b; have c3 := D3 wt hSw.b; have c4 := D4 wt hSw.b; have c5 := D5 wt hSw.b; have c6 := D6 wt hSw.b; have c7 := D7 wt hSw.b; have c8 := D8 wt hSw.b; have c9 := D9 wt hSw.b; clear D0 D1 D2 D3 D4 D5 D6 D7 D8 D9; go_simp <;> with_reducible rfl
  try simp only [pu, pa, pz, ps]
  refine wpAnyH_ready (rs := [4]) (by kernel_rfl) (by simp) ?_
  refine AllReadyH.cons (o := ⟨_, _, _, _, _, _⟩) rfl (fun K hK => ?_) AllReadyH.nil
  go_simp
  refine (HX.out _ _ (HVx.out _ B0.out)).mono ?_; rintro r v1 ⟨z0, rfl, hz0, hb⟩; have hb1 := Lib.hid hb; clear hb
  go_wp2_with fail
  refine hK.out _ _ ?_ (fun hHeld => ?_)
  · (try dsimp only); exact hHeld.below hb1.out
  clear hK K
  have R1 := Lib.hid (obj_below R0.out hb1.out (heap_lt R0.out))
  have B1 := Lib.hid (B0.out.trans (hb1.out.mono B0.out.size))
  have Z0 := Lib.hid hz0
  clear hz0
  try simp only [pu, pa, pz, ps]
  refine wpAnyH_ready (rs := [9]) (by kernel_rfl) (by simp) ?_
  refine AllReadyH.cons (o := ⟨_, _, _, _, _, _⟩) rfl (fun K hK => ?_) AllReadyH.nil
  go_simp
  refine (HY.out _ _ (HVy.out _ B1.out)).mono ?_; rintro r v2 ⟨z1, rfl, hz1, hb⟩; have hb2 := Lib.hid hb; clear hb
  go_wp2_with fail
  refine hK.out _ _ ?_ (fun hHeld => ?_)
  · (try dsimp only); exact hHeld.below hb2.out
  clear hK K
  have R2 := Lib.hid (obj_below R1.out hb2.out (heap_lt R1.out))
  have B2 := Lib.hid (B1.out.trans (hb2.out.mono B1.out.size))
  have Z1 := Lib.hid hz1
  have Z0 := Lib.hid (Z0.out.below hb2.out)
  clear hz1
  obtain ⟨a1, k1, c1, b1, j1, d1, hz0, hj1, hn1, he1, hr1⟩ := nt_form Z0.out
  obtain ⟨a2, k2, c2, b2, j2, d2, hz1, hj2, hn2, he2, hr2⟩ := nt_form Z1.out
  clear hj1 hn1 he1 hr1 hj2 hn2 he2 hr2
  rw [hz0] at Z0
  rw [hz1] at Z1
  rw [hz0, hz1]
  clear hz0 hz1
  have hb3 := Lib.hid (show Below v2.heap.size v2 (v2.alloc (.cells #[.int .i64 nx.kind, .int .i64 nx.neg, .int .i64 nx.e.op, .int .i64 nx.e.t, .int .i64 nx.e.n, .int .i64 nx.e.m, .slice a1 k1 c1, .slice b1 j1 d1, .int .i64 ny.kind, .int .i64 ny.neg, .int .i64 ny.e.op, .int .i64 ny.e.t, .int .i64 ny.e.n, .int .i64 ny.e.m, .slice a2 k2 c2, .slice b2 j2 d2] 54)) by (repeat' (first | (with_reducible exact Below.refl _ _) | (with_reducible assumption) | (with_reducible refine below_drewN ?_ _) | (with_reducible refine Below.alloc ?_ ?_ _) | (with_reducible refine Below.drew ?_) | (with_reducible refine Below.setCell ?_ ?_ _) | go_size)))
  have ROW := Lib.hid (row_nt2 (C := [.int .i64 nx.kind, .int .i64 nx.neg, .int .i64 nx.e.op, .int .i64 nx.e.t, .int .i64 nx.e.n, .int .i64 nx.e.m, .slice a1 k1 c1, .slice b1 j1 d1]) (D := [.int .i64 ny.kind, .int .i64 ny.neg, .int .i64 ny.e.op, .int .i64 ny.e.t, .int .i64 ny.e.n, .int .i64 ny.e.m, .slice a2 k2 c2, .slice b2 j2 d2]) (show (v2.alloc (.cells #[.int .i64 nx.kind, .int .i64 nx.neg, .int .i64 nx.e.op, .int .i64 nx.e.t, .int .i64 nx.e.n, .int .i64 nx.e.m, .slice a1 k1 c1, .slice b1 j1 d1, .int .i64 ny.kind, .int .i64 ny.neg, .int .i64 ny.e.op, .int .i64 ny.e.t, .int .i64 ny.e.n, .int .i64 ny.e.m, .slice a2 k2 c2, .slice b2 j2 d2] 54)).heap[v2.heap.size]? = _ from get_last rfl) rfl rfl (ntR_of (Z0.out.below hb3.out)) (ntR_of (Z1.out.below hb3.out)))
  try simp only [pu, pa, pz, ps]
  refine wpAnyH_ready (rs := [10]) (by kernel_rfl) (by simp) ?_
  refine AllReadyH.cons (o := ⟨_, _, _, _, _, _⟩) rfl (fun K hK => ?_) AllReadyH.nil
  go_simp
  refine hK.out _ _ ?_ (fun hHeld => ?_)
  · (try dsimp only); exact hHeld.below hb3.out
  clear hK K
  have R3 := Lib.hid (obj_below R2.out hb3.out (heap_lt R2.out))
  have B3 := Lib.hid (B2.out.trans (hb3.out.mono B2.out.size))
  try simp only [pu, pa, pz, ps]
  refine wpAnyH_ready (rs := [11]) (by kernel_rfl) (by simp) ?_
  refine AllReadyH.cons (o := ⟨_, _, _, _, _, _⟩) rfl (fun K hK => ?_) AllReadyH.nil
  go_simp
  refine (net_join 3 [nx, ny] _ _ (by unfold I64; omega) ROW.out HLen.out (by simp)).mono ?_; rintro r v4 ⟨z2, rfl, hz2, hb⟩; have hb4 := Lib.hid hb; clear hb
  go_wp2_with fail
  refine hK.out _ _ ?_ (fun hHeld => ?_)
  · (try dsimp only); exact hHeld.below hb4.out
  clear hK K
  have R4 := Lib.hid (obj_below R3.out hb4.out (heap_lt R3.out))
  have B4 := Lib.hid (B3.out.trans (hb4.out.mono B3.out.size))
  have Z2 := Lib.hid (show NtV v4 z2 (joinN 3 [nx, ny]) from hz2)
  clear hz2
  obtain ⟨n9, hn9⟩ : ∃ n9, joinN 3 [nx, ny] = n9 := ⟨_, rfl⟩
  have HN9 := Lib.hid hn9
  rw [hn9] at Z2 HZ
  clear hn9
  obtain ⟨a, k, c, b, j, d, hzf, hj1, hn1, he1, hr1⟩ := nt_form Z2.out
  clear hj1 hn1 he1 hr1
  rw [hzf] at Z2
  rw [hzf]
  clear hzf
  obtain ⟨f0, f1, f2, f3, f4, f5, f6, f7⟩ := frozen8 R4.out
  obtain ⟨g0, g1, g2, g3, g4, g5, g6, g7⟩ := boxed_nt8 R4.out
  have yr := heap_lt R4.out
  try simp only [pu, pa, pz, ps]
  refine wpAnyH_ready (rs := [12]) (by kernel_rfl) (by simp) ?_
  refine AllReadyH.cons (o := ⟨_, _, _, _, _, _⟩) rfl (fun K hK => ?_) AllReadyH.nil
  go_simp
  refine hK.out _ _ ?_ (fun hHeld => ?_)
  · (try dsimp only); exact ⟨⟨(sets_get8 (by omega) ..).trans hHeld.o.e, (sets_get8 (by omega) ..).trans hHeld.o.a, (sets_get8 (by omega) ..).trans hHeld.o.b⟩, sets_below8 hHeld.b (by omega) ..⟩
  clear hK K
  try simp only [pu, pa, pz, ps]
  refine wpAnyH_done (by kernel_rfl) ?_ _
  clear hHeld
  go_wp2_with fail
  obtain ⟨w5, hW5, oo, HE, HB3⟩ := store_nt R4.out Z2.out HZ.out B4.out (by omega)
  rw [← hW5]
  obtain ⟨e0, e1, e2, e3, e4, e5, e6, e7⟩ := boxed_nt8 oo
  refine bodyPost_ret (by simp [results, Tryd.results53, go_sem, e0, e1, e2, e3, e4, e5, e6, e7]; try rfl) rfl ?_
  exact ⟨_, rfl, by rw [HN9.out]; exact HE, HB3⟩
theorem net_of {e : Ex} (h : NF e) (hs : sizeE e ≤ 5000) : OfQ e (netE e) := by
  induction h with
  | leaf e h0 h6 h7 h9 => rw [netE_leaf e h6 h7]; exact of_leaf e h6 h7
  | un x h0 h9 => rw [netE_un]; exact of_un x h0
  | bin m x y hm hx hy ix iy =>
    have hsz : sizeE (binE m x y) = 1 + (sizeE x + sizeE y) := by rw [sizeE_mk]; simp [binE]
    obtain ⟨t1, t2, t3⟩ := net_told (NF.bin m x y hm hx hy)
    rcases hm with rfl | rfl
    · rw [netE_and] at t2 t3 ⊢
      exact of_and x y _ _ t2 (by have h9 : ([netE x, netE y].flatMap (joinL 2)).length = (joinN 2 [netE x, netE y]).l.length := rfl; omega) (ix (by omega)) (iy (by omega))
    · rw [netE_or] at t2 t3 ⊢
      exact of_or x y _ _ t2 (by have h9 : ([netE x, netE y].flatMap (joinL 3)).length = (joinN 3 [netE x, netE y]).l.length := rfl; omega) (ix (by omega)) (iy (by omega))
end Go.Proofs.YtknbomikiakpmaaDoor
/- Layer 44: net.From; awake. -/
namespace Go.Proofs.YtknbomikiakpmaaDoor
open Go.RowKit
open NN
set_option linter.unusedSimpArgs false
set_option linter.unusedVariables false
theorem size_bin (m : Int) (x y : Ex) : sizeE (binE m x y) = 1 + (sizeE x + sizeE y) := by rw [sizeE_mk]; simp [binE]
theorem size_as {s : Sc} (e : Ex) : truE s e = true → cntE s e ≤ 24 → (sizeE (asE e).1 : Int) + 1 ≤ 3 * cntE s e ∧ (sizeE (asE e).2 : Int) + 1 ≤ 3 * cntE s e := by
  induction e using Ex.ind with
  | h op t n m l ih =>
    intro ht hc
    rcases tru_cases ht with ⟨h1, h0⟩ | ⟨x, hx, hxt⟩ | ⟨m', x, y, hx, hxt, hyt, hj⟩
    · have hop := leaf_op h1
      have hc1 : cntE s ⟨op, t, n, m, l⟩ = 1 := by
        rw [cntE_leaf s _ (leaf_not h1).1 (by rw [(leaf_not h1).2]; rfl), if_pos (by rw [leaf_same]; exact h1)]
      have hs1 : sizeE ⟨op, t, n, m, l⟩ = 1 := by simp only at h0; rw [sizeE_mk, h0]; rfl
      simp only at hop
      rw [hc1, asE_mk, if_neg (by simp only; omega), if_neg (by simp only; omega)]
      refine ⟨by simp only [hs1]; omega, ?_⟩
      show ((sizeE (if op = 1 then _ else _) : Nat) : Int) + 1 ≤ 3 * 1
      split
      · rw [sizeE_mk]; simp
      · rw [sizeE_mk]; simp [hs1]
    · have e1 := ih x (by injection hx with _ _ _ _ hl; rw [hl]; simp) hxt
      rw [hx] at hc ⊢
      rw [cntE_un] at hc ⊢
      rw [as_un]
      exact ⟨(e1 hc).2, (e1 hc).1⟩
    · have e1 := ih x (by injection hx with _ _ _ _ hl; rw [hl]; simp) hxt
      have e2 := ih y (by injection hx with _ _ _ _ hl; rw [hl]; simp) hyt
      have hjp : (jun m' || par m') = true := by rcases hj with h | h <;> simp [h]
      rw [hx] at hc ⊢
      rw [cntE_bin s m' x y hjp] at hc ⊢
      obtain ⟨bx1, bx2⟩ := (cnt_told s x).1
      obtain ⟨by1, by2⟩ := (cnt_told s y).1
      rw [as_bin]
      unfold cntF at hc ⊢
      rw [jp_iff] at hjp
      rcases hjp with rfl | rfl | rfl | rfl | rfl <;> simp [par, size_bin] at hc ⊢ <;> (split at hc <;> first | omega | (obtain ⟨i1, i2⟩ := e1 (by omega); obtain ⟨k1, k2⟩ := e2 (by omega); rw [if_pos (by assumption)]; omega))
theorem size_form {s : Sc} {e : Ex} (h : truE s e = true) (hc : cntE s e ≤ 24) : sizeE (formE e false) ≤ 5000 := by
  rw [(form_same s e h).1]
  have := (size_as e h hc).1
  omega
set_option maxRecDepth 100000 in
set_option maxHeartbeats 4000000 in
theorem net_From_yes (a b c d : Value) (s : Sc) (e : Ex) (w : World) (v : Value) (he : SmallE 300 e) (hs : ScAt w a b d s) (hv : ExV w v e) (hg : AGoes w) (hT : BTab w) (hc : ¬ 24 < cntE s e) :
    Calls Tryd.prog 28 #[.agg #[a, b, c, d], v] w fun r w' => ∃ z, r = .returned (.tuple #[z, .bool true]) ∧ NtV w' z (netE (formE e false)) ∧ Below w.heap.size w w' := by
  have htr : truE s e = true := by
    cases ht : truE s e with
    | true => rfl
    | false => have := (cnt_told s e).2.1 ht; omega
  have HN := Lib.hid (fun W (hb : Below w.heap.size w W) => nnf_Norm_yes a b c d s e W v he (hs.below hb) (hv.below hb) (hg.below hb) (hT.below hb) hc)
  have HZ := Lib.hid (net_told (nf_form htr false)).2.1
  have HO := Lib.hid (net_of (nf_form htr false) (size_form htr (by omega)))
  generalize netE (formE e false) = n9 at *
  generalize formE e false = y at *
  obtain ⟨sl, rfl, hr, hrow⟩ := hv
  obtain ⟨sa, sc, rfl⟩ := row_get hrow
  obtain ⟨N, hN⟩ : ∃ N, e.l.length = N := ⟨_, rfl⟩
  rw [hN] at HN ⊢
  generalize e.op = p1 at *
  generalize e.t = p2 at *
  generalize e.n = p3 at *
  generalize e.m = p4 at *
  obtain ⟨W0, hW0⟩ : ∃ W0, W0 = ((w.alloc (.cells #[a, b, c, d] 43)).alloc (.cells #[.int .i64 p1, .int .i64 p2, .int .i64 p3, .int .i64 p4, .slice sa N sc] 37)).alloc (.cells zero8 54) := ⟨_, rfl⟩
  have oR : W0.heap[w.heap.size + 1 + 1]? = some (.cells zero8 54) := by rw [hW0]; exact get_last (by simp)
  have hbw : Below w.heap.size w W0 := by rw [hW0]; exact by (repeat' (first | (with_reducible exact Below.refl _ _) | (with_reducible assumption) | (with_reducible refine below_drewN ?_ _) | (with_reducible refine Below.alloc ?_ ?_ _) | (with_reducible refine Below.drew ?_) | (with_reducible refine Below.setCell ?_ ?_ _) | go_size))
  have HW0 := Lib.hid hW0
  have HB0 := Lib.hid hbw
  have HOR := Lib.hid oR
  clear hW0 hr hrow he hs hg hT hc hN hbw htr oR
  go_enter Tryd.func28, Tryd.ntmps28
  go_wp2_with fail
  rw [← HW0.out]
  refine (HN.out _ HB0.out).mono ?_; rintro r w1 ⟨z, rfl, hz, hb⟩
  have R1 := Lib.hid (obj_below HOR.out hb (heap_lt HOR.out))
  have B1 := Lib.hid (HB0.out.trans (hb.mono HB0.out.size))
  obtain ⟨aa, k, cc, rfl⟩ := ex_form hz
  have HX := Lib.hid hz
  clear hb hz HW0 HB0 HN HOR
  generalize y.op = y1 at *
  generalize y.t = y2 at *
  generalize y.n = y3 at *
  generalize y.m = y4 at *
  go_upto_region 4 with fail
  have hb2 : Below w1.heap.size w1 (w1.alloc (.cells #[.int .i64 y1, .int .i64 y2, .int .i64 y3, .int .i64 y4, .slice aa k cc] 37)) := by (repeat' (first | (with_reducible exact Below.refl _ _) | (with_reducible assumption) | (with_reducible refine below_drewN ?_ _) | (with_reducible refine Below.alloc ?_ ?_ _) | (with_reducible refine Below.drew ?_) | (with_reducible refine Below.setCell ?_ ?_ _) | go_size))
  have oF : (w1.alloc (.cells #[.int .i64 y1, .int .i64 y2, .int .i64 y3, .int .i64 y4, .slice aa k cc] 37)).heap[w1.heap.size]? = some (.cells #[.int .i64 y1, .int .i64 y2, .int .i64 y3, .int .i64 y4, .slice aa k cc] 37) := get_last rfl
  generalize w1.alloc (.cells #[.int .i64 y1, .int .i64 y2, .int .i64 y3, .int .i64 y4, .slice aa k cc] 37) = w2 at *
  have R2 := Lib.hid (obj_below R1.out hb2 (heap_lt R1.out))
  have B2 := Lib.hid (B1.out.trans (hb2.mono B1.out.size))
  have HX2 := Lib.hid (HX.out.below hb2)
  obtain ⟨e0, e1, e2, e3, e4⟩ := boxed_ex5 oF
  have yf := heap_lt oF
  clear hb2 oF R1 B1 HX
  generalize w1.heap.size = g at *
  go_wp2_with fail
  refine (HO.out _ _ HX2.out).mono ?_; rintro r w4 ⟨z, rfl, hz, hb⟩
  have R4 := Lib.hid (obj_below R2.out hb (heap_lt R2.out))
  have B4 := Lib.hid (B2.out.trans (hb.mono B2.out.size))
  have Z4 := Lib.hid hz
  obtain ⟨a, k, c, b, j, d, hzf, hj1, hn1, he1, hr1⟩ := nt_form hz
  subst hzf
  clear hb hz hj1 hn1 he1 hr1 e0 e1 e2 e3 e4 yf
  obtain ⟨f0, f1, f2, f3, f4, f5, f6, f7⟩ := frozen8 R4.out
  obtain ⟨g0, g1, g2, g3, g4, g5, g6, g7⟩ := boxed_nt8 R4.out
  have yr := heap_lt R4.out
  go_wp2_with fail
  obtain ⟨w5, hW5, oo, HE, HB3⟩ := store_nt R4.out Z4.out HZ.out B4.out (by omega)
  rw [← hW5]
  obtain ⟨e0, e1, e2, e3, e4, e5, e6, e7⟩ := boxed_nt8 oo
  refine bodyPost_ret (by simp [results, Tryd.results28, go_sem, e0, e1, e2, e3, e4, e5, e6, e7]; try rfl) rfl ?_
  exact ⟨_, rfl, HE, HB3⟩
end Go.Proofs.YtknbomikiakpmaaDoor

/- Layer 44: awake. -/
namespace Go.Proofs.YtknbomikiakpmaaDoor
open Go.RowKit
open NN
set_option linter.unusedSimpArgs false
set_option linter.unusedVariables false
def and2 : Ex := ⟨7, 0, 0, 14, [aE, aE]⟩
def and3 : Ex := ⟨7, 0, 0, 14, [aE, and2]⟩
def sc1 : Sc := ⟨[], [], [1]⟩
def naN : Nt := ⟨1, 0, aE, []⟩
def resN : Nt := ⟨2, 0, ex0, [naN, naN, naN]⟩
theorem leaf_a1 : leafB sc1 aE = true := by
  unfold leafB
  rw [ty_nil sc1 aE rfl]
  decide
theorem cnt_awake44 : cntE sc1 and3 = 3 := by
  unfold and3 and2
  rw [cntE_bin _ _ _ _ (by decide), cntE_bin _ _ _ _ (by decide), cntE_leaf sc1 aE (by decide) (by decide), leaf_a1]
  decide
theorem net_a : netE aE = naN := netE_leaf aE (by decide) (by decide)
theorem form_and2 : formE and2 false = binE 14 aE aE := by
  unfold and2
  rw [form_bin, if_pos (by decide), form_leaf aE _ (by decide) (by decide)]
  rfl
theorem form_and3 : formE and3 false = binE 14 aE (binE 14 aE aE) := by
  unfold and3
  rw [form_bin, if_pos (by decide), form_leaf aE _ (by decide) (by decide), form_and2]
  rfl
theorem net_awake44 : netE (formE and3 false) = resN := by
  rw [form_and3, netE_and, netE_and, net_a]
  simp [joinN, joinL, naN, resN]
theorem small_awake44 : SmallE 300 and3 := by
  have h : sizeE and3 = 5 := by
    unfold and3 and2 aE
    simp [sizeE_mk]
  unfold SmallE
  rw [h]; omega
theorem size_a : sizeE aE = 1 := by unfold aE; rw [sizeE_mk]; rfl
theorem size_0 : sizeE ex0 = 1 := by unfold ex0; rw [sizeE_mk]; rfl
theorem small_res : SmallN resN := by
  have h1 : sizeN naN = 1 := by unfold naN; rw [sizeN_mk]; rfl
  refine ⟨?_, (smallEs_mk _).2 ⟨by show SmallE 300 ex0; unfold SmallE; rw [size_0]; omega, fun x hx => ?_⟩⟩
  · have h : sizeN resN = 4 := by unfold resN; rw [sizeN_mk]; simp [h1]
    rw [h]; omega
  · have hx' : x = naN := by simpa [resN] using hx
    subst hx'
    exact (smallEs_mk _).2 ⟨by show SmallE 300 aE; unfold SmallE; rw [size_a]; omega, by simp [naN]⟩
theorem cnt_res : cntN resN = 3 := by
  have h1 : cntN naN = 1 := by rw [cntN_mk]; rfl
  rw [cntN_mk]
  simp [resN, h1]
set_option maxRecDepth 100000 in
set_option maxHeartbeats 4000000 in
theorem law44_awake (w : World) (hg : AGoes w) (hT : BTab w) : Calls Tryd.prog 20 #[] w fun r w' => r = .returned (.bool true) ∧ Below w.heap.size w w' := by
  have HN := Lib.hid (fun W v (a b c d : Value) (h : Below w.heap.size w W) (hs : ScAt W a b d sc1) (hv : ExV W v and3) => net_From_yes a b c d sc1 and3 W v small_awake44 hs hv (hg.below h) (hT.below h) (by rw [cnt_awake44]; decide))
  rw [net_awake44] at HN
  have HCt := Lib.hid (fun W v (hv : NtV W v resN) => net_Contacts resN small_res W v hv)
  rw [cnt_res] at HCt
  clear hg hT
  obtain ⟨W0, hW0⟩ : ∃ W0, W0 = ((((w.alloc (.cells #[.int .i64 1] 3)).alloc (.cells #[.slice none 0 0, .slice none 0 0, .slice none 0 0, .slice (some ⟨w.heap.size, 0, none⟩) 1 1] 43)).alloc (.cells #[.int .i64 3, .int .i64 0, .int .i64 0, .int .i64 0, .slice none 0 0] 37)).alloc (.cells #[.int .i64 3, .int .i64 0, .int .i64 0, .int .i64 0, .slice none 0 0, .int .i64 3, .int .i64 0, .int .i64 0, .int .i64 0, .slice none 0 0] 37)).alloc (.cells #[.int .i64 3, .int .i64 0, .int .i64 0, .int .i64 0, .slice none 0 0, .int .i64 7, .int .i64 0, .int .i64 0, .int .i64 14, .slice (some ⟨w.heap.size + 1 + 1 + 1, 0, none⟩) 2 2] 37) := ⟨_, rfl⟩
  have o0 : W0.heap[w.heap.size]? = some (.cells #[.int .i64 1] 3) := by rw [hW0]; exact (get_past (by simp; omega)).trans ((get_past (by simp; omega)).trans ((get_past (by simp; omega)).trans ((get_past (by simp)).trans (get_last rfl))))
  have o3 : W0.heap[w.heap.size + 1 + 1 + 1]? = some (.cells #[.int .i64 3, .int .i64 0, .int .i64 0, .int .i64 0, .slice none 0 0, .int .i64 3, .int .i64 0, .int .i64 0, .int .i64 0, .slice none 0 0] 37) := by rw [hW0]; exact (get_past (by simp)).trans (get_last (by simp))
  have o4 : W0.heap[w.heap.size + 1 + 1 + 1 + 1]? = some (.cells #[.int .i64 3, .int .i64 0, .int .i64 0, .int .i64 0, .slice none 0 0, .int .i64 7, .int .i64 0, .int .i64 0, .int .i64 14, .slice (some ⟨w.heap.size + 1 + 1 + 1, 0, none⟩) 2 2] 37) := by rw [hW0]; exact get_last (by simp)
  have hb0 : Below w.heap.size w W0 := by rw [hW0]; exact by (repeat' (first | (with_reducible exact Below.refl _ _) | (with_reducible assumption) | (with_reducible refine below_drewN ?_ _) | (with_reducible refine Below.alloc ?_ ?_ _) | (with_reducible refine Below.drew ?_) | (with_reducible refine Below.setCell ?_ ?_ _) | go_size))
  have i64 : ∀ z : Int, 0 ≤ z ∧ z ≤ 100 → I64 z := fun z h => by unfold I64; omega
  have hro : RowR 1 intR W0 (.slice (some ⟨w.heap.size, 0, none⟩) 1 1) [1] := by
    refine Or.inr ⟨w.heap.size, 0, 1, rfl, by simp, by simp, by unfold maxLen; decide, heap_lt o0, fun i z hz => ?_⟩
    have hi : i = 0 := by have := lt_of_get hz; simp at this; exact this
    subst hi
    obtain rfl : (1 : Int) = z := by simpa using hz
    exact ⟨[.int .i64 1], rfl, fun j u hu => obj_cell o0 (by have := lt_of_get hu; simp at this; subst this; simpa using hu), rfl, i64 _ (by omega)⟩
  have hsc : ScAt W0 (.slice none 0 0) (.slice none 0 0) (.slice (some ⟨w.heap.size, 0, none⟩) 1 1) sc1 := ⟨row_none, row_none, hro⟩
  have ha : ExV W0 (.agg #[.int .i64 3, .int .i64 0, .int .i64 0, .int .i64 0, .slice none 0 0]) aE := exV_lit ⟨i64 _ (by omega), i64 _ (by omega), i64 _ (by omega), i64 _ (by omega)⟩ row_none
  have hand : ExV W0 (.agg #[.int .i64 7, .int .i64 0, .int .i64 0, .int .i64 14, .slice (some ⟨w.heap.size + 1 + 1 + 1, 0, none⟩) 2 2]) and2 := exV_lit ⟨i64 _ (by omega), i64 _ (by omega), i64 _ (by omega), i64 _ (by omega)⟩ (row_ex2 (C := exC 3 0 0 0 (.slice none 0 0)) (D := exC 3 0 0 0 (.slice none 0 0)) o3 rfl rfl (exR_of ha) (exR_of ha))
  have hnot : ExV W0 (.agg #[.int .i64 7, .int .i64 0, .int .i64 0, .int .i64 14, .slice (some ⟨w.heap.size + 1 + 1 + 1 + 1, 0, none⟩) 2 2]) and3 := exV_lit ⟨i64 _ (by omega), i64 _ (by omega), i64 _ (by omega), i64 _ (by omega)⟩ (row_ex2 (C := exC 3 0 0 0 (.slice none 0 0)) (D := exC 7 0 0 14 (.slice (some ⟨w.heap.size + 1 + 1 + 1, 0, none⟩) 2 2)) o4 rfl rfl (exR_of ha) (exR_of hand))
  have HC := Lib.hid (HN.out W0 _ (.slice none 0 0) (.slice none 0 0) (.slice none 0 0) _ hb0 hsc hnot)
  have HB0 := Lib.hid hb0
  have HW0 := Lib.hid hW0
  clear hW0 o0 o3 o4 hb0 i64 hro hsc ha hand hnot HN
  go_enter Tryd.func20, Tryd.ntmps20
  go_wp2_with fail
  rw [← HW0.out]
  refine HC.out.mono ?_; rintro r w2 ⟨z, rfl, hz, hb⟩
  have HB2 := Lib.hid (HB0.out.trans (hb.mono HB0.out.size))
  have HZ := Lib.hid hz
  obtain ⟨a, k, c, b, j, d, hzf, hj, hn1, he1, hr1⟩ := nt_form hz
  have hj3 : j = 3 := hj
  subst hj3
  subst hzf
  have r0 : resN.kind = 2 := rfl
  have r1 : resN.neg = 0 := rfl
  have r2 : resN.e.op = 0 := rfl
  have r3 : resN.e.t = 0 := rfl
  have r4 : resN.e.n = 0 := rfl
  have r5 : resN.e.m = 0 := rfl
  rw [r0, r1, r2, r3, r4, r5] at HZ ⊢
  clear r0 r1 r2 r3 r4 r5 hz hj hn1 he1 hr1 hb
  go_upto_region 4 with fail
  have oN : (w2.alloc (.cells #[.int .i64 2, .int .i64 0, .int .i64 0, .int .i64 0, .int .i64 0, .int .i64 0, .slice a k c, .slice b 3 d] 54)).heap[w2.heap.size]? = some (.cells #[.int .i64 2, .int .i64 0, .int .i64 0, .int .i64 0, .int .i64 0, .int .i64 0, .slice a k c, .slice b 3 d] 54) := get_last rfl
  have hb3 : Below w2.heap.size w2 (w2.alloc (.cells #[.int .i64 2, .int .i64 0, .int .i64 0, .int .i64 0, .int .i64 0, .int .i64 0, .slice a k c, .slice b 3 d] 54)) := by (repeat' (first | (with_reducible exact Below.refl _ _) | (with_reducible assumption) | (with_reducible refine below_drewN ?_ _) | (with_reducible refine Below.alloc ?_ ?_ _) | (with_reducible refine Below.drew ?_) | (with_reducible refine Below.setCell ?_ ?_ _) | go_size))
  generalize w2.alloc (.cells #[.int .i64 2, .int .i64 0, .int .i64 0, .int .i64 0, .int .i64 0, .int .i64 0, .slice a k c, .slice b 3 d] 54) = w3 at *
  have HB3 := Lib.hid (HB2.out.trans (hb3.mono HB2.out.size))
  have HZ3 := Lib.hid (HZ.out.below hb3)
  have yn := heap_lt oN
  obtain ⟨n0, n1, n2, n3, n4, n5, n6, n7⟩ := boxed_nt8 oN
  clear oN hb3 HB2 HB0 HW0 HZ HC
  generalize w2.heap.size = q at *
  go_wp2_with fail
  refine (HCt.out _ _ HZ3.out).mono ?_; rintro r w4 ⟨rfl, hb⟩
  have HB4 := Lib.hid (HB3.out.trans (hb.mono HB3.out.size))
  clear hb
  go_wp2_with fail
  go_ret
  exact ⟨rfl, HB4.out⟩
end Go.Proofs.YtknbomikiakpmaaDoor

/- Layer 44: the walk of NetTells. -/
namespace Go.Proofs.YtknbomikiakpmaaDoor
open Go.RowKit
open NN
set_option linter.unusedSimpArgs false
set_option linter.unusedVariables false
theorem netTells_walk (pa pb pc pd : Value) (p : Pr) (u : Int) (f g : Value) (s : St) (y : Value) (Y : List Int) (va : Value) (na : Nt) (vb : Value) (nb : Nt) (w : World) (hp : PrAt w pa pb pc pd p) (hs : StAt w f g s) (hy : RowR 1 intR w y Y) (hva : NtV w va na) (hvb : NtV w vb nb) (hg : AGoes w) (hT : BTab w) :
    Calls Tryd.prog 4 #[.agg #[pa, pb, pc, pd, .int .i64 u, f, g, .int .i64 s.now, .int .i64 s.fault, y], va, vb] w fun r w' => r = .returned (.bool true) ∧ Below w.heap.size w w' :=
  netTells_walk_of law44_awake pa pb pc pd p u f g s y Y va na vb nb w hp hs hy hva hvb hg hT
end Go.Proofs.YtknbomikiakpmaaDoor

/- Tables of structs and arrays: their cells, one behind the other. -/
namespace Go.Proofs.YtknbomikiakpmaaDoor
open Go.ChangeShapes Go.WideShapes Go.ChangeAt Go.RowKit
section
variable {P : Program}
def flatF {H : Type} : Nat → DataW H → List Value
  | _, .lit l => [leafVal (.lit l : DataW H)]
  | n + 1, .agg ds => ds.flatMap fun d => flatF n d
  | _, _ => []
theorem flatF_lit {H : Type} (n : Nat) (l : Lit) : flatF n (.lit l : DataW H) = [leafVal (.lit l : DataW H)] := by cases n <;> simp [flatF]
/-- a type of m cells that reads as what they hold -/
def FlatAt (P : Program) (t : TypeId) (n m : Nat) : Prop := ∀ {H : Type} (enc : TypeId × Value → H) (w : World) (base : Nat) (sp : Nat → Bool) (held : Bool) (fuel : Nat) (cs : List Value) (x : DataW H × List MemPlace),
  DataW.trod enc P w base sp held fuel t cs = some x → cs.length = m ∧ cs = flatF n x.1
theorem flatAt_int {e : TypeId} {k : IntKind} {n : Nat} (he : P.underlying e = some (.int k)) : FlatAt P e n 1 := by
  intro H enc w base sp held fuel cs x h
  obtain ⟨z, rfl, rfl, _⟩ := DataW.trod_int he h
  exact ⟨rfl, by simp [flatF_lit, leafVal]⟩
theorem flatAt_string {e : TypeId} {n : Nat} (he : P.underlying e = some .string) : FlatAt P e n 1 := by
  intro H enc w base sp held fuel cs x h
  obtain ⟨s, rfl, rfl, _⟩ := DataW.trod_string he h
  exact ⟨rfl, by simp [flatF_lit, leafVal]⟩
theorem cut_rows {H : Type} (f : DataW H → List Value) (m : Nat) : ∀ (n : Nat) (cs : List Value) (ys : List (DataW H)), cs.length = n * m → ys.length = n → (∀ i, i < n → ∃ y, ys[i]? = some y ∧ (cs.drop (i * m)).take m = f y) → cs = ys.flatMap f := by
  intro n
  induction n with
  | zero =>
    intro cs ys h1 h2 _
    obtain rfl : cs = [] := List.length_eq_zero_iff.1 (by omega)
    obtain rfl : ys = [] := List.length_eq_zero_iff.1 h2
    rfl
  | succ n ih =>
    intro cs ys h1 h2 h
    cases ys with
    | nil => simp at h2
    | cons y ys =>
      have h0 := h 0 (by omega)
      obtain ⟨y', hy, hc⟩ := h0
      obtain rfl : y = y' := by simpa using hy
      have hl : cs.length = n * m + m := by rw [h1]; rw [Nat.succ_mul]
      have hr := ih (cs.drop m) ys (by rw [List.length_drop]; omega) (by simpa using h2) (fun i hi => by
        obtain ⟨y'', hy, hc⟩ := h (i + 1) (by omega)
        refine ⟨y'', by simpa using hy, ?_⟩
        rw [List.drop_drop, ← hc]
        congr 2
        rw [Nat.succ_mul]; omega)
      rw [List.flatMap_cons, ← hr, ← hc]
      simp
theorem flatAt_array {t e : TypeId} {n m q : Nat} (ht : P.underlying t = some (.array n e)) (he : FlatAt P e q m) (hce : P.cellsOf e = m) (hct : P.cellsOf t = n * m) : FlatAt P t (q + 1) (n * m) := by
  intro H enc w base sp held fuel cs x h
  obtain ⟨xs, k, rfl, rfl, hl, hn, hall⟩ := DataW.trod_array ht h
  rw [hct] at hl
  refine ⟨hl, ?_⟩
  simp only [flatF]
  refine cut_rows _ m n cs _ hl (by simp [hn]) (fun i hi => ?_)
  have h1 := hall i hi
  obtain ⟨b, hb⟩ : ∃ b, xs[i]? = some b := ⟨xs[i], by simp [hn, hi]⟩
  rw [hb, hce] at h1
  exact ⟨b.1, by simp [hb], (he _ _ _ _ _ _ _ _ h1).2⟩
theorem flatAt_struct {t : TypeId} {fs : Array Field} {q : Nat} (ht : P.underlying t = some (.struct fs)) (hct : P.cellsOf t = fs.size)
    (hf : ∀ (i : Nat) (f : Field), fs[i]? = some f → FlatAt P f.type q 1 ∧ f.offset = i ∧ P.cellsOf f.type = 1) : FlatAt P t (q + 1) fs.size := by
  intro H enc w base sp held fuel cs x h
  obtain ⟨xs, k, rfl, rfl, hl, hn, hall⟩ := DataW.trod_struct ht h
  rw [hct] at hl
  refine ⟨hl, ?_⟩
  simp only [flatF]
  refine cut_rows _ 1 fs.size cs _ (by rw [hl]; omega) (by simp [hn]) (fun i hi => ?_)
  obtain ⟨f, hfi⟩ : ∃ f, fs[i]? = some f := ⟨fs[i], by simp [hi]⟩
  obtain ⟨h1, h2, h3⟩ := hf i f hfi
  have h4 := hall i f hfi
  obtain ⟨b, hb⟩ : ∃ b, xs[i]? = some b := ⟨xs[i], by simp [hn, hi]⟩
  rw [hb, h3, h2] at h4
  exact ⟨b.1, by simp [hb], by rw [Nat.mul_one]; exact (h1 _ _ _ _ _ _ _ _ h4).2⟩
/-- the cells of a table that stands first on the list -/
theorem laid_flat {W : World} {name : String} {d : DataW Unit} {rest : List (String × DataW Unit)} {g : Nat} {t : TypeId} {q m : Nat}
    (hg : P.globalNamed name = some g) (hty : (P.globals[g]?).map (·.type) = some t) (ht : FlatAt P t q m) (h : laidMet P ((name, d) :: rest) W) (i : Nat) : W.cell? ⟨g, i, none⟩ = (flatF q d)[i]? := by
  obtain ⟨ps, ⟨g', t', cs, fuel, p, r, hg', ht', hvar, hd, _, _⟩, _⟩ := h
  obtain rfl := Option.some.inj (hg.symm.trans hg')
  obtain rfl := Option.some.inj (hty.symm.trans ht')
  have := World.var?_cell hg hvar i
  rw [this, ← Array.getElem?_toList, (ht _ _ _ _ _ _ _ _ hd).2]
end
end Go.Proofs.YtknbomikiakpmaaDoor

/- Layer 11: what the rows' lists give. -/
namespace Go.Proofs.YtknbomikiakpmaaDoor
open Go.RowKit
theorem laidMet_of_H {l : List (String × DataW Unit)} {W : World} (h : laidMetH Tryd.prog l W) (hp : (l.all fun x => x.2.handleName?.isNone) = true) : laidMet Tryd.prog l W := (Go.MakeChecks.laidMetH_plain _ _ _ hp) ▸ h
theorem fields_case {fs : Array Field} {ts : Array (TypeId × Nat)} (h : fs.map (fun f => (f.type, f.offset)) = ts) {i : Nat} {f : Field} (hf : fs[i]? = some f) : ts[i]? = some (f.type, f.offset) := by
  rw [← h]; simp [hf]
set_option maxRecDepth 100000 in
theorem flat_shape : FlatAt Tryd.prog 106 1 3 := by
  have hu : Tryd.prog.underlying 106 = some (.struct (Tryd.prog.fieldsOf 106)) := by kernel_rfl
  have hs : (Tryd.prog.fieldsOf 106).size = 3 := by kernel_rfl
  have hm : (Tryd.prog.fieldsOf 106).map (fun f => (f.type, f.offset)) = #[(9, 0), (3, 1), (3, 2)] := by kernel_rfl
  have hc1 : Tryd.prog.cellsOf 9 = 1 := by kernel_rfl
  have hc2 : Tryd.prog.cellsOf 3 = 1 := by kernel_rfl
  have this : FlatAt Tryd.prog 106 1 (Tryd.prog.fieldsOf 106).size := flatAt_struct hu (by rw [hs]; kernel_rfl) (fun i f hf => by
    have hk := fields_case hm hf
    have hi : i < 3 := by
      by_cases h : i < 3
      · exact h
      · rw [Array.getElem?_eq_none (by simp; omega)] at hk; cases hk
    obtain rfl | rfl | rfl : i = 0 ∨ i = 1 ∨ i = 2 := by omega
    all_goals
      have h1 := Option.some.inj hk
      have h2 := congrArg Prod.fst h1
      have h3 := congrArg Prod.snd h1
      simp only at h2 h3
      rw [← h2, ← h3]
      first | exact ⟨flatAt_string Tryd.underlying9, rfl, hc1⟩ | exact ⟨flatAt_int Tryd.underlying3, rfl, hc2⟩)
  rw [hs] at this
  exact @this
set_option maxRecDepth 100000 in
theorem flat_field : FlatAt Tryd.prog 99 1 2 := by
  have hu : Tryd.prog.underlying 99 = some (.struct (Tryd.prog.fieldsOf 99)) := by kernel_rfl
  have hs : (Tryd.prog.fieldsOf 99).size = 2 := by kernel_rfl
  have hm : (Tryd.prog.fieldsOf 99).map (fun f => (f.type, f.offset)) = #[(9, 0), (3, 1)] := by kernel_rfl
  have hc1 : Tryd.prog.cellsOf 9 = 1 := by kernel_rfl
  have hc2 : Tryd.prog.cellsOf 3 = 1 := by kernel_rfl
  have this : FlatAt Tryd.prog 99 1 (Tryd.prog.fieldsOf 99).size := flatAt_struct hu (by rw [hs]; kernel_rfl) (fun i f hf => by
    have hk := fields_case hm hf
    have hi : i < 2 := by
      by_cases h : i < 2
      · exact h
      · rw [Array.getElem?_eq_none (by simp; omega)] at hk; cases hk
    obtain rfl | rfl : i = 0 ∨ i = 1 := by omega
    all_goals
      have h1 := Option.some.inj hk
      have h2 := congrArg Prod.fst h1
      have h3 := congrArg Prod.snd h1
      simp only at h2 h3
      rw [← h2, ← h3]
      first | exact ⟨flatAt_string Tryd.underlying9, rfl, hc1⟩ | exact ⟨flatAt_int Tryd.underlying3, rfl, hc2⟩)
  rw [hs] at this
  exact @this
set_option maxRecDepth 100000 in
theorem bTab_of {W : World} {rest : List (String × DataW Unit)} (h : laidMet Tryd.prog (("ladderback/block.shapes", Rows.laid_ladderback_block_shapes) :: ("ladderback/block.rows", Rows.laid_ladderback_block_rows) :: rest) W) : BTab W := by
  have c := laid_flat (g := 1) (t := 107) (by kernel_rfl) (by kernel_rfl) (show FlatAt Tryd.prog 107 2 (8 * 3) from flatAt_array (n := 8) (m := 3) Tryd.underlying107 flat_shape (by kernel_rfl) (by kernel_rfl)) h
  have d := laid_flat (g := 0) (t := 101) (q := 3) (by kernel_rfl) (by kernel_rfl) (flatAt_array (n := 5) (m := 16) Tryd.underlying101 (flatAt_array (n := 8) (m := 2) Tryd.underlying100 flat_field (by kernel_rfl) (by kernel_rfl)) (by kernel_rfl) (by kernel_rfl)) (laidMet_head_tail h)
  have ec : flatF 2 (Rows.laid_ladderback_block_shapes : DataW Unit) = bShapesV := by kernel_rfl
  have ed : flatF 3 (Rows.laid_ladderback_block_rows : DataW Unit) = rowsV := by kernel_rfl
  rw [ec] at c
  rw [ed] at d
  exact ⟨c, d, big_of_cell (c 0), big_of_cell (d 0)⟩
end Go.Proofs.YtknbomikiakpmaaDoor

/- Layer 26: what the rows' lists give. -/
namespace Go.Proofs.YtknbomikiakpmaaDoor
open Go.RowKit
set_option maxRecDepth 100000 in
theorem aGoes_of {W : World} {rest : List (String × DataW Unit)} (h : laidMet Tryd.prog (("ladderback/alu.goes", Rows.laid_ladderback_alu_goes) :: rest) W) : AGoes W := by
  have c := laid_cells (g := 2) (n := 18) (t := 108) (e := 3) (by kernel_rfl) (by kernel_rfl) Tryd.underlying108 (Or.inl ⟨_, Tryd.underlying3⟩) (by kernel_rfl) (by kernel_rfl) h
  exact ⟨fun i _ => by rw [c i, ← List.getElem?_map]; rfl, big_of_cell (c 0)⟩
theorem exTab_of {W : World} {rest : List (String × DataW Unit)} (h : laidMet Tryd.prog (("ladderback/alu.goes", Rows.laid_ladderback_alu_goes) :: ("ladderback/block.shapes", Rows.laid_ladderback_block_shapes) :: ("ladderback/block.rows", Rows.laid_ladderback_block_rows) :: rest) W) : AGoes W ∧ BTab W :=
  ⟨aGoes_of h, bTab_of (laidMet_head_tail h)⟩
end Go.Proofs.YtknbomikiakpmaaDoor

/- Arguments of nested types, opened. -/
namespace Go.Proofs.YtknbomikiakpmaaDoor
open Go.ChangeShapes Go.WideShapes Go.ChangeAt Go.RowKit Go.Deep
set_option linter.unusedSimpArgs false
set_option linter.unusedVariables false
def Opens {α : Type} (P : Program) (t : TypeId) (q : Nat) (R : Rep α) : Prop := P.cellsOf t = q ∧ ∀ {H : Type} (enc : TypeId × Value → H) (W : World) (sp : Nat → Bool) (held : Bool) (fuel : Nat) (cs : List Value) (x : DataW H × List MemPlace),
  DataW.trod enc P W 0 sp held fuel t cs = some x → ∃ a, R W cs a
set_option maxRecDepth 100000 in
theorem opens_int {P : Program} {t : TypeId} (ht : P.underlying t = some (.int .i64)) (hq : P.cellsOf t = 1) : Opens P t 1 intR := ⟨hq, fun enc W sp held fuel cs x h => by
  obtain ⟨z, rfl, _, hw⟩ := DataW.trod_int ht h
  exact ⟨z, rfl, bounds_i64 hw⟩⟩
set_option maxRecDepth 100000 in
theorem opens_string {P : Program} {t : TypeId} (ht : P.underlying t = some .string) (hq : P.cellsOf t = 1) : Opens P t 1 strR := ⟨hq, fun enc W sp held fuel cs x h => by
  obtain ⟨s, hs, hx, hw⟩ := DataW.trod_string ht h
  refine ⟨s.data.toList, by simpa using hs, ?_⟩
  have e : s.data.toList.length = s.size := by simp
  unfold maxLen at hw
  omega⟩
set_option maxRecDepth 100000 in
theorem choose_list {α : Type} {p : Nat → α → Prop} : ∀ n, (∀ i, i < n → ∃ a, p i a) → ∃ L : List α, L.length = n ∧ ∀ i x, L[i]? = some x → p i x := by
  intro n
  induction n with
  | zero => intro _; exact ⟨[], rfl, fun i x h => by simp at h⟩
  | succ n ih =>
    intro h
    obtain ⟨L, h1, h2⟩ := ih (fun i hi => h i (by omega))
    obtain ⟨a, ha⟩ := h n (by omega)
    refine ⟨L ++ [a], by simp [h1], fun i x hx => ?_⟩
    by_cases hi : i < n
    · rw [List.getElem?_append_left (by omega)] at hx
      exact h2 i x hx
    · have hin : i = n := by
        by_cases he : i = n
        · exact he
        · rw [List.getElem?_eq_none (by simp; omega)] at hx; cases hx
      subst hin
      rw [List.getElem?_append_right (by omega), h1] at hx
      simp at hx
      rw [← hx]
      exact ha
set_option maxRecDepth 100000 in
theorem opens_slice {P : Program} {t e : TypeId} {q : Nat} {α : Type} {R : Rep α} (ht : P.underlying t = some (.slice e)) (hq1 : P.cellsOf t = 1) (hq0 : 0 < q) (he : Opens P e q R) : Opens P t 1 (sliceR q R) := ⟨hq1, fun enc W sp held fuel cs x h => by
  obtain ⟨hq, he⟩ := he
  rcases open_slice ht h with ⟨rfl, hx⟩ | ⟨a, len, cap, m, k, D, Pl, rfl, _, hl, hm, hmm, hx, hi⟩
  · exact ⟨[], _, rfl, Or.inl ⟨_, _, rfl, rfl, fun _ => rfl⟩⟩
  · have hlm : len ≤ m := by rw [hmm]; split <;> omega
    have key : ∀ i, i < len → ∃ y : α, ∃ C : List Value, C.length = q ∧ (∀ j u, C[j]? = some u → W.cell? ((a.add (i * q)).add j) = some u) ∧ R W C y := by
      intro i hin
      obtain ⟨cs', hc, ht'⟩ := hi i (by omega)
      rw [hq] at hc
      obtain ⟨_, hcl, hat⟩ := World.cells?_some hc
      obtain ⟨y, hy⟩ := he enc W sp held k cs' _ ht'
      refine ⟨y, cs', hcl, fun j u hu => ?_, hy⟩
      have hj : j < q := by
        by_cases hj : j < q
        · exact hj
        · rw [List.getElem?_eq_none (by omega)] at hu; cases hu
      rw [hat j hj, hu]
    obtain ⟨L, hL, hLL⟩ := choose_list len key
    refine ⟨L, _, rfl, ?_⟩
    by_cases h0 : len = 0
    · subst h0
      exact Or.inl ⟨_, _, rfl, List.length_eq_zero_iff.1 hL, fun h => by cases h⟩
    obtain ⟨b, off, spot⟩ := a
    obtain ⟨C0, g1, g2, _⟩ := hLL 0 (L[0]'(by omega)) (by simp [show 0 < L.length by omega])
    have hz := g2 0 (C0[0]'(by omega)) (by simp [show 0 < C0.length by omega])
    have hspot : spot = none := by
      have := World.cell?_spot hz
      simpa [Addr.add] using this
    subst hspot
    have hblk := World.block_lt_of_cell? W _ hz
    have adr : ∀ j, (⟨b, off, none⟩ : Addr).add j = ⟨b, off + j, none⟩ := by
      intro j; unfold Addr.add; by_cases hj : j = 0 <;> simp [hj]
    rw [← hL]
    refine Or.inr ⟨b, off, cap, rfl, by omega, by omega, hm, by simpa [add_add, adr] using hblk, fun i x hx => ?_⟩
    obtain ⟨C, g1, g2, g3⟩ := hLL i x hx
    refine ⟨C, g1, fun j u hu => ?_, g3⟩
    have := g2 j u hu
    rw [add_add, adr] at this
    rw [show off + i * q + j = off + (i * q + j) by omega]
    exact this⟩
set_option maxRecDepth 100000 in
/-- the cells of a struct's field -/
theorem opens_field {H : Type} {P : Program} {t : TypeId} {fs : Array Field} {enc : TypeId × Value → H} {W : World} {sp : Nat → Bool} {held : Bool} {fuel : Nat} {cs : List Value} {x : DataW H × List MemPlace} (ht : P.underlying t = some (.struct fs))
    (h : DataW.trod enc P W 0 sp held fuel t cs = some x) (i : Nat) (u : TypeId) (o q : Nat) {α : Type} {R : Rep α} (hf : (fs[i]?.map fun f => (f.type, f.offset)) = some (u, o)) (hu : Opens P u q R) : ∃ a, R W ((cs.drop o).take q) a := by
  obtain ⟨xs, n, rfl, hx, hl, hlen, hall⟩ := DataW.trod_struct ht h
  obtain ⟨f, hf0, hf1⟩ := Option.map_eq_some_iff.1 hf
  have h1 := hall i f hf0
  have ht : f.type = u := congrArg Prod.fst hf1
  have ho : f.offset = o := congrArg Prod.snd hf1
  rw [ht, ho, hu.1] at h1
  have hi : i < fs.size := by
    by_cases hi : i < fs.size
    · exact hi
    · rw [Array.getElem?_eq_none (by omega)] at hf0; cases hf0
  obtain ⟨b, hb⟩ : ∃ b, xs[i]? = some b := ⟨xs[i]'(by omega), by simp [hlen, hi]⟩
  rw [hb] at h1
  exact hu.2 enc W sp held n _ _ h1
set_option maxRecDepth 100000 in
theorem opens_ins : Opens Tryd.prog 130 3 insR := ⟨by kernel_rfl, fun enc W sp held fuel cs x h => by
  have hu : Tryd.prog.underlying 130 = some (.struct (Tryd.prog.fieldsOf 130)) := by kernel_rfl
  have hi := opens_int (P := Tryd.prog) Tryd.underlying3 (by kernel_rfl)
  have hl : cs.length = 3 := by
    obtain ⟨xs, n, _, _, hl, _, _⟩ := DataW.trod_struct hu h
    exact hl.trans (by kernel_rfl)
  obtain ⟨o, h0, w0⟩ := opens_field hu h 0 3 0 1 (by kernel_rfl) hi
  obtain ⟨a, h1, w1⟩ := opens_field hu h 1 3 1 1 (by kernel_rfl) hi
  obtain ⟨b, h2, w2⟩ := opens_field hu h 2 3 2 1 (by kernel_rfl) hi
  refine ⟨(o, a, b), ?_, w0, w1, w2⟩
  match cs, hl with
  | [x, y, z], _ =>
    simp at h0 h1 h2
    rw [h0, h1, h2]⟩
end Go.Proofs.YtknbomikiakpmaaDoor

/- An argument of type api.Unit, opened. -/
namespace Go.Proofs.YtknbomikiakpmaaDoor
open Go.ChangeShapes Go.WideShapes Go.ChangeAt Go.RowKit
set_option maxRecDepth 100000 in
theorem opens_unit : Opens Tryd.prog 72 5 unitR := ⟨by kernel_rfl, fun enc W sp held fuel cs x h => by
  have hu : Tryd.prog.underlying 72 = some (.struct (Tryd.prog.fieldsOf 72)) := by kernel_rfl
  have hi := opens_int (P := Tryd.prog) Tryd.underlying3 (by kernel_rfl)
  have hs := opens_string (P := Tryd.prog) Tryd.underlying9 (by kernel_rfl)
  have hn := opens_slice (P := Tryd.prog) Tryd.underlying32 (by kernel_rfl) (by omega) hi
  have hc := opens_slice (P := Tryd.prog) Tryd.underlying70 (by kernel_rfl) (by omega) opens_ins
  have hl : cs.length = 5 := by
    obtain ⟨xs, n, _, _, hl, _, _⟩ := DataW.trod_struct hu h
    exact hl.trans (by kernel_rfl)
  obtain ⟨o, h0, w0⟩ := opens_field hu h 0 9 0 1 (by kernel_rfl) hs
  obtain ⟨a, v1, h1, w1⟩ := opens_field hu h 1 32 1 1 (by kernel_rfl) hn
  obtain ⟨b, h2, w2⟩ := opens_field hu h 2 3 2 1 (by kernel_rfl) hi
  obtain ⟨c, v3, h3, w3⟩ := opens_field hu h 3 32 3 1 (by kernel_rfl) hn
  obtain ⟨d, v4, h4, w4⟩ := opens_field hu h 4 70 4 1 (by kernel_rfl) hc
  refine ⟨⟨o, a, b, c, d⟩, v1, v3, v4, ?_, w1, w3, w4, w0, w2⟩
  match cs, hl with
  | [x, y, z, t, u], _ =>
    simp at h0 h1 h2 h3 h4
    rw [h0, h1, h2, h3, h4]⟩
end Go.Proofs.YtknbomikiakpmaaDoor

/- An argument of type api.Prog, opened. -/
namespace Go.Proofs.YtknbomikiakpmaaDoor
open Go.ChangeShapes Go.WideShapes Go.ChangeAt Go.RowKit
set_option maxRecDepth 100000 in
theorem opens_const : Opens Tryd.prog 125 2 constR := ⟨by kernel_rfl, fun enc W sp held fuel cs x h => by
  have hu : Tryd.prog.underlying 125 = some (.struct (Tryd.prog.fieldsOf 125)) := by kernel_rfl
  have hi := opens_int (P := Tryd.prog) Tryd.underlying3 (by kernel_rfl)
  have hl : cs.length = 2 := by
    obtain ⟨xs, n, _, _, hl, _, _⟩ := DataW.trod_struct hu h
    exact hl.trans (by kernel_rfl)
  obtain ⟨o, h0, w0⟩ := opens_field hu h 0 3 0 1 (by kernel_rfl) hi
  obtain ⟨a, h1, w1⟩ := opens_field hu h 1 3 1 1 (by kernel_rfl) hi
  refine ⟨(o, a), ?_, w0, w1⟩
  match cs, hl with
  | [x, y], _ =>
    simp at h0 h1
    rw [h0, h1]⟩
set_option maxRecDepth 100000 in
theorem opens_blk : Opens Tryd.prog 86 2 blkR := ⟨by kernel_rfl, fun enc W sp held fuel cs x h => by
  have hu : Tryd.prog.underlying 86 = some (.struct (Tryd.prog.fieldsOf 86)) := by kernel_rfl
  have hi := opens_int (P := Tryd.prog) Tryd.underlying3 (by kernel_rfl)
  have hs := opens_string (P := Tryd.prog) Tryd.underlying9 (by kernel_rfl)
  have hl : cs.length = 2 := by
    obtain ⟨xs, n, _, _, hl, _, _⟩ := DataW.trod_struct hu h
    exact hl.trans (by kernel_rfl)
  obtain ⟨o, h0, w0⟩ := opens_field hu h 0 9 0 1 (by kernel_rfl) hs
  obtain ⟨a, h1, w1⟩ := opens_field hu h 1 3 1 1 (by kernel_rfl) hi
  refine ⟨⟨o, a⟩, ?_, w0, w1⟩
  match cs, hl with
  | [x, y], _ =>
    simp at h0 h1
    rw [h0, h1]⟩
set_option maxRecDepth 100000 in
theorem opens_var : Opens Tryd.prog 84 5 varR := ⟨by kernel_rfl, fun enc W sp held fuel cs x h => by
  have hu : Tryd.prog.underlying 84 = some (.struct (Tryd.prog.fieldsOf 84)) := by kernel_rfl
  have hi := opens_int (P := Tryd.prog) Tryd.underlying3 (by kernel_rfl)
  have hs := opens_string (P := Tryd.prog) Tryd.underlying9 (by kernel_rfl)
  have hl : cs.length = 5 := by
    obtain ⟨xs, n, _, _, hl, _, _⟩ := DataW.trod_struct hu h
    exact hl.trans (by kernel_rfl)
  obtain ⟨o, h0, w0⟩ := opens_field hu h 0 9 0 1 (by kernel_rfl) hs
  obtain ⟨a, h1, w1⟩ := opens_field hu h 1 3 1 1 (by kernel_rfl) hi
  obtain ⟨b, h2, w2⟩ := opens_field hu h 2 3 2 1 (by kernel_rfl) hi
  obtain ⟨c, h3, w3⟩ := opens_field hu h 3 3 3 1 (by kernel_rfl) hi
  obtain ⟨d, h4, w4⟩ := opens_field hu h 4 3 4 1 (by kernel_rfl) hi
  refine ⟨⟨o, a, b, c, d⟩, ?_, w0, w1, w2, w3, w4⟩
  match cs, hl with
  | [x, y, z, t, u], _ =>
    simp at h0 h1 h2 h3 h4
    rw [h0, h1, h2, h3, h4]⟩
end Go.Proofs.YtknbomikiakpmaaDoor

/- An argument of type api.State, opened. -/
namespace Go.Proofs.YtknbomikiakpmaaDoor
open Go.ChangeShapes Go.WideShapes Go.ChangeAt Go.RowKit
set_option maxRecDepth 100000 in
theorem opens_inst : Opens Tryd.prog 128 10 instR := ⟨by kernel_rfl, fun enc W sp held fuel cs x h => by
  have hu : Tryd.prog.underlying 128 = some (.struct (Tryd.prog.fieldsOf 128)) := by kernel_rfl
  have hc : Tryd.prog.cellsOf 3 = 1 := by kernel_rfl
  have hc10 : Tryd.prog.cellsOf 126 = 10 := by kernel_rfl
  obtain ⟨f0, hfs, ht, ho⟩ : ∃ f0, (Tryd.prog.fieldsOf 128)[0]? = some f0 ∧ f0.type = 126 ∧ f0.offset = 0 := ⟨(Tryd.prog.fieldsOf 128)[0]!, by kernel_rfl, by kernel_rfl, by kernel_rfl⟩
  obtain ⟨xs, n, rfl, hx, hl, hlen, hall⟩ := DataW.trod_struct hu h
  have hcl : cs.length = 10 := hl.trans (by kernel_rfl)
  have h0 := hall 0 f0 hfs
  rw [ht, ho, hc10] at h0
  have htake : (cs.drop 0).take 10 = cs := by
    simp only [List.drop_zero]
    exact List.take_of_length_le (by omega)
  rw [htake] at h0
  obtain ⟨y, hy⟩ : ∃ y, xs[0]? = some y := by
    have : 0 < xs.length := by rw [hlen]; exact of_decide_eq_true (by kernel_rfl)
    exact ⟨xs[0], by simp [this]⟩
  rw [hy] at h0
  obtain ⟨es, m, rfl, _, hel, hen, heall⟩ := DataW.trod_array Tryd.underlying126 h0
  have key : ∀ i, i < 10 → ∃ z, cs[i]? = some (.int .i64 z) ∧ I64 z := by
    intro i hi
    have h1 := heall i hi
    rw [hc, Nat.mul_one] at h1
    obtain ⟨b, hb⟩ : ∃ b, es[i]? = some b := ⟨es[i], by simp [hen, hi]⟩
    rw [hb] at h1
    obtain ⟨z, hz, _, hw⟩ := DataW.trod_int Tryd.underlying3 h1
    refine ⟨z, ?_, bounds_i64 hw⟩
    have := congrArg (·[0]?) hz
    simpa [List.getElem?_take, List.getElem?_drop] using this
  obtain ⟨L, hL, hLL⟩ := choose_list 10 key
  refine ⟨L, ?_, hL, fun z hz => ?_⟩
  · apply List.ext_getElem?
    intro i
    by_cases hi : i < 10
    · have h2 : L[i]? = some (L[i]'(by omega)) := by simp [show i < L.length by omega]
      rw [(hLL i _ h2).1, List.getElem?_map, h2]; rfl
    · rw [List.getElem?_eq_none (by omega), List.getElem?_eq_none (by simp; omega)]
  · obtain ⟨i, hi, rfl⟩ := List.getElem_of_mem hz
    exact (hLL i _ (by simp [hi])).2⟩
end Go.Proofs.YtknbomikiakpmaaDoor

/- An argument of type [2]api.State, opened. -/
namespace Go.Proofs.YtknbomikiakpmaaDoor
open Go.ChangeShapes Go.WideShapes Go.ChangeAt Go.RowKit
set_option linter.unusedSimpArgs false
set_option linter.unusedVariables false
def stR : Rep St := fun w cs s => ∃ a b : Value, cs = [a, b, .int .i64 s.now, .int .i64 s.fault] ∧ StAt w a b s
set_option maxRecDepth 100000 in
theorem opens_st : Opens Tryd.prog 31 4 stR := ⟨by kernel_rfl, fun enc W sp held fuel cs x h => by
  have hu : Tryd.prog.underlying 31 = some (.struct (Tryd.prog.fieldsOf 31)) := by kernel_rfl
  have hi := opens_int (P := Tryd.prog) Tryd.underlying3 (by kernel_rfl)
  have hv := opens_slice (P := Tryd.prog) Tryd.underlying28 (by kernel_rfl) (by omega) (opens_slice Tryd.underlying32 (by kernel_rfl) (by omega) hi)
  have hb := opens_slice (P := Tryd.prog) Tryd.underlying29 (by kernel_rfl) (by omega) opens_inst
  have hl : cs.length = 4 := by
    obtain ⟨xs, n, _, _, hl, _, _⟩ := DataW.trod_struct hu h
    exact hl.trans (by kernel_rfl)
  obtain ⟨V, h0⟩ := opens_field hu h 0 28 0 1 (by kernel_rfl) hv
  obtain ⟨B, h1⟩ := opens_field hu h 1 29 1 1 (by kernel_rfl) hb
  obtain ⟨n, h2, w2⟩ := opens_field hu h 2 3 2 1 (by kernel_rfl) hi
  obtain ⟨m, h3, w3⟩ := opens_field hu h 3 3 3 1 (by kernel_rfl) hi
  match cs, hl with
  | [x, y, z, t], _ =>
    simp at h0 h1 h2 h3
    subst h2 h3
    obtain ⟨v0, e0, r0⟩ := h0
    obtain ⟨v1, e1, r1⟩ := h1
    simp at e0 e1
    subst e0 e1
    exact ⟨⟨V, B, n, m⟩, _, _, rfl, r0, r1, w2, w3⟩⟩
end Go.Proofs.YtknbomikiakpmaaDoor

/- An argument of type ladderbacklaw27.Case, opened. -/
namespace Go.Proofs.YtknbomikiakpmaaDoor
open Go.ChangeShapes Go.WideShapes Go.ChangeAt Go.RowKit
set_option linter.unusedSimpArgs false
set_option linter.unusedVariables false
def prR : Rep Pr := fun w cs p => ∃ a b c e : Value, cs = [a, b, c, e] ∧ PrAt w a b c e p
set_option maxRecDepth 100000 in
theorem opens_pr : Opens Tryd.prog 27 4 prR := ⟨by kernel_rfl, fun enc W sp held fuel cs x hf => by
  have hu : Tryd.prog.underlying 27 = some (.struct (Tryd.prog.fieldsOf 27)) := by kernel_rfl
  have hA := opens_slice (P := Tryd.prog) Tryd.underlying22 (by kernel_rfl) (by omega) opens_const
  have hB := opens_slice (P := Tryd.prog) Tryd.underlying23 (by kernel_rfl) (by omega) opens_var
  have hC := opens_slice (P := Tryd.prog) Tryd.underlying24 (by kernel_rfl) (by omega) opens_blk
  have hE := opens_slice (P := Tryd.prog) Tryd.underlying25 (by kernel_rfl) (by omega) opens_unit
  have hl : cs.length = 4 := by
    obtain ⟨xs, n, _, _, hl, _, _⟩ := DataW.trod_struct hu hf
    exact hl.trans (by kernel_rfl)
  obtain ⟨A0, h0⟩ := opens_field hu hf 0 22 0 1 (by kernel_rfl) hA
  obtain ⟨A1, h1⟩ := opens_field hu hf 1 23 1 1 (by kernel_rfl) hB
  obtain ⟨A2, h2⟩ := opens_field hu hf 2 24 2 1 (by kernel_rfl) hC
  obtain ⟨A3, h3⟩ := opens_field hu hf 3 25 3 1 (by kernel_rfl) hE
  match cs, hl with
  | [x, y, z, t], _ =>
    simp at h0 h1 h2 h3
    obtain ⟨v0, e0, r0⟩ := h0
    obtain ⟨v1, e1, r1⟩ := h1
    obtain ⟨v2, e2, r2⟩ := h2
    obtain ⟨v3, e3, r3⟩ := h3
    simp at e0 e1 e2 e3
    subst e0 e1 e2 e3
    exact ⟨⟨A0, A1, A2, A3⟩, _, _, _, _, rfl, r0, r1, r2, r3⟩⟩
set_option maxRecDepth 100000 in
theorem open_case {H : Type} {enc : TypeId × Value → H} {W : World} {r : Reach} {b0 : Nat} {v : Value} {d : DataW H} {ps : List MemPlace} {sp : Nat → Bool} {held : Bool}
    (hval : Value.okWide Tryd.prog W r b0 34 v) (h : DataW.Trod enc Tryd.prog W 0 sp held 34 v d ps) :
    ∃ (a b c e : Value) (p : Pr) (u : Int) (f g : Value) (s : St) (y : Value) (L : List Int), v = .agg #[a, b, c, e, .int .i64 u, f, g, .int .i64 s.now, .int .i64 s.fault, y] ∧ PrAt W a b c e p ∧ StAt W f g s ∧ RowR 1 intR W y L := by
  have hu : Tryd.prog.underlying 34 = some (.struct (Tryd.prog.fieldsOf 34)) := by kernel_rfl
  have hi := opens_int (P := Tryd.prog) Tryd.underlying3 (by kernel_rfl)
  have hv := opens_slice (P := Tryd.prog) Tryd.underlying32 (by kernel_rfl) (by omega) hi
  obtain ⟨cs, rfl, hsz⟩ := okWide_struct hu hval
  have hl : cs.toList.length = 10 := by
    have : Tryd.prog.cellsOf 34 = 10 := by kernel_rfl
    rw [this] at hsz; simpa using hsz
  obtain ⟨fuel, hf⟩ := h
  obtain ⟨p, h0⟩ := opens_field hu hf 0 27 0 4 (by kernel_rfl) opens_pr
  obtain ⟨u, h1, _⟩ := opens_field hu hf 1 3 4 1 (by kernel_rfl) hi
  obtain ⟨s, h2⟩ := opens_field hu hf 2 31 5 4 (by kernel_rfl) opens_st
  obtain ⟨L, h3⟩ := opens_field hu hf 3 32 9 1 (by kernel_rfl) hv
  obtain ⟨l⟩ := cs
  simp only [Value.cells] at h0 h1 h2 h3 hl
  match l, hl with
  | [x0, x1, x2, x3, x4, x5, x6, x7, x8, x9], _ =>
    simp at h0 h1 h2 h3
    obtain ⟨a, b, c, e, e0, r0⟩ := h0
    obtain ⟨f, g, e2, r2⟩ := h2
    obtain ⟨y, e3, r3⟩ := h3
    simp at e0 e2 e3
    obtain ⟨rfl, rfl, rfl, rfl⟩ := e0
    obtain ⟨rfl, rfl, rfl, rfl⟩ := e2
    subst h1 e3
    exact ⟨_, _, _, _, p, _, _, _, s, _, L, rfl, r0, r2, r3⟩
end Go.Proofs.YtknbomikiakpmaaDoor

/- An argument of type api.Expr, opened. -/
namespace Go.Proofs.YtknbomikiakpmaaDoor
open Go.ChangeShapes Go.WideShapes Go.ChangeAt Go.RowKit Go.Deep
set_option linter.unusedSimpArgs false
set_option linter.unusedVariables false
/-- as Opens, for readings of less than N steps -/
def OpensN {α : Type} (P : Program) (t : TypeId) (q : Nat) (R : Rep α) (N : Nat) : Prop := P.cellsOf t = q ∧ ∀ {H : Type} (enc : TypeId × Value → H) (W : World) (sp : Nat → Bool) (held : Bool) (fuel : Nat) (cs : List Value) (x : DataW H × List MemPlace),
  fuel < N → DataW.trod enc P W 0 sp held fuel t cs = some x → ∃ a, R W cs a
theorem OpensN.all {α : Type} {P : Program} {t : TypeId} {q : Nat} {R : Rep α} (h : ∀ N, OpensN P t q R N) : Opens P t q R := ⟨(h 0).1, fun enc W sp held fuel cs x hx => (h (fuel + 1)).2 enc W sp held fuel cs x (Nat.lt_succ_self _) hx⟩
theorem Opens.at {α : Type} {P : Program} {t : TypeId} {q : Nat} {R : Rep α} (h : Opens P t q R) (N : Nat) : OpensN P t q R N := ⟨h.1, fun enc W sp held fuel cs x _ hx => h.2 enc W sp held fuel cs x hx⟩
set_option maxRecDepth 100000 in
theorem opensN_slice {P : Program} {t e : TypeId} {q N : Nat} {α : Type} {R : Rep α} (ht : P.underlying t = some (.slice e)) (hq1 : P.cellsOf t = 1) (hq0 : 0 < q) (he : OpensN P e q R N) : OpensN P t 1 (sliceR q R) (N + 1) := ⟨hq1, fun enc W sp held fuel cs x hfu h => by
  obtain ⟨hq, he⟩ := he
  rcases DataW.trod_slice ht h with ⟨rfl, hx⟩ | ⟨a, len, cap, elems, rest, n, hn, rfl, _, _, hl, hm, hel, hget, _, _⟩
  · exact ⟨[], _, rfl, Or.inl ⟨_, _, rfl, rfl, fun _ => rfl⟩⟩
  · have key : ∀ i, i < len → ∃ y : α, ∃ C : List Value, C.length = q ∧ (∀ j u, C[j]? = some u → W.cell? ((a.add (i * q)).add j) = some u) ∧ R W C y := by
      intro i hin
      have h1 := hget i hin
      rw [hq, List.getElem?_eq_getElem (by omega)] at h1
      obtain ⟨cs', hc, ht'⟩ := Option.bind_eq_some_iff.1 h1
      obtain ⟨_, hcl, hat⟩ := World.cells?_some hc
      obtain ⟨y, hy⟩ := he enc W sp held n cs' _ (by omega) ht'
      refine ⟨y, cs', hcl, fun j u hu => ?_, hy⟩
      have hj : j < q := by
        by_cases hj : j < q
        · exact hj
        · rw [List.getElem?_eq_none (by omega)] at hu; cases hu
      rw [hat j hj, hu]
    obtain ⟨L, hL, hLL⟩ := choose_list len key
    refine ⟨L, _, rfl, ?_⟩
    by_cases h0 : len = 0
    · subst h0
      exact Or.inl ⟨_, _, rfl, List.length_eq_zero_iff.1 hL, fun h => by cases h⟩
    obtain ⟨b, off, spot⟩ := a
    obtain ⟨C0, g1, g2, _⟩ := hLL 0 (L[0]'(by omega)) (by simp [show 0 < L.length by omega])
    have hz := g2 0 (C0[0]'(by omega)) (by simp [show 0 < C0.length by omega])
    have hspot : spot = none := by
      have := World.cell?_spot hz
      simpa [Addr.add] using this
    subst hspot
    have hblk := World.block_lt_of_cell? W _ hz
    have adr : ∀ j, (⟨b, off, none⟩ : Addr).add j = ⟨b, off + j, none⟩ := by
      intro j; unfold Addr.add; by_cases hj : j = 0 <;> simp [hj]
    rw [← hL]
    refine Or.inr ⟨b, off, cap, rfl, by omega, by omega, hm, by simpa [add_add, adr] using hblk, fun i x hx => ?_⟩
    obtain ⟨C, g1, g2, g3⟩ := hLL i x hx
    refine ⟨C, g1, fun j u hu => ?_, g3⟩
    have := g2 j u hu
    rw [add_add, adr] at this
    rw [show off + i * q + j = off + (i * q + j) by omega]
    exact this⟩
set_option maxRecDepth 100000 in
/-- the cells of a struct's field -/
theorem opensN_field {H : Type} {P : Program} {t : TypeId} {fs : Array Field} {enc : TypeId × Value → H} {W : World} {sp : Nat → Bool} {held : Bool} {fuel N : Nat} {cs : List Value} {x : DataW H × List MemPlace} (ht : P.underlying t = some (.struct fs))
    (h : DataW.trod enc P W 0 sp held fuel t cs = some x) (hfu : fuel < N + 1) (i : Nat) (u : TypeId) (o q : Nat) {α : Type} {R : Rep α} (hf : (fs[i]?.map fun f => (f.type, f.offset)) = some (u, o)) (hu : OpensN P u q R N) : ∃ a, R W ((cs.drop o).take q) a := by
  obtain ⟨xs, n, rfl, hx, hl, hlen, hall⟩ := DataW.trod_struct ht h
  obtain ⟨f, hf0, hf1⟩ := Option.map_eq_some_iff.1 hf
  have h1 := hall i f hf0
  have ht : f.type = u := congrArg Prod.fst hf1
  have ho : f.offset = o := congrArg Prod.snd hf1
  rw [ht, ho, hu.1] at h1
  have hi : i < fs.size := by
    by_cases hi : i < fs.size
    · exact hi
    · rw [Array.getElem?_eq_none (by omega)] at hf0; cases hf0
  obtain ⟨b, hb⟩ : ∃ b, xs[i]? = some b := ⟨xs[i]'(by omega), by simp [hlen, hi]⟩
  rw [hb] at h1
  exact hu.2 enc W sp held n _ _ (by omega) h1
set_option maxRecDepth 100000 in
theorem opensN_ex (N : Nat) : OpensN Tryd.prog 37 5 exR N := by
  induction N with
  | zero => exact ⟨by kernel_rfl, fun enc W sp held fuel cs x h => by omega⟩
  | succ N ih =>
    refine ⟨by kernel_rfl, fun enc W sp held fuel cs x hfu h => ?_⟩
    have hu : Tryd.prog.underlying 37 = some (.struct (Tryd.prog.fieldsOf 37)) := by kernel_rfl
    have hi := (opens_int (P := Tryd.prog) Tryd.underlying3 (by kernel_rfl)).at N
    have hs : OpensN Tryd.prog 35 1 (sliceR 5 exR) N := by
      have := opensN_slice Tryd.underlying35 (by kernel_rfl) (by omega) ih
      exact ⟨this.1, fun enc W sp held fuel cs x h => this.2 enc W sp held fuel cs x (by omega)⟩
    have hl : cs.length = 5 := by
      obtain ⟨xs, n, _, _, hl, _, _⟩ := DataW.trod_struct hu h
      exact hl.trans (by kernel_rfl)
    obtain ⟨o, h0, w0⟩ := opensN_field hu h hfu 0 3 0 1 (by kernel_rfl) hi
    obtain ⟨a, h1, w1⟩ := opensN_field hu h hfu 1 3 1 1 (by kernel_rfl) hi
    obtain ⟨b, h2, w2⟩ := opensN_field hu h hfu 2 3 2 1 (by kernel_rfl) hi
    obtain ⟨c, h3, w3⟩ := opensN_field hu h hfu 3 3 3 1 (by kernel_rfl) hi
    obtain ⟨L, v, h4, w4⟩ := opensN_field hu h hfu 4 35 4 1 (by kernel_rfl) hs
    refine ⟨⟨o, a, b, c, L⟩, exR_eq.2 ⟨v, ?_, ⟨w0, w1, w2, w3⟩, w4⟩⟩
    match cs, hl with
    | [x, y, z, t, u], _ =>
      simp at h0 h1 h2 h3 h4
      rw [h0, h1, h2, h3, h4]
set_option maxRecDepth 100000 in
theorem open_expr {H : Type} {enc : TypeId × Value → H} {W : World} {r : Reach} {b0 : Nat} {v : Value} {d : DataW H} {ps : List MemPlace} {sp : Nat → Bool} {held : Bool}
    (hval : Value.okWide Tryd.prog W r b0 37 v) (h : DataW.Trod enc Tryd.prog W 0 sp held 37 v d ps) : ∃ e, ExV W v e := by
  have hu : Tryd.prog.underlying 37 = some (.struct (Tryd.prog.fieldsOf 37)) := by kernel_rfl
  obtain ⟨cs, rfl, hsz⟩ := okWide_struct hu hval
  obtain ⟨fuel, hf⟩ := h
  obtain ⟨e, he⟩ := (opensN_ex (fuel + 1)).2 enc W sp held fuel _ _ (Nat.lt_succ_self _) hf
  have := exV_of he
  rw [show (Value.agg cs).cells = cs from rfl] at this
  exact ⟨e, this⟩
end Go.Proofs.YtknbomikiakpmaaDoor

/- An argument of type api.Net, opened. -/
namespace Go.Proofs.YtknbomikiakpmaaDoor
open Go.ChangeShapes Go.WideShapes Go.ChangeAt Go.RowKit Go.Deep
set_option linter.unusedSimpArgs false
set_option linter.unusedVariables false
set_option maxRecDepth 100000 in
theorem opensN_nt (N : Nat) : OpensN Tryd.prog 54 8 ntR N := by
  induction N with
  | zero => exact ⟨by kernel_rfl, fun enc W sp held fuel cs x h => by omega⟩
  | succ N ih =>
    refine ⟨by kernel_rfl, fun enc W sp held fuel cs x hfu h => ?_⟩
    have hu : Tryd.prog.underlying 54 = some (.struct (Tryd.prog.fieldsOf 54)) := by kernel_rfl
    have hi := (opens_int (P := Tryd.prog) Tryd.underlying3 (by kernel_rfl)).at N
    have hs : OpensN Tryd.prog 52 1 (sliceR 8 ntR) N := by
      have := opensN_slice Tryd.underlying52 (by kernel_rfl) (by omega) ih
      exact ⟨this.1, fun enc W sp held fuel cs x h => this.2 enc W sp held fuel cs x (by omega)⟩
    have hl : cs.length = 8 := by
      obtain ⟨xs, n, _, _, hl, _, _⟩ := DataW.trod_struct hu h
      exact hl.trans (by kernel_rfl)
    obtain ⟨o, h0, w0⟩ := opensN_field hu h hfu 0 3 0 1 (by kernel_rfl) hi
    obtain ⟨a, h1, w1⟩ := opensN_field hu h hfu 1 3 1 1 (by kernel_rfl) hi
    obtain ⟨e, h2⟩ := opensN_field hu h hfu 2 37 2 5 (by kernel_rfl) (opensN_ex N)
    obtain ⟨L, v, h4, w4⟩ := opensN_field hu h hfu 3 52 7 1 (by kernel_rfl) hs
    have h3 := exV_of h2
    obtain ⟨v2, e2, w2, r2⟩ := exR_eq.1 h2
    refine ⟨⟨o, a, e, L⟩, ntR_eq.2 ⟨v2, v, ?_, ⟨w0, w1⟩, ?_, w4⟩⟩
    · match cs, hl with
      | [x0, x1, x2, x3, x4, x5, x6, x7], _ =>
        simp at h0 h1 e2 h4
        obtain ⟨e20, e21, e22, e23, e24⟩ := e2
        rw [h0, h1, e20, e21, e22, e23, e24, h4]
    · rw [e2] at h3
      exact h3
set_option maxRecDepth 100000 in
theorem open_net {H : Type} {enc : TypeId × Value → H} {W : World} {r : Reach} {b0 : Nat} {v : Value} {d : DataW H} {ps : List MemPlace} {sp : Nat → Bool} {held : Bool}
    (hval : Value.okWide Tryd.prog W r b0 54 v) (h : DataW.Trod enc Tryd.prog W 0 sp held 54 v d ps) : ∃ e, NtV W v e := by
  have hu : Tryd.prog.underlying 54 = some (.struct (Tryd.prog.fieldsOf 54)) := by kernel_rfl
  obtain ⟨cs, rfl, hsz⟩ := okWide_struct hu hval
  obtain ⟨fuel, hf⟩ := h
  obtain ⟨e, he⟩ := (opensN_nt (fuel + 1)).2 enc W sp held fuel _ _ (Nat.lt_succ_self _) hf
  have := ntV_of he
  rw [show (Value.agg cs).cells = cs from rfl] at this
  exact ⟨e, this⟩
end Go.Proofs.YtknbomikiakpmaaDoor
