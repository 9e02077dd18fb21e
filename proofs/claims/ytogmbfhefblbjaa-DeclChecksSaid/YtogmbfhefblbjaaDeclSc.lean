/- Layer 17: the scope of a unit, by the program. -/
import Derived.Test.YtogmbfhefblbjaaDeclS
import Derived.Test.YtogmbfhefblbjaaSlotsO
namespace Go.Proofs.Ytogmbfhefblbjaa
open Go.RowKit
set_option linter.unusedSimpArgs false
set_option linter.unusedVariables false
def scopeL (p : Pr) (u : Int) : List Int := if 0 ≤ u then ((p.units[u.toNat]?).map slotsL).getD [] else []
def ScopeAt (w : World) (a b c d : Value) (p : Pr) (u : Int) : Prop := RowR 5 varR w a p.vars ∧ RowR 2 blkR w b p.blocks ∧ RowR 2 sigR w c (p.units.map fun x => (x.params, x.result)) ∧ RowR 1 intR w d (scopeL p u)
theorem ScopeAt.below {w w' : World} {a b c d : Value} {p : Pr} {u : Int} (h : ScopeAt w a b c d p u) (hb : Below w.heap.size w w') : ScopeAt w' a b c d p u :=
  ⟨h.1.below varR_stable hb, h.2.1.below blkR_stable hb, h.2.2.1.below sigR_stable hb, h.2.2.2.below intR_stable hb⟩
theorem set4 {w : World} {g : Nat} {t : TypeId} {x0 x1 x2 x3 a b c d : Value} (h : w.heap[g]? = some (.cells #[x0, x1, x2, x3] t)) :
    (w.frozen? ⟨g, 0, none⟩ = false ∧ (w.setCell ⟨g, 0, none⟩ a).frozen? ⟨g, 1, none⟩ = false ∧ ((w.setCell ⟨g, 0, none⟩ a).setCell ⟨g, 1, none⟩ b).frozen? ⟨g, 2, none⟩ = false ∧ (((w.setCell ⟨g, 0, none⟩ a).setCell ⟨g, 1, none⟩ b).setCell ⟨g, 2, none⟩ c).frozen? ⟨g, 3, none⟩ = false) ∧
    (w.cell? ⟨g, 0, none⟩ = some x0 ∧ (w.setCell ⟨g, 0, none⟩ a).cell? ⟨g, 1, none⟩ = some x1 ∧ ((w.setCell ⟨g, 0, none⟩ a).setCell ⟨g, 1, none⟩ b).cell? ⟨g, 2, none⟩ = some x2 ∧ (((w.setCell ⟨g, 0, none⟩ a).setCell ⟨g, 1, none⟩ b).setCell ⟨g, 2, none⟩ c).cell? ⟨g, 3, none⟩ = some x3) ∧
    ((((w.setCell ⟨g, 0, none⟩ a).setCell ⟨g, 1, none⟩ b).setCell ⟨g, 2, none⟩ c).setCell ⟨g, 3, none⟩ d).heap[g]? = some (.cells #[a, b, c, d] t) := by
  have k1 := obj_self (i := 0) (x := a) h
  have k2 := obj_self (i := 1) (x := b) k1
  have k3 := obj_self (i := 2) (x := c) k2
  have k4 := obj_self (i := 3) (x := d) k3
  exact ⟨⟨obj_frozen h 0, obj_frozen k1 1, obj_frozen k2 2, obj_frozen k3 3⟩, ⟨obj_cell h rfl, obj_cell k1 rfl, obj_cell k2 rfl, obj_cell k3 rfl⟩, k4⟩
/-- four cells of a block that no row lies in -/
theorem ScopeO.set {w : World} {B : Nat} {V : List Vr} {K : List Bk} {us : List Un} {L : List Int} {a b c d : Value} {g i : Nat} {C : Array Value} {t : TypeId} {x : Value} (hg : w.heap[g]? = some (.cells C t)) (h1 : 45 ≠ t) (h2 : 47 ≠ t) (h3 : 72 ≠ t) (h4 : 3 ≠ t)
    (h : OwnG 5 45 varR B w a V ∧ OwnG 2 47 blkR B w b K ∧ SigsO B w c us ∧ w.ownsRow B 3 1 d L.length (iV L)) :
    OwnG 5 45 varR B (w.setCell ⟨g, i, none⟩ x) a V ∧ OwnG 2 47 blkR B (w.setCell ⟨g, i, none⟩ x) b K ∧ SigsO B (w.setCell ⟨g, i, none⟩ x) c us ∧ (w.setCell ⟨g, i, none⟩ x).ownsRow B 3 1 d L.length (iV L) :=
  ⟨h.1.set hg h1, h.2.1.set hg h2, h.2.2.1.set hg h4 h3, owns_set h.2.2.2 (own_ne_type h.2.2.2 hg h4)⟩
theorem scope_fin {w : World} {B : Nat} {V : List Vr} {K : List Bk} {us : List Un} {L : List Int} {a b c d : Value} {g : Nat} {x0 x1 x2 x3 y0 y1 y2 y3 : Value} (hg : w.heap[g]? = some (.cells #[x0, x1, x2, x3] 37))
    (h : OwnG 5 45 varR B w a V ∧ OwnG 2 47 blkR B w b K ∧ SigsO B w c us ∧ w.ownsRow B 3 1 d L.length (iV L)) (W : World) (hW : W = (((w.setCell ⟨g, 0, none⟩ y0).setCell ⟨g, 1, none⟩ y1).setCell ⟨g, 2, none⟩ y2).setCell ⟨g, 3, none⟩ y3) :
    OwnG 5 45 varR B W a V ∧ OwnG 2 47 blkR B W b K ∧ SigsO B W c us ∧ W.ownsRow B 3 1 d L.length (iV L) := by
  subst hW
  have k1 := obj_self (i := 0) (x := y0) hg
  have k2 := obj_self (i := 1) (x := y1) k1
  have k3 := obj_self (i := 2) (x := y2) k2
  exact ScopeO.set k3 (by decide) (by decide) (by decide) (by decide) (ScopeO.set k2 (by decide) (by decide) (by decide) (by decide) (ScopeO.set k1 (by decide) (by decide) (by decide) (by decide) (ScopeO.set hg (by decide) (by decide) (by decide) (by decide) h)))
theorem scope_at {w : World} {B : Nat} {p : Pr} {u : Int} {L : List Int} {a b c d : Value} (h : OwnG 5 45 varR B w a p.vars ∧ OwnG 2 47 blkR B w b p.blocks ∧ SigsO B w c p.units ∧ w.ownsRow B 3 1 d L.length (iV L)) (hL : scopeL p u = L) (hI : ∀ x ∈ p.units, ∀ z ∈ x.params, I64 z) (hz : ∀ z ∈ L, I64 z) : ScopeAt w a b c d p u := by
  obtain ⟨h1, h2, ⟨U, h3, h4⟩, h5⟩ := h
  subst hL
  exact ⟨h1.row, h2.row, sigs_row rfl h3 h4 hI, row_of_owns h5 hz⟩
set_option maxHeartbeats 8000000 in
theorem decl_Scope (pa pb pc pd : Value) (p : Pr) (u : Int) (w : World) (hp : PrAt w pa pb pc pd p) (hf : fewP p = true) :
    Calls Try.prog 12 #[.agg #[pa, pb, pc, pd], .int .i64 u] w fun e w' => ∃ a b c d, e = .returned (.agg #[a, b, c, d]) ∧ ScopeAt w' a b c d p u ∧ Below w.heap.size w w' := by
  have hf' := of_decide_eq_true hf
  have hfu := hf'.2.2.2
  obtain ⟨f1, f2, f3, f4⟩ := hf'.1
  clear hf hf'
  have hul := hp.us.len
  obtain ⟨sa, ca, rfl⟩ := row_get hp.cs
  obtain ⟨sb, cb, rfl⟩ := row_get hp.vs
  obtain ⟨sc, cc, rfl⟩ := row_get hp.bs
  obtain ⟨sd, cd, rfl⟩ := row_get hp.us
  obtain ⟨W0, hW0⟩ : ∃ W0, W0 = (w.alloc (.cells #[.slice sa p.consts.length ca, .slice sb p.vars.length cb, .slice sc p.blocks.length cc, .slice sd p.units.length cd] 27)).alloc (.cells #[.slice none 0 0, .slice none 0 0, .slice none 0 0, .slice none 0 0] 37) := ⟨_, rfl⟩
  have hb0 : Below w.heap.size w W0 := by rw [hW0]; exact by (repeat' (first | (with_reducible exact Below.refl _ _) | (with_reducible assumption) | (with_reducible refine below_drewN ?_ _) | (with_reducible refine Below.alloc ?_ ?_ _) | (with_reducible refine Below.drew ?_) | (with_reducible refine Below.setCell ?_ ?_ _) | go_size))
  have hz0 : W0.heap.size = w.heap.size + 2 := by rw [hW0]; simp
  have hjp : W0.heap[w.heap.size]? = some (.cells #[.slice sa p.consts.length ca, .slice sb p.vars.length cb, .slice sc p.blocks.length cc, .slice sd p.units.length cd] 27) := by rw [hW0]; exact (get_past (by simp)).trans (get_last rfl)
  have hjr : W0.heap[w.heap.size + 1]? = some (.cells #[.slice none 0 0, .slice none 0 0, .slice none 0 0, .slice none 0 0] 37) := by rw [hW0]; exact get_last (by simp)
  have hU0 := hp.us.below unitR_stable hb0
  have HI := Lib.hid (units_int hp.us)
  have hR := scope_r1 W0 w.heap.size p.vars p.blocks p.units sb sc sd cb cc cd (by omega) (obj_cell hjp rfl) (obj_cell hjp rfl) (obj_cell hjp rfl) (Lib.hid (fun W h => hp.vs.below varR_stable (hb0.trans (h.mono hb0.size)))) (Lib.hid (fun W h => hp.bs.below blkR_stable (hb0.trans (h.mono hb0.size)))) (Lib.hid (fun W h => hp.us.below unitR_stable (hb0.trans (h.mono hb0.size)))) hfu (by omega) (by omega) (by omega)
  have HW0 := Lib.hid hW0
  have HB0 := Lib.hid hb0
  clear hW0 hb0 hp
  go_enter Try.func12, Try.ntmps12
  go_upto_region 1 with fail
  rw [← HW0.out]
  refine Code.wp_mono ?_ (hR _ _ _ _ _ _ _ _ _ _ _ _ _ _ _ _ _ _ _ _ _ _ _ _ _ _ _ _ _ _ _ _)
  rintro e bb v2 ⟨rfl, u5, u6, u7, u8, u9, u10, u11, u12, u13, u14, u15, rfl, hH2, p5, a1, c1, a2, c2, a3, c3, rfl, hpw, hj5, H1, H2, H3⟩
  have hjp2 := obj_below hjp hH2 (by omega)
  have hjr2 := obj_below hjr hH2 (by omega)
  have C3 := obj_cell hjp2 (i := 3) rfl
  have HB2 := Lib.hid (HB0.out.trans (hH2.mono HB0.out.size))
  have HU2 := Lib.hid (fun W (h : Below v2.heap.size v2 W) => (hU0.below unitR_stable hH2).below unitR_stable h)
  clear hR hU0 hjp hjr
  by_cases hu : 0 ≤ u ∧ u < p.units.length
  · obtain ⟨k, rfl⟩ : ∃ k : Nat, u = k := ⟨u.toNat, by omega⟩
    have hk : k < p.units.length := by omega
    obtain ⟨x, hx⟩ := get_some (L := p.units) (n := k) hk
    obtain ⟨b, off, rfl, hbw, hc⟩ := unit_at (HU2.out _ (Below.refl _ _)) (k := k) hk
    obtain ⟨x1, x3, x4, y0, y1, y2, y3, y4, hUx⟩ := hc k x hx
    have hS := Lib.hid (show scopeL p (k : Int) = slotsL x by
      unfold scopeL
      rw [if_pos (by omega)]
      simp [hx])
    obtain ⟨s1, t1, rfl⟩ := row_get hUx.ps
    obtain ⟨s3, t3, rfl⟩ := row_get hUx.ls
    obtain ⟨s4, t4, rfl⟩ := row_get hUx.cs
    have hSl := unit_SlotsO _ _ _ x v2 hUx (hfu x (List.mem_of_getElem? hx))
    have HO3 := Lib.hid (And.intro H1 (And.intro H2 H3))
    have q1 : (0 ≤ (k : Int)) = True := eq_true (by omega)
    have q2 : ((k : Int) < (p.units.length : Int)) = True := eq_true (by omega)
    clear H1 H2 H3 hc hUx hx hu
    go_wp2_with fail
    refine hSl.mono ?_; rintro e w3 ⟨r, rfl, hO, hz, hb3⟩
    obtain ⟨ar, cr, rfl⟩ := owns_form hO
    have hj3 := obj_below hj5 hb3 (heap_lt hj5)
    have hjr3 := obj_below hjr2 hb3 (heap_lt hjr2)
    have hne : p5 ≠ w.heap.size + 1 := by omega
    have f3 := obj_frozen hj3 3
    have g3 := obj_cell hj3 (i := 3) rfl
    have kj := obj_self (i := 3) (x := .slice ar (slotsL x).length cr) hj3
    have hO4 := ScopeO.set (i := 3) (x := .slice ar (slotsL x).length cr) hj3 (by decide) (by decide) (by decide) (by decide) ⟨HO3.out.1.below hb3, HO3.out.2.1.below hb3, HO3.out.2.2.below hb3, own_low hO hH2.size⟩
    obtain ⟨W4, hW4⟩ : ∃ W4, W4 = w3.setCell ⟨p5, 3, none⟩ (.slice ar (slotsL x).length cr) := ⟨_, rfl⟩
    rw [← hW4] at hO4 kj
    have hjr4 : W4.heap[w.heap.size + 1]? = some (.cells #[.slice none 0 0, .slice none 0 0, .slice none 0 0, .slice none 0 0] 37) := by rw [hW4, get_set (by simpa using hne)]; exact hjr3
    have HB4 := Lib.hid (show Below w.heap.size w W4 by rw [hW4]; exact (HB2.out.trans (hb3.mono HB2.out.size)).setCell (p := ⟨p5, 3, none⟩) (show w.heap.size ≤ p5 by omega) _)
    have HW4 := Lib.hid hW4
    have HO := Lib.hid hO4
    have HZ := Lib.hid hz
    clear hW4 hO4 hb3 hO hj5 hjr2 hjr3 y0 y1 y2 y3 y4
    go_upto_region 4 with fail
    rw [← HW4.out]
    have d0 := obj_cell kj (i := 0) rfl
    have d1 := obj_cell kj (i := 1) rfl
    have d2 := obj_cell kj (i := 2) rfl
    have d3 := obj_cell kj (i := 3) rfl
    obtain ⟨⟨z0, z1, z2, z3⟩, ⟨y0, y1, y2, y3⟩, hfin⟩ := set4 (a := .slice a1 p.vars.length c1) (b := .slice a2 p.blocks.length c2) (c := .slice a3 p.units.length c3) (d := .slice ar (slotsL x).length cr) hjr4
    have e0 := obj_cell hfin (i := 0) rfl
    have e1 := obj_cell hfin (i := 1) rfl
    have e2 := obj_cell hfin (i := 2) rfl
    have e3 := obj_cell hfin (i := 3) rfl
    clear hfin
    go_wp2_with fail
    refine bodyPost_ret (by simp [results, Try.results12, go_sem, e0, e1, e2, e3]; try rfl) rfl ?_
    exact ⟨_, _, _, _, rfl, scope_at (scope_fin hjr4 HO.out _ rfl) hS.out HI.out HZ.out, (((HB4.out.setCell (p := ⟨w.heap.size + 1, 0, none⟩) (Nat.le_succ _) _).setCell (p := ⟨w.heap.size + 1, 1, none⟩) (Nat.le_succ _) _).setCell (p := ⟨w.heap.size + 1, 2, none⟩) (Nat.le_succ _) _).setCell (p := ⟨w.heap.size + 1, 3, none⟩) (Nat.le_succ _) _⟩
  · have hS := Lib.hid (show scopeL p u = [] by
      unfold scopeL
      by_cases h0 : 0 ≤ u
      · rw [if_pos h0, List.getElem?_eq_none (by omega)]; rfl
      · rw [if_neg h0])
    have HO := Lib.hid (And.intro H1 (And.intro H2 (And.intro H3 (World.ownsRow_nil v2 W0.heap.size 3 1))))
    clear H1 H2 H3
    have d0 := obj_cell hj5 (i := 0) rfl
    have d1 := obj_cell hj5 (i := 1) rfl
    have d2 := obj_cell hj5 (i := 2) rfl
    have d3 := obj_cell hj5 (i := 3) rfl
    obtain ⟨⟨z0, z1, z2, z3⟩, ⟨y0, y1, y2, y3⟩, hfin⟩ := set4 (a := .slice a1 p.vars.length c1) (b := .slice a2 p.blocks.length c2) (c := .slice a3 p.units.length c3) (d := .slice none 0 0) hjr2
    have HFin := Lib.hid hfin
    have e0 := obj_cell hfin (i := 0) rfl
    have e1 := obj_cell hfin (i := 1) rfl
    have e2 := obj_cell hfin (i := 2) rfl
    have e3 := obj_cell hfin (i := 3) rfl
    clear hfin
    by_cases h0 : 0 ≤ u
    · have q1 : (0 ≤ u) = True := eq_true h0
      have q2 : (u < (p.units.length : Int)) = False := eq_false (by omega)
      go_wp2_with fail
      refine bodyPost_ret (by simp [results, Try.results12, go_sem, e0, e1, e2, e3]; try rfl) rfl ?_
      exact ⟨_, _, _, _, rfl, scope_at (scope_fin hjr2 HO.out _ rfl) hS.out HI.out (by intro z hz; cases hz), (((HB2.out.setCell (p := ⟨w.heap.size + 1, 0, none⟩) (Nat.le_succ _) _).setCell (p := ⟨w.heap.size + 1, 1, none⟩) (Nat.le_succ _) _).setCell (p := ⟨w.heap.size + 1, 2, none⟩) (Nat.le_succ _) _).setCell (p := ⟨w.heap.size + 1, 3, none⟩) (Nat.le_succ _) _⟩
    · have q1 : (0 ≤ u) = False := eq_false h0
      go_wp2_with fail
      refine bodyPost_ret (by simp [results, Try.results12, go_sem, e0, e1, e2, e3]; try rfl) rfl ?_
      exact ⟨_, _, _, _, rfl, scope_at (scope_fin hjr2 HO.out _ rfl) hS.out HI.out (by intro z hz; cases hz), (((HB2.out.setCell (p := ⟨w.heap.size + 1, 0, none⟩) (Nat.le_succ _) _).setCell (p := ⟨w.heap.size + 1, 1, none⟩) (Nat.le_succ _) _).setCell (p := ⟨w.heap.size + 1, 2, none⟩) (Nat.le_succ _) _).setCell (p := ⟨w.heap.size + 1, 3, none⟩) (Nat.le_succ _) _⟩
end Go.Proofs.Ytogmbfhefblbjaa
