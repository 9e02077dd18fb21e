/- Layer 17: the walk of DeclLess. -/
import Derived.Test.YtogmbfhefblbjaaDeclAw
import Derived.Test.YtogmbfhefblbjaaFewP
namespace Go.Proofs.Ytogmbfhefblbjaa
open Go.RowKit
set_option linter.unusedSimpArgs false
set_option linter.unusedVariables false
theorem firstE_zero {es : List Int} (h : firstE es = 0) : ∀ z ∈ es, z = 0 := by
  intro z hz
  unfold firstE at h
  cases hf : es.find? (· != 0) with
  | none => have := List.find?_eq_none.1 hf z hz; simpa using this
  | some y =>
    rw [hf] at h
    have := List.find?_some hf
    simp at h this
    exact absurd h this
theorem unlessE_zero {b : Bool} {z : Int} (hz : z ≠ 0) (h : unlessE b z = 0) : b = true := by
  cases b
  · exact absurd h hz
  · rfl
theorem allE_zero {b : Bool} (h : allE b = 0) : b = true := by
  cases b
  · exact absurd h (by decide)
  · rfl
theorem all_take {α : Type} {f : α → Bool} {L : List α} (h : L.all f = true) (k : Nat) : (L.take k).all f = true := by
  rw [List.all_eq_true] at h ⊢
  exact fun x hx => h x (List.mem_of_mem_take hx)
theorem tablesE_zero {V : List Vr} {B : List Bk} (h : tablesE V B = 0) : V.length ≤ 64 ∧ B.length ≤ 32 ∧ V.all goodV = true ∧ B.all goodB = true := by
  unfold tablesE at h
  by_cases h1 : 64 < V.length ∨ 32 < B.length
  · rw [if_pos h1] at h; exact absurd h (by decide)
  · rw [if_neg h1] at h
    cases hv : V.all goodV <;> cases hb : B.all goodB <;> rw [hv, hb] at h
    · exact absurd h (by decide)
    · exact absurd h (by decide)
    · exact absurd h (by decide)
    · exact ⟨by omega, by omega, rfl, rfl⟩
theorem tablesE_take {V : List Vr} {B : List Bk} (h : tablesE V B = 0) (k m : Nat) : tablesE (V.take k) (B.take m) = 0 := by
  obtain ⟨h1, h2, h3, h4⟩ := tablesE_zero h
  unfold tablesE
  have hv : (V.take k).length ≤ V.length := List.length_take_le' k V
  have hb : (B.take m).length ≤ B.length := List.length_take_le' m B
  rw [if_neg (by omega), all_take h3, all_take h4]
  rfl
theorem unitsL_take (us : List Un) (k : Nat) : unitsL (us.take k) = (unitsL us).take k := by
  apply List.ext_getElem?
  intro i
  unfold unitsL
  rw [List.getElem?_mapIdx, List.getElem?_take, List.getElem?_take]
  by_cases hi : i < k
  · rw [if_pos hi, if_pos hi, List.getElem?_mapIdx]
  · rw [if_neg hi, if_neg hi]; rfl
theorem checkE_less {p : Pr} (h : checkE p = 0) (a b c d : Nat) (hd : 0 < d) : checkE ⟨p.consts.take a, p.vars.take b, p.blocks.take c, p.units.take d⟩ = 0 := by
  have hz := firstE_zero h
  have h1 := unlessE_zero (by decide) (hz _ (List.mem_cons_self ..))
  have h2 := unlessE_zero (z := 5) (by decide) (hz (unlessE (decide (p.consts.length ≤ 1024) && (decide (p.vars.length ≤ 64) && decide (p.blocks.length ≤ 32))) 5) (by simp))
  have h3 := allE_zero (hz (allE (p.consts.all fun x => kIn x.1 x.2)) (by simp))
  have h4 : tablesE p.vars p.blocks = 0 := hz _ (by simp)
  have h5 : firstE (unitsL p.units) = 0 := hz _ (by simp)
  have h6 := firstE_zero h5
  simp only [Bool.and_eq_true, decide_eq_true_eq] at h1 h2
  refine firstE_none (fun z hz => ?_)
  have la : (p.consts.take a).length ≤ p.consts.length := List.length_take_le' a p.consts
  have lb : (p.vars.take b).length ≤ p.vars.length := List.length_take_le' b p.vars
  have lc : (p.blocks.take c).length ≤ p.blocks.length := List.length_take_le' c p.blocks
  have ld : (p.units.take d).length ≤ p.units.length := List.length_take_le' d p.units
  have ld0 : 0 < (p.units.take d).length := by simp; omega
  simp only [List.mem_cons, List.not_mem_nil, or_false] at hz
  rcases hz with rfl | rfl | rfl | rfl | rfl
  · exact unless_yes (by simp only [Bool.and_eq_true, decide_eq_true_eq]; omega)
  · exact unless_yes (by simp only [Bool.and_eq_true, decide_eq_true_eq]; omega)
  · exact all_yes (all_take h3 a)
  · exact tablesE_take h4 b c
  · refine firstE_none (fun z hz => ?_)
    rw [unitsL_take] at hz
    exact h6 z (List.mem_of_mem_take hz)
theorem row_take {α : Type} {q : Nat} {R : Rep α} {w : World} {a : Option Addr} {n c : Nat} {L : List α} (h : RowR q R w (.slice a n c) L) {m : Nat} (hm : m ≤ L.length) : RowR q R w (.slice a m c) (L.take m) := by
  rcases h with ⟨a', cap, h0, rfl, h1⟩ | ⟨b, off, cap, h1, h2, h3, h4, h5, h6⟩
  · injection h0 with e1 e2 e3
    subst e1 e3
    have : m = 0 := by simpa using hm
    subst this
    exact Or.inl ⟨a, c, rfl, by simp, h1⟩
  · injection h1 with e1 e2 e3
    subst e1 e3
    by_cases h0 : m = 0
    · subst h0
      exact Or.inl ⟨_, _, rfl, by simp, fun h => by cases h⟩
    · have hl : (L.take m).length = m := by simp; omega
      refine Or.inr ⟨b, off, c, by rw [hl], by omega, by omega, h4, h5, fun i x hx => h6 i x ?_⟩
      rw [List.getElem?_take] at hx
      split at hx
      · exact hx
      · cases hx
theorem row_cap {α : Type} {q : Nat} {R : Rep α} {w : World} {a : Option Addr} {n c : Nat} {L : List α} (h : RowR q R w (.slice a n c) L) : n ≤ c ∧ n = L.length := by
  rcases h with ⟨a', cap, h0, rfl, h1⟩ | ⟨b, off, cap, h1, h2, h3, h4, h5, h6⟩
  · injection h0 with e1 e2 e3
    subst e2
    exact ⟨by omega, rfl⟩
  · injection h1 with e1 e2 e3
    exact ⟨by omega, e2⟩
set_option maxHeartbeats 4000000 in
theorem declLess_walk (pa pb pc pd : Value) (p : Pr) (w : World) (hp : PrAt w pa pb pc pd p) :
    Calls Try.prog 4 #[.agg #[pa, pb, pc, pd]] w fun e w' => e = .returned (.bool true) ∧ Below w.heap.size w w' := by
  have hAw := law17_awake
  obtain ⟨sa, ca, rfl⟩ := row_get hp.cs
  obtain ⟨sb, cb, rfl⟩ := row_get hp.vs
  obtain ⟨sc, cc, rfl⟩ := row_get hp.bs
  obtain ⟨sd, cd, rfl⟩ := row_get hp.us
  obtain ⟨W1, hW1⟩ : ∃ W1, W1 = w.alloc (.cells #[.slice sa p.consts.length ca, .slice sb p.vars.length cb, .slice sc p.blocks.length cc, .slice sd p.units.length cd] 27) := ⟨_, rfl⟩
  have hb : Below w.heap.size w W1 := by rw [hW1]; exact by (repeat' (first | (with_reducible exact Below.refl _ _) | (with_reducible assumption) | (with_reducible refine below_drewN ?_ _) | (with_reducible refine Below.alloc ?_ ?_ _) | (with_reducible refine Below.drew ?_) | (with_reducible refine Below.setCell ?_ ?_ _) | go_size))
  have hz : W1.heap.size = w.heap.size + 1 := by rw [hW1]; simp
  have hj : W1.heap[w.heap.size]? = some (.cells #[.slice sa p.consts.length ca, .slice sb p.vars.length cb, .slice sc p.blocks.length cc, .slice sd p.units.length cd] 27) := by rw [hW1]; exact get_last rfl
  have c0 := obj_cell hj (i := 0) rfl
  have c1 := obj_cell hj (i := 1) rfl
  have c2 := obj_cell hj (i := 2) rfl
  have c3 := obj_cell hj (i := 3) rfl
  have HJ := Lib.hid hj
  have HW1 := Lib.hid hW1
  have HB := Lib.hid hb
  have HP := Lib.hid hp
  have HFw := law16_Few _ _ _ _ p W1 (hp.below hb)
  clear hW1 hb hj hp
  cases hfew : fewP p
  · rw [hfew] at HFw
    go_enter Try.func4, Try.ntmps4
    go_upto_region 1 with fail
    rw [← HW1.out]
    go_wp2_with fail
    refine HFw.mono ?_; rintro e w2 ⟨rfl, hb2⟩
    go_wp2_with fail
    refine (hAw _).mono ?_; rintro e w3 ⟨rfl, hb3⟩
    go_wp2_with fail
    go_ret
    exact ⟨rfl, HB.out.trans ((hb2.trans (hb3.mono hb2.size)).mono HB.out.size)⟩
  rw [hfew] at HFw
  have hfew' := of_decide_eq_true hfew
  have HFU := Lib.hid hfew'.2.2.2
  have hlen := hfew'.1
  clear hfew hfew'
  have HCk := fun W (h : Below w.heap.size w W) => decl_Check _ _ _ _ p W (HP.out.below h) HFU.out
  by_cases hck : checkE p = 0
  · rw [hck] at HCk
    have HCK := Lib.hid hck
    clear hck
    go_enter Try.func4, Try.ntmps4
    go_upto_region 1 with fail
    rw [← HW1.out]
    go_wp2_with fail
    refine HFw.mono ?_; rintro e w2 ⟨rfl, hb2⟩
    have hj2 := obj_below HJ.out hb2 (by omega)
    have HB2 := Lib.hid (HB.out.trans (hb2.mono HB.out.size))
    have c0 := obj_cell hj2 (i := 0) rfl
    have c1 := obj_cell hj2 (i := 1) rfl
    have c2 := obj_cell hj2 (i := 2) rfl
    have c3 := obj_cell hj2 (i := 3) rfl
    have HJ2 := Lib.hid hj2
    clear hb2 hj2
    go_wp2_with fail
    refine (HCk _ HB2.out).mono ?_; rintro e v0 ⟨rfl, hb3⟩
    have hj3 := obj_below HJ2.out hb3 (heap_lt HJ2.out)
    have HB3 := Lib.hid (HB2.out.trans (hb3.mono HB2.out.size))
    clear hb3 c0 c1 c2 c3
    obtain ⟨k0, _⟩ := row_cap HP.out.cs
    obtain ⟨k1, _⟩ := row_cap HP.out.vs
    obtain ⟨k2, _⟩ := row_cap HP.out.bs
    obtain ⟨k3, _⟩ := row_cap HP.out.us
    have HC := Lib.hid (fun (x y z u : Nat) (hu : 0 < u) W (h : Below w.heap.size w W) => (show ∀ (q : Pr), q = ⟨p.consts.take x, p.vars.take y, p.blocks.take z, p.units.take u⟩ → checkE q = 0 ∧ ∀ x ∈ q.units, fewU x = true from fun q hq => by subst hq; exact ⟨checkE_less HCK.out x y z u hu, fun x hx => HFU.out x (List.mem_of_mem_take hx)⟩))
    have hu0 : 0 < p.units.length := by
      have h1 := unlessE_zero (z := 5) (by decide) (firstE_zero HCK.out _ (List.mem_cons_self ..))
      simp only [Bool.and_eq_true, decide_eq_true_eq] at h1
      omega
    have HT := Lib.hid (fun (x y z u : Nat) (hx : x ≤ p.consts.length) (hy : y ≤ p.vars.length) (hz : z ≤ p.blocks.length) (hu : u ≤ p.units.length) (hu1 : 0 < u) W (h : Below w.heap.size w W) =>
      (show Calls Try.prog 9 #[.agg #[.slice sa x ca, .slice sb y cb, .slice sc z cc, .slice sd u cd]] W fun e w' => e = .returned (.int .i64 0) ∧ Below W.heap.size W w' from by
        have hh := decl_Check _ _ _ _ ⟨p.consts.take x, p.vars.take y, p.blocks.take z, p.units.take u⟩ W (PrAt.below ⟨row_take HP.out.cs hx, row_take HP.out.vs hy, row_take HP.out.bs hz, row_take HP.out.us hu⟩ h) (fun x hx => HFU.out x (List.mem_of_mem_take hx))
        rw [checkE_less HCK.out x y z u hu1] at hh
        exact hh))
    clear HC HCk HFw HP
    obtain ⟨n0, e0⟩ : ∃ n, p.consts.length = n := ⟨_, rfl⟩
    obtain ⟨n1, e1⟩ : ∃ n, p.vars.length = n := ⟨_, rfl⟩
    obtain ⟨n2, e2⟩ : ∃ n, p.blocks.length = n := ⟨_, rfl⟩
    obtain ⟨n3, e3⟩ : ∃ n, p.units.length = n := ⟨_, rfl⟩
    rw [e0] at k0 HT hj3 hlen
    rw [e1] at k1 HT hj3 hlen
    rw [e2] at k2 HT hj3 hlen
    rw [e3] at k3 HT hj3 hu0 hlen
    rw [e0, e1, e2, e3]
    clear e0 e1 e2 e3 HJ HJ2 HW1 HCK HFU
    have z0 := heap_lt hj3
    have c0 := obj_cell hj3 (i := 0) rfl
    have c1 := obj_cell hj3 (i := 1) rfl
    have c2 := obj_cell hj3 (i := 2) rfl
    have c3 := obj_cell hj3 (i := 3) rfl
    go_upto_region 4 with fail
    go_cut [] from 17 (fun wx => wx = v0.alloc (.cells #[.slice sa (n0 - 1) ca, .slice sb n1 cb, .slice sc n2 cc, .slice sd n3 cd] 27))
    case first =>
      by_cases hn : n0 = 0
      · subst hn
        go_wp2_with fail
        go_meet
        case rel => rfl
      · obtain ⟨m, rfl⟩ : ∃ m, n0 = m + 1 := ⟨n0 - 1, by omega⟩
        go_wp2_with fail
        go_meet
        case rel => rfl
    case rest =>
    replace hcut : wc = _ := hcut
    obtain ⟨v1, hv1⟩ : ∃ v, v = v0.alloc (.cells #[.slice sa (n0 - 1) ca, .slice sb n1 cb, .slice sc n2 cc, .slice sd n3 cd] 27) := ⟨_, rfl⟩
    rw [← hv1] at hcut
    replace hcut := hcut.symm
    subst hcut
    have hb0 : Below v0.heap.size v0 v1 := by rw [hv1]; exact by (repeat' (first | (with_reducible exact Below.refl _ _) | (with_reducible assumption) | (with_reducible refine below_drewN ?_ _) | (with_reducible refine Below.alloc ?_ ?_ _) | (with_reducible refine Below.drew ?_) | (with_reducible refine Below.setCell ?_ ?_ _) | go_size))
    have j0 : v1.heap[v0.heap.size]? = some (.cells #[.slice sa (n0 - 1) ca, .slice sb n1 cb, .slice sc n2 cc, .slice sd n3 cd] 27) := by rw [hv1]; exact get_last rfl
    have hj3 := obj_below hj3 hb0 z0
    have z0 := heap_lt hj3
    have HB3 := Lib.hid (HB3.out.trans (hb0.mono HB3.out.size))
    have y0 := heap_lt j0
    clear hb0 hv1 c0 c1 c2 c3
    have c0 := obj_cell hj3 (i := 0) rfl
    have c1 := obj_cell hj3 (i := 1) rfl
    have c2 := obj_cell hj3 (i := 2) rfl
    have c3 := obj_cell hj3 (i := 3) rfl
    go_upto_region 6 with fail
    go_cut [] from 27 (fun wx => wx = v1.alloc (.cells #[.slice sa n0 ca, .slice sb (n1 - 1) cb, .slice sc n2 cc, .slice sd n3 cd] 27))
    case first =>
      by_cases hn : n1 = 0
      · subst hn
        go_wp2_with fail
        go_meet
        case rel => rfl
      · obtain ⟨m, rfl⟩ : ∃ m, n1 = m + 1 := ⟨n1 - 1, by omega⟩
        go_wp2_with fail
        go_meet
        case rel => rfl
    case rest =>
    replace hcut : wc = _ := hcut
    obtain ⟨v2, hv2⟩ : ∃ v, v = v1.alloc (.cells #[.slice sa n0 ca, .slice sb (n1 - 1) cb, .slice sc n2 cc, .slice sd n3 cd] 27) := ⟨_, rfl⟩
    rw [← hv2] at hcut
    replace hcut := hcut.symm
    subst hcut
    have hb1 : Below v1.heap.size v1 v2 := by rw [hv2]; exact by (repeat' (first | (with_reducible exact Below.refl _ _) | (with_reducible assumption) | (with_reducible refine below_drewN ?_ _) | (with_reducible refine Below.alloc ?_ ?_ _) | (with_reducible refine Below.drew ?_) | (with_reducible refine Below.setCell ?_ ?_ _) | go_size))
    have j1 : v2.heap[v1.heap.size]? = some (.cells #[.slice sa n0 ca, .slice sb (n1 - 1) cb, .slice sc n2 cc, .slice sd n3 cd] 27) := by rw [hv2]; exact get_last rfl
    have j0 := obj_below j0 hb1 (heap_lt j0)
    have hj3 := obj_below hj3 hb1 z0
    have z0 := heap_lt hj3
    have HB3 := Lib.hid (HB3.out.trans (hb1.mono HB3.out.size))
    have y1 := heap_lt j1
    clear hb1 hv2 c0 c1 c2 c3
    have c0 := obj_cell hj3 (i := 0) rfl
    have c1 := obj_cell hj3 (i := 1) rfl
    have c2 := obj_cell hj3 (i := 2) rfl
    have c3 := obj_cell hj3 (i := 3) rfl
    go_upto_region 8 with fail
    go_cut [] from 37 (fun wx => wx = v2.alloc (.cells #[.slice sa n0 ca, .slice sb n1 cb, .slice sc (n2 - 1) cc, .slice sd n3 cd] 27))
    case first =>
      by_cases hn : n2 = 0
      · subst hn
        go_wp2_with fail
        go_meet
        case rel => rfl
      · obtain ⟨m, rfl⟩ : ∃ m, n2 = m + 1 := ⟨n2 - 1, by omega⟩
        go_wp2_with fail
        go_meet
        case rel => rfl
    case rest =>
    replace hcut : wc = _ := hcut
    obtain ⟨v3, hv3⟩ : ∃ v, v = v2.alloc (.cells #[.slice sa n0 ca, .slice sb n1 cb, .slice sc (n2 - 1) cc, .slice sd n3 cd] 27) := ⟨_, rfl⟩
    rw [← hv3] at hcut
    replace hcut := hcut.symm
    subst hcut
    have hb2 : Below v2.heap.size v2 v3 := by rw [hv3]; exact by (repeat' (first | (with_reducible exact Below.refl _ _) | (with_reducible assumption) | (with_reducible refine below_drewN ?_ _) | (with_reducible refine Below.alloc ?_ ?_ _) | (with_reducible refine Below.drew ?_) | (with_reducible refine Below.setCell ?_ ?_ _) | go_size))
    have j2 : v3.heap[v2.heap.size]? = some (.cells #[.slice sa n0 ca, .slice sb n1 cb, .slice sc (n2 - 1) cc, .slice sd n3 cd] 27) := by rw [hv3]; exact get_last rfl
    have j0 := obj_below j0 hb2 (heap_lt j0)
    have j1 := obj_below j1 hb2 (heap_lt j1)
    have hj3 := obj_below hj3 hb2 z0
    have z0 := heap_lt hj3
    have HB3 := Lib.hid (HB3.out.trans (hb2.mono HB3.out.size))
    have y2 := heap_lt j2
    clear hb2 hv3 c0 c1 c2 c3
    have c0 := obj_cell hj3 (i := 0) rfl
    have c1 := obj_cell hj3 (i := 1) rfl
    have c2 := obj_cell hj3 (i := 2) rfl
    have c3 := obj_cell hj3 (i := 3) rfl
    go_upto_region 10 with fail
    go_cut [] from 47 (fun wx => wx = v3.alloc (.cells #[.slice sa n0 ca, .slice sb n1 cb, .slice sc n2 cc, .slice sd (max (n3 - 1) 1) cd] 27))
    case first =>
      by_cases hn : n3 = 1
      · subst hn
        go_wp2_with fail
        go_meet
        case rel => rfl
      · obtain ⟨m, rfl⟩ : ∃ m, n3 = m + 2 := ⟨n3 - 2, by omega⟩
        have Hmx := Lib.hid (show max (m + 2 - 1) 1 = m + 1 by omega)
        go_wp2_with fail
        go_meet
        case rel => show v3.alloc _ = v3.alloc _; rw [Hmx.out]
    case rest =>
    replace hcut : wc = _ := hcut
    obtain ⟨v4, hv4⟩ : ∃ v, v = v3.alloc (.cells #[.slice sa n0 ca, .slice sb n1 cb, .slice sc n2 cc, .slice sd (max (n3 - 1) 1) cd] 27) := ⟨_, rfl⟩
    rw [← hv4] at hcut
    replace hcut := hcut.symm
    subst hcut
    have hb3 : Below v3.heap.size v3 v4 := by rw [hv4]; exact by (repeat' (first | (with_reducible exact Below.refl _ _) | (with_reducible assumption) | (with_reducible refine below_drewN ?_ _) | (with_reducible refine Below.alloc ?_ ?_ _) | (with_reducible refine Below.drew ?_) | (with_reducible refine Below.setCell ?_ ?_ _) | go_size))
    have j3 : v4.heap[v3.heap.size]? = some (.cells #[.slice sa n0 ca, .slice sb n1 cb, .slice sc n2 cc, .slice sd (max (n3 - 1) 1) cd] 27) := by rw [hv4]; exact get_last rfl
    have j0 := obj_below j0 hb3 (heap_lt j0)
    have j1 := obj_below j1 hb3 (heap_lt j1)
    have j2 := obj_below j2 hb3 (heap_lt j2)
    have hj3 := obj_below hj3 hb3 z0
    have z0 := heap_lt hj3
    have HB3 := Lib.hid (HB3.out.trans (hb3.mono HB3.out.size))
    have y3 := heap_lt j3
    clear hb3 hv4 c0 c1 c2 c3
    have c0 := obj_cell j0 (i := 0) rfl
    have c1 := obj_cell j0 (i := 1) rfl
    have c2 := obj_cell j0 (i := 2) rfl
    have c3 := obj_cell j0 (i := 3) rfl
    go_wp2_with fail
    refine (HT.out (n0 - 1) n1 n2 n3 (by omega) (by omega) (by omega) (by omega) (by omega) _ HB3.out).mono ?_; rintro e x0 ⟨rfl, hb⟩
    have j1 := obj_below j1 hb (heap_lt j1)
    have j2 := obj_below j2 hb (heap_lt j2)
    have j3 := obj_below j3 hb (heap_lt j3)
    have HB3 := Lib.hid (HB3.out.trans (hb.mono HB3.out.size))
    clear hb c0 c1 c2 c3
    have c0 := obj_cell j1 (i := 0) rfl
    have c1 := obj_cell j1 (i := 1) rfl
    have c2 := obj_cell j1 (i := 2) rfl
    have c3 := obj_cell j1 (i := 3) rfl
    go_wp2_with fail
    refine (HT.out n0 (n1 - 1) n2 n3 (by omega) (by omega) (by omega) (by omega) (by omega) _ HB3.out).mono ?_; rintro e x1 ⟨rfl, hb⟩
    have j2 := obj_below j2 hb (heap_lt j2)
    have j3 := obj_below j3 hb (heap_lt j3)
    have HB3 := Lib.hid (HB3.out.trans (hb.mono HB3.out.size))
    clear hb c0 c1 c2 c3
    have c0 := obj_cell j2 (i := 0) rfl
    have c1 := obj_cell j2 (i := 1) rfl
    have c2 := obj_cell j2 (i := 2) rfl
    have c3 := obj_cell j2 (i := 3) rfl
    go_wp2_with fail
    refine (HT.out n0 n1 (n2 - 1) n3 (by omega) (by omega) (by omega) (by omega) (by omega) _ HB3.out).mono ?_; rintro e x2 ⟨rfl, hb⟩
    have j3 := obj_below j3 hb (heap_lt j3)
    have HB3 := Lib.hid (HB3.out.trans (hb.mono HB3.out.size))
    clear hb c0 c1 c2 c3
    have c0 := obj_cell j3 (i := 0) rfl
    have c1 := obj_cell j3 (i := 1) rfl
    have c2 := obj_cell j3 (i := 2) rfl
    have c3 := obj_cell j3 (i := 3) rfl
    go_wp2_with fail
    refine (HT.out n0 n1 n2 (max (n3 - 1) 1) (by omega) (by omega) (by omega) (by omega) (by omega) _ HB3.out).mono ?_; rintro e x3 ⟨rfl, hb⟩
    have HB3 := Lib.hid (HB3.out.trans (hb.mono HB3.out.size))
    clear hb c0 c1 c2 c3
    go_wp2_with fail
    refine (hAw _).mono ?_; rintro e w9 ⟨rfl, hb⟩
    go_wp2_with fail
    go_ret
    exact ⟨rfl, HB3.out.trans (hb.mono HB3.out.size)⟩
  · obtain ⟨z, hz⟩ : ∃ z, checkE p = z := ⟨_, rfl⟩
    rw [hz] at HCk hck
    have q0 : (z != 0) = true := by simpa using hck
    clear hz hck
    go_enter Try.func4, Try.ntmps4
    go_upto_region 1 with fail
    rw [← HW1.out]
    go_wp2_with fail
    refine HFw.mono ?_; rintro e w2 ⟨rfl, hb2⟩
    have hj2 := obj_below HJ.out hb2 (by omega)
    have HB2 := Lib.hid (HB.out.trans (hb2.mono HB.out.size))
    have c0 := obj_cell hj2 (i := 0) rfl
    have c1 := obj_cell hj2 (i := 1) rfl
    have c2 := obj_cell hj2 (i := 2) rfl
    have c3 := obj_cell hj2 (i := 3) rfl
    clear hb2 hj2
    go_wp2_with fail
    refine (HCk _ HB2.out).mono ?_; rintro e w3 ⟨rfl, hb3⟩
    have HB3 := Lib.hid (HB2.out.trans (hb3.mono HB2.out.size))
    clear hb3
    go_wp2_with fail
    refine (hAw _).mono ?_; rintro e w4 ⟨rfl, hb4⟩
    go_wp2_with fail
    go_ret
    exact ⟨rfl, HB3.out.trans (hb4.mono HB3.out.size)⟩
end Go.Proofs.Ytogmbfhefblbjaa
