/- Layer 17: the scope of a unit, by the answer. -/
import Derived.Test.YtogmbfhefblbjaaDeclSc
namespace Go.Proofs.Ytogmbfhefblbjaa
open Go.RowKit
set_option linter.unusedSimpArgs false
set_option linter.unusedVariables false
def partL (p : Pr) (u : Int) (k : Nat) : List Int := if u < k then scopeL p u else []
theorem own_ne_row {w : World} {B C : Nat} {e f : TypeId} {q r n m : Nat} {v v' : Value} {xs ys : List Value} (h : w.ownsRow B e q v n xs) (k : w.ownsRow C f r v' m ys) (hne : e ≠ f) {g : Nat} (hv : v.ownBlock = some g) (hv' : v'.ownBlock = some g) : False := owns_type h k hne hv hv'
theorem sigs_rowR {w : World} {C : Nat} {U : List Value} {us : List Un} {v : Value} {n : Nat} (hn : n = us.length) (hl : U.length = us.length) (hR : ∀ (i : Nat) (u : Value) (x : Un), U[i]? = some u → us[i]? = some x → RowR 1 intR w u x.params) (hO : w.ownsRow C 72 2 v n (flatC (sigC U us))) : RowR 2 sigR w v (us.map fun x => (x.params, x.result)) := by
  have hcl : (sigC U us).length = us.length := by simp [sigC, hl]
  refine row_of_chunks hO (by rw [hcl, hn]) (by simp [hcl]) (fun i c y hc hy => ?_)
  rw [List.getElem?_map] at hy
  obtain ⟨x, hx, rfl⟩ := Option.map_eq_some_iff.1 hy
  obtain ⟨u, hu⟩ := get_some (L := U) (n := i) (by rw [hl]; exact lt_of_get hx)
  have hcc : c = ⟨[u, .int .i64 x.result], rfl⟩ := by
    unfold sigC at hc
    rw [List.getElem?_zipWith, hu, hx] at hc
    injection hc with hc
    exact hc.symm
  subst hcc
  exact ⟨u, rfl, hR i u x hu hx⟩
set_option maxHeartbeats 8000000 in
theorem ref17_Scope (pa pb pc pd : Value) (p : Pr) (u : Int) (w : World) (hp : PrAt w pa pb pc pd p) (hf : fewP p = true) :
    Calls Try.prog 13 #[.agg #[pa, pb, pc, pd], .int .i64 u] w fun e w' => ∃ a b c d, e = .returned (.agg #[a, b, c, d]) ∧ ScopeAt w' a b c d p u ∧ Below w.heap.size w w' := by
  obtain ⟨i, zz, hi, hz, hsize, hby, hzs⟩ : ∃ i z, Try.prog.info? 72 = some i ∧ i.zero = some z ∧ i.size = 2 ∧ i.bytes = 32 ∧ z.cells.size = 2 := ⟨(Try.prog.info? 72).get!, .agg #[.slice none 0 0, .int .i64 0], by kernel_rfl, by kernel_rfl, by kernel_rfl, by kernel_rfl, by kernel_rfl⟩
  have hf' := of_decide_eq_true hf
  have hfu := hf'.2.2.2
  obtain ⟨f1, f2, f3, f4⟩ := hf'.1
  clear hf hf'
  obtain ⟨sa, ca, rfl⟩ := row_get hp.cs
  obtain ⟨sb, cb, rfl⟩ := row_get hp.vs
  obtain ⟨sc, cc, rfl⟩ := row_get hp.bs
  obtain ⟨sd, cd, rfl⟩ := row_get hp.us
  obtain ⟨_, hvs, hbs, hus⟩ := hp
  obtain ⟨us, hus'⟩ : ∃ us, p.units = us := ⟨_, rfl⟩
  have HUS := Lib.hid hus'
  rw [hus'] at hus f4 hfu
  obtain ⟨n0, e0⟩ : ∃ n, p.consts.length = n := ⟨_, rfl⟩
  obtain ⟨n1, e1⟩ : ∃ n, p.vars.length = n := ⟨_, rfl⟩
  obtain ⟨n2, e2⟩ : ∃ n, p.blocks.length = n := ⟨_, rfl⟩
  obtain ⟨n3, e3⟩ : ∃ n, us.length = n := ⟨_, rfl⟩
  have HN := Lib.hid e3
  rw [e0, e1, e2, hus', e3]
  rw [e1] at hvs
  rw [e2] at hbs
  rw [e3] at hus f4
  clear e0 e1 e2 e3 hus' f1 f2 f3
  have HV := Lib.hid hvs
  have HK := Lib.hid hbs
  clear hvs hbs
  obtain ⟨W0, hW0⟩ : ∃ W0, W0 = ((w.alloc (.cells #[.slice sa n0 ca, .slice sb n1 cb, .slice sc n2 cc, .slice sd n3 cd] 27)).alloc (.cells #[.slice none 0 0, .slice none 0 0, .slice none 0 0, .slice none 0 0] 37)).alloc (.cells #[.slice sb n1 cb, .slice sc n2 cc, .slice none 0 0, .slice none 0 0] 37) := ⟨_, rfl⟩
  have HB0 := Lib.hid (show Below w.heap.size w W0 by rw [hW0]; exact by (repeat' (first | (with_reducible exact Below.refl _ _) | (with_reducible assumption) | (with_reducible refine below_drewN ?_ _) | (with_reducible refine Below.alloc ?_ ?_ _) | (with_reducible refine Below.drew ?_) | (with_reducible refine Below.setCell ?_ ?_ _) | go_size)))
  have HP0 := Lib.hid (show W0.heap[w.heap.size]? = some (.cells #[.slice sa n0 ca, .slice sb n1 cb, .slice sc n2 cc, .slice sd n3 cd] 27) by rw [hW0]; exact (get_past (by simp; omega)).trans ((get_past (by simp)).trans (get_last rfl)))
  have HR0 := Lib.hid (show W0.heap[w.heap.size + 1]? = some (.cells #[.slice none 0 0, .slice none 0 0, .slice none 0 0, .slice none 0 0] 37) by rw [hW0]; exact (get_past (by simp)).trans (get_last (by simp)))
  have HS0 := Lib.hid (show W0.heap[w.heap.size + 1 + 1]? = some (.cells #[.slice sb n1 cb, .slice sc n2 cc, .slice none 0 0, .slice none 0 0] 37) by rw [hW0]; exact get_last (by simp))
  have HW0 := Lib.hid hW0
  clear hW0
  go_enter Try.func13, Try.ntmps13
  go_upto_region 2 with fail
  rw [← HW0.out]
  go_wp2_with fail
  go_loopw [6] (fun jj wr => ∃ (k : Nat) (U : List Value) (ag ad : Option Addr) (cs m cdd : Nat), k ≤ n3 ∧ jj = .int .i64 k ∧ Hid (wr.heap[w.heap.size + 1 + 1]? = some (.cells #[.slice sb n1 cb, .slice sc n2 cc, .slice ag k cs, .slice ad m cdd] 37)) ∧ Hid (wr.heap[w.heap.size]? = some (.cells #[.slice sa n0 ca, .slice sb n1 cb, .slice sc n2 cc, .slice sd n3 cd] 27)) ∧ Hid (wr.heap[w.heap.size + 1]? = some (.cells #[.slice none 0 0, .slice none 0 0, .slice none 0 0, .slice none 0 0] 37)) ∧
    Hid (U.length = k) ∧ Hid (∀ (i : Nat) (u : Value) (x : Un), U[i]? = some u → us[i]? = some x → RowR 1 intR w u x.params) ∧ Hid (wr.ownsRow w.heap.size 72 2 (.slice ag k cs) k (flatC (sigC U (us.take k)))) ∧ Hid (wr.ownsRow w.heap.size 3 1 (.slice ad m cdd) m (iV (partL p u k))) ∧ Hid (m = (partL p u k).length ∧ ∀ z ∈ partL p u k, I64 z) ∧ Hid (Below w.heap.size w wr)) (fun jj _ => n3 - (intOf jj).toNat)
  case atStart =>
    have hp0 : partL p u 0 = [] := by
      unfold partL
      by_cases h : u < ((0 : Nat) : Int)
      · rw [if_pos h]; unfold scopeL; rw [if_neg (by omega)]
      · rw [if_neg h]
    exact ⟨0, [], none, none, 0, 0, 0, by omega, rfl, HS0, HP0, HR0, Lib.hid rfl, Lib.hid (by intro i u x h; simp at h), Lib.hid (World.ownsRow_nil _ _ _ _), Lib.hid (by rw [hp0]; exact World.ownsRow_nil _ _ _ _), Lib.hid (by rw [hp0]; exact ⟨rfl, by intro z h; cases h⟩), HB0⟩
  case round =>
    clear HS0 HP0 HR0 HB0
    obtain ⟨k, U, ag, ad, cs, m, cdd, hk, rfl, HS, HP, HR, HU, HUR, HO, HD, HM, HB⟩ := hrel
    have hj5 := HS.out
    have hjp := HP.out
    have hj4 := HR.out
    have c3 := obj_cell hjp (i := 3) rfl
    by_cases hlt : k < n3
    · have qk : ((k : Int) < (n3 : Int)) = True := eq_true (by omega)
      obtain ⟨x, hx⟩ := get_some (L := us) (n := k) (by rw [HN.out]; exact hlt)
      obtain ⟨b, off, rfl, hbw, hc⟩ := unit_at hus (k := k) (by rw [HN.out]; exact hlt)
      obtain ⟨u1, u3, u4, y0, y1, y2, y3, y4, hUx⟩ := hc k x hx
      obtain ⟨a1, b1, rfl⟩ := row_get hUx.ps
      obtain ⟨a3, b3, rfl⟩ := row_get hUx.ls
      obtain ⟨a4, b4, rfl⟩ := row_get hUx.cs
      have e1 := (HB.out.cell (p := ⟨b, off + k * 5 + 1, none⟩) hbw).trans y1
      have e2 := (HB.out.cell (p := ⟨b, off + k * 5 + 2, none⟩) hbw).trans y2
      have zb : b < wr.heap.size := World.block_lt_of_cell? _ _ e1
      have HT := Lib.hid (take_snoc hx)
      have HUl := Lib.hid (show U.length = (us.take k).length by rw [HU.out, List.length_take, HN.out]; omega)
      have HUx := Lib.hid hUx
      have HXx := Lib.hid hx
      clear hc hUx hx
      go_upto_region 5 with fail
      refine wp_region_till (S := (fun (L : Array Bool) (w' : World) => L.getD 18 true = false → ((fun (w' : World) => w'.heap[w.heap.size + 1 + 1]? = some (.cells #[.slice sb n1 cb, .slice sc n2 cc, .slice ag k cs, .slice ad m cdd] 37) ∧ w'.heap[w.heap.size]? = some (.cells #[.slice sa n0 ca, .slice sb n1 cb, .slice sc n2 cc, .slice (some ⟨b, off, none⟩) n3 cd] 27) ∧ w'.cell? ⟨b, off + k * 5 + 1, none⟩ = some (.slice a1 x.params.length b1) ∧ w'.cell? ⟨b, off + k * 5 + 2, none⟩ = some (.int .i64 x.result)) w'))) (by kernel_rfl) ?_ (fun hHeld => ?_)
      · (try dsimp only); exact (fun _ => ⟨hj5, hjp, e1, e2⟩)
      refine till_take 18 (fun (w' : World) => w'.heap[w.heap.size + 1 + 1]? = some (.cells #[.slice sb n1 cb, .slice sc n2 cc, .slice ag k cs, .slice ad m cdd] 37) ∧ w'.heap[w.heap.size]? = some (.cells #[.slice sa n0 ca, .slice sb n1 cb, .slice sc n2 cc, .slice (some ⟨b, off, none⟩) n3 cd] 27) ∧ w'.cell? ⟨b, off + k * 5 + 1, none⟩ = some (.slice a1 x.params.length b1) ∧ w'.cell? ⟨b, off + k * 5 + 2, none⟩ = some (.int .i64 x.result)) (i := 0) (oi := { dst := some 19, op := Op.fieldAddr 37 (Operand.tmp 5) 2, type := 0, pos := _, after := #[], guard := none }) (u := ?_) rfl (by kernel_rfl) (by kernel_rfl) (by kernel_rfl) (by kernel_rfl) (by kernel_rfl) (by decide) (fun L v hL h => h hL) (fun L v => by simp only [getD_set_ne true (show 0 ≠ 18 by decide)]) (fun _ _ _ h => h) (Or.inl ⟨by rfl, ?_⟩) hHeld ?_
      rotate_left
      · intro wt hSw; (try dsimp only at hSw); obtain ⟨h1, h2, h3, h4⟩ := hSw; have q2 := obj_cell h1 (i := 2) rfl; have p3 := obj_cell h2 (i := 3) rfl; clear h1 h2; first | (go_simp; done) | (go_simp; with_reducible rfl) | (trace_state; fail)
      clear hHeld; intro hHeld
      try simp only [Act.put, List.setIfInBounds_toArray, List.set_cons_zero, List.set_cons_succ]
      refine till_take 18 (fun (w' : World) => w'.heap[w.heap.size + 1 + 1]? = some (.cells #[.slice sb n1 cb, .slice sc n2 cc, .slice ag k cs, .slice ad m cdd] 37) ∧ w'.heap[w.heap.size]? = some (.cells #[.slice sa n0 ca, .slice sb n1 cb, .slice sc n2 cc, .slice (some ⟨b, off, none⟩) n3 cd] 27) ∧ w'.cell? ⟨b, off + k * 5 + 1, none⟩ = some (.slice a1 x.params.length b1) ∧ w'.cell? ⟨b, off + k * 5 + 2, none⟩ = some (.int .i64 x.result)) (i := 1) (oi := { dst := some 20, op := Op.load 34 (Operand.tmp 19), type := 34, pos := _, after := #[{ on := 0, ground := Ground.data }], guard := none }) (u := ?_) rfl (by kernel_rfl) (by kernel_rfl) (by kernel_rfl) (by kernel_rfl) (by kernel_rfl) (by decide) (fun L v hL h => h hL) (fun L v => by simp only [getD_set_ne true (show 1 ≠ 18 by decide)]) (fun _ _ _ h => h) (Or.inl ⟨by rfl, ?_⟩) hHeld ?_
      rotate_left
      · intro wt hSw; (try dsimp only at hSw); obtain ⟨h1, h2, h3, h4⟩ := hSw; have q2 := obj_cell h1 (i := 2) rfl; have p3 := obj_cell h2 (i := 3) rfl; clear h1 h2; first | (go_simp; done) | (go_simp; with_reducible rfl) | (trace_state; fail)
      clear hHeld; intro hHeld
      try simp only [Act.put, List.setIfInBounds_toArray, List.set_cons_zero, List.set_cons_succ]
      refine till_take 18 (fun (w' : World) => w'.heap[w.heap.size + 1 + 1]? = some (.cells #[.slice sb n1 cb, .slice sc n2 cc, .slice ag k cs, .slice ad m cdd] 37) ∧ w'.heap[w.heap.size]? = some (.cells #[.slice sa n0 ca, .slice sb n1 cb, .slice sc n2 cc, .slice (some ⟨b, off, none⟩) n3 cd] 27) ∧ w'.cell? ⟨b, off + k * 5 + 1, none⟩ = some (.slice a1 x.params.length b1) ∧ w'.cell? ⟨b, off + k * 5 + 2, none⟩ = some (.int .i64 x.result)) (i := 2) (oi := { dst := some 21, op := Op.fieldAddr 27 (Operand.tmp 2) 3, type := 0, pos := _, after := #[], guard := none }) (u := ?_) rfl (by kernel_rfl) (by kernel_rfl) (by kernel_rfl) (by kernel_rfl) (by kernel_rfl) (by decide) (fun L v hL h => h hL) (fun L v => by simp only [getD_set_ne true (show 2 ≠ 18 by decide)]) (fun _ _ _ h => h) (Or.inl ⟨by rfl, ?_⟩) hHeld ?_
      rotate_left
      · intro wt hSw; (try dsimp only at hSw); obtain ⟨h1, h2, h3, h4⟩ := hSw; have q2 := obj_cell h1 (i := 2) rfl; have p3 := obj_cell h2 (i := 3) rfl; clear h1 h2; first | (go_simp; done) | (go_simp; with_reducible rfl) | (trace_state; fail)
      clear hHeld; intro hHeld
      try simp only [Act.put, List.setIfInBounds_toArray, List.set_cons_zero, List.set_cons_succ]
      refine till_take 18 (fun (w' : World) => w'.heap[w.heap.size + 1 + 1]? = some (.cells #[.slice sb n1 cb, .slice sc n2 cc, .slice ag k cs, .slice ad m cdd] 37) ∧ w'.heap[w.heap.size]? = some (.cells #[.slice sa n0 ca, .slice sb n1 cb, .slice sc n2 cc, .slice (some ⟨b, off, none⟩) n3 cd] 27) ∧ w'.cell? ⟨b, off + k * 5 + 1, none⟩ = some (.slice a1 x.params.length b1) ∧ w'.cell? ⟨b, off + k * 5 + 2, none⟩ = some (.int .i64 x.result)) (i := 3) (oi := { dst := some 22, op := Op.load 25 (Operand.tmp 21), type := 25, pos := _, after := #[{ on := 2, ground := Ground.data }], guard := none }) (u := ?_) rfl (by kernel_rfl) (by kernel_rfl) (by kernel_rfl) (by kernel_rfl) (by kernel_rfl) (by decide) (fun L v hL h => h hL) (fun L v => by simp only [getD_set_ne true (show 3 ≠ 18 by decide)]) (fun _ _ _ h => h) (Or.inl ⟨by rfl, ?_⟩) hHeld ?_
      rotate_left
      · intro wt hSw; (try dsimp only at hSw); obtain ⟨h1, h2, h3, h4⟩ := hSw; have q2 := obj_cell h1 (i := 2) rfl; have p3 := obj_cell h2 (i := 3) rfl; clear h1 h2; first | (go_simp; done) | (go_simp; with_reducible rfl) | (trace_state; fail)
      clear hHeld; intro hHeld
      try simp only [Act.put, List.setIfInBounds_toArray, List.set_cons_zero, List.set_cons_succ]
      refine till_take 18 (fun (w' : World) => w'.heap[w.heap.size + 1 + 1]? = some (.cells #[.slice sb n1 cb, .slice sc n2 cc, .slice ag k cs, .slice ad m cdd] 37) ∧ w'.heap[w.heap.size]? = some (.cells #[.slice sa n0 ca, .slice sb n1 cb, .slice sc n2 cc, .slice (some ⟨b, off, none⟩) n3 cd] 27) ∧ w'.cell? ⟨b, off + k * 5 + 1, none⟩ = some (.slice a1 x.params.length b1) ∧ w'.cell? ⟨b, off + k * 5 + 2, none⟩ = some (.int .i64 x.result)) (i := 4) (oi := { dst := some 23, op := Op.move (Operand.tmp 6), type := 3, pos := _, after := #[], guard := none }) (u := ?_) rfl (by kernel_rfl) (by kernel_rfl) (by kernel_rfl) (by kernel_rfl) (by kernel_rfl) (by decide) (fun L v hL h => h hL) (fun L v => by simp only [getD_set_ne true (show 4 ≠ 18 by decide)]) (fun _ _ _ h => h) (Or.inl ⟨by rfl, ?_⟩) hHeld ?_
      rotate_left
      · intro wt hSw; (try dsimp only at hSw); obtain ⟨h1, h2, h3, h4⟩ := hSw; have q2 := obj_cell h1 (i := 2) rfl; have p3 := obj_cell h2 (i := 3) rfl; clear h1 h2; first | (go_simp; done) | (go_simp; with_reducible rfl) | (trace_state; fail)
      clear hHeld; intro hHeld
      try simp only [Act.put, List.setIfInBounds_toArray, List.set_cons_zero, List.set_cons_succ]
      refine till_take 18 (fun (w' : World) => w'.heap[w.heap.size + 1 + 1]? = some (.cells #[.slice sb n1 cb, .slice sc n2 cc, .slice ag k cs, .slice ad m cdd] 37) ∧ w'.heap[w.heap.size]? = some (.cells #[.slice sa n0 ca, .slice sb n1 cb, .slice sc n2 cc, .slice (some ⟨b, off, none⟩) n3 cd] 27) ∧ w'.cell? ⟨b, off + k * 5 + 1, none⟩ = some (.slice a1 x.params.length b1) ∧ w'.cell? ⟨b, off + k * 5 + 2, none⟩ = some (.int .i64 x.result)) (i := 5) (oi := { dst := some 24, op := Op.indexAddr 25 (Operand.tmp 22) (Operand.tmp 23), type := 0, pos := _, after := #[{ on := 3, ground := Ground.data }, { on := 4, ground := Ground.data }], guard := none }) (u := ?_) rfl (by kernel_rfl) (by kernel_rfl) (by kernel_rfl) (by kernel_rfl) (by kernel_rfl) (by decide) (fun L v hL h => h hL) (fun L v => by simp only [getD_set_ne true (show 5 ≠ 18 by decide)]) (fun _ _ _ h => h) (Or.inl ⟨by rfl, ?_⟩) hHeld ?_
      rotate_left
      · intro wt hSw; (try dsimp only at hSw); obtain ⟨h1, h2, h3, h4⟩ := hSw; have q2 := obj_cell h1 (i := 2) rfl; have p3 := obj_cell h2 (i := 3) rfl; clear h1 h2; first | (go_simp; done) | (go_simp; with_reducible rfl) | (trace_state; fail)
      clear hHeld; intro hHeld
      try simp only [Act.put, List.setIfInBounds_toArray, List.set_cons_zero, List.set_cons_succ]
      refine till_take 18 (fun (w' : World) => w'.heap[w.heap.size + 1 + 1]? = some (.cells #[.slice sb n1 cb, .slice sc n2 cc, .slice ag k cs, .slice ad m cdd] 37) ∧ w'.heap[w.heap.size]? = some (.cells #[.slice sa n0 ca, .slice sb n1 cb, .slice sc n2 cc, .slice (some ⟨b, off, none⟩) n3 cd] 27) ∧ w'.cell? ⟨b, off + k * 5 + 1, none⟩ = some (.slice a1 x.params.length b1) ∧ w'.cell? ⟨b, off + k * 5 + 2, none⟩ = some (.int .i64 x.result)) (i := 6) (oi := { dst := some 25, op := Op.fieldAddr 41 (Operand.tmp 24) 1, type := 0, pos := _, after := #[{ on := 5, ground := Ground.data }], guard := none }) (u := ?_) rfl (by kernel_rfl) (by kernel_rfl) (by kernel_rfl) (by kernel_rfl) (by kernel_rfl) (by decide) (fun L v hL h => h hL) (fun L v => by simp only [getD_set_ne true (show 6 ≠ 18 by decide)]) (fun _ _ _ h => h) (Or.inl ⟨by rfl, ?_⟩) hHeld ?_
      rotate_left
      · intro wt hSw; (try dsimp only at hSw); obtain ⟨h1, h2, h3, h4⟩ := hSw; have q2 := obj_cell h1 (i := 2) rfl; have p3 := obj_cell h2 (i := 3) rfl; clear h1 h2; first | (go_simp; done) | (go_simp; with_reducible rfl) | (trace_state; fail)
      clear hHeld; intro hHeld
      try simp only [Act.put, List.setIfInBounds_toArray, List.set_cons_zero, List.set_cons_succ]
      refine till_take 18 (fun (w' : World) => w'.heap[w.heap.size + 1 + 1]? = some (.cells #[.slice sb n1 cb, .slice sc n2 cc, .slice ag k cs, .slice ad m cdd] 37) ∧ w'.heap[w.heap.size]? = some (.cells #[.slice sa n0 ca, .slice sb n1 cb, .slice sc n2 cc, .slice (some ⟨b, off, none⟩) n3 cd] 27) ∧ w'.cell? ⟨b, off + k * 5 + 1, none⟩ = some (.slice a1 x.params.length b1) ∧ w'.cell? ⟨b, off + k * 5 + 2, none⟩ = some (.int .i64 x.result)) (i := 7) (oi := { dst := some 26, op := Op.load 35 (Operand.tmp 25), type := 35, pos := _, after := #[{ on := 6, ground := Ground.data }], guard := none }) (u := ?_) rfl (by kernel_rfl) (by kernel_rfl) (by kernel_rfl) (by kernel_rfl) (by kernel_rfl) (by decide) (fun L v hL h => h hL) (fun L v => by simp only [getD_set_ne true (show 7 ≠ 18 by decide)]) (fun _ _ _ h => h) (Or.inl ⟨by rfl, ?_⟩) hHeld ?_
      rotate_left
      · intro wt hSw; (try dsimp only at hSw); obtain ⟨h1, h2, h3, h4⟩ := hSw; have q2 := obj_cell h1 (i := 2) rfl; have p3 := obj_cell h2 (i := 3) rfl; clear h1 h2; first | (go_simp; done) | (go_simp; with_reducible rfl) | (trace_state; fail)
      clear hHeld; intro hHeld
      try simp only [Act.put, List.setIfInBounds_toArray, List.set_cons_zero, List.set_cons_succ]
      refine till_take 18 (fun (w' : World) => w'.heap[w.heap.size + 1 + 1]? = some (.cells #[.slice sb n1 cb, .slice sc n2 cc, .slice ag k cs, .slice ad m cdd] 37) ∧ w'.heap[w.heap.size]? = some (.cells #[.slice sa n0 ca, .slice sb n1 cb, .slice sc n2 cc, .slice (some ⟨b, off, none⟩) n3 cd] 27) ∧ w'.cell? ⟨b, off + k * 5 + 1, none⟩ = some (.slice a1 x.params.length b1) ∧ w'.cell? ⟨b, off + k * 5 + 2, none⟩ = some (.int .i64 x.result)) (i := 8) (oi := { dst := some 27, op := Op.fieldAddr 27 (Operand.tmp 2) 3, type := 0, pos := _, after := #[], guard := none }) (u := ?_) rfl (by kernel_rfl) (by kernel_rfl) (by kernel_rfl) (by kernel_rfl) (by kernel_rfl) (by decide) (fun L v hL h => h hL) (fun L v => by simp only [getD_set_ne true (show 8 ≠ 18 by decide)]) (fun _ _ _ h => h) (Or.inl ⟨by rfl, ?_⟩) hHeld ?_
      rotate_left
      · intro wt hSw; (try dsimp only at hSw); obtain ⟨h1, h2, h3, h4⟩ := hSw; have q2 := obj_cell h1 (i := 2) rfl; have p3 := obj_cell h2 (i := 3) rfl; clear h1 h2; first | (go_simp; done) | (go_simp; with_reducible rfl) | (trace_state; fail)
      clear hHeld; intro hHeld
      try simp only [Act.put, List.setIfInBounds_toArray, List.set_cons_zero, List.set_cons_succ]
      refine till_take 18 (fun (w' : World) => w'.heap[w.heap.size + 1 + 1]? = some (.cells #[.slice sb n1 cb, .slice sc n2 cc, .slice ag k cs, .slice ad m cdd] 37) ∧ w'.heap[w.heap.size]? = some (.cells #[.slice sa n0 ca, .slice sb n1 cb, .slice sc n2 cc, .slice (some ⟨b, off, none⟩) n3 cd] 27) ∧ w'.cell? ⟨b, off + k * 5 + 1, none⟩ = some (.slice a1 x.params.length b1) ∧ w'.cell? ⟨b, off + k * 5 + 2, none⟩ = some (.int .i64 x.result)) (i := 9) (oi := { dst := some 28, op := Op.load 25 (Operand.tmp 27), type := 25, pos := _, after := #[{ on := 8, ground := Ground.data }], guard := none }) (u := ?_) rfl (by kernel_rfl) (by kernel_rfl) (by kernel_rfl) (by kernel_rfl) (by kernel_rfl) (by decide) (fun L v hL h => h hL) (fun L v => by simp only [getD_set_ne true (show 9 ≠ 18 by decide)]) (fun _ _ _ h => h) (Or.inl ⟨by rfl, ?_⟩) hHeld ?_
      rotate_left
      · intro wt hSw; (try dsimp only at hSw); obtain ⟨h1, h2, h3, h4⟩ := hSw; have q2 := obj_cell h1 (i := 2) rfl; have p3 := obj_cell h2 (i := 3) rfl; clear h1 h2; first | (go_simp; done) | (go_simp; with_reducible rfl) | (trace_state; fail)
      clear hHeld; intro hHeld
      try simp only [Act.put, List.setIfInBounds_toArray, List.set_cons_zero, List.set_cons_succ]
      refine till_take 18 (fun (w' : World) => w'.heap[w.heap.size + 1 + 1]? = some (.cells #[.slice sb n1 cb, .slice sc n2 cc, .slice ag k cs, .slice ad m cdd] 37) ∧ w'.heap[w.heap.size]? = some (.cells #[.slice sa n0 ca, .slice sb n1 cb, .slice sc n2 cc, .slice (some ⟨b, off, none⟩) n3 cd] 27) ∧ w'.cell? ⟨b, off + k * 5 + 1, none⟩ = some (.slice a1 x.params.length b1) ∧ w'.cell? ⟨b, off + k * 5 + 2, none⟩ = some (.int .i64 x.result)) (i := 10) (oi := { dst := some 29, op := Op.move (Operand.tmp 6), type := 3, pos := _, after := #[], guard := none }) (u := ?_) rfl (by kernel_rfl) (by kernel_rfl) (by kernel_rfl) (by kernel_rfl) (by kernel_rfl) (by decide) (fun L v hL h => h hL) (fun L v => by simp only [getD_set_ne true (show 10 ≠ 18 by decide)]) (fun _ _ _ h => h) (Or.inl ⟨by rfl, ?_⟩) hHeld ?_
      rotate_left
      · intro wt hSw; (try dsimp only at hSw); obtain ⟨h1, h2, h3, h4⟩ := hSw; have q2 := obj_cell h1 (i := 2) rfl; have p3 := obj_cell h2 (i := 3) rfl; clear h1 h2; first | (go_simp; done) | (go_simp; with_reducible rfl) | (trace_state; fail)
      clear hHeld; intro hHeld
      try simp only [Act.put, List.setIfInBounds_toArray, List.set_cons_zero, List.set_cons_succ]
      refine till_take 18 (fun (w' : World) => w'.heap[w.heap.size + 1 + 1]? = some (.cells #[.slice sb n1 cb, .slice sc n2 cc, .slice ag k cs, .slice ad m cdd] 37) ∧ w'.heap[w.heap.size]? = some (.cells #[.slice sa n0 ca, .slice sb n1 cb, .slice sc n2 cc, .slice (some ⟨b, off, none⟩) n3 cd] 27) ∧ w'.cell? ⟨b, off + k * 5 + 1, none⟩ = some (.slice a1 x.params.length b1) ∧ w'.cell? ⟨b, off + k * 5 + 2, none⟩ = some (.int .i64 x.result)) (i := 11) (oi := { dst := some 30, op := Op.indexAddr 25 (Operand.tmp 28) (Operand.tmp 29), type := 0, pos := _, after := #[{ on := 9, ground := Ground.data }, { on := 10, ground := Ground.data }], guard := none }) (u := ?_) rfl (by kernel_rfl) (by kernel_rfl) (by kernel_rfl) (by kernel_rfl) (by kernel_rfl) (by decide) (fun L v hL h => h hL) (fun L v => by simp only [getD_set_ne true (show 11 ≠ 18 by decide)]) (fun _ _ _ h => h) (Or.inl ⟨by rfl, ?_⟩) hHeld ?_
      rotate_left
      · intro wt hSw; (try dsimp only at hSw); obtain ⟨h1, h2, h3, h4⟩ := hSw; have q2 := obj_cell h1 (i := 2) rfl; have p3 := obj_cell h2 (i := 3) rfl; clear h1 h2; first | (go_simp; done) | (go_simp; with_reducible rfl) | (trace_state; fail)
      clear hHeld; intro hHeld
      try simp only [Act.put, List.setIfInBounds_toArray, List.set_cons_zero, List.set_cons_succ]
      refine till_take 18 (fun (w' : World) => w'.heap[w.heap.size + 1 + 1]? = some (.cells #[.slice sb n1 cb, .slice sc n2 cc, .slice ag k cs, .slice ad m cdd] 37) ∧ w'.heap[w.heap.size]? = some (.cells #[.slice sa n0 ca, .slice sb n1 cb, .slice sc n2 cc, .slice (some ⟨b, off, none⟩) n3 cd] 27) ∧ w'.cell? ⟨b, off + k * 5 + 1, none⟩ = some (.slice a1 x.params.length b1) ∧ w'.cell? ⟨b, off + k * 5 + 2, none⟩ = some (.int .i64 x.result)) (i := 12) (oi := { dst := some 31, op := Op.fieldAddr 41 (Operand.tmp 30) 2, type := 0, pos := _, after := #[{ on := 11, ground := Ground.data }], guard := none }) (u := ?_) rfl (by kernel_rfl) (by kernel_rfl) (by kernel_rfl) (by kernel_rfl) (by kernel_rfl) (by decide) (fun L v hL h => h hL) (fun L v => by simp only [getD_set_ne true (show 12 ≠ 18 by decide)]) (fun _ _ _ h => h) (Or.inl ⟨by rfl, ?_⟩) hHeld ?_
      rotate_left
      · intro wt hSw; (try dsimp only at hSw); obtain ⟨h1, h2, h3, h4⟩ := hSw; have q2 := obj_cell h1 (i := 2) rfl; have p3 := obj_cell h2 (i := 3) rfl; clear h1 h2; first | (go_simp; done) | (go_simp; with_reducible rfl) | (trace_state; fail)
      clear hHeld; intro hHeld
      try simp only [Act.put, List.setIfInBounds_toArray, List.set_cons_zero, List.set_cons_succ]
      refine till_take 18 (fun (w' : World) => w'.heap[w.heap.size + 1 + 1]? = some (.cells #[.slice sb n1 cb, .slice sc n2 cc, .slice ag k cs, .slice ad m cdd] 37) ∧ w'.heap[w.heap.size]? = some (.cells #[.slice sa n0 ca, .slice sb n1 cb, .slice sc n2 cc, .slice (some ⟨b, off, none⟩) n3 cd] 27) ∧ w'.cell? ⟨b, off + k * 5 + 1, none⟩ = some (.slice a1 x.params.length b1) ∧ w'.cell? ⟨b, off + k * 5 + 2, none⟩ = some (.int .i64 x.result)) (i := 13) (oi := { dst := some 32, op := Op.load 3 (Operand.tmp 31), type := 3, pos := _, after := #[{ on := 12, ground := Ground.data }], guard := none }) (u := ?_) rfl (by kernel_rfl) (by kernel_rfl) (by kernel_rfl) (by kernel_rfl) (by kernel_rfl) (by decide) (fun L v hL h => h hL) (fun L v => by simp only [getD_set_ne true (show 13 ≠ 18 by decide)]) (fun _ _ _ h => h) (Or.inl ⟨by rfl, ?_⟩) hHeld ?_
      rotate_left
      · intro wt hSw; (try dsimp only at hSw); obtain ⟨h1, h2, h3, h4⟩ := hSw; have q2 := obj_cell h1 (i := 2) rfl; have p3 := obj_cell h2 (i := 3) rfl; clear h1 h2; first | (go_simp; done) | (go_simp; with_reducible rfl) | (trace_state; fail)
      clear hHeld; intro hHeld
      try simp only [Act.put, List.setIfInBounds_toArray, List.set_cons_zero, List.set_cons_succ]
      refine till_take 18 (fun (w' : World) => w'.heap[w.heap.size + 1 + 1]? = some (.cells #[.slice sb n1 cb, .slice sc n2 cc, .slice ag k cs, .slice ad m cdd] 37) ∧ w'.heap[w.heap.size]? = some (.cells #[.slice sa n0 ca, .slice sb n1 cb, .slice sc n2 cc, .slice (some ⟨b, off, none⟩) n3 cd] 27) ∧ w'.cell? ⟨b, off + k * 5 + 1, none⟩ = some (.slice a1 x.params.length b1) ∧ w'.cell? ⟨b, off + k * 5 + 2, none⟩ = some (.int .i64 x.result)) (i := 14) (oi := { dst := some 33, op := Op.build 72 #[(0, Operand.tmp 26), (1, Operand.tmp 32)], type := 72, pos := _, after := #[{ on := 7, ground := Ground.data }, { on := 13, ground := Ground.data }], guard := none }) (u := ?_) rfl (by kernel_rfl) (by kernel_rfl) (by kernel_rfl) (by kernel_rfl) (by kernel_rfl) (by decide) (fun L v hL h => h hL) (fun L v => by simp only [getD_set_ne true (show 14 ≠ 18 by decide)]) (fun _ _ _ h => h) (Or.inl ⟨by rfl, ?_⟩) hHeld ?_
      rotate_left
      · intro wt hSw; (try dsimp only at hSw); obtain ⟨h1, h2, h3, h4⟩ := hSw; have q2 := obj_cell h1 (i := 2) rfl; have p3 := obj_cell h2 (i := 3) rfl; clear h1 h2; first | (go_simp; done) | (go_simp; with_reducible rfl) | (trace_state; fail)
      clear hHeld; intro hHeld
      try simp only [Act.put, List.setIfInBounds_toArray, List.set_cons_zero, List.set_cons_succ]
      refine till_one (i := 15) (o := { dst := some 34, op := Op.buildSlice 34 1 #[(0, Operand.tmp 33)], type := 34, pos := _, after := #[{ on := 14, ground := Ground.data }], guard := none }) (by kernel_rfl) rfl (fun K hK => ?_)
      go_simp
      refine hK.out _ _ ?_ (fun hHeld => ?_)
      · (try dsimp only); exact (fun _ => ⟨(get_past (heap_lt hj5)).trans hj5, (get_past (heap_lt hjp)).trans hjp, (cell_past zb).trans e1, (cell_past zb).trans e2⟩)
      clear hK K
      try simp only [Act.put, List.setIfInBounds_toArray, List.set_cons_zero, List.set_cons_succ]
      refine till_one (i := 16) (o := { dst := some 35, op := Op.call { callee := Callee.builtin Builtin.append, args := #[Operand.tmp 20, Operand.tmp 34], argTypes := #[34, 34] }, type := 34, pos := _, after := #[{ on := 1, ground := Ground.data }, { on := 15, ground := Ground.data }], guard := none }) (by kernel_rfl) rfl (fun K hK => ?_)
      rw [if_pos (by kernel_rfl)]
      have hb15 : Below wr.heap.size wr ((wr.alloc (.cells #[.slice a1 x.params.length b1, .int .i64 x.result] 72)).drew) := (by (repeat' (first | (with_reducible exact Below.refl _ _) | (with_reducible assumption) | (with_reducible refine below_drewN ?_ _) | (with_reducible refine Below.alloc ?_ ?_ _) | (with_reducible refine Below.drew ?_) | (with_reducible refine Below.setCell ?_ ?_ _) | go_size))); refine wp_append_src (.tmp 20) (.tmp 34) 34 rfl w.heap.size 72 i zz 2 32 Try.underlying34 hi hz hsize hby hzs (by omega) _ k (flatC (sigC U (us.take k))) rfl (owns_below HO.out hb15) _ 1 [.slice a1 x.params.length b1, .int .i64 x.result] rfl ((src_new wr [.slice a1 x.params.length b1, .int .i64 x.result] 72).below ((Below.refl _ _).drew)) rfl (by intro u hu; simp at hu; rcases hu with rfl | rfl <;> rfl) (by unfold maxLen; omega) (by omega) (Nat.le_trans HB.out.size hb15.size) ?_; intro v2 w2 hO2 hG2; have hOw := owns_below HO.out hb15; have kj5 := obj_below hj5 hb15 (heap_lt hj5); have kjp := obj_below hjp hb15 (heap_lt hjp); have kj4 := obj_below hj4 hb15 (heap_lt hj4); have Hj5 := Lib.hid ((hG2.block (w.heap.size + 1 + 1) (heap_lt kj5) (fun e => own_ne_type hOw kj5 (by decide) e.symm)).trans kj5); have Hjp := Lib.hid ((hG2.block w.heap.size (heap_lt kjp) (fun e => own_ne_type hOw kjp (by decide) e.symm)).trans kjp); have Hj4 := Lib.hid ((hG2.block (w.heap.size + 1) (heap_lt kj4) (fun e => own_ne_type hOw kj4 (by decide) e.symm)).trans kj4); have HB2 := Lib.hid (grown3 (HB.out.trans (hb15.mono HB.out.size)) (Nat.le_trans HB.out.size hb15.size) hOw hG2); have He1 := Lib.hid ((HB2.out.cell (p := ⟨b, off + k * 5 + 1, none⟩) hbw).trans y1); have He2 := Lib.hid ((HB2.out.cell (p := ⟨b, off + k * 5 + 2, none⟩) hbw).trans y2); have HD2 := Lib.hid (owns_grown (owns_below HD.out hb15) hG2 (fun g hg => by intro e; exact own_ne_row HO.out HD.out (by decide) e hg)); obtain ⟨av, cv2, rfl⟩ := owns_form hO2; have HO2 := Lib.hid hO2; have f2 := obj_frozen Hj5.out 2; have g2 := obj_cell Hj5.out (i := 2) rfl; clear hO2 hG2 hOw kj5 kjp kj4
      refine hK.out _ _ ?_ (fun hHeld => ?_)
      · (try dsimp only); exact (fun _ => ⟨Hj5.out, Hjp.out, He1.out, He2.out⟩)
      clear hK K
      try simp only [Act.put, List.setIfInBounds_toArray, List.set_cons_zero, List.set_cons_succ]
      refine till_take 18 (fun (w' : World) => w'.heap[w.heap.size + 1 + 1]? = some (.cells #[.slice sb n1 cb, .slice sc n2 cc, .slice ag k cs, .slice ad m cdd] 37) ∧ w'.heap[w.heap.size]? = some (.cells #[.slice sa n0 ca, .slice sb n1 cb, .slice sc n2 cc, .slice (some ⟨b, off, none⟩) n3 cd] 27) ∧ w'.cell? ⟨b, off + k * 5 + 1, none⟩ = some (.slice a1 x.params.length b1) ∧ w'.cell? ⟨b, off + k * 5 + 2, none⟩ = some (.int .i64 x.result)) (i := 17) (oi := { dst := some 36, op := Op.fieldAddr 37 (Operand.tmp 5) 2, type := 0, pos := _, after := #[{ on := 0, ground := Ground.phase }, { on := 1, ground := Ground.phase }, { on := 2, ground := Ground.phase }, { on := 3, ground := Ground.phase }, { on := 4, ground := Ground.phase }, { on := 5, ground := Ground.phase }, { on := 6, ground := Ground.phase }, { on := 7, ground := Ground.phase }, { on := 8, ground := Ground.phase }, { on := 9, ground := Ground.phase }, { on := 10, ground := Ground.phase }, { on := 11, ground := Ground.phase }, { on := 12, ground := Ground.phase }, { on := 13, ground := Ground.phase }, { on := 14, ground := Ground.phase }, { on := 15, ground := Ground.phase }, { on := 16, ground := Ground.phase }], guard := none }) (u := ?_) rfl (by kernel_rfl) (by kernel_rfl) (by kernel_rfl) (by kernel_rfl) (by kernel_rfl) (by decide) (fun L v hL h => h hL) (fun L v => by simp only [getD_set_ne true (show 17 ≠ 18 by decide)]) (fun _ _ _ h => h) (Or.inl ⟨by rfl, ?_⟩) hHeld ?_
      rotate_left
      · intro wt hSw; (try dsimp only at hSw); obtain ⟨h1, h2, h3, h4⟩ := hSw; have q2 := obj_cell h1 (i := 2) rfl; have p3 := obj_cell h2 (i := 3) rfl; clear h1 h2; first | (go_simp; done) | (go_simp; with_reducible rfl) | (trace_state; fail)
      clear hHeld; intro hHeld
      try simp only [Act.put, List.setIfInBounds_toArray, List.set_cons_zero, List.set_cons_succ]
      refine till_one (i := 18) (o := { dst := none, op := Op.store 34 (Operand.tmp 36) (Operand.tmp 35), type := 0, pos := _, after := #[{ on := 17, ground := Ground.data }, { on := 16, ground := Ground.data }, { on := 16, ground := Ground.chain }, { on := 0, ground := Ground.phase }, { on := 1, ground := Ground.phase }, { on := 2, ground := Ground.phase }, { on := 3, ground := Ground.phase }, { on := 4, ground := Ground.phase }, { on := 5, ground := Ground.phase }, { on := 6, ground := Ground.phase }, { on := 7, ground := Ground.phase }, { on := 8, ground := Ground.phase }, { on := 9, ground := Ground.phase }, { on := 10, ground := Ground.phase }, { on := 11, ground := Ground.phase }, { on := 12, ground := Ground.phase }, { on := 13, ground := Ground.phase }, { on := 14, ground := Ground.phase }, { on := 15, ground := Ground.phase }, { on := 16, ground := Ground.phase }], guard := none }) (by kernel_rfl) rfl (fun K hK => ?_)
      go_simp
      refine hK.out _ _ ?_ (fun hHeld => ?_)
      · (try dsimp only); exact (fun h => absurd h (by decide))
      clear hK K
      try simp only [Act.put, List.setIfInBounds_toArray, List.set_cons_zero, List.set_cons_succ]
      refine till_done (by kernel_rfl) ?_ _
      obtain ⟨W3, hW3⟩ : ∃ W3, W3 = w2.setCell ⟨w.heap.size + 1 + 1, 2, none⟩ (.slice av (k + 1) cv2) := ⟨_, rfl⟩
      have HS3 := Lib.hid (show W3.heap[w.heap.size + 1 + 1]? = some (.cells #[.slice sb n1 cb, .slice sc n2 cc, .slice av (k + 1) cv2, .slice ad m cdd] 37) by rw [hW3]; exact obj_self (A := #[.slice sb n1 cb, .slice sc n2 cc, .slice ag k cs, .slice ad m cdd]) Hj5.out)
      have HP3 := Lib.hid (show W3.heap[w.heap.size]? = some (.cells #[.slice sa n0 ca, .slice sb n1 cb, .slice sc n2 cc, .slice (some ⟨b, off, none⟩) n3 cd] 27) by rw [hW3, get_set (by simp <;> omega)]; exact Hjp.out)
      have HR3 := Lib.hid (show W3.heap[w.heap.size + 1]? = some (.cells #[.slice none 0 0, .slice none 0 0, .slice none 0 0, .slice none 0 0] 37) by rw [hW3, get_set (by simp <;> omega)]; exact Hj4.out)
      have HO3 := Lib.hid (show W3.ownsRow w.heap.size 72 2 (.slice av (k + 1) cv2) (k + 1) (flatC (sigC (U ++ [.slice a1 x.params.length b1]) (us.take (k + 1)))) by rw [hW3, HT.out, sigC_snoc _ _ _ _ HUl.out]; exact owns_set HO2.out (own_ne_type HO2.out Hj5.out (by decide)))
      have HD3 := Lib.hid (show W3.ownsRow w.heap.size 3 1 (.slice ad m cdd) m (iV (partL p u k)) by rw [hW3]; exact owns_set HD2.out (own_ne_type HD2.out Hj5.out (by decide)))
      have HB3 := Lib.hid (show Below w.heap.size w W3 by rw [hW3]; exact HB2.out.setCell (p := ⟨w.heap.size + 1 + 1, 2, none⟩) (show w.heap.size ≤ w.heap.size + 1 + 1 by omega) _)
      have HUR3 := Lib.hid (show ∀ (i : Nat) (u : Value) (y : Un), (U ++ [.slice a1 x.params.length b1])[i]? = some u → us[i]? = some y → RowR 1 intR w u y.params from by
        intro i v y hv hy
        by_cases hik : i < U.length
        · rw [List.getElem?_append_left hik] at hv
          exact HUR.out i v y hv hy
        · have hi2 := lt_of_get hv
          simp only [List.length_append, List.length_cons, List.length_nil] at hi2
          obtain rfl : i = U.length := by omega
          rw [List.getElem?_append_right (Nat.le_refl _), Nat.sub_self] at hv
          obtain rfl := Option.some.inj hv
          rw [HU.out, HXx.out] at hy
          obtain rfl := Option.some.inj hy
          exact HUx.out.ps)
      have HW3 := Lib.hid hW3
      clear hHeld hW3 f2 g2 e1 e2 c3 hj5 hjp hj4
      have HU3 := Lib.hid (show (U ++ [Value.slice a1 x.params.length b1]).length = k + 1 by rw [List.length_append, HU.out]; rfl)
      go_upto_region 6 with fail
      rw [← HW3.out]
      by_cases hku : (k : Int) = u
      · subst hku
        have qe : ((k : Int) == (k : Int)) = true := by simp
        have hU3 := HUx.out.below HB3.out
        have hSl := ref15_SlotsO _ _ _ x W3 hU3 (hfu x (List.mem_of_getElem? HXx.out))
        have c3 := obj_cell HP3.out (i := 3) rfl
        have d0 := (HB3.out.cell (p := ⟨b, off + k * 5, none⟩) hbw).trans y0
        have d1 := (HB3.out.cell (p := ⟨b, off + k * 5 + 1, none⟩) hbw).trans y1
        have d2 := (HB3.out.cell (p := ⟨b, off + k * 5 + 2, none⟩) hbw).trans y2
        have d3 := (HB3.out.cell (p := ⟨b, off + k * 5 + 3, none⟩) hbw).trans y3
        have d4 := (HB3.out.cell (p := ⟨b, off + k * 5 + 4, none⟩) hbw).trans y4
        have hPL := Lib.hid (show partL p (k : Int) (k + 1) = slotsL x by
          unfold partL scopeL
          rw [if_pos (by omega), if_pos (by omega), HUS.out]
          simp [HXx.out])
        clear hU3 y0 y1 y2 y3 y4
        go_wp2_with fail
        refine hSl.mono ?_; rintro e w4 ⟨r, rfl, hO4, hz4, hb4⟩
        obtain ⟨ar, cr, rfl⟩ := owns_form hO4
        have j5 := obj_below HS3.out hb4 (heap_lt HS3.out)
        have jp := obj_below HP3.out hb4 (heap_lt HP3.out)
        have j4 := obj_below HR3.out hb4 (heap_lt HR3.out)
        have f5 := obj_frozen j5 3
        have g5 := obj_cell j5 (i := 3) rfl
        obtain ⟨W5, hW5⟩ : ∃ W5, W5 = w4.setCell ⟨w.heap.size + 1 + 1, 3, none⟩ (.slice ar (slotsL x).length cr) := ⟨_, rfl⟩
        have HS5 := Lib.hid (show W5.heap[w.heap.size + 1 + 1]? = some (.cells #[.slice sb n1 cb, .slice sc n2 cc, .slice av (k + 1) cv2, .slice ar (slotsL x).length cr] 37) by rw [hW5]; exact obj_self (A := #[.slice sb n1 cb, .slice sc n2 cc, .slice av (k + 1) cv2, .slice ad m cdd]) j5)
        have HP5 := Lib.hid (show W5.heap[w.heap.size]? = some (.cells #[.slice sa n0 ca, .slice sb n1 cb, .slice sc n2 cc, .slice (some ⟨b, off, none⟩) n3 cd] 27) by rw [hW5, get_set (by simp <;> omega)]; exact jp)
        have HR5 := Lib.hid (show W5.heap[w.heap.size + 1]? = some (.cells #[.slice none 0 0, .slice none 0 0, .slice none 0 0, .slice none 0 0] 37) by rw [hW5, get_set (by simp <;> omega)]; exact j4)
        have HO5 := Lib.hid (show W5.ownsRow w.heap.size 72 2 (.slice av (k + 1) cv2) (k + 1) (flatC (sigC (U ++ [.slice a1 x.params.length b1]) (us.take (k + 1)))) by rw [hW5]; exact owns_set (owns_below HO3.out hb4) (own_ne_type (owns_below HO3.out hb4) j5 (by decide)))
        have HD5 := Lib.hid (show W5.ownsRow w.heap.size 3 1 (.slice ar (slotsL x).length cr) (slotsL x).length (iV (partL p (k : Int) (k + 1))) by rw [hW5, hPL.out]; exact owns_set (own_low hO4 HB3.out.size) (own_ne_type hO4 j5 (by decide)))
        have HB5 := Lib.hid (show Below w.heap.size w W5 by rw [hW5]; exact (HB3.out.trans (hb4.mono HB3.out.size)).setCell (p := ⟨w.heap.size + 1 + 1, 3, none⟩) (show w.heap.size ≤ w.heap.size + 1 + 1 by omega) _)
        have HM5 := Lib.hid (show (slotsL x).length = (partL p (k : Int) (k + 1)).length ∧ ∀ z ∈ partL p (k : Int) (k + 1), I64 z by rw [hPL.out]; exact ⟨rfl, hz4⟩)
        have HW5 := Lib.hid hW5
        clear hW5 j5 jp j4 hO4 hz4 hb4 hSl
        go_upto_region 4 with fail
        rw [← HW5.out]
        go_wp2_with fail
        go_roundw
        case rel => exact ⟨k + 1, _, _, _, _, _, _, by omega, by simp, HS5, HP5, HR5, HU3, HUR3, HO5, HD5, HM5, HB5⟩
        case measure => first | (simp [intOf]; done) | (simp [intOf]; omega)
      · have qe : ((k : Int) == u) = false := by simpa using hku
        have hPL := Lib.hid (show partL p u (k + 1) = partL p u k by
          unfold partL
          by_cases h : u < (k : Int)
          · rw [if_pos h, if_pos (by omega)]
          · rw [if_neg h, if_neg (by omega)])
        have HD5 := Lib.hid (show W3.ownsRow w.heap.size 3 1 (.slice ad m cdd) m (iV (partL p u (k + 1))) by rw [hPL.out]; exact HD3.out)
        have HM5 := Lib.hid (show m = (partL p u (k + 1)).length ∧ ∀ z ∈ partL p u (k + 1), I64 z by rw [hPL.out]; exact HM.out)
        clear hku
        go_wp2_with fail
        go_roundw
        case rel => exact ⟨k + 1, _, _, _, _, _, _, by omega, by simp, HS3, HP3, HR3, HU3, HUR3, HO3, HD5, HM5, HB3⟩
        case measure => first | (simp [intOf]; done) | (simp [intOf]; omega)
    · obtain rfl : k = n3 := by omega
      have qk : ((k : Int) < (k : Int)) = False := eq_false (by omega)
      have hPL := Lib.hid (show partL p u k = scopeL p u by
        unfold partL
        by_cases h : u < (k : Int)
        · rw [if_pos h]
        · rw [if_neg h]
          unfold scopeL
          by_cases h0 : 0 ≤ u
          · rw [if_pos h0, HUS.out, List.getElem?_eq_none (by rw [HN.out]; omega)]; rfl
          · rw [if_neg h0])
      have d0 := obj_cell hj5 (i := 0) rfl
      have d1 := obj_cell hj5 (i := 1) rfl
      have d2 := obj_cell hj5 (i := 2) rfl
      have d3 := obj_cell hj5 (i := 3) rfl
      obtain ⟨⟨z0, z1, z2, z3⟩, ⟨y0, y1, y2, y3⟩, hfin⟩ := set4 (a := .slice sb n1 cb) (b := .slice sc n2 cc) (c := .slice ag k cs) (d := .slice ad m cdd) hj4
      have e0 := obj_cell hfin (i := 0) rfl
      have e1 := obj_cell hfin (i := 1) rfl
      have e2 := obj_cell hfin (i := 2) rfl
      have e3 := obj_cell hfin (i := 3) rfl
      clear hfin
      go_wp2_with fail
      refine bodyPost_ret (by simp [results, Try.results13, go_sem, e0, e1, e2, e3]; try rfl) rfl ?_
      have hBf := (((HB.out.setCell (p := ⟨w.heap.size + 1, 0, none⟩) (Nat.le_succ _) (.slice sb n1 cb)).setCell (p := ⟨w.heap.size + 1, 1, none⟩) (Nat.le_succ _) (.slice sc n2 cc)).setCell (p := ⟨w.heap.size + 1, 2, none⟩) (Nat.le_succ _) (.slice ag k cs)).setCell (p := ⟨w.heap.size + 1, 3, none⟩) (Nat.le_succ _) (.slice ad m cdd)
      have k1 := obj_self (i := 0) (x := .slice sb n1 cb) hj4
      have k2 := obj_self (i := 1) (x := .slice sc n2 cc) k1
      have k3 := obj_self (i := 2) (x := .slice ag k cs) k2
      have o1 := owns_set (o := 0) (x := .slice sb n1 cb) HO.out (own_ne_type HO.out hj4 (by decide))
      have o2 := owns_set (o := 1) (x := .slice sc n2 cc) o1 (own_ne_type o1 k1 (by decide))
      have o3 := owns_set (o := 2) (x := .slice ag k cs) o2 (own_ne_type o2 k2 (by decide))
      have o4 := owns_set (o := 3) (x := .slice ad m cdd) o3 (own_ne_type o3 k3 (by decide))
      have p1 := owns_set (o := 0) (x := .slice sb n1 cb) HD.out (own_ne_type HD.out hj4 (by decide))
      have p2 := owns_set (o := 1) (x := .slice sc n2 cc) p1 (own_ne_type p1 k1 (by decide))
      have p3 := owns_set (o := 2) (x := .slice ag k cs) p2 (own_ne_type p2 k2 (by decide))
      have p4 := owns_set (o := 3) (x := .slice ad m cdd) p3 (own_ne_type p3 k3 (by decide))
      refine ⟨_, _, _, _, rfl, ⟨HV.out.below varR_stable hBf, HK.out.below blkR_stable hBf, ?_, ?_⟩, hBf⟩
      · rw [HUS.out]
        rw [List.take_of_length_le (by rw [HN.out]; exact Nat.le_refl _)] at o4
        exact sigs_rowR HN.out.symm (by rw [HU.out, HN.out]) (fun i v y hv hy => (HUR.out i v y hv hy).below intR_stable hBf) o4
      · rw [← hPL.out]
        exact row_of_owns (own_eq2 p4 HM.out.1 rfl) HM.out.2
end Go.Proofs.Ytogmbfhefblbjaa
