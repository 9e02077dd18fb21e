/- Merged texts: RefScope, LawExMo. -/
import Derived.Test.YtpecpeedefeokaaDoorMg0
import Derived.Test.YtpecpeedefeokaaDoorLawExTe
/- Layer 17: the scope of a unit, by the answer. -/
namespace Go.Proofs.YtpecpeedefeokaaDoor
open Go.RowKit
set_option linter.unusedSimpArgs false
set_option linter.unusedVariables false
def partL (p : Pr) (u : Int) (k : Nat) : List Int := if u < k then scopeL p u else []
theorem own_ne_row {w : World} {B C : Nat} {e f : TypeId} {q r n m : Nat} {v v' : Value} {xs ys : List Value} (h : w.ownsRow B e q v n xs) (k : w.ownsRow C f r v' m ys) (hne : e ≠ f) {g : Nat} (hv : v.ownBlock = some g) (hv' : v'.ownBlock = some g) : False := owns_type h k hne hv hv'
theorem sigs_rowR {w : World} {C : Nat} {U : List Value} {us : List Un} {v : Value} {n : Nat} (hn : n = us.length) (hl : U.length = us.length) (hR : ∀ (i : Nat) (u : Value) (x : Un), U[i]? = some u → us[i]? = some x → RowR 1 intR w u x.params) (hO : w.ownsRow C 54 2 v n (flatC (sigC U us))) : RowR 2 sigR w v (us.map fun x => (x.params, x.result)) := by
  have hcl : (sigC U us).length = us.length := by simp [sigC, hl]
  refine row_of_chunks hO (by rw [hcl, hn]) (by simp [hcl]) (fun i c y hc hy => ?_)
  rw [List.getElem?_map] at hy
  obtain ⟨x, hx, rfl⟩ := Option.map_eq_some_iff.1 hy
  obtain ⟨u, hu⟩ := get_some (L := U) (n := i) (by rw [hl]; exact lt_of_get hx)
  have hcc : c = ⟨[u, .int .i64 x.result], rfl⟩ := by
    unfold sigC at hc
    rw [List.getElem?_zipWith, hu, hx] at hc
    injection hc with hc
    exact hc.symm
  subst hcc
  exact ⟨u, rfl, hR i u x hu hx⟩
set_option maxHeartbeats 8000000 in
theorem ref17_Scope (pa pb pc pd : Value) (p : Pr) (u : Int) (w : World) (hp : PrAt w pa pb pc pd p) (hf : fewP p = true) :
    Calls Tryd.prog 9 #[.agg #[pa, pb, pc, pd], .int .i64 u] w fun e w' => ∃ a b c d, e = .returned (.agg #[a, b, c, d]) ∧ ScopeAt w' a b c d p u ∧ Below w.heap.size w w' := by
  obtain ⟨i, zz, hi, hz, hsize, hby, hzs⟩ : ∃ i z, Tryd.prog.info? 54 = some i ∧ i.zero = some z ∧ i.size = 2 ∧ i.bytes = 32 ∧ z.cells.size = 2 := ⟨(Tryd.prog.info? 54).get!, .agg #[.slice none 0 0, .int .i64 0], by kernel_rfl, by kernel_rfl, by kernel_rfl, by kernel_rfl, by kernel_rfl⟩
  have hf' := of_decide_eq_true hf
  have hfu := hf'.2.2.2
  obtain ⟨f1, f2, f3, f4⟩ := hf'.1
  clear hf hf'
  obtain ⟨sa, ca, rfl⟩ := row_get hp.cs
  obtain ⟨sb, cb, rfl⟩ := row_get hp.vs
  obtain ⟨sc, cc, rfl⟩ := row_get hp.bs
  obtain ⟨sd, cd, rfl⟩ := row_get hp.us
  obtain ⟨_, hvs, hbs, hus⟩ := hp
  obtain ⟨us, hus'⟩ : ∃ us, p.units = us := ⟨_, rfl⟩
  have HUS := Lib.hid hus'
  rw [hus'] at hus f4 hfu
  obtain ⟨n0, e0⟩ : ∃ n, p.consts.length = n := ⟨_, rfl⟩
  obtain ⟨n1, e1⟩ : ∃ n, p.vars.length = n := ⟨_, rfl⟩
  obtain ⟨n2, e2⟩ : ∃ n, p.blocks.length = n := ⟨_, rfl⟩
  obtain ⟨n3, e3⟩ : ∃ n, us.length = n := ⟨_, rfl⟩
  have HN := Lib.hid e3
  rw [e0, e1, e2, hus', e3]
  rw [e1] at hvs
  rw [e2] at hbs
  rw [e3] at hus f4
  clear e0 e1 e2 e3 hus' f1 f2 f3
  have HV := Lib.hid hvs
  have HK := Lib.hid hbs
  clear hvs hbs
  obtain ⟨W0, hW0⟩ : ∃ W0, W0 = ((w.alloc (.cells #[.slice sa n0 ca, .slice sb n1 cb, .slice sc n2 cc, .slice sd n3 cd] 27)).alloc (.cells #[.slice none 0 0, .slice none 0 0, .slice none 0 0, .slice none 0 0] 37)).alloc (.cells #[.slice sb n1 cb, .slice sc n2 cc, .slice none 0 0, .slice none 0 0] 37) := ⟨_, rfl⟩
  have HB0 := Lib.hid (show Below w.heap.size w W0 by rw [hW0]; exact by (repeat' (first | (with_reducible exact Below.refl _ _) | (with_reducible assumption) | (with_reducible refine below_drewN ?_ _) | (with_reducible refine Below.alloc ?_ ?_ _) | (with_reducible refine Below.drew ?_) | (with_reducible refine Below.setCell ?_ ?_ _) | go_size)))
  have HP0 := Lib.hid (show W0.heap[w.heap.size]? = some (.cells #[.slice sa n0 ca, .slice sb n1 cb, .slice sc n2 cc, .slice sd n3 cd] 27) by rw [hW0]; exact (get_past (by simp; omega)).trans ((get_past (by simp)).trans (get_last rfl)))
  have HR0 := Lib.hid (show W0.heap[w.heap.size + 1]? = some (.cells #[.slice none 0 0, .slice none 0 0, .slice none 0 0, .slice none 0 0] 37) by rw [hW0]; exact (get_past (by simp)).trans (get_last (by simp)))
  have HS0 := Lib.hid (show W0.heap[w.heap.size + 1 + 1]? = some (.cells #[.slice sb n1 cb, .slice sc n2 cc, .slice none 0 0, .slice none 0 0] 37) by rw [hW0]; exact get_last (by simp))
  have HW0 := Lib.hid hW0
  clear hW0
  go_enter Tryd.func9, Tryd.ntmps9
  go_upto_region 2 with fail
  rw [← HW0.out]
  go_wp2_with fail
  go_loopw [6] (fun jj wr => ∃ (k : Nat) (U : List Value) (ag ad : Option Addr) (cs m cdd : Nat), k ≤ n3 ∧ jj = .int .i64 k ∧ Hid (wr.heap[w.heap.size + 1 + 1]? = some (.cells #[.slice sb n1 cb, .slice sc n2 cc, .slice ag k cs, .slice ad m cdd] 37)) ∧ Hid (wr.heap[w.heap.size]? = some (.cells #[.slice sa n0 ca, .slice sb n1 cb, .slice sc n2 cc, .slice sd n3 cd] 27)) ∧ Hid (wr.heap[w.heap.size + 1]? = some (.cells #[.slice none 0 0, .slice none 0 0, .slice none 0 0, .slice none 0 0] 37)) ∧
    Hid (U.length = k) ∧ Hid (∀ (i : Nat) (u : Value) (x : Un), U[i]? = some u → us[i]? = some x → RowR 1 intR w u x.params) ∧ Hid (wr.ownsRow w.heap.size 54 2 (.slice ag k cs) k (flatC (sigC U (us.take k)))) ∧ Hid (wr.ownsRow w.heap.size 3 1 (.slice ad m cdd) m (iV (partL p u k))) ∧ Hid (m = (partL p u k).length ∧ ∀ z ∈ partL p u k, I64 z) ∧ Hid (Below w.heap.size w wr)) (fun jj _ => n3 - (intOf jj).toNat)
  case atStart =>
    have hp0 : partL p u 0 = [] := by
      unfold partL
      by_cases h : u < ((0 : Nat) : Int)
      · rw [if_pos h]; unfold scopeL; rw [if_neg (by omega)]
      · rw [if_neg h]
    exact ⟨0, [], none, none, 0, 0, 0, by omega, rfl, HS0, HP0, HR0, Lib.hid rfl, Lib.hid (by intro i u x h; simp at h), Lib.hid (World.ownsRow_nil _ _ _ _), Lib.hid (by rw [hp0]; exact World.ownsRow_nil _ _ _ _), Lib.hid (by rw [hp0]; exact ⟨rfl, by intro z h; cases h⟩), HB0⟩
  case round =>
    clear HS0 HP0 HR0 HB0
    obtain ⟨k, U, ag, ad, cs, m, cdd, hk, rfl, HS, HP, HR, HU, HUR, HO, HD, HM, HB⟩ := hrel
    have hj5 := HS.out
    have hjp := HP.out
    have hj4 := HR.out
    have c3 := obj_cell hjp (i := 3) rfl
    by_cases hlt : k < n3
    · have qk : ((k : Int) < (n3 : Int)) = True := eq_true (by omega)
      obtain ⟨x, hx⟩ := get_some (L := us) (n := k) (by rw [HN.out]; exact hlt)
      obtain ⟨b, off, rfl, hbw, hc⟩ := unit_at hus (k := k) (by rw [HN.out]; exact hlt)
      obtain ⟨u1, u3, u4, y0, y1, y2, y3, y4, hUx⟩ := hc k x hx
      obtain ⟨a1, b1, rfl⟩ := row_get hUx.ps
      obtain ⟨a3, b3, rfl⟩ := row_get hUx.ls
      obtain ⟨a4, b4, rfl⟩ := row_get hUx.cs
      have e1 := (HB.out.cell (p := ⟨b, off + k * 5 + 1, none⟩) hbw).trans y1
      have e2 := (HB.out.cell (p := ⟨b, off + k * 5 + 2, none⟩) hbw).trans y2
      have zb : b < wr.heap.size := World.block_lt_of_cell? _ _ e1
      have HT := Lib.hid (take_snoc hx)
      have HUl := Lib.hid (show U.length = (us.take k).length by rw [HU.out, List.length_take, HN.out]; omega)
      have HUx := Lib.hid hUx
      have HXx := Lib.hid hx
      clear hc hUx hx
      go_upto_region 5 with fail
      refine wp_region_till (S := (fun (L : Array Bool) (w' : World) => L.getD 18 true = false → ((fun (w' : World) => w'.heap[w.heap.size + 1 + 1]? = some (.cells #[.slice sb n1 cb, .slice sc n2 cc, .slice ag k cs, .slice ad m cdd] 37) ∧ w'.heap[w.heap.size]? = some (.cells #[.slice sa n0 ca, .slice sb n1 cb, .slice sc n2 cc, .slice (some ⟨b, off, none⟩) n3 cd] 27) ∧ w'.cell? ⟨b, off + k * 5 + 1, none⟩ = some (.slice a1 x.params.length b1) ∧ w'.cell? ⟨b, off + k * 5 + 2, none⟩ = some (.int .i64 x.result)) w'))) (by kernel_rfl) ?_ (fun hHeld => ?_)
      · (try dsimp only); exact (fun _ => ⟨hj5, hjp, e1, e2⟩)
      refine till_take 18 (fun (w' : World) => w'.heap[w.heap.size + 1 + 1]? = some (.cells #[.slice sb n1 cb, .slice sc n2 cc, .slice ag k cs, .slice ad m cdd] 37) ∧ w'.heap[w.heap.size]? = some (.cells #[.slice sa n0 ca, .slice sb n1 cb, .slice sc n2 cc, .slice (some ⟨b, off, none⟩) n3 cd] 27) ∧ w'.cell? ⟨b, off + k * 5 + 1, none⟩ = some (.slice a1 x.params.length b1) ∧ w'.cell? ⟨b, off + k * 5 + 2, none⟩ = some (.int .i64 x.result)) (i := 0) (oi := { dst := some 19, op := Op.fieldAddr 37 (Operand.tmp 5) 2, type := 0, pos := _, after := #[], guard := none }) (u := ?_) rfl (by kernel_rfl) (by kernel_rfl) (by kernel_rfl) (by kernel_rfl) (by kernel_rfl) (by decide) (fun L v hL h => h hL) (fun L v => by simp only [getD_set_ne true (show 0 ≠ 18 by decide)]) (fun _ _ _ h => h) (Or.inl ⟨by rfl, ?_⟩) hHeld ?_
      rotate_left
      · intro wt hSw; (try dsimp only at hSw); obtain ⟨h1, h2, h3, h4⟩ := hSw; have q2 := obj_cell h1 (i := 2) rfl; have p3 := obj_cell h2 (i := 3) rfl; clear h1 h2; first | (go_simp; done) | (go_simp; with_reducible rfl) | (trace_state; fail)
      clear hHeld; intro hHeld
      try simp only [Act.put, List.setIfInBounds_toArray, List.set_cons_zero, List.set_cons_succ]
      refine till_take 18 (fun (w' : World) => w'.heap[w.heap.size + 1 + 1]? = some (.cells #[.slice sb n1 cb, .slice sc n2 cc, .slice ag k cs, .slice ad m cdd] 37) ∧ w'.heap[w.heap.size]? = some (.cells #[.slice sa n0 ca, .slice sb n1 cb, .slice sc n2 cc, .slice (some ⟨b, off, none⟩) n3 cd] 27) ∧ w'.cell? ⟨b, off + k * 5 + 1, none⟩ = some (.slice a1 x.params.length b1) ∧ w'.cell? ⟨b, off + k * 5 + 2, none⟩ = some (.int .i64 x.result)) (i := 1) (oi := { dst := some 20, op := Op.load 34 (Operand.tmp 19), type := 34, pos := _, after := #[{ on := 0, ground := Ground.data }], guard := none }) (u := ?_) rfl (by kernel_rfl) (by kernel_rfl) (by kernel_rfl) (by kernel_rfl) (by kernel_rfl) (by decide) (fun L v hL h => h hL) (fun L v => by simp only [getD_set_ne true (show 1 ≠ 18 by decide)]) (fun _ _ _ h => h) (Or.inl ⟨by rfl, ?_⟩) hHeld ?_
      rotate_left
      · intro wt hSw; (try dsimp only at hSw); obtain ⟨h1, h2, h3, h4⟩ := hSw; have q2 := obj_cell h1 (i := 2) rfl; have p3 := obj_cell h2 (i := 3) rfl; clear h1 h2; first | (go_simp; done) | (go_simp; with_reducible rfl) | (trace_state; fail)
      clear hHeld; intro hHeld
      try simp only [Act.put, List.setIfInBounds_toArray, List.set_cons_zero, List.set_cons_succ]
      refine till_take 18 (fun (w' : World) => w'.heap[w.heap.size + 1 + 1]? = some (.cells #[.slice sb n1 cb, .slice sc n2 cc, .slice ag k cs, .slice ad m cdd] 37) ∧ w'.heap[w.heap.size]? = some (.cells #[.slice sa n0 ca, .slice sb n1 cb, .slice sc n2 cc, .slice (some ⟨b, off, none⟩) n3 cd] 27) ∧ w'.cell? ⟨b, off + k * 5 + 1, none⟩ = some (.slice a1 x.params.length b1) ∧ w'.cell? ⟨b, off + k * 5 + 2, none⟩ = some (.int .i64 x.result)) (i := 2) (oi := { dst := some 21, op := Op.fieldAddr 27 (Operand.tmp 2) 3, type := 0, pos := _, after := #[], guard := none }) (u := ?_) rfl (by kernel_rfl) (by kernel_rfl) (by kernel_rfl) (by kernel_rfl) (by kernel_rfl) (by decide) (fun L v hL h => h hL) (fun L v => by simp only [getD_set_ne true (show 2 ≠ 18 by decide)]) (fun _ _ _ h => h) (Or.inl ⟨by rfl, ?_⟩) hHeld ?_
      rotate_left
      · intro wt hSw; (try dsimp only at hSw); obtain ⟨h1, h2, h3, h4⟩ := hSw; have q2 := obj_cell h1 (i := 2) rfl; have p3 := obj_cell h2 (i := 3) rfl; clear h1 h2; first | (go_simp; done) | (go_simp; with_reducible rfl) | (trace_state; fail)
      clear hHeld; intro hHeld
      try simp only [Act.put, List.setIfInBounds_toArray, List.set_cons_zero, List.set_cons_succ]
      refine till_take 18 (fun (w' : World) => w'.heap[w.heap.size + 1 + 1]? = some (.cells #[.slice sb n1 cb, .slice sc n2 cc, .slice ag k cs, .slice ad m cdd] 37) ∧ w'.heap[w.heap.size]? = some (.cells #[.slice sa n0 ca, .slice sb n1 cb, .slice sc n2 cc, .slice (some ⟨b, off, none⟩) n3 cd] 27) ∧ w'.cell? ⟨b, off + k * 5 + 1, none⟩ = some (.slice a1 x.params.length b1) ∧ w'.cell? ⟨b, off + k * 5 + 2, none⟩ = some (.int .i64 x.result)) (i := 3) (oi := { dst := some 22, op := Op.load 25 (Operand.tmp 21), type := 25, pos := _, after := #[{ on := 2, ground := Ground.data }], guard := none }) (u := ?_) rfl (by kernel_rfl) (by kernel_rfl) (by kernel_rfl) (by kernel_rfl) (by kernel_rfl) (by decide) (fun L v hL h => h hL) (fun L v => by simp only [getD_set_ne true (show 3 ≠ 18 by decide)]) (fun _ _ _ h => h) (Or.inl ⟨by rfl, ?_⟩) hHeld ?_
      rotate_left
      · intro wt hSw; (try dsimp only at hSw); obtain ⟨h1, h2, h3, h4⟩ := hSw; have q2 := obj_cell h1 (i := 2) rfl; have p3 := obj_cell h2 (i := 3) rfl; clear h1 h2; first | (go_simp; done) | (go_simp; with_reducible rfl) | (trace_state; fail)
      clear hHeld; intro hHeld
      try simp only [Act.put, List.setIfInBounds_toArray, List.set_cons_zero, List.set_cons_succ]
      refine till_take 18 (fun (w' : World) => w'.heap[w.heap.size + 1 + 1]? = some (.cells #[.slice sb n1 cb, .slice sc n2 cc, .slice ag k cs, .slice ad m cdd] 37) ∧ w'.heap[w.heap.size]? = some (.cells #[.slice sa n0 ca, .slice sb n1 cb, .slice sc n2 cc, .slice (some ⟨b, off, none⟩) n3 cd] 27) ∧ w'.cell? ⟨b, off + k * 5 + 1, none⟩ = some (.slice a1 x.params.length b1) ∧ w'.cell? ⟨b, off + k * 5 + 2, none⟩ = some (.int .i64 x.result)) (i := 4) (oi := { dst := some 23, op := Op.move (Operand.tmp 6), type := 3, pos := _, after := #[], guard := none }) (u := ?_) rfl (by kernel_rfl) (by kernel_rfl) (by kernel_rfl) (by kernel_rfl) (by kernel_rfl) (by decide) (fun L v hL h => h hL) (fun L v => by simp only [getD_set_ne true (show 4 ≠ 18 by decide)]) (fun _ _ _ h => h) (Or.inl ⟨by rfl, ?_⟩) hHeld ?_
      rotate_left
      · intro wt hSw; (try dsimp only at hSw); obtain ⟨h1, h2, h3, h4⟩ := hSw; have q2 := obj_cell h1 (i := 2) rfl; have p3 := obj_cell h2 (i := 3) rfl; clear h1 h2; first | (go_simp; done) | (go_simp; with_reducible rfl) | (trace_state; fail)
      clear hHeld; intro hHeld
      try simp only [Act.put, List.setIfInBounds_toArray, List.set_cons_zero, List.set_cons_succ]
      refine till_take 18 (fun (w' : World) => w'.heap[w.heap.size + 1 + 1]? = some (.cells #[.slice sb n1 cb, .slice sc n2 cc, .slice ag k cs, .slice ad m cdd] 37) ∧ w'.heap[w.heap.size]? = some (.cells #[.slice sa n0 ca, .slice sb n1 cb, .slice sc n2 cc, .slice (some ⟨b, off, none⟩) n3 cd] 27) ∧ w'.cell? ⟨b, off + k * 5 + 1, none⟩ = some (.slice a1 x.params.length b1) ∧ w'.cell? ⟨b, off + k * 5 + 2, none⟩ = some (.int .i64 x.result)) (i := 5) (oi := { dst := some 24, op := Op.indexAddr 25 (Operand.tmp 22) (Operand.tmp 23), type := 0, pos := _, after := #[{ on := 3, ground := Ground.data }, { on := 4, ground := Ground.data }], guard := none }) (u := ?_) rfl (by kernel_rfl) (by kernel_rfl) (by kernel_rfl) (by kernel_rfl) (by kernel_rfl) (by decide) (fun L v hL h => h hL) (fun L v => by simp only [getD_set_ne true (show 5 ≠ 18 by decide)]) (fun _ _ _ h => h) (Or.inl ⟨by rfl, ?_⟩) hHeld ?_
      rotate_left
      · intro wt hSw; (try dsimp only at hSw); obtain ⟨h1, h2, h3, h4⟩ := hSw; have q2 := obj_cell h1 (i := 2) rfl; have p3 := obj_cell h2 (i := 3) rfl; clear h1 h2; first | (go_simp; done) | (go_simp; with_reducible rfl) | (trace_state; fail)
      clear hHeld; intro hHeld
      try simp only [Act.put, List.setIfInBounds_toArray, List.set_cons_zero, List.set_cons_succ]
      refine till_take 18 (fun (w' : World) => w'.heap[w.heap.size + 1 + 1]? = some (.cells #[.slice sb n1 cb, .slice sc n2 cc, .slice ag k cs, .slice ad m cdd] 37) ∧ w'.heap[w.heap.size]? = some (.cells #[.slice sa n0 ca, .slice sb n1 cb, .slice sc n2 cc, .slice (some ⟨b, off, none⟩) n3 cd] 27) ∧ w'.cell? ⟨b, off + k * 5 + 1, none⟩ = some (.slice a1 x.params.length b1) ∧ w'.cell? ⟨b, off + k * 5 + 2, none⟩ = some (.int .i64 x.result)) (i := 6) (oi := { dst := some 25, op := Op.fieldAddr 51 (Operand.tmp 24) 1, type := 0, pos := _, after := #[{ on := 5, ground := Ground.data }], guard := none }) (u := ?_) rfl (by kernel_rfl) (by kernel_rfl) (by kernel_rfl) (by kernel_rfl) (by kernel_rfl) (by decide) (fun L v hL h => h hL) (fun L v => by simp only [getD_set_ne true (show 6 ≠ 18 by decide)]) (fun _ _ _ h => h) (Or.inl ⟨by rfl, ?_⟩) hHeld ?_
      rotate_left
      · intro wt hSw; (try dsimp only at hSw); obtain ⟨h1, h2, h3, h4⟩ := hSw; have q2 := obj_cell h1 (i := 2) rfl; have p3 := obj_cell h2 (i := 3) rfl; clear h1 h2; first | (go_simp; done) | (go_simp; with_reducible rfl) | (trace_state; fail)
      clear hHeld; intro hHeld
      try simp only [Act.put, List.setIfInBounds_toArray, List.set_cons_zero, List.set_cons_succ]
      refine till_take 18 (fun (w' : World) => w'.heap[w.heap.size + 1 + 1]? = some (.cells #[.slice sb n1 cb, .slice sc n2 cc, .slice ag k cs, .slice ad m cdd] 37) ∧ w'.heap[w.heap.size]? = some (.cells #[.slice sa n0 ca, .slice sb n1 cb, .slice sc n2 cc, .slice (some ⟨b, off, none⟩) n3 cd] 27) ∧ w'.cell? ⟨b, off + k * 5 + 1, none⟩ = some (.slice a1 x.params.length b1) ∧ w'.cell? ⟨b, off + k * 5 + 2, none⟩ = some (.int .i64 x.result)) (i := 7) (oi := { dst := some 26, op := Op.load 35 (Operand.tmp 25), type := 35, pos := _, after := #[{ on := 6, ground := Ground.data }], guard := none }) (u := ?_) rfl (by kernel_rfl) (by kernel_rfl) (by kernel_rfl) (by kernel_rfl) (by kernel_rfl) (by decide) (fun L v hL h => h hL) (fun L v => by simp only [getD_set_ne true (show 7 ≠ 18 by decide)]) (fun _ _ _ h => h) (Or.inl ⟨by rfl, ?_⟩) hHeld ?_
      rotate_left
      · intro wt hSw; (try dsimp only at hSw); obtain ⟨h1, h2, h3, h4⟩ := hSw; have q2 := obj_cell h1 (i := 2) rfl; have p3 := obj_cell h2 (i := 3) rfl; clear h1 h2; first | (go_simp; done) | (go_simp; with_reducible rfl) | (trace_state; fail)
      clear hHeld; intro hHeld
      try simp only [Act.put, List.setIfInBounds_toArray, List.set_cons_zero, List.set_cons_succ]
      refine till_take 18 (fun (w' : World) => w'.heap[w.heap.size + 1 + 1]? = some (.cells #[.slice sb n1 cb, .slice sc n2 cc, .slice ag k cs, .slice ad m cdd] 37) ∧ w'.heap[w.heap.size]? = some (.cells #[.slice sa n0 ca, .slice sb n1 cb, .slice sc n2 cc, .slice (some ⟨b, off, none⟩) n3 cd] 27) ∧ w'.cell? ⟨b, off + k * 5 + 1, none⟩ = some (.slice a1 x.params.length b1) ∧ w'.cell? ⟨b, off + k * 5 + 2, none⟩ = some (.int .i64 x.result)) (i := 8) (oi := { dst := some 27, op := Op.fieldAddr 27 (Operand.tmp 2) 3, type := 0, pos := _, after := #[], guard := none }) (u := ?_) rfl (by kernel_rfl) (by kernel_rfl) (by kernel_rfl) (by kernel_rfl) (by kernel_rfl) (by decide) (fun L v hL h => h hL) (fun L v => by simp only [getD_set_ne true (show 8 ≠ 18 by decide)]) (fun _ _ _ h => h) (Or.inl ⟨by rfl, ?_⟩) hHeld ?_
      rotate_left
      · intro wt hSw; (try dsimp only at hSw); obtain ⟨h1, h2, h3, h4⟩ := hSw; have q2 := obj_cell h1 (i := 2) rfl; have p3 := obj_cell h2 (i := 3) rfl; clear h1 h2; first | (go_simp; done) | (go_simp; with_reducible rfl) | (trace_state; fail)
      clear hHeld; intro hHeld
      try simp only [Act.put, List.setIfInBounds_toArray, List.set_cons_zero, List.set_cons_succ]
      refine till_take 18 (fun (w' : World) => w'.heap[w.heap.size + 1 + 1]? = some (.cells #[.slice sb n1 cb, .slice sc n2 cc, .slice ag k cs, .slice ad m cdd] 37) ∧ w'.heap[w.heap.size]? = some (.cells #[.slice sa n0 ca, .slice sb n1 cb, .slice sc n2 cc, .slice (some ⟨b, off, none⟩) n3 cd] 27) ∧ w'.cell? ⟨b, off + k * 5 + 1, none⟩ = some (.slice a1 x.params.length b1) ∧ w'.cell? ⟨b, off + k * 5 + 2, none⟩ = some (.int .i64 x.result)) (i := 9) (oi := { dst := some 28, op := Op.load 25 (Operand.tmp 27), type := 25, pos := _, after := #[{ on := 8, ground := Ground.data }], guard := none }) (u := ?_) rfl (by kernel_rfl) (by kernel_rfl) (by kernel_rfl) (by kernel_rfl) (by kernel_rfl) (by decide) (fun L v hL h => h hL) (fun L v => by simp only [getD_set_ne true (show 9 ≠ 18 by decide)]) (fun _ _ _ h => h) (Or.inl ⟨by rfl, ?_⟩) hHeld ?_
      rotate_left
      · intro wt hSw; (try dsimp only at hSw); obtain ⟨h1, h2, h3, h4⟩ := hSw; have q2 := obj_cell h1 (i := 2) rfl; have p3 := obj_cell h2 (i := 3) rfl; clear h1 h2; first | (go_simp; done) | (go_simp; with_reducible rfl) | (trace_state; fail)
      clear hHeld; intro hHeld
      try simp only [Act.put, List.setIfInBounds_toArray, List.set_cons_zero, List.set_cons_succ]
      refine till_take 18 (fun (w' : World) => w'.heap[w.heap.size + 1 + 1]? = some (.cells #[.slice sb n1 cb, .slice sc n2 cc, .slice ag k cs, .slice ad m cdd] 37) ∧ w'.heap[w.heap.size]? = some (.cells #[.slice sa n0 ca, .slice sb n1 cb, .slice sc n2 cc, .slice (some ⟨b, off, none⟩) n3 cd] 27) ∧ w'.cell? ⟨b, off + k * 5 + 1, none⟩ = some (.slice a1 x.params.length b1) ∧ w'.cell? ⟨b, off + k * 5 + 2, none⟩ = some (.int .i64 x.result)) (i := 10) (oi := { dst := some 29, op := Op.move (Operand.tmp 6), type := 3, pos := _, after := #[], guard := none }) (u := ?_) rfl (by kernel_rfl) (by kernel_rfl) (by kernel_rfl) (by kernel_rfl) (by kernel_rfl) (by decide) (fun L v hL h => h hL) (fun L v => by simp only [getD_set_ne true (show 10 ≠ 18 by decide)]) (fun _ _ _ h => h) (Or.inl ⟨by rfl, ?_⟩) hHeld ?_
      rotate_left
      · intro wt hSw; (try dsimp only at hSw); obtain ⟨h1, h2, h3, h4⟩ := hSw; have q2 := obj_cell h1 (i := 2) rfl; have p3 := obj_cell h2 (i := 3) rfl; clear h1 h2; first | (go_simp; done) | (go_simp; with_reducible rfl) | (trace_state; fail)
      clear hHeld; intro hHeld
      try simp only [Act.put, List.setIfInBounds_toArray, List.set_cons_zero, List.set_cons_succ]
      refine till_take 18 (fun (w' : World) => w'.heap[w.heap.size + 1 + 1]? = some (.cells #[.slice sb n1 cb, .slice sc n2 cc, .slice ag k cs, .slice ad m cdd] 37) ∧ w'.heap[w.heap.size]? = some (.cells #[.slice sa n0 ca, .slice sb n1 cb, .slice sc n2 cc, .slice (some ⟨b, off, none⟩) n3 cd] 27) ∧ w'.cell? ⟨b, off + k * 5 + 1, none⟩ = some (.slice a1 x.params.length b1) ∧ w'.cell? ⟨b, off + k * 5 + 2, none⟩ = some (.int .i64 x.result)) (i := 11) (oi := { dst := some 30, op := Op.indexAddr 25 (Operand.tmp 28) (Operand.tmp 29), type := 0, pos := _, after := #[{ on := 9, ground := Ground.data }, { on := 10, ground := Ground.data }], guard := none }) (u := ?_) rfl (by kernel_rfl) (by kernel_rfl) (by kernel_rfl) (by kernel_rfl) (by kernel_rfl) (by decide) (fun L v hL h => h hL) (fun L v => by simp only [getD_set_ne true (show 11 ≠ 18 by decide)]) (fun _ _ _ h => h) (Or.inl ⟨by rfl, ?_⟩) hHeld ?_
      rotate_left
      · intro wt hSw; (try dsimp only at hSw); obtain ⟨h1, h2, h3, h4⟩ := hSw; have q2 := obj_cell h1 (i := 2) rfl; have p3 := obj_cell h2 (i := 3) rfl; clear h1 h2; first | (go_simp; done) | (go_simp; with_reducible rfl) | (trace_state; fail)
      clear hHeld; intro hHeld
      try simp only [Act.put, List.setIfInBounds_toArray, List.set_cons_zero, List.set_cons_succ]
      refine till_take 18 (fun (w' : World) => w'.heap[w.heap.size + 1 + 1]? = some (.cells #[.slice sb n1 cb, .slice sc n2 cc, .slice ag k cs, .slice ad m cdd] 37) ∧ w'.heap[w.heap.size]? = some (.cells #[.slice sa n0 ca, .slice sb n1 cb, .slice sc n2 cc, .slice (some ⟨b, off, none⟩) n3 cd] 27) ∧ w'.cell? ⟨b, off + k * 5 + 1, none⟩ = some (.slice a1 x.params.length b1) ∧ w'.cell? ⟨b, off + k * 5 + 2, none⟩ = some (.int .i64 x.result)) (i := 12) (oi := { dst := some 31, op := Op.fieldAddr 51 (Operand.tmp 30) 2, type := 0, pos := _, after := #[{ on := 11, ground := Ground.data }], guard := none }) (u := ?_) rfl (by kernel_rfl) (by kernel_rfl) (by kernel_rfl) (by kernel_rfl) (by kernel_rfl) (by decide) (fun L v hL h => h hL) (fun L v => by simp only [getD_set_ne true (show 12 ≠ 18 by decide)]) (fun _ _ _ h => h) (Or.inl ⟨by rfl, ?_⟩) hHeld ?_
      rotate_left
      · intro wt hSw; (try dsimp only at hSw); obtain ⟨h1, h2, h3, h4⟩ := hSw; have q2 := obj_cell h1 (i := 2) rfl; have p3 := obj_cell h2 (i := 3) rfl; clear h1 h2; first | (go_simp; done) | (go_simp; with_reducible rfl) | (trace_state; fail)
      clear hHeld; intro hHeld
      try simp only [Act.put, List.setIfInBounds_toArray, List.set_cons_zero, List.set_cons_succ]
      refine till_take 18 (fun (w' : World) => w'.heap[w.heap.size + 1 + 1]? = some (.cells #[.slice sb n1 cb, .slice sc n2 cc, .slice ag k cs, .slice ad m cdd] 37) ∧ w'.heap[w.heap.size]? = some (.cells #[.slice sa n0 ca, .slice sb n1 cb, .slice sc n2 cc, .slice (some ⟨b, off, none⟩) n3 cd] 27) ∧ w'.cell? ⟨b, off + k * 5 + 1, none⟩ = some (.slice a1 x.params.length b1) ∧ w'.cell? ⟨b, off + k * 5 + 2, none⟩ = some (.int .i64 x.result)) (i := 13) (oi := { dst := some 32, op := Op.load 3 (Operand.tmp 31), type := 3, pos := _, after := #[{ on := 12, ground := Ground.data }], guard := none }) (u := ?_) rfl (by kernel_rfl) (by kernel_rfl) (by kernel_rfl) (by kernel_rfl) (by kernel_rfl) (by decide) (fun L v hL h => h hL) (fun L v => by simp only [getD_set_ne true (show 13 ≠ 18 by decide)]) (fun _ _ _ h => h) (Or.inl ⟨by rfl, ?_⟩) hHeld ?_
      rotate_left
      · intro wt hSw; (try dsimp only at hSw); obtain ⟨h1, h2, h3, h4⟩ := hSw; have q2 := obj_cell h1 (i := 2) rfl; have p3 := obj_cell h2 (i := 3) rfl; clear h1 h2; first | (go_simp; done) | (go_simp; with_reducible rfl) | (trace_state; fail)
      clear hHeld; intro hHeld
      try simp only [Act.put, List.setIfInBounds_toArray, List.set_cons_zero, List.set_cons_succ]
      refine till_take 18 (fun (w' : World) => w'.heap[w.heap.size + 1 + 1]? = some (.cells #[.slice sb n1 cb, .slice sc n2 cc, .slice ag k cs, .slice ad m cdd] 37) ∧ w'.heap[w.heap.size]? = some (.cells #[.slice sa n0 ca, .slice sb n1 cb, .slice sc n2 cc, .slice (some ⟨b, off, none⟩) n3 cd] 27) ∧ w'.cell? ⟨b, off + k * 5 + 1, none⟩ = some (.slice a1 x.params.length b1) ∧ w'.cell? ⟨b, off + k * 5 + 2, none⟩ = some (.int .i64 x.result)) (i := 14) (oi := { dst := some 33, op := Op.build 54 #[(0, Operand.tmp 26), (1, Operand.tmp 32)], type := 54, pos := _, after := #[{ on := 7, ground := Ground.data }, { on := 13, ground := Ground.data }], guard := none }) (u := ?_) rfl (by kernel_rfl) (by kernel_rfl) (by kernel_rfl) (by kernel_rfl) (by kernel_rfl) (by decide) (fun L v hL h => h hL) (fun L v => by simp only [getD_set_ne true (show 14 ≠ 18 by decide)]) (fun _ _ _ h => h) (Or.inl ⟨by rfl, ?_⟩) hHeld ?_
      rotate_left
      · intro wt hSw; (try dsimp only at hSw); obtain ⟨h1, h2, h3, h4⟩ := hSw; have q2 := obj_cell h1 (i := 2) rfl; have p3 := obj_cell h2 (i := 3) rfl; clear h1 h2; first | (go_simp; done) | (go_simp; with_reducible rfl) | (trace_state; fail)
      clear hHeld; intro hHeld
      try simp only [Act.put, List.setIfInBounds_toArray, List.set_cons_zero, List.set_cons_succ]
      refine till_one (i := 15) (o := { dst := some 34, op := Op.buildSlice 34 1 #[(0, Operand.tmp 33)], type := 34, pos := _, after := #[{ on := 14, ground := Ground.data }], guard := none }) (by kernel_rfl) rfl (fun K hK => ?_)
      go_simp
      refine hK.out _ _ ?_ (fun hHeld => ?_)
      · (try dsimp only); exact (fun _ => ⟨(get_past (heap_lt hj5)).trans hj5, (get_past (heap_lt hjp)).trans hjp, (cell_past zb).trans e1, (cell_past zb).trans e2⟩)
      clear hK K
      try simp only [Act.put, List.setIfInBounds_toArray, List.set_cons_zero, List.set_cons_succ]
      refine till_one (i := 16) (o := { dst := some 35, op := Op.call { callee := Callee.builtin Builtin.append, args := #[Operand.tmp 20, Operand.tmp 34], argTypes := #[34, 34] }, type := 34, pos := _, after := #[{ on := 1, ground := Ground.data }, { on := 15, ground := Ground.data }], guard := none }) (by kernel_rfl) rfl (fun K hK => ?_)
      rw [if_pos (by kernel_rfl)]
      have hb15 : Below wr.heap.size wr ((wr.alloc (.cells #[.slice a1 x.params.length b1, .int .i64 x.result] 54)).drew) := (by (repeat' (first | (with_reducible exact Below.refl _ _) | (with_reducible assumption) | (with_reducible refine below_drewN ?_ _) | (with_reducible refine Below.alloc ?_ ?_ _) | (with_reducible refine Below.drew ?_) | (with_reducible refine Below.setCell ?_ ?_ _) | go_size))); refine wp_append_src (.tmp 20) (.tmp 34) 34 rfl w.heap.size 54 i zz 2 32 Tryd.underlying34 hi hz hsize hby hzs (by omega) _ k (flatC (sigC U (us.take k))) rfl (owns_below HO.out hb15) _ 1 [.slice a1 x.params.length b1, .int .i64 x.result] rfl ((src_new wr [.slice a1 x.params.length b1, .int .i64 x.result] 54).below ((Below.refl _ _).drew)) rfl (by intro u hu; simp at hu; rcases hu with rfl | rfl <;> rfl) (by unfold maxLen; omega) (by omega) (Nat.le_trans HB.out.size hb15.size) ?_; intro v2 w2 hO2 hG2; have hOw := owns_below HO.out hb15; have kj5 := obj_below hj5 hb15 (heap_lt hj5); have kjp := obj_below hjp hb15 (heap_lt hjp); have kj4 := obj_below hj4 hb15 (heap_lt hj4); have Hj5 := Lib.hid ((hG2.block (w.heap.size + 1 + 1) (heap_lt kj5) (fun e => own_ne_type hOw kj5 (by decide) e.symm)).trans kj5); have Hjp := Lib.hid ((hG2.block w.heap.size (heap_lt kjp) (fun e => own_ne_type hOw kjp (by decide) e.symm)).trans kjp); have Hj4 := Lib.hid ((hG2.block (w.heap.size + 1) (heap_lt kj4) (fun e => own_ne_type hOw kj4 (by decide) e.symm)).trans kj4); have HB2 := Lib.hid (grown3 (HB.out.trans (hb15.mono HB.out.size)) (Nat.le_trans HB.out.size hb15.size) hOw hG2); have He1 := Lib.hid ((HB2.out.cell (p := ⟨b, off + k * 5 + 1, none⟩) hbw).trans y1); have He2 := Lib.hid ((HB2.out.cell (p := ⟨b, off + k * 5 + 2, none⟩) hbw).trans y2); have HD2 := Lib.hid (owns_grown (owns_below HD.out hb15) hG2 (fun g hg => by intro e; exact own_ne_row HO.out HD.out (by decide) e hg)); obtain ⟨av, cv2, rfl⟩ := owns_form hO2; have HO2 := Lib.hid hO2; have f2 := obj_frozen Hj5.out 2; have g2 := obj_cell Hj5.out (i := 2) rfl; clear hO2 hG2 hOw kj5 kjp kj4
      refine hK.out _ _ ?_ (fun hHeld => ?_)
      · (try dsimp only); exact (fun _ => ⟨Hj5.out, Hjp.out, He1.out, He2.out⟩)
      clear hK K
      try simp only [Act.put, List.setIfInBounds_toArray, List.set_cons_zero, List.set_cons_succ]
      refine till_take 18 (fun (w' : World) => w'.heap[w.heap.size + 1 + 1]? = some (.cells #[.slice sb n1 cb, .slice sc n2 cc, .slice ag k cs, .slice ad m cdd] 37) ∧ w'.heap[w.heap.size]? = some (.cells #[.slice sa n0 ca, .slice sb n1 cb, .slice sc n2 cc, .slice (some ⟨b, off, none⟩) n3 cd] 27) ∧ w'.cell? ⟨b, off + k * 5 + 1, none⟩ = some (.slice a1 x.params.length b1) ∧ w'.cell? ⟨b, off + k * 5 + 2, none⟩ = some (.int .i64 x.result)) (i := 17) (oi := { dst := some 36, op := Op.fieldAddr 37 (Operand.tmp 5) 2, type := 0, pos := _, after := #[{ on := 0, ground := Ground.phase }, { on := 1, ground := Ground.phase }, { on := 2, ground := Ground.phase }, { on := 3, ground := Ground.phase }, { on := 4, ground := Ground.phase }, { on := 5, ground := Ground.phase }, { on := 6, ground := Ground.phase }, { on := 7, ground := Ground.phase }, { on := 8, ground := Ground.phase }, { on := 9, ground := Ground.phase }, { on := 10, ground := Ground.phase }, { on := 11, ground := Ground.phase }, { on := 12, ground := Ground.phase }, { on := 13, ground := Ground.phase }, { on := 14, ground := Ground.phase }, { on := 15, ground := Ground.phase }, { on := 16, ground := Ground.phase }], guard := none }) (u := ?_) rfl (by kernel_rfl) (by kernel_rfl) (by kernel_rfl) (by kernel_rfl) (by kernel_rfl) (by decide) (fun L v hL h => h hL) (fun L v => by simp only [getD_set_ne true (show 17 ≠ 18 by decide)]) (fun _ _ _ h => h) (Or.inl ⟨by rfl, ?_⟩) hHeld ?_
      rotate_left
      · intro wt hSw; (try dsimp only at hSw); obtain ⟨h1, h2, h3, h4⟩ := hSw; have q2 := obj_cell h1 (i := 2) rfl; have p3 := obj_cell h2 (i := 3) rfl; clear h1 h2; first | (go_simp; done) | (go_simp; with_reducible rfl) | (trace_state; fail)
      clear hHeld; intro hHeld
      try simp only [Act.put, List.setIfInBounds_toArray, List.set_cons_zero, List.set_cons_succ]
      refine till_one (i := 18) (o := { dst := none, op := Op.store 34 (Operand.tmp 36) (Operand.tmp 35), type := 0, pos := _, after := #[{ on := 17, ground := Ground.data }, { on := 16, ground := Ground.data }, { on := 16, ground := Ground.chain }, { on := 0, ground := Ground.phase }, { on := 1, ground := Ground.phase }, { on := 2, ground := Ground.phase }, { on := 3, ground := Ground.phase }, { on := 4, ground := Ground.phase }, { on := 5, ground := Ground.phase }, { on := 6, ground := Ground.phase }, { on := 7, ground := Ground.phase }, { on := 8, ground := Ground.phase }, { on := 9, ground := Ground.phase }, { on := 10, ground := Ground.phase }, { on := 11, ground := Ground.phase }, { on := 12, ground := Ground.phase }, { on := 13, ground := Ground.phase }, { on := 14, ground := Ground.phase }, { on := 15, ground := Ground.phase }, { on := 16, ground := Ground.phase }], guard := none }) (by kernel_rfl) rfl (fun K hK => ?_)
      go_simp
      refine hK.out _ _ ?_ (fun hHeld => ?_)
      · (try dsimp only); exact (fun h => absurd h (by decide))
      clear hK K
      try simp only [Act.put, List.setIfInBounds_toArray, List.set_cons_zero, List.set_cons_succ]
      refine till_done (by kernel_rfl) ?_ _
      obtain ⟨W3, hW3⟩ : ∃ W3, W3 = w2.setCell ⟨w.heap.size + 1 + 1, 2, none⟩ (.slice av (k + 1) cv2) := ⟨_, rfl⟩
      have HS3 := Lib.hid (show W3.heap[w.heap.size + 1 + 1]? = some (.cells #[.slice sb n1 cb, .slice sc n2 cc, .slice av (k + 1) cv2, .slice ad m cdd] 37) by rw [hW3]; exact obj_self (A := #[.slice sb n1 cb, .slice sc n2 cc, .slice ag k cs, .slice ad m cdd]) Hj5.out)
      have HP3 := Lib.hid (show W3.heap[w.heap.size]? = some (.cells #[.slice sa n0 ca, .slice sb n1 cb, .slice sc n2 cc, .slice (some ⟨b, off, none⟩) n3 cd] 27) by rw [hW3, get_set (by simp <;> omega)]; exact Hjp.out)
      have HR3 := Lib.hid (show W3.heap[w.heap.size + 1]? = some (.cells #[.slice none 0 0, .slice none 0 0, .slice none 0 0, .slice none 0 0] 37) by rw [hW3, get_set (by simp <;> omega)]; exact Hj4.out)
      have HO3 := Lib.hid (show W3.ownsRow w.heap.size 54 2 (.slice av (k + 1) cv2) (k + 1) (flatC (sigC (U ++ [.slice a1 x.params.length b1]) (us.take (k + 1)))) by rw [hW3, HT.out, sigC_snoc _ _ _ _ HUl.out]; exact owns_set HO2.out (own_ne_type HO2.out Hj5.out (by decide)))
      have HD3 := Lib.hid (show W3.ownsRow w.heap.size 3 1 (.slice ad m cdd) m (iV (partL p u k)) by rw [hW3]; exact owns_set HD2.out (own_ne_type HD2.out Hj5.out (by decide)))
      have HB3 := Lib.hid (show Below w.heap.size w W3 by rw [hW3]; exact HB2.out.setCell (p := ⟨w.heap.size + 1 + 1, 2, none⟩) (show w.heap.size ≤ w.heap.size + 1 + 1 by omega) _)
      have HUR3 := Lib.hid (show ∀ (i : Nat) (u : Value) (y : Un), (U ++ [.slice a1 x.params.length b1])[i]? = some u → us[i]? = some y → RowR 1 intR w u y.params from by
        intro i v y hv hy
        by_cases hik : i < U.length
        · rw [List.getElem?_append_left hik] at hv
          exact HUR.out i v y hv hy
        · have hi2 := lt_of_get hv
          simp only [List.length_append, List.length_cons, List.length_nil] at hi2
          obtain rfl : i = U.length := by omega
          rw [List.getElem?_append_right (Nat.le_refl _), Nat.sub_self] at hv
          obtain rfl := Option.some.inj hv
          rw [HU.out, HXx.out] at hy
          obtain rfl := Option.some.inj hy
          exact HUx.out.ps)
      have HW3 := Lib.hid hW3
      clear hHeld hW3 f2 g2 e1 e2 c3 hj5 hjp hj4
      have HU3 := Lib.hid (show (U ++ [Value.slice a1 x.params.length b1]).length = k + 1 by rw [List.length_append, HU.out]; rfl)
      go_upto_region 6 with fail
      rw [← HW3.out]
      by_cases hku : (k : Int) = u
      · subst hku
        have qe : ((k : Int) == (k : Int)) = true := by simp
        have hU3 := HUx.out.below HB3.out
        have hSl := ref15_SlotsO _ _ _ x W3 hU3 (hfu x (List.mem_of_getElem? HXx.out))
        have c3 := obj_cell HP3.out (i := 3) rfl
        have d0 := (HB3.out.cell (p := ⟨b, off + k * 5, none⟩) hbw).trans y0
        have d1 := (HB3.out.cell (p := ⟨b, off + k * 5 + 1, none⟩) hbw).trans y1
        have d2 := (HB3.out.cell (p := ⟨b, off + k * 5 + 2, none⟩) hbw).trans y2
        have d3 := (HB3.out.cell (p := ⟨b, off + k * 5 + 3, none⟩) hbw).trans y3
        have d4 := (HB3.out.cell (p := ⟨b, off + k * 5 + 4, none⟩) hbw).trans y4
        have hPL := Lib.hid (show partL p (k : Int) (k + 1) = slotsL x by
          unfold partL scopeL
          rw [if_pos (by omega), if_pos (by omega), HUS.out]
          simp [HXx.out])
        clear hU3 y0 y1 y2 y3 y4
        go_wp2_with fail
        refine hSl.mono ?_; rintro e w4 ⟨r, rfl, hO4, hz4, hb4⟩
        obtain ⟨ar, cr, rfl⟩ := owns_form hO4
        have j5 := obj_below HS3.out hb4 (heap_lt HS3.out)
        have jp := obj_below HP3.out hb4 (heap_lt HP3.out)
        have j4 := obj_below HR3.out hb4 (heap_lt HR3.out)
        have f5 := obj_frozen j5 3
        have g5 := obj_cell j5 (i := 3) rfl
        obtain ⟨W5, hW5⟩ : ∃ W5, W5 = w4.setCell ⟨w.heap.size + 1 + 1, 3, none⟩ (.slice ar (slotsL x).length cr) := ⟨_, rfl⟩
        have HS5 := Lib.hid (show W5.heap[w.heap.size + 1 + 1]? = some (.cells #[.slice sb n1 cb, .slice sc n2 cc, .slice av (k + 1) cv2, .slice ar (slotsL x).length cr] 37) by rw [hW5]; exact obj_self (A := #[.slice sb n1 cb, .slice sc n2 cc, .slice av (k + 1) cv2, .slice ad m cdd]) j5)
        have HP5 := Lib.hid (show W5.heap[w.heap.size]? = some (.cells #[.slice sa n0 ca, .slice sb n1 cb, .slice sc n2 cc, .slice (some ⟨b, off, none⟩) n3 cd] 27) by rw [hW5, get_set (by simp <;> omega)]; exact jp)
        have HR5 := Lib.hid (show W5.heap[w.heap.size + 1]? = some (.cells #[.slice none 0 0, .slice none 0 0, .slice none 0 0, .slice none 0 0] 37) by rw [hW5, get_set (by simp <;> omega)]; exact j4)
        have HO5 := Lib.hid (show W5.ownsRow w.heap.size 54 2 (.slice av (k + 1) cv2) (k + 1) (flatC (sigC (U ++ [.slice a1 x.params.length b1]) (us.take (k + 1)))) by rw [hW5]; exact owns_set (owns_below HO3.out hb4) (own_ne_type (owns_below HO3.out hb4) j5 (by decide)))
        have HD5 := Lib.hid (show W5.ownsRow w.heap.size 3 1 (.slice ar (slotsL x).length cr) (slotsL x).length (iV (partL p (k : Int) (k + 1))) by rw [hW5, hPL.out]; exact owns_set (own_low hO4 HB3.out.size) (own_ne_type hO4 j5 (by decide)))
        have HB5 := Lib.hid (show Below w.heap.size w W5 by rw [hW5]; exact (HB3.out.trans (hb4.mono HB3.out.size)).setCell (p := ⟨w.heap.size + 1 + 1, 3, none⟩) (show w.heap.size ≤ w.heap.size + 1 + 1 by omega) _)
        have HM5 := Lib.hid (show (slotsL x).length = (partL p (k : Int) (k + 1)).length ∧ ∀ z ∈ partL p (k : Int) (k + 1), I64 z by rw [hPL.out]; exact ⟨rfl, hz4⟩)
        have HW5 := Lib.hid hW5
        clear hW5 j5 jp j4 hO4 hz4 hb4 hSl
        go_upto_region 4 with fail
        rw [← HW5.out]
        go_wp2_with fail
        go_roundw
        case rel => exact ⟨k + 1, _, _, _, _, _, _, by omega, by simp, HS5, HP5, HR5, HU3, HUR3, HO5, HD5, HM5, HB5⟩
        case measure => first | (simp [intOf]; done) | (simp [intOf]; omega)
      · have qe : ((k : Int) == u) = false := by simpa using hku
        have hPL := Lib.hid (show partL p u (k + 1) = partL p u k by
          unfold partL
          by_cases h : u < (k : Int)
          · rw [if_pos h, if_pos (by omega)]
          · rw [if_neg h, if_neg (by omega)])
        have HD5 := Lib.hid (show W3.ownsRow w.heap.size 3 1 (.slice ad m cdd) m (iV (partL p u (k + 1))) by rw [hPL.out]; exact HD3.out)
        have HM5 := Lib.hid (show m = (partL p u (k + 1)).length ∧ ∀ z ∈ partL p u (k + 1), I64 z by rw [hPL.out]; exact HM.out)
        clear hku
        go_wp2_with fail
        go_roundw
        case rel => exact ⟨k + 1, _, _, _, _, _, _, by omega, by simp, HS3, HP3, HR3, HU3, HUR3, HO3, HD5, HM5, HB3⟩
        case measure => first | (simp [intOf]; done) | (simp [intOf]; omega)
    · obtain rfl : k = n3 := by omega
      have qk : ((k : Int) < (k : Int)) = False := eq_false (by omega)
      have hPL := Lib.hid (show partL p u k = scopeL p u by
        unfold partL
        by_cases h : u < (k : Int)
        · rw [if_pos h]
        · rw [if_neg h]
          unfold scopeL
          by_cases h0 : 0 ≤ u
          · rw [if_pos h0, HUS.out, List.getElem?_eq_none (by rw [HN.out]; omega)]; rfl
          · rw [if_neg h0])
      have d0 := obj_cell hj5 (i := 0) rfl
      have d1 := obj_cell hj5 (i := 1) rfl
      have d2 := obj_cell hj5 (i := 2) rfl
      have d3 := obj_cell hj5 (i := 3) rfl
      obtain ⟨⟨z0, z1, z2, z3⟩, ⟨y0, y1, y2, y3⟩, hfin⟩ := set4 (a := .slice sb n1 cb) (b := .slice sc n2 cc) (c := .slice ag k cs) (d := .slice ad m cdd) hj4
      have e0 := obj_cell hfin (i := 0) rfl
      have e1 := obj_cell hfin (i := 1) rfl
      have e2 := obj_cell hfin (i := 2) rfl
      have e3 := obj_cell hfin (i := 3) rfl
      clear hfin
      go_wp2_with fail
      refine bodyPost_ret (by simp [results, Tryd.results9, go_sem, e0, e1, e2, e3]; try rfl) rfl ?_
      have hBf := (((HB.out.setCell (p := ⟨w.heap.size + 1, 0, none⟩) (Nat.le_succ _) (.slice sb n1 cb)).setCell (p := ⟨w.heap.size + 1, 1, none⟩) (Nat.le_succ _) (.slice sc n2 cc)).setCell (p := ⟨w.heap.size + 1, 2, none⟩) (Nat.le_succ _) (.slice ag k cs)).setCell (p := ⟨w.heap.size + 1, 3, none⟩) (Nat.le_succ _) (.slice ad m cdd)
      have k1 := obj_self (i := 0) (x := .slice sb n1 cb) hj4
      have k2 := obj_self (i := 1) (x := .slice sc n2 cc) k1
      have k3 := obj_self (i := 2) (x := .slice ag k cs) k2
      have o1 := owns_set (o := 0) (x := .slice sb n1 cb) HO.out (own_ne_type HO.out hj4 (by decide))
      have o2 := owns_set (o := 1) (x := .slice sc n2 cc) o1 (own_ne_type o1 k1 (by decide))
      have o3 := owns_set (o := 2) (x := .slice ag k cs) o2 (own_ne_type o2 k2 (by decide))
      have o4 := owns_set (o := 3) (x := .slice ad m cdd) o3 (own_ne_type o3 k3 (by decide))
      have p1 := owns_set (o := 0) (x := .slice sb n1 cb) HD.out (own_ne_type HD.out hj4 (by decide))
      have p2 := owns_set (o := 1) (x := .slice sc n2 cc) p1 (own_ne_type p1 k1 (by decide))
      have p3 := owns_set (o := 2) (x := .slice ag k cs) p2 (own_ne_type p2 k2 (by decide))
      have p4 := owns_set (o := 3) (x := .slice ad m cdd) p3 (own_ne_type p3 k3 (by decide))
      refine ⟨_, _, _, _, rfl, ⟨HV.out.below varR_stable hBf, HK.out.below blkR_stable hBf, ?_, ?_⟩, hBf⟩
      · rw [HUS.out]
        rw [List.take_of_length_le (by rw [HN.out]; exact Nat.le_refl _)] at o4
        exact sigs_rowR HN.out.symm (by rw [HU.out, HN.out]) (fun i v y hv hy => (HUR.out i v y hv hy).below intR_stable hBf) o4
      · rw [← hPL.out]
        exact row_of_owns (own_eq2 p4 HM.out.1 rfl) HM.out.2
end Go.Proofs.YtpecpeedefeokaaDoor

/- Layer 26: the walk of ExprMore. -/
namespace Go.Proofs.YtpecpeedefeokaaDoor
open Go.RowKit
set_option linter.unusedSimpArgs false
set_option linter.unusedVariables false
theorem boxed_four {w : World} {x0 x1 x2 x3 : Value} {g : Nat} {t : TypeId} (h : w.heap[g]? = some (.cells #[x0, x1, x2, x3] t)) :
    w.cell? ⟨g, 0, none⟩ = some x0 ∧ w.cell? ⟨g, 1, none⟩ = some x1 ∧ w.cell? ⟨g, 2, none⟩ = some x2 ∧ w.cell? ⟨g, 3, none⟩ = some x3 :=
  ⟨obj_cell h (i := 0) rfl, obj_cell h (i := 1) rfl, obj_cell h (i := 2) rfl, obj_cell h (i := 3) rfl⟩
theorem scope_small {p : Pr} (u : Int) (h : fewP p = true) : p.vars.length ≤ 70 ∧ p.blocks.length ≤ 40 ∧ (scopeL p u).length ≤ 2000 := by
  have h := of_decide_eq_true h
  refine ⟨h.1.2.1, h.1.2.2.1, ?_⟩
  unfold scopeL
  split
  · cases hu : p.units[u.toNat]? with
    | none => simp
    | some x =>
      have hx := of_decide_eq_true (h.2.2.2 x (List.mem_of_getElem? hu))
      have h1 : (if x.result = 0 then ([] : List Int) else [x.result]).length ≤ 1 := by split <;> simp
      show (slotsL x).length ≤ 2000
      unfold slotsL
      rw [List.length_append, List.length_append]
      omega
  · simp
def scP (p : Pr) (u : Int) : Sc := ⟨p.vars, p.blocks, scopeL p u⟩
theorem scAt_of {w : World} {a b c d : Value} {p : Pr} {u : Int} (h : ScopeAt w a b c d p u) : ScAt w a b d (scP p u) := ⟨h.1, h.2.1, h.2.2.2⟩
set_option maxHeartbeats 4000000 in
theorem exprMore_walk (pc pv pb pu : Value) (p : Pr) (u : Int) (v : Value) (e : Ex) (w : World) (h : PrAt w pc pv pb pu p) (hv : ExV w v e) (hg : AGoes w) (hT : BTab w) :
    Calls Tryd.prog 5 #[.agg #[pc, pv, pb, pu], .int .i64 u, v] w fun r w' => r = .returned (.bool true) ∧ Below w.heap.size w w' := by
  have HA0 := Lib.hid (fun W (h : Below w.heap.size w W) => law26_awake W (hg.below h) (hT.below h))
  have HF1 := Lib.hid (fun W (hb : Below w.heap.size w W) => law16_Few pc pv pb pu p W (h.below hb))
  have HF2 := Lib.hid (fun W (h : Below w.heap.size w W) => ref26_Few e 300 (by omega) W v (hv.below h))
  have HSm := Lib.hid (fun (h : 0 ≤ roomE e (300 : Nat) 40) => fewE_small h)
  have HSc := Lib.hid (fun (hf : fewP p = true) W (hb : Below w.heap.size w W) => ref17_Scope pc pv pb pu p u W (h.below hb) hf)
  have HTy := Lib.hid (fun (a b c d : Value) (s : Sc) (x : Ex) (hx : SmallE 300 x) (y : Value) W (h : Below w.heap.size w W) (hs : ScAt W a b d s) (hy : ExV W y x) => expr_Type a b c d s x hx y W hs hy (hg.below h) (hT.below h))
  have HX := Lib.hid hv
  obtain ⟨s, rfl, _, hra⟩ := id hv
  obtain ⟨sa, sc, rfl⟩ := row_get hra
  have HROW := Lib.hid hra
  clear hv hg hT hra h
  obtain ⟨N, hN⟩ : ∃ N, e.l.length = N := ⟨_, rfl⟩
  have HN := Lib.hid hN
  rw [hN] at HROW HX HF2 ⊢
  clear hN
  generalize e.op = p1 at *
  generalize e.t = p2 at *
  generalize e.n = p3 at *
  generalize e.m = p4 at *
  obtain ⟨W0, hW0⟩ : ∃ W0, W0 = (w.alloc (.cells #[pc, pv, pb, pu] 27)).alloc (.cells #[.int .i64 p1, .int .i64 p2, .int .i64 p3, .int .i64 p4, .slice sa N sc] 30) := ⟨_, rfl⟩
  have oP : W0.heap[w.heap.size]? = some (.cells #[pc, pv, pb, pu] 27) := by rw [hW0]; exact (get_past (by simp)).trans (get_last rfl)
  have oE : W0.heap[w.heap.size + 1]? = some (.cells #[.int .i64 p1, .int .i64 p2, .int .i64 p3, .int .i64 p4, .slice sa N sc] 30) := by rw [hW0]; exact get_last (by simp)
  have hbW : Below w.heap.size w W0 := by rw [hW0]; exact by (repeat' (first | (with_reducible exact Below.refl _ _) | (with_reducible assumption) | (with_reducible refine below_drewN ?_ _) | (with_reducible refine Below.alloc ?_ ?_ _) | (with_reducible refine Below.drew ?_) | (with_reducible refine Below.setCell ?_ ?_ _) | go_size))
  have HW0 := Lib.hid hW0
  have HBW := Lib.hid hbW
  have HOP := Lib.hid oP
  have HOE := Lib.hid oE
  have zP := heap_lt oP
  have zE := heap_lt oE
  clear hW0 hbW oP oE
  cases hf1 : fewP p
  · rw [hf1] at HF1
    clear hf1
    have HFx := Lib.hid (HF1.out W0 HBW.out)
    go_enter Tryd.func5, Tryd.ntmps5
    go_wp2_with fail
    rw [← HW0.out]
    refine HFx.out.mono ?_; rintro r w2 ⟨rfl, hb⟩
    have HBB := Lib.hid (HBW.out.trans (hb.mono HBW.out.size))
    clear hb
    go_wp2_with fail
    refine (HA0.out _ HBB.out).mono ?_; rintro r w3 ⟨rfl, hb⟩
    have HBB := Lib.hid (HBB.out.trans (hb.mono HBB.out.size))
    clear hb
    go_wp2_with fail
    go_ret
    exact ⟨rfl, HBB.out⟩
  have HScp := Lib.hid (HSc.out hf1)
  have HFP := Lib.hid (scope_small u hf1)
  rw [hf1] at HF1
  have HFx := Lib.hid (HF1.out W0 HBW.out)
  clear hf1 HSc HF1
  cases hfb : decide (0 ≤ roomE e (300 : Nat) 40)
  · rw [hfb] at HF2
    clear hfb HSm
    go_enter Tryd.func5, Tryd.ntmps5
    go_wp2_with fail
    rw [← HW0.out]
    refine HFx.out.mono ?_; rintro r w2 ⟨rfl, hb⟩
    have HBB := Lib.hid (HBW.out.trans (hb.mono HBW.out.size))
    obtain ⟨b0, b1, b2, b3, b4⟩ := boxed_expr (obj_below HOE.out hb zE)
    clear hb
    go_wp2_with fail
    refine (HF2.out _ HBB.out).mono ?_; rintro r w3 ⟨rfl, hb⟩
    have HBB := Lib.hid (HBB.out.trans (hb.mono HBB.out.size))
    clear hb
    go_wp2_with fail
    refine (HA0.out _ HBB.out).mono ?_; rintro r w4 ⟨rfl, hb⟩
    have HBB := Lib.hid (HBB.out.trans (hb.mono HBB.out.size))
    clear hb
    go_wp2_with fail
    go_ret
    exact ⟨rfl, HBB.out⟩
  have hsm := HSm.out (of_decide_eq_true hfb)
  have HSM := Lib.hid hsm
  rw [hfb] at HF2
  clear hfb HSm hsm
  go_enter Tryd.func5, Tryd.ntmps5
  go_wp2_with fail
  rw [← HW0.out]
  refine HFx.out.mono ?_; rintro r W1 ⟨rfl, hb⟩
  have HB1 := Lib.hid (HBW.out.trans (hb.mono HBW.out.size))
  have oE := obj_below HOE.out hb zE
  have oP := obj_below HOP.out hb zP
  have HOE1 := Lib.hid oE
  have HOP1 := Lib.hid oP
  have zE := heap_lt oE
  have zP := heap_lt oP
  obtain ⟨b0, b1, b2, b3, b4⟩ := boxed_expr oE
  clear hb oE oP HW0 HFx HOE HOP
  go_wp2_with fail
  refine (HF2.out _ HB1.out).mono ?_; rintro r W2 ⟨rfl, hb⟩
  have HB2 := Lib.hid (HB1.out.trans (hb.mono HB1.out.size))
  have oE := obj_below HOE1.out hb zE
  have oP := obj_below HOP1.out hb zP
  have HOE2 := Lib.hid oE
  have zE := heap_lt oE
  obtain ⟨a0, a1, a2, a3⟩ := boxed_four oP
  clear hb oE oP b0 b1 b2 b3 b4 HOE1 HOP1 HF2
  go_wp2_with fail
  refine (HScp.out _ HB2.out).mono ?_; rintro r W3 ⟨a, b, c, d, rfl, hsc, hb⟩
  have HB3 := Lib.hid (HB2.out.trans (hb.mono HB2.out.size))
  have oE := obj_below HOE2.out hb zE
  obtain ⟨v1, n1, k1, rfl⟩ : ∃ v1 n1 k1, a = .slice v1 n1 k1 := by obtain ⟨x, y, z⟩ := row_get hsc.1; exact ⟨_, _, _, z⟩
  obtain ⟨v2, n2, k2, rfl⟩ : ∃ v1 n1 k1, b = .slice v1 n1 k1 := by obtain ⟨x, y, z⟩ := row_get hsc.2.1; exact ⟨_, _, _, z⟩
  obtain ⟨v3, n3, k3, rfl⟩ : ∃ v1 n1 k1, c = .slice v1 n1 k1 := by obtain ⟨x, y, z⟩ := row_get hsc.2.2.1; exact ⟨_, _, _, z⟩
  obtain ⟨v4, n4, k4, rfl⟩ : ∃ v1 n1 k1, d = .slice v1 n1 k1 := by obtain ⟨x, y, z⟩ := row_get hsc.2.2.2; exact ⟨_, _, _, z⟩
  have HSC := Lib.hid (scAt_of hsc)
  have zE3 := heap_lt oE
  obtain ⟨b0, b1, b2, b3, b4⟩ := boxed_expr oE
  have HOE3 := Lib.hid oE
  clear hb hsc oE a0 a1 a2 a3 HOE2 HScp
  go_wp2_with fail
  clear b0 b1 b2 b3 b4
  obtain ⟨W4, hW4⟩ : ∃ W4, W4 = W3.alloc (.cells #[.slice v1 n1 k1, .slice v2 n2 k2, .slice v3 n3 k3, .slice v4 n4 k4] 37) := ⟨_, rfl⟩
  rw [← hW4]
  have hb4 : Below W3.heap.size W3 W4 := by rw [hW4]; exact by (repeat' (first | (with_reducible exact Below.refl _ _) | (with_reducible assumption) | (with_reducible refine below_drewN ?_ _) | (with_reducible refine Below.alloc ?_ ?_ _) | (with_reducible refine Below.drew ?_) | (with_reducible refine Below.setCell ?_ ?_ _) | go_size))
  have oS : W4.heap[W3.heap.size]? = some (.cells #[.slice v1 n1 k1, .slice v2 n2 k2, .slice v3 n3 k3, .slice v4 n4 k4] 37) := by rw [hW4]; exact get_last rfl
  have oE := obj_below HOE3.out hb4 zE3
  have HOE := Lib.hid oE
  have HOS := Lib.hid oS
  have zE := heap_lt oE
  have zS := heap_lt oS
  have HB4 := Lib.hid (HB3.out.trans (hb4.mono HB3.out.size))
  have HSC4 := Lib.hid (HSC.out.below hb4)
  have HGS := Lib.hid HB3.out.size
  have HSC3 := Lib.hid HSC.out
  have HB34 := Lib.hid hb4
  have HB03 := Lib.hid HB3.out
  have HOE3' := Lib.hid HOE3.out
  have HZE3 := Lib.hid zE3
  clear oE oS hW4 HOE3 hb4 zE3
  generalize hgS : W3.heap.size = gS at *
  have HW3 := Lib.hid hgS
  clear hgS
  refine (HTy.out _ _ _ _ (scP p u) e HSM.out _ _ HB4.out HSC4.out (HX.out.below HB4.out)).mono ?_; rintro r W5 ⟨rfl, hb⟩
  have HB5 := Lib.hid (HB4.out.trans (hb.mono HB4.out.size))
  have oE := obj_below HOE.out hb zE
  have oS := obj_below HOS.out hb zS
  have HSC5 := Lib.hid (HSC4.out.below hb)
  have HB35 := Lib.hid (HB34.out.trans (hb.mono (by have := HB34.out.size; have := HW3.out; omega)))
  have HMo := Lib.hid (fun (h : ¬ typeE (scP p u) e = 0) => type_more h)
  have HWi := Lib.hid (fun (h : ¬ typeE (scP p u) e = 0) x (hx : x ∈ e.l) => type_within h hx)
  have HOE5 := Lib.hid oE
  have HOS5 := Lib.hid oS
  have zE := heap_lt oE
  have zS := heap_lt oS
  clear hb oE oS HB4 HSC4 HOE HOS HSC HB3 HB2 HB1 HBW
  generalize typeE (scP p u) e = T at *
  by_cases hT0 : T = 0
  · subst hT0
    clear HMo HWi HTy
    go_wp2_with fail
    refine (HA0.out _ HB5.out).mono ?_; rintro r w6 ⟨rfl, hb⟩
    have HBB := Lib.hid (HB5.out.trans (hb.mono HB5.out.size))
    clear hb
    go_wp2_with fail
    go_ret
    exact ⟨rfl, HBB.out⟩
  have hTe : (T == 0) = false := by simpa using hT0
  have HWi := Lib.hid (HWi.out hT0)
  have HMo := Lib.hid (HMo.out hT0)
  clear hT0
  go_wp2_with fail
  go_loopw [9] (fun jj wr => ∃ k : Nat, k ≤ N ∧ jj = .int .i64 k ∧ Hid (Below W5.heap.size W5 wr)) (fun jj _ => N - (intOf jj).toNat)
  case atStart => exact ⟨0, by omega, rfl, Lib.hid (Below.refl _ _)⟩
  case round =>
    obtain ⟨k, hk, rfl, hB⟩ := hrel
    have hBw := HB5.out.trans (hB.out.mono HB5.out.size)
    have HBw := Lib.hid hBw
    have oE := obj_below HOE5.out hB.out zE
    have oS := obj_below HOS5.out hB.out zS
    obtain ⟨e0, e1, e2, e3, e4⟩ := boxed_expr oE
    obtain ⟨s0, s1, s2, s3⟩ := boxed_four oS
    have zE := heap_lt oE
    have zS := heap_lt oS
    by_cases hlt : k < N
    · have qk : ((k : Int) < (N : Int)) = True := eq_true (by omega)
      have qk' : (k < N) = True := eq_true hlt
      obtain ⟨x, hx⟩ := get_some (L := e.l) (n := k) (by rw [HN.out]; exact hlt)
      obtain ⟨b, off, s1', sn1, sc1, rfl, hbw, hc1, hc2, d0, d1, d2, d3, d4, hxv⟩ := ex_at HROW.out hx
      have hmem := List.mem_of_getElem? hx
      have d0 := (hBw.cell (p := ⟨b, off + k * 5, none⟩) hbw).trans d0
      have d1 := (hBw.cell (p := ⟨b, off + k * 5 + 1, none⟩) hbw).trans d1
      have d2 := (hBw.cell (p := ⟨b, off + k * 5 + 2, none⟩) hbw).trans d2
      have d3 := (hBw.cell (p := ⟨b, off + k * 5 + 3, none⟩) hbw).trans d3
      have d4 := (hBw.cell (p := ⟨b, off + k * 5 + 4, none⟩) hbw).trans d4
      have hbw : b < wr.heap.size := Nat.lt_of_lt_of_le hbw hBw.size
      have HTx := Lib.hid (fun W (h : Below wr.heap.size wr W) => HTy.out (.slice v1 n1 k1) (.slice v2 n2 k2) (.slice v3 n3 k3) (.slice v4 n4 k4) (scP p u) x (HSM.out.within x hmem) _ W (HBw.out.trans (h.mono HBw.out.size)) (HSC5.out.below (hB.out.trans (h.mono hB.out.size))) (hxv.below (HBw.out.trans (h.mono HBw.out.size))))
      have hX := HWi.out x hmem
      generalize typeE (scP p u) x = X at *
      have hXe : (X == 0) = false := by simpa using hX
      have hk63 : k ≤ 9223372036854775806 := by omega
      have HLT := Lib.hid hlt
      clear hX hmem hx hxv hlt oE oS hBw HTy HMo HWi
      go_upto_region 10 with fail
      refine wp_region_held_drew (S := (fun w' => Below wr.heap.size wr w')) (by kernel_rfl) ?_ (fun hHeld => ?_)
      · (try dsimp only); first | assumption | exact Below.alloc hHeld hHeld.size _ | exact (Below.refl _ _).drew | exact Below.drew (Below.refl _ _) | exact Below_drewN _ _ _ | exact Below.refl _ _ | (trace_state; fail)
      refine wpAnyH_take (i := 0) (oi := { dst := some 35, op := Op.load 37 (Operand.tmp 7), type := 37, pos := _, after := #[], guard := none }) (v := ?_) rfl (by kernel_rfl) (by kernel_rfl) (by kernel_rfl) (fun _ _ _ h => h) (Or.inl ⟨by rfl, ?_⟩) (by assumption) ?_
      rotate_left
      · intro wt hSw; (try dsimp only at hSw); have s0 := cellB hSw s0 zS; have s1 := cellB hSw s1 zS; have s2 := cellB hSw s2 zS; have s3 := cellB hSw s3 zS; have e4 := cellB hSw e4 zE; have d0 := cellB hSw d0 hbw; have d1 := cellB hSw d1 hbw; have d2 := cellB hSw d2 hbw; have d3 := cellB hSw d3 hbw; have d4 := cellB hSw d4 hbw; first | (go_simp; done) | (go_simp; with_reducible rfl) | (trace_state; fail)
      try simp only [Act.put, List.setIfInBounds_toArray, List.set_cons_zero, List.set_cons_succ]
      refine wpAnyH_take (i := 1) (oi := { dst := some 36, op := Op.fieldAddr 30 (Operand.tmp 5) 4, type := 0, pos := _, after := #[], guard := none }) (v := ?_) rfl (by kernel_rfl) (by kernel_rfl) (by kernel_rfl) (fun _ _ _ h => h) (Or.inl ⟨by rfl, ?_⟩) (by assumption) ?_
      rotate_left
      · intro wt hSw; (try dsimp only at hSw); have s0 := cellB hSw s0 zS; have s1 := cellB hSw s1 zS; have s2 := cellB hSw s2 zS; have s3 := cellB hSw s3 zS; have e4 := cellB hSw e4 zE; have d0 := cellB hSw d0 hbw; have d1 := cellB hSw d1 hbw; have d2 := cellB hSw d2 hbw; have d3 := cellB hSw d3 hbw; have d4 := cellB hSw d4 hbw; first | (go_simp; done) | (go_simp; with_reducible rfl) | (trace_state; fail)
      try simp only [Act.put, List.setIfInBounds_toArray, List.set_cons_zero, List.set_cons_succ]
      refine wpAnyH_take (i := 2) (oi := { dst := some 37, op := Op.load 28 (Operand.tmp 36), type := 28, pos := _, after := #[{ on := 1, ground := Ground.data }], guard := none }) (v := ?_) rfl (by kernel_rfl) (by kernel_rfl) (by kernel_rfl) (fun _ _ _ h => h) (Or.inl ⟨by rfl, ?_⟩) (by assumption) ?_
      rotate_left
      · intro wt hSw; (try dsimp only at hSw); have s0 := cellB hSw s0 zS; have s1 := cellB hSw s1 zS; have s2 := cellB hSw s2 zS; have s3 := cellB hSw s3 zS; have e4 := cellB hSw e4 zE; have d0 := cellB hSw d0 hbw; have d1 := cellB hSw d1 hbw; have d2 := cellB hSw d2 hbw; have d3 := cellB hSw d3 hbw; have d4 := cellB hSw d4 hbw; first | (go_simp; done) | (go_simp; with_reducible rfl) | (trace_state; fail)
      try simp only [Act.put, List.setIfInBounds_toArray, List.set_cons_zero, List.set_cons_succ]
      refine wpAnyH_take (i := 3) (oi := { dst := some 38, op := Op.move (Operand.tmp 9), type := 3, pos := _, after := #[], guard := none }) (v := ?_) rfl (by kernel_rfl) (by kernel_rfl) (by kernel_rfl) (fun _ _ _ h => h) (Or.inl ⟨by rfl, ?_⟩) (by assumption) ?_
      rotate_left
      · intro wt hSw; (try dsimp only at hSw); have s0 := cellB hSw s0 zS; have s1 := cellB hSw s1 zS; have s2 := cellB hSw s2 zS; have s3 := cellB hSw s3 zS; have e4 := cellB hSw e4 zE; have d0 := cellB hSw d0 hbw; have d1 := cellB hSw d1 hbw; have d2 := cellB hSw d2 hbw; have d3 := cellB hSw d3 hbw; have d4 := cellB hSw d4 hbw; first | (go_simp; done) | (go_simp; with_reducible rfl) | (trace_state; fail)
      try simp only [Act.put, List.setIfInBounds_toArray, List.set_cons_zero, List.set_cons_succ]
      refine wpAnyH_take (i := 4) (oi := { dst := some 39, op := Op.indexAddr 28 (Operand.tmp 37) (Operand.tmp 38), type := 0, pos := _, after := #[{ on := 2, ground := Ground.data }, { on := 3, ground := Ground.data }], guard := none }) (v := ?_) rfl (by kernel_rfl) (by kernel_rfl) (by kernel_rfl) (fun _ _ _ h => h) (Or.inl ⟨by rfl, ?_⟩) (by assumption) ?_
      rotate_left
      · intro wt hSw; (try dsimp only at hSw); have s0 := cellB hSw s0 zS; have s1 := cellB hSw s1 zS; have s2 := cellB hSw s2 zS; have s3 := cellB hSw s3 zS; have e4 := cellB hSw e4 zE; have d0 := cellB hSw d0 hbw; have d1 := cellB hSw d1 hbw; have d2 := cellB hSw d2 hbw; have d3 := cellB hSw d3 hbw; have d4 := cellB hSw d4 hbw; first | (go_simp; done) | (go_simp; with_reducible rfl) | (trace_state; fail)
      try simp only [Act.put, List.setIfInBounds_toArray, List.set_cons_zero, List.set_cons_succ]
      refine wpAnyH_take (i := 5) (oi := { dst := some 40, op := Op.load 30 (Operand.tmp 39), type := 30, pos := _, after := #[{ on := 4, ground := Ground.data }], guard := none }) (v := ?_) rfl (by kernel_rfl) (by kernel_rfl) (by kernel_rfl) (fun _ _ _ h => h) (Or.inl ⟨by rfl, ?_⟩) (by assumption) ?_
      rotate_left
      · intro wt hSw; (try dsimp only at hSw); have s0 := cellB hSw s0 zS; have s1 := cellB hSw s1 zS; have s2 := cellB hSw s2 zS; have s3 := cellB hSw s3 zS; have e4 := cellB hSw e4 zE; have d0 := cellB hSw d0 hbw; have d1 := cellB hSw d1 hbw; have d2 := cellB hSw d2 hbw; have d3 := cellB hSw d3 hbw; have d4 := cellB hSw d4 hbw; first | (go_simp; done) | (go_simp; with_reducible rfl) | (trace_state; fail)
      try simp only [Act.put, List.setIfInBounds_toArray, List.set_cons_zero, List.set_cons_succ]
      refine wpAnyH_ready (rs := [6]) (by kernel_rfl) (by simp) ?_
      refine AllReadyH.cons (o := { dst := some 41, op := Op.call { callee := Callee.value (Operand.func 10), args := #[Operand.tmp 35, Operand.tmp 40], argTypes := #[37, 30] }, type := 3, pos := _, after := #[{ on := 0, ground := Ground.data }, { on := 5, ground := Ground.data }], guard := none }) rfl (fun K hK => ?_) AllReadyH.nil
      go_simp
      refine (HTx.out _ hHeld).mono ?_; rintro r w2 ⟨rfl, hb⟩; have hHeld := hHeld.trans (hb.mono hHeld.size)
      go_wp2_with fail
      refine hK.out _ _ ?_ (fun hHeld => ?_)
      · (try dsimp only); first | assumption | exact Below.alloc hHeld hHeld.size _ | exact (Below.refl _ _).drew | exact Below.drew (Below.refl _ _) | exact Below_drewN _ _ _ | exact Below.refl _ _ | (trace_state; fail)
      clear hK K
      try simp only [Act.put, List.setIfInBounds_toArray, List.set_cons_zero, List.set_cons_succ]
      refine wpAnyH_take (i := 7) (oi := { dst := some 42, op := Op.binOp BinOp.eql 3 (Operand.tmp 41) (Operand.const (Value.int IntKind.i64 0)) 3, type := 4, pos := _, after := #[{ on := 6, ground := Ground.data }], guard := none }) (v := ?_) rfl (by kernel_rfl) (by kernel_rfl) (by kernel_rfl) (fun _ _ _ h => h) (Or.inl ⟨by rfl, ?_⟩) (by assumption) ?_
      rotate_left
      · intro wt hSw; (try dsimp only at hSw); have s0 := cellB hSw s0 zS; have s1 := cellB hSw s1 zS; have s2 := cellB hSw s2 zS; have s3 := cellB hSw s3 zS; have e4 := cellB hSw e4 zE; have d0 := cellB hSw d0 hbw; have d1 := cellB hSw d1 hbw; have d2 := cellB hSw d2 hbw; have d3 := cellB hSw d3 hbw; have d4 := cellB hSw d4 hbw; first | (go_simp; done) | (go_simp; with_reducible rfl) | (trace_state; fail)
      try simp only [Act.put, List.setIfInBounds_toArray, List.set_cons_zero, List.set_cons_succ]
      refine wpAnyH_done (by kernel_rfl) ?_ _
      have HHw := Lib.hid (hB.out.trans (hHeld.mono hB.out.size))
      clear hHeld
      go_wp2_with fail
      go_roundw
      case rel => exact ⟨k + 1, by have := HLT.out; omega, by simp, HHw⟩
      case measure => have := HLT.out; first | (simp [intOf]; done) | (simp [intOf]; omega)
    · obtain rfl : k = N := by omega
      have qk : ((k : Int) < (k : Int)) = False := eq_false (by omega)
      have qk' : (k < k) = False := eq_false (by omega)
      clear hlt
      have HB := Lib.hid (HB35.out.trans (hB.out.mono (by have := HB35.out.size; have := HW3.out; omega)))
      have HZ := Lib.hid HB.out.size
      rw [HW3.out] at HZ
      have HS := Lib.hid oS
      have HTz := Lib.hid hTe
      clear oS oE e0 e1 e2 e3 s1 s2 s3 hB hBw HBw HSC5 HOE5 HOS5 HWi HROW
      obtain ⟨X1, l1, o1, r1, m1⟩ := row_more varR_stable (fun _ _ _ h => by first | exact var_one h | exact var_one _ _ _ h) HSC3.out.vs
      obtain ⟨X2, l2, o2, r2, m2⟩ := row_more intR_stable (fun _ _ _ => int_one) HSC3.out.ss
      obtain ⟨X3, l3, o3, r3, m3⟩ := row_more blkR_stable (fun _ _ _ h => by first | exact blk_one h | exact blk_one _ _ _ h) HSC3.out.bs
      rw [HW3.out] at r1 r2 r3 m1 m2 m3
      have o1 := Lib.hid o1
      have o2 := Lib.hid o2
      have o3 := Lib.hid o3
      obtain ⟨f1, f2, f3⟩ := HFP.out
      obtain ⟨i1, hi1, hz1, hs1, hy1⟩ : ∃ i, Tryd.prog.info? 45 = some i ∧ i.zero = some (.agg #[.string ⟨#[]⟩, .int .i64 0, .int .i64 0, .int .i64 0, .int .i64 0]) ∧ i.size = 5 ∧ i.bytes = 48 := ⟨(Tryd.prog.info? 45).get!, by kernel_rfl, by kernel_rfl, by kernel_rfl, by kernel_rfl⟩
      obtain ⟨i2, hi2, hz2, hs2, hy2⟩ : ∃ i, Tryd.prog.info? 3 = some i ∧ i.zero = some (.int .i64 0) ∧ i.size = 1 ∧ i.bytes = 8 := ⟨(Tryd.prog.info? 3).get!, by kernel_rfl, by kernel_rfl, by kernel_rfl, by kernel_rfl⟩
      obtain ⟨i3, hi3, hz3, hs3, hy3⟩ : ∃ i, Tryd.prog.info? 47 = some i ∧ i.zero = some (.agg #[.string ⟨#[]⟩, .int .i64 0]) ∧ i.size = 2 ∧ i.bytes = 24 := ⟨(Tryd.prog.info? 47).get!, by kernel_rfl, by kernel_rfl, by kernel_rfl, by kernel_rfl⟩
      have hc1 : (Value.agg #[.string ⟨#[]⟩, .int .i64 0, .int .i64 0, .int .i64 0, .int .i64 0]).cells.size = 5 := rfl
      have hc2 : (Value.int .i64 0).cells.size = 1 := rfl
      have hc3 : (Value.agg #[.string ⟨#[]⟩, .int .i64 0]).cells.size = 2 := rfl
      obtain ⟨L1, hL1⟩ : ∃ L, (scP p u).vars.length = L := ⟨_, rfl⟩
      obtain ⟨L2, hL2⟩ : ∃ L, (scP p u).slots.length = L := ⟨_, rfl⟩
      obtain ⟨L3, hL3⟩ : ∃ L, (scP p u).blocks.length = L := ⟨_, rfl⟩
      have f1 : L1 ≤ 70 := hL1 ▸ f1
      have f2 : L3 ≤ 40 := hL3 ▸ f2
      have f3 : L2 ≤ 2000 := hL2 ▸ f3
      rw [hL1] at l1 r1 m1
      rw [hL2] at l2 r2 m2
      rw [hL3] at l3 r3 m3
      clear hL1 hL2 hL3 HFP
      go_upto_region 13 with (first | (at_builtin; go_loud (refine wpList_append_src rfl (.tmp 43) (.tmp 45) 23 rfl gS 45 i1 _ 5 48 Tryd.underlying23 hi1 hz1 hs1 hy1 hc1 (by omega) (.slice (some ⟨wr.heap.size, 0, none⟩) 0 0) 0 [] rfl (owns_nil_at (q := 5) (t := 45) (get_last rfl) HZ.out) _ L1 X1 rfl (r1 _ (HB.out.alloc HZ.out _)) l1 (o1.out) (by unfold maxLen; omega) (by omega) (by simp; omega) ?_; intro v6 w6 hO6 hG6; have hO6 := own_eq2 hO6 (Nat.zero_add _) (List.nil_append _); have HB6 := Lib.hid (grown3 (HB.out.alloc HZ.out _) (by simp; omega) (owns_nil_at (q := 5) (t := 45) (get_last rfl) HZ.out) hG6); have HS6 := Lib.hid (obj_grown ((get_past zS).trans HS.out) hG6 (own_ne_type (e := 45) (t := 37) (owns_nil_at (q := 5) (t := 45) (get_last rfl) HZ.out) ((get_past zS).trans HS.out) (by decide))); have HZ6 := Lib.hid HB6.out.size; rw [HW3.out] at HZ6; obtain ⟨av6, cap6, rfl⟩ := owns_form hO6; have HO6 := Lib.hid hO6; clear hO6 hG6)) | (at_builtin; go_loud (refine wpList_append_src rfl (.tmp 46) (.tmp 48) 23 rfl gS 45 i1 _ 5 48 Tryd.underlying23 hi1 hz1 hs1 hy1 hc1 (by omega) (.slice av6 L1 cap6) L1 X1 rfl (owns_below HO6.out ((Below.refl _ _).alloc (Nat.le_refl _) (.cells #[.string ⟨#[]⟩, .int .i64 0, .int .i64 0, .int .i64 0, .int .i64 0] 45))) _ 1 [.string ⟨#[]⟩, .int .i64 0, .int .i64 0, .int .i64 0, .int .i64 0] rfl (src_new _ _ _) rfl (by intro u hu; simp at hu; first | (rw [hu]; rfl) | (rcases hu with rfl | rfl <;> rfl)) (by unfold maxLen; omega) (by omega) (by have := HZ6.out; simp; omega) ?_; intro v7 wx1 hO7 hG7; have HB7 := Lib.hid (grown3 (HB6.out.alloc HZ6.out _) (by have := HZ6.out; simp; omega) (owns_below HO6.out ((Below.refl _ _).alloc (Nat.le_refl _) (.cells #[.string ⟨#[]⟩, .int .i64 0, .int .i64 0, .int .i64 0, .int .i64 0] 45))) hG7); have HS7 := Lib.hid (obj_grown ((get_past (Nat.lt_of_lt_of_le (heap_lt HS6.out) (Nat.le_refl _))).trans HS6.out) hG7 (own_ne_type (e := 45) (t := 37) (owns_below HO6.out ((Below.refl _ _).alloc (Nat.le_refl _) (.cells #[.string ⟨#[]⟩, .int .i64 0, .int .i64 0, .int .i64 0, .int .i64 0] 45))) ((get_past (heap_lt HS6.out)).trans HS6.out) (by decide))); obtain ⟨ao1, co1, rfl⟩ := owns_form hO7; have HO7 := Lib.hid hO7; have f7 := obj_frozen HS7.out 0; have z7 := heap_lt HS7.out; have c7 := obj_cell HS7.out (i := 0) rfl; clear hO7 hG7)) | fail)
      obtain ⟨wa, hwa⟩ : ∃ W, W = wx1.setCell ⟨gS, 0, none⟩ (.slice ao1 (L1 + 1) co1) := ⟨_, rfl⟩
      rw [← hwa]
      have HB := Lib.hid (show Below gS W3 wa by rw [hwa]; exact HB7.out.setCell (p := ⟨gS, 0, none⟩) (Nat.le_refl _) _)
      have HS := Lib.hid (show wa.heap[gS]? = some (.cells #[.slice ao1 (L1 + 1) co1, .slice v2 n2 k2, .slice v3 n3 k3, .slice v4 n4 k4] 37) by rw [hwa]; exact obj_self HS7.out)
      have HR1 := Lib.hid (show wa.ownsRow gS 45 5 (.slice ao1 (L1 + 1) co1) (L1 + 1) (X1 ++ [.string ⟨#[]⟩, .int .i64 0, .int .i64 0, .int .i64 0, .int .i64 0]) by rw [hwa]; exact owns_set HO7.out (own_ne_type HO7.out HS7.out (by decide)))
      have HZ := Lib.hid HB.out.size
      rw [HW3.out] at HZ
      have zS := heap_lt HS.out
      clear f7 z7 c7 HB7 HS7 HO7 hwa HB6 HS6 HO6 HZ6
      obtain ⟨s0, s1, s2, s3⟩ := boxed_four HS.out
      go_upto_region 14 with (first | (at_builtin; go_loud (refine wpList_append_src rfl (.tmp 51) (.tmp 53) 35 rfl gS 3 i2 _ 1 8 Tryd.underlying35 hi2 hz2 hs2 hy2 hc2 (by omega) (.slice (some ⟨wa.heap.size, 0, none⟩) 0 0) 0 [] rfl (owns_nil_at (q := 1) (t := 3) (get_last rfl) HZ.out) _ L2 X2 rfl (r2 _ (HB.out.alloc HZ.out _)) l2 (o2.out) (by unfold maxLen; omega) (by omega) (by simp; omega) ?_; intro v6 w6 hO6 hG6; have hO6 := own_eq2 hO6 (Nat.zero_add _) (List.nil_append _); have HB6 := Lib.hid (grown3 (HB.out.alloc HZ.out _) (by simp; omega) (owns_nil_at (q := 1) (t := 3) (get_last rfl) HZ.out) hG6); have HS6 := Lib.hid (obj_grown ((get_past zS).trans HS.out) hG6 (own_ne_type (e := 3) (t := 37) (owns_nil_at (q := 1) (t := 3) (get_last rfl) HZ.out) ((get_past zS).trans HS.out) (by decide))); have HR1 := Lib.hid (owns_grown (owns_below HR1.out ((Below.refl _ _).alloc (Nat.le_refl _) _)) hG6 (fun g hg => owns_type (e := 45) (f := 3) (owns_below HR1.out ((Below.refl _ _).alloc (Nat.le_refl _) _)) (owns_nil_at (q := 1) (t := 3) (get_last rfl) HZ.out) (by decide) hg)); have HZ6 := Lib.hid HB6.out.size; rw [HW3.out] at HZ6; obtain ⟨av6, cap6, rfl⟩ := owns_form hO6; have HO6 := Lib.hid hO6; clear hO6 hG6)) | (at_builtin; go_loud (refine wpList_append_src rfl (.tmp 54) (.tmp 55) 35 rfl gS 3 i2 _ 1 8 Tryd.underlying35 hi2 hz2 hs2 hy2 hc2 (by omega) (.slice av6 L2 cap6) L2 X2 rfl (owns_below HO6.out ((Below.refl _ _).alloc (Nat.le_refl _) (.cells #[.int .i64 6] 3))) _ 1 [.int .i64 6] rfl (src_new _ _ _) rfl (by intro u hu; simp at hu; first | (rw [hu]; rfl) | (rcases hu with rfl | rfl <;> rfl)) (by unfold maxLen; omega) (by omega) (by have := HZ6.out; simp; omega) ?_; intro v7 wx2 hO7 hG7; have HB7 := Lib.hid (grown3 (HB6.out.alloc HZ6.out _) (by have := HZ6.out; simp; omega) (owns_below HO6.out ((Below.refl _ _).alloc (Nat.le_refl _) (.cells #[.int .i64 6] 3))) hG7); have HS7 := Lib.hid (obj_grown ((get_past (Nat.lt_of_lt_of_le (heap_lt HS6.out) (Nat.le_refl _))).trans HS6.out) hG7 (own_ne_type (e := 3) (t := 37) (owns_below HO6.out ((Below.refl _ _).alloc (Nat.le_refl _) (.cells #[.int .i64 6] 3))) ((get_past (heap_lt HS6.out)).trans HS6.out) (by decide))); have HR1 := Lib.hid (owns_grown (owns_below HR1.out ((Below.refl _ _).alloc (Nat.le_refl _) _)) hG7 (fun g hg => owns_type (e := 45) (f := 3) (owns_below HR1.out ((Below.refl _ _).alloc (Nat.le_refl _) _)) (owns_below HO6.out ((Below.refl _ _).alloc (Nat.le_refl _) (.cells #[.int .i64 6] 3))) (by decide) hg)); obtain ⟨ao2, co2, rfl⟩ := owns_form hO7; have HO7 := Lib.hid hO7; have f7 := obj_frozen HS7.out 3; have z7 := heap_lt HS7.out; have c7 := obj_cell HS7.out (i := 3) rfl; clear hO7 hG7)) | fail)
      obtain ⟨wb, hwb⟩ : ∃ W, W = wx2.setCell ⟨gS, 3, none⟩ (.slice ao2 (L2 + 1) co2) := ⟨_, rfl⟩
      rw [← hwb]
      have HB := Lib.hid (show Below gS W3 wb by rw [hwb]; exact HB7.out.setCell (p := ⟨gS, 3, none⟩) (Nat.le_refl _) _)
      have HS := Lib.hid (show wb.heap[gS]? = some (.cells #[.slice ao1 (L1 + 1) co1, .slice v2 n2 k2, .slice v3 n3 k3, .slice ao2 (L2 + 1) co2] 37) by rw [hwb]; exact obj_self HS7.out)
      have HR2 := Lib.hid (show wb.ownsRow gS 3 1 (.slice ao2 (L2 + 1) co2) (L2 + 1) (X2 ++ [.int .i64 6]) by rw [hwb]; exact owns_set HO7.out (own_ne_type HO7.out HS7.out (by decide)))
      have HR1 := Lib.hid (by have := owns_set (o := 3) (x := .slice ao2 (L2 + 1) co2) HR1.out (own_ne_type HR1.out HS7.out (by decide)); rw [← hwb] at this; exact this)
      have HZ := Lib.hid HB.out.size
      rw [HW3.out] at HZ
      have zS := heap_lt HS.out
      clear f7 z7 c7 HB7 HS7 HO7 hwb HB6 HS6 HO6 HZ6
      obtain ⟨s0, s1, s2, s3⟩ := boxed_four HS.out
      go_upto_region 15 with (first | (at_builtin; go_loud (refine wpList_append_src rfl (.tmp 58) (.tmp 60) 24 rfl gS 47 i3 _ 2 24 Tryd.underlying24 hi3 hz3 hs3 hy3 hc3 (by omega) (.slice (some ⟨wb.heap.size, 0, none⟩) 0 0) 0 [] rfl (owns_nil_at (q := 2) (t := 47) (get_last rfl) HZ.out) _ L3 X3 rfl (r3 _ (HB.out.alloc HZ.out _)) l3 (o3.out) (by unfold maxLen; omega) (by omega) (by simp; omega) ?_; intro v6 w6 hO6 hG6; have hO6 := own_eq2 hO6 (Nat.zero_add _) (List.nil_append _); have HB6 := Lib.hid (grown3 (HB.out.alloc HZ.out _) (by simp; omega) (owns_nil_at (q := 2) (t := 47) (get_last rfl) HZ.out) hG6); have HS6 := Lib.hid (obj_grown ((get_past zS).trans HS.out) hG6 (own_ne_type (e := 47) (t := 37) (owns_nil_at (q := 2) (t := 47) (get_last rfl) HZ.out) ((get_past zS).trans HS.out) (by decide))); have HR1 := Lib.hid (owns_grown (owns_below HR1.out ((Below.refl _ _).alloc (Nat.le_refl _) _)) hG6 (fun g hg => owns_type (e := 45) (f := 47) (owns_below HR1.out ((Below.refl _ _).alloc (Nat.le_refl _) _)) (owns_nil_at (q := 2) (t := 47) (get_last rfl) HZ.out) (by decide) hg)); have HR2 := Lib.hid (owns_grown (owns_below HR2.out ((Below.refl _ _).alloc (Nat.le_refl _) _)) hG6 (fun g hg => owns_type (e := 3) (f := 47) (owns_below HR2.out ((Below.refl _ _).alloc (Nat.le_refl _) _)) (owns_nil_at (q := 2) (t := 47) (get_last rfl) HZ.out) (by decide) hg)); have HZ6 := Lib.hid HB6.out.size; rw [HW3.out] at HZ6; obtain ⟨av6, cap6, rfl⟩ := owns_form hO6; have HO6 := Lib.hid hO6; clear hO6 hG6)) | (at_builtin; go_loud (refine wpList_append_src rfl (.tmp 61) (.tmp 63) 24 rfl gS 47 i3 _ 2 24 Tryd.underlying24 hi3 hz3 hs3 hy3 hc3 (by omega) (.slice av6 L3 cap6) L3 X3 rfl (owns_below HO6.out ((Below.refl _ _).alloc (Nat.le_refl _) (.cells #[.string ⟨#[]⟩, .int .i64 1] 47))) _ 1 [.string ⟨#[]⟩, .int .i64 1] rfl (src_new _ _ _) rfl (by intro u hu; simp at hu; first | (rw [hu]; rfl) | (rcases hu with rfl | rfl <;> rfl)) (by unfold maxLen; omega) (by omega) (by have := HZ6.out; simp; omega) ?_; intro v7 wx3 hO7 hG7; have HB7 := Lib.hid (grown3 (HB6.out.alloc HZ6.out _) (by have := HZ6.out; simp; omega) (owns_below HO6.out ((Below.refl _ _).alloc (Nat.le_refl _) (.cells #[.string ⟨#[]⟩, .int .i64 1] 47))) hG7); have HS7 := Lib.hid (obj_grown ((get_past (Nat.lt_of_lt_of_le (heap_lt HS6.out) (Nat.le_refl _))).trans HS6.out) hG7 (own_ne_type (e := 47) (t := 37) (owns_below HO6.out ((Below.refl _ _).alloc (Nat.le_refl _) (.cells #[.string ⟨#[]⟩, .int .i64 1] 47))) ((get_past (heap_lt HS6.out)).trans HS6.out) (by decide))); have HR1 := Lib.hid (owns_grown (owns_below HR1.out ((Below.refl _ _).alloc (Nat.le_refl _) _)) hG7 (fun g hg => owns_type (e := 45) (f := 47) (owns_below HR1.out ((Below.refl _ _).alloc (Nat.le_refl _) _)) (owns_below HO6.out ((Below.refl _ _).alloc (Nat.le_refl _) (.cells #[.string ⟨#[]⟩, .int .i64 1] 47))) (by decide) hg)); have HR2 := Lib.hid (owns_grown (owns_below HR2.out ((Below.refl _ _).alloc (Nat.le_refl _) _)) hG7 (fun g hg => owns_type (e := 3) (f := 47) (owns_below HR2.out ((Below.refl _ _).alloc (Nat.le_refl _) _)) (owns_below HO6.out ((Below.refl _ _).alloc (Nat.le_refl _) (.cells #[.string ⟨#[]⟩, .int .i64 1] 47))) (by decide) hg)); obtain ⟨ao3, co3, rfl⟩ := owns_form hO7; have HO7 := Lib.hid hO7; have f7 := obj_frozen HS7.out 1; have z7 := heap_lt HS7.out; have c7 := obj_cell HS7.out (i := 1) rfl; clear hO7 hG7)) | fail)
      obtain ⟨wc, hwc⟩ : ∃ W, W = wx3.setCell ⟨gS, 1, none⟩ (.slice ao3 (L3 + 1) co3) := ⟨_, rfl⟩
      rw [← hwc]
      have HB := Lib.hid (show Below gS W3 wc by rw [hwc]; exact HB7.out.setCell (p := ⟨gS, 1, none⟩) (Nat.le_refl _) _)
      have HS := Lib.hid (show wc.heap[gS]? = some (.cells #[.slice ao1 (L1 + 1) co1, .slice ao3 (L3 + 1) co3, .slice v3 n3 k3, .slice ao2 (L2 + 1) co2] 37) by rw [hwc]; exact obj_self HS7.out)
      have HR3 := Lib.hid (show wc.ownsRow gS 47 2 (.slice ao3 (L3 + 1) co3) (L3 + 1) (X3 ++ [.string ⟨#[]⟩, .int .i64 1]) by rw [hwc]; exact owns_set HO7.out (own_ne_type HO7.out HS7.out (by decide)))
      have HR1 := Lib.hid (by have := owns_set (o := 1) (x := .slice ao3 (L3 + 1) co3) HR1.out (own_ne_type HR1.out HS7.out (by decide)); rw [← hwc] at this; exact this)
      have HR2 := Lib.hid (by have := owns_set (o := 1) (x := .slice ao3 (L3 + 1) co3) HR2.out (own_ne_type HR2.out HS7.out (by decide)); rw [← hwc] at this; exact this)
      have HZ := Lib.hid HB.out.size
      rw [HW3.out] at HZ
      have zS := heap_lt HS.out
      clear f7 z7 c7 HB7 HS7 HO7 hwc HB6 HS6 HO6 HZ6
      obtain ⟨s0, s1, s2, s3⟩ := boxed_four HS.out
      have hBc := HB03.out.trans (HB.out.mono HGS.out)
      have HBc := Lib.hid hBc
      have oE := obj_below HOE3'.out HB.out HZE3.out
      obtain ⟨e0, e1, e2, e3, e4⟩ := boxed_expr oE
      have R1 := m1 wc HB.out _ _ _ ⟨[.string ⟨#[]⟩, .int .i64 0, .int .i64 0, .int .i64 0, .int .i64 0], rfl⟩ ⟨[], 0, 0, 0, 0⟩ ⟨rfl, by unfold sz; simp, by unfold I64; simp, by unfold I64; simp, by unfold I64; simp, by unfold I64; simp⟩ HR1.out
      have R2 := m2 wc HB.out _ _ _ ⟨[.int .i64 6], rfl⟩ 6 ⟨rfl, by unfold I64; omega⟩ HR2.out
      have R3 := m3 wc HB.out _ _ _ ⟨[.string ⟨#[]⟩, .int .i64 1], rfl⟩ ⟨[], 1⟩ ⟨rfl, by unfold sz; simp, by unfold I64; simp⟩ HR3.out
      have HTn := Lib.hid (HTy.out (.slice ao1 (L1 + 1) co1) (.slice ao3 (L3 + 1) co3) (.slice v3 n3 k3) (.slice ao2 (L2 + 1) co2) (moreS (scP p u)) e HSM.out _ wc hBc ⟨R1, R3, R2⟩ (HX.out.below hBc))
      rw [HMo.out] at HTn
      have eT : (T == T) = true := by simp
      clear m1 m2 m3 r1 r2 r3 R1 R2 R3 HR1 HR2 HR3 HB HS HTy HMo oE hBc
      go_wp2_with fail
      refine HTn.out.mono ?_; rintro r w8 ⟨rfl, hb⟩
      have HBB := Lib.hid (HBc.out.trans (hb.mono HBc.out.size))
      clear hb
      go_wp2_with fail
      refine (HA0.out _ HBB.out).mono ?_; rintro r w9 ⟨rfl, hb⟩
      have HBB := Lib.hid (HBB.out.trans (hb.mono HBB.out.size))
      clear hb
      go_wp2_with fail
      go_ret
      exact ⟨rfl, HBB.out⟩
end Go.Proofs.YtpecpeedefeokaaDoor
