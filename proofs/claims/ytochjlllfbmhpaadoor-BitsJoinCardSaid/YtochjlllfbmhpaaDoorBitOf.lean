/- Layer 6: a set of some places, by both. -/
import Derived.Test.YtochjlllfbmhpaaDoorBitT
import Derived.Test.YtochjlllfbmhpaaDoorBitL
import Derived.Test.YtochjlllfbmhpaaDoorBitAll
import Derived.Test.YtochjlllfbmhpaaDoorHeldTill
import Derived.Test.YtochjlllfbmhpaaDoorBoxed
namespace Go.Proofs.YtochjlllfbmhpaaDoor
open Go.RowKit
set_option linter.unusedSimpArgs false
set_option linter.unusedVariables false
/-- the set of some places -/
def setOf (room : Int) (l : List Int) : List Bool := l.foldl withB (List.replicate (clampR room) false)
theorem setOf_snoc (room : Int) (l : List Int) (k : Nat) (z : Int) (h : l[k]? = some z) : setOf room (l.take (k + 1)) = withB (setOf room (l.take k)) z := by
  unfold setOf
  rw [take_snoc h, List.foldl_append]
  rfl
theorem setOf_len (room : Int) (l : List Int) : (setOf room l).length = clampR room := by
  unfold setOf
  have : ∀ (x : List Bool), (l.foldl withB x).length = x.length := by
    induction l with
    | nil => intro x; rfl
    | cons z t ih => intro x; rw [List.foldl_cons, ih, withB_len]
  rw [this]; simp
theorem blk_ne {w : World} {P b o : Nat} {A : Array Value} {T : TypeId} {u : Value} (hp : w.heap[P]? = some (.cells A T)) (hc : w.cell? ⟨b, o, none⟩ = some u) (hu : ∀ i : Nat, A[i]? ≠ some u) : ¬ P = b := by
  rintro rfl
  unfold World.cell? at hc
  rw [show (⟨P, o, none⟩ : Addr).block = P from rfl, hp] at hc
  exact hu _ (by simpa using hc)
theorem two_ne {n : Int} {a : Option Addr} {q c : Nat} {u : Value} (h1 : u ≠ .int .i64 n) (h2 : u ≠ .slice a q c) : ∀ i : Nat, (#[Value.int .i64 n, .slice a q c] : Array Value)[i]? ≠ some u := by
  intro i hi
  rcases (show i = 0 ∨ i = 1 ∨ 2 ≤ i by omega) with rfl | rfl | h
  · exact h1 (Option.some.inj hi).symm
  · exact h2 (Option.some.inj hi).symm
  · rw [Array.getElem?_eq_none (by simpa using h)] at hi; cases hi
theorem SetR.put {w : World} {v : Value} {x : List Bool} (h : SetR w v x) {P i : Nat} {n : Int} {a : Option Addr} {q c : Nat} {T : TypeId} {y : Value} (hp : w.heap[P]? = some (.cells #[.int .i64 n, .slice a q c] T)) : SetR (w.setCell ⟨P, i, none⟩ y) v x := by
  obtain ⟨ws, a', c', h1, h2, h3, h4⟩ := h
  refine ⟨ws, a', c', h1, h2, h3, fun h0 => ?_⟩
  obtain ⟨b, o, e, l1, l2, l3, l4⟩ := h4 h0
  refine ⟨b, o, e, l1, l2, by rw [World.size_setCell]; exact l3, fun k hk => ?_⟩
  rw [far_cell (blk_ne hp (l4 k hk) (two_ne (by intro h; cases h) (by intro h; cases h)))]
  exact l4 k hk
theorem bools_put {w : World} {v : Value} {x : List Bool} (h : RowR 1 boolR w v x) {P i : Nat} {n : Int} {a : Option Addr} {q c : Nat} {T : TypeId} {y : Value} (hp : w.heap[P]? = some (.cells #[.int .i64 n, .slice a q c] T)) : RowR 1 boolR (w.setCell ⟨P, i, none⟩ y) v x := by
  rcases h with h | ⟨b, off, cap, h1, h2, h3, h4, h5, h6⟩
  · exact Or.inl h
  · refine Or.inr ⟨b, off, cap, h1, h2, h3, h4, by rw [World.size_setCell]; exact h5, fun i x hx => ?_⟩
    obtain ⟨C, g1, g2, g3⟩ := h6 i x hx
    refine ⟨C, g1, fun j u hu => ?_, g3⟩
    have hC : C = [.bool x] := g3
    have hub : u = .bool x := by
      have := lt_of_get hu
      rw [hC] at hu this
      have hj : j = 0 := by simp at this; omega
      subst hj
      simpa using hu.symm
    rw [far_cell (blk_ne hp (g2 j u hu) (two_ne (by rw [hub]; intro h; cases h) (by rw [hub]; intro h; cases h)))]
    exact g2 j u hu
theorem with_form (v : Value) (x : List Bool) (i : Int) (n : Nat) (hn : x.length = n) (w : World) (hx : SetR w v x) : Calls Tryd.prog 7 #[v, .int .i64 i] w fun e w' => ∃ a q c, e = .returned (.agg #[.int .i64 n, .slice a q c]) ∧ SetR w' (.agg #[.int .i64 n, .slice a q c]) (withB x i) ∧ Below w.heap.size w w' :=
  (bits_With v x i w hx).mono (by
    rintro e w' ⟨v', rfl, hS, hb⟩
    obtain ⟨ws, a, c, rfl, h⟩ := id hS
    rw [withB_len, hn] at hS ⊢
    exact ⟨a, _, c, rfl, hS, hb⟩)
set_option maxHeartbeats 1000000 in
theorem law06_of (room : Int) (v : Value) (l : List Int) (w : World) (hv : RowR 1 intR w v l) : Calls Tryd.prog 6 #[.int .i64 room, v] w fun e w' => ∃ s x, e = .returned (.tuple #[s, x]) ∧ SetR w' s (setOf room l) ∧ RowR 1 boolR w' x (setOf room l) ∧ Below w.heap.size w w' := by
  have hvl := hv.len
  obtain ⟨sv, cv, rfl⟩ := row_get hv
  obtain ⟨N, hN⟩ : ∃ N, l.length = N := ⟨_, rfl⟩
  have HN := Lib.hid hN
  have HL := Lib.hid (setOf_len room)
  have hcl := clampR_le room
  rw [hN] at hv hvl ⊢
  have HV := Lib.hid hv
  clear hN hv
  have HA := fun W => bits_New room W
  have HB := fun W => ref06_New room W
  go_enter Tryd.func6, Tryd.ntmps6
  go_wp2_with fail
  refine (HA _).mono ?_; rintro e W1 ⟨g, rfl, hF⟩
  have hs0 := hF.set (x := List.replicate (clampR room) false) (wds_none _) (by simpa using hcl) (m := (clampR room + 63) / 64) (by simp)
  rw [List.length_replicate] at hs0
  go_wp2_with fail
  refine (HB _).mono ?_; rintro e W2 ⟨u2, rfl, hR, hb2⟩
  obtain ⟨m, hm⟩ : ∃ m, (clampR room + 63) / 64 = m := ⟨_, rfl⟩
  rw [hm] at hs0 ⊢
  clear hm
  obtain ⟨n, hn⟩ : ∃ n, clampR room = n := ⟨_, rfl⟩
  have HNr := Lib.hid hn
  rw [hn] at hs0 hcl ⊢
  obtain ⟨W3, hW3⟩ : ∃ W3, W3 = W2.alloc (.cells #[.int .i64 n, .slice (some ⟨g, 0, none⟩) m m] 26) := ⟨_, rfl⟩
  have hb1 := hF.below
  have hsz1 := hb1.size
  rw [World.size_alloc] at hsz1
  have hb23 : Below W2.heap.size W2 W3 := by rw [hW3]; exact by (repeat' (first | (with_reducible exact Below.refl _ _) | (with_reducible assumption) | (with_reducible refine below_drewN ?_ _) | (with_reducible refine Below.alloc ?_ ?_ _) | (with_reducible refine Below.drew ?_) | (with_reducible refine Below.setCell ?_ ?_ _) | go_size))
  have hB1 : Below w.heap.size w W1 := Below.trans (by (repeat' (first | (with_reducible exact Below.refl _ _) | (with_reducible assumption) | (with_reducible refine below_drewN ?_ _) | (with_reducible refine Below.alloc ?_ ?_ _) | (with_reducible refine Below.drew ?_) | (with_reducible refine Below.setCell ?_ ?_ _) | go_size))) (hb1.mono (by simp))
  have hp0 : W3.heap[w.heap.size]? = some (.cells #[.int .i64 0, .slice none 0 0] 26) := obj_below (obj_below (obj_below (get_last (by simp)) hb1 (by simp)) hb2 (by omega)) hb23 (by have := hb2.size; omega)
  have hp1 : W3.heap[W2.heap.size]? = some (.cells #[.int .i64 n, .slice (some ⟨g, 0, none⟩) m m] 26) := by rw [hW3]; exact get_last rfl
  have HS3 := Lib.hid ((hs0.below hb2).below hb23)
  have HR3 := Lib.hid (hR.below boolR_stable hb23)
  have HB3 := Lib.hid ((hB1.trans (hb2.mono hB1.size)).trans (hb23.mono (Nat.le_trans hB1.size hb2.size)))
  have HP0 := Lib.hid hp0
  have HP1 := Lib.hid hp1
  have HW3 := Lib.hid hW3
  have HPl := Lib.hid (show w.heap.size < W2.heap.size from by have := hb2.size; omega)
  obtain ⟨P, hP⟩ : ∃ P, W2.heap.size = P := ⟨_, rfl⟩
  rw [hP] at HP1 HPl
  clear hs0 hR hb2 hb1 hB1 hb23 hp0 hp1 hW3 hF hsz1
  go_wp2_with fail
  rw [← HW3.out]
  clear hP HA HB
  go_loopw [7, 8] (fun u jj wr => ∃ (k : Nat) (a : Option Addr) (q c : Nat), k ≤ N ∧ jj = .int .i64 k ∧ Hid (wr.heap[P]? = some (.cells #[.int .i64 n, .slice a q c] 26)) ∧ Hid (wr.heap[w.heap.size]? = some (.cells #[.int .i64 0, .slice none 0 0] 26)) ∧ Hid (SetR wr (.agg #[.int .i64 n, .slice a q c]) (setOf room (l.take k))) ∧ Hid (RowR 1 boolR wr u (setOf room (l.take k))) ∧ Hid (Below w.heap.size w wr)) (fun _ jj _ => N - (intOf jj).toNat)
  case atStart => exact ⟨0, _, _, _, by omega, rfl, HP1, HP0, Lib.hid (by show SetR _ _ (List.replicate _ _); rw [HNr.out]; exact HS3.out), Lib.hid (by show RowR _ _ _ _ (List.replicate _ _); exact HR3.out), HB3⟩
  case round =>
    clear HS3 HR3 HB3 HP0 HP1 HW3
    obtain ⟨k, a, q, c, hk, rfl, hobj, hres, hS, hR, hB⟩ := hrel
    have hpl := HPl.out
    by_cases hlt : k < N
    · have qk : ((k : Int) < (N : Int)) = True := eq_true (by omega)
      have qk' : (k < N) = True := eq_true hlt
      obtain ⟨b, off, rfl, hbw, hc⟩ := ints_at HV.out (k := k) (by rw [HN.out]; exact hlt)
      obtain ⟨z, hz⟩ := get_some (L := l) (n := k) (by rw [HN.out]; exact hlt)
      have e0 := (hc k z hz).1
      have e0 := (hB.out.cell (p := ⟨b, off + k, none⟩) hbw).trans e0
      have c0 : wr.cell? ⟨P, 0, none⟩ = some (.int .i64 n) := obj_cell hobj.out (i := 0) rfl
      have c1 : wr.cell? ⟨P, 1, none⟩ = some (.slice a q c) := obj_cell hobj.out (i := 1) rfl
      have z0 : P < wr.heap.size := heap_lt hobj.out
      have ze : b < wr.heap.size := Nat.lt_of_lt_of_le hbw hB.out.size
      have HSN := Lib.hid (setOf_snoc room l k z hz)
      have HLk := Lib.hid (HL.out (l.take k))
      generalize setOf room (l.take k) = x at *
      have hxl : x.length = n := by rw [HLk.out, HNr.out]
      have HW1 := Lib.hid (fun W (h : Below wr.heap.size wr W) => with_form _ x z n hxl W (hS.out.below h))
      have HR1 := Lib.hid (fun W (h : Below wr.heap.size wr W) => ref06_With u7 x z W (hR.out.below boolR_stable h) (by rw [hxl]; exact hcl))
      clear hc hz
      clear qk'
      go_wp2_with fail
      refine wp_region_till (S := (fun (L : Array Bool) (w' : World) => (L.getD 12 true = false → Below wr.heap.size wr w') ∧ (L.getD 11 true = false → Below wr.heap.size wr w'))) (by kernel_rfl) ?_ (fun hHeld => ?_)
      · (try dsimp only); first | exact ⟨fun _ => (Below.refl _ _).drew, fun _ => (Below.refl _ _).drew⟩ | exact ⟨fun _ => Below.refl _ _, fun _ => Below.refl _ _⟩ | (trace_state; fail)
      refine till_take 12 (fun w' => Below wr.heap.size wr w') (i := 0) (oi := { dst := some 19, op := Op.load 26 (Operand.tmp 6), type := 26, pos := _, after := #[], guard := none }) (u := ?_) rfl (by kernel_rfl) (by kernel_rfl) (by kernel_rfl) (by kernel_rfl) (by kernel_rfl) (by decide) (fun L v hL h => h.1 hL) (fun L v => by simp only [getD_set_ne true (show 0 ≠ 12 by decide), getD_set_ne true (show 0 ≠ 11 by decide)]) (fun _ _ _ h => h) (Or.inl ⟨by rfl, ?_⟩) hHeld ?_
      rotate_left
      · intro wt hSw; (try dsimp only at hSw); have c0 := cellB hSw c0 z0; have c1 := cellB hSw c1 z0; have e0 := cellB hSw e0 ze; first | (go_simp; done) | (go_simp; with_reducible rfl) | (trace_state; fail)
      clear hHeld; intro hHeld
      try simp only [Act.put, List.setIfInBounds_toArray, List.set_cons_zero, List.set_cons_succ]
      refine till_take 12 (fun _ => True) (i := 1) (oi := { dst := some 20, op := Op.move (Operand.tmp 1), type := 22, pos := _, after := #[], guard := none }) (u := ?_) rfl (by kernel_rfl) (by kernel_rfl) (by kernel_rfl) (by kernel_rfl) (by kernel_rfl) (by decide) (fun L v hL h => trivial) (fun L v => by simp only [getD_set_ne true (show 1 ≠ 12 by decide), getD_set_ne true (show 1 ≠ 11 by decide)]) (fun _ _ _ h => h) (Or.inl ⟨by rfl, ?_⟩) hHeld ?_
      rotate_left
      · intro wt _; first | (go_simp; done) | (go_simp; with_reducible rfl) | (trace_state; fail)
      clear hHeld; intro hHeld
      try simp only [Act.put, List.setIfInBounds_toArray, List.set_cons_zero, List.set_cons_succ]
      refine till_take 12 (fun _ => True) (i := 2) (oi := { dst := some 21, op := Op.move (Operand.tmp 8), type := 3, pos := _, after := #[], guard := none }) (u := ?_) rfl (by kernel_rfl) (by kernel_rfl) (by kernel_rfl) (by kernel_rfl) (by kernel_rfl) (by decide) (fun L v hL h => trivial) (fun L v => by simp only [getD_set_ne true (show 2 ≠ 12 by decide), getD_set_ne true (show 2 ≠ 11 by decide)]) (fun _ _ _ h => h) (Or.inl ⟨by rfl, ?_⟩) hHeld ?_
      rotate_left
      · intro wt _; first | (go_simp; done) | (go_simp; with_reducible rfl) | (trace_state; fail)
      clear hHeld; intro hHeld
      try simp only [Act.put, List.setIfInBounds_toArray, List.set_cons_zero, List.set_cons_succ]
      refine till_take 12 (fun _ => True) (i := 3) (oi := { dst := some 22, op := Op.indexAddr 22 (Operand.tmp 20) (Operand.tmp 21), type := 0, pos := _, after := #[{ on := 1, ground := Ground.data }, { on := 2, ground := Ground.data }], guard := none }) (u := ?_) rfl (by kernel_rfl) (by kernel_rfl) (by kernel_rfl) (by kernel_rfl) (by kernel_rfl) (by decide) (fun L v hL h => trivial) (fun L v => by simp only [getD_set_ne true (show 3 ≠ 12 by decide), getD_set_ne true (show 3 ≠ 11 by decide)]) (fun _ _ _ h => h) (Or.inl ⟨by rfl, ?_⟩) hHeld ?_
      rotate_left
      · intro wt _; first | (go_simp; done) | (go_simp; with_reducible rfl) | (trace_state; fail)
      clear hHeld; intro hHeld
      try simp only [Act.put, List.setIfInBounds_toArray, List.set_cons_zero, List.set_cons_succ]
      refine till_take 12 (fun w' => Below wr.heap.size wr w') (i := 4) (oi := { dst := some 23, op := Op.load 3 (Operand.tmp 22), type := 3, pos := _, after := #[{ on := 3, ground := Ground.data }], guard := none }) (u := ?_) rfl (by kernel_rfl) (by kernel_rfl) (by kernel_rfl) (by kernel_rfl) (by kernel_rfl) (by decide) (fun L v hL h => h.1 hL) (fun L v => by simp only [getD_set_ne true (show 4 ≠ 12 by decide), getD_set_ne true (show 4 ≠ 11 by decide)]) (fun _ _ _ h => h) (Or.inl ⟨by rfl, ?_⟩) hHeld ?_
      rotate_left
      · intro wt hSw; (try dsimp only at hSw); have c0 := cellB hSw c0 z0; have c1 := cellB hSw c1 z0; have e0 := cellB hSw e0 ze; first | (go_simp; done) | (go_simp; with_reducible rfl) | (trace_state; fail)
      clear hHeld; intro hHeld
      try simp only [Act.put, List.setIfInBounds_toArray, List.set_cons_zero, List.set_cons_succ]
      refine till_take 11 (fun _ => True) (i := 6) (oi := { dst := some 25, op := Op.move (Operand.tmp 7), type := 27, pos := _, after := #[], guard := none }) (u := ?_) rfl (by kernel_rfl) (by kernel_rfl) (by kernel_rfl) (by kernel_rfl) (by kernel_rfl) (by decide) (fun L v hL h => trivial) (fun L v => by simp only [getD_set_ne true (show 6 ≠ 12 by decide), getD_set_ne true (show 6 ≠ 11 by decide)]) (fun _ _ _ h => h) (Or.inl ⟨by rfl, ?_⟩) hHeld ?_
      rotate_left
      · intro wt _; first | (go_simp; done) | (go_simp; with_reducible rfl) | (trace_state; fail)
      clear hHeld; intro hHeld
      try simp only [Act.put, List.setIfInBounds_toArray, List.set_cons_zero, List.set_cons_succ]
      refine till_take 9 (fun _ => True) (i := 7) (oi := { dst := some 26, op := Op.move (Operand.tmp 1), type := 22, pos := _, after := #[], guard := none }) (u := ?_) rfl (by kernel_rfl) (by kernel_rfl) (by kernel_rfl) (by kernel_rfl) (by kernel_rfl) (by decide) (fun L v hL h => trivial) (fun L v => by simp only [getD_set_ne true (show 7 ≠ 12 by decide), getD_set_ne true (show 7 ≠ 11 by decide)]) (fun _ _ _ h => h) (Or.inl ⟨by rfl, ?_⟩) hHeld ?_
      rotate_left
      · intro wt _; first | (go_simp; done) | (go_simp; with_reducible rfl) | (trace_state; fail)
      clear hHeld; intro hHeld
      try simp only [Act.put, List.setIfInBounds_toArray, List.set_cons_zero, List.set_cons_succ]
      refine till_take 9 (fun _ => True) (i := 8) (oi := { dst := some 27, op := Op.move (Operand.tmp 8), type := 3, pos := _, after := #[], guard := none }) (u := ?_) rfl (by kernel_rfl) (by kernel_rfl) (by kernel_rfl) (by kernel_rfl) (by kernel_rfl) (by decide) (fun L v hL h => trivial) (fun L v => by simp only [getD_set_ne true (show 8 ≠ 12 by decide), getD_set_ne true (show 8 ≠ 11 by decide)]) (fun _ _ _ h => h) (Or.inl ⟨by rfl, ?_⟩) hHeld ?_
      rotate_left
      · intro wt _; first | (go_simp; done) | (go_simp; with_reducible rfl) | (trace_state; fail)
      clear hHeld; intro hHeld
      try simp only [Act.put, List.setIfInBounds_toArray, List.set_cons_zero, List.set_cons_succ]
      refine till_take 10 (fun _ => True) (i := 9) (oi := { dst := some 28, op := Op.indexAddr 22 (Operand.tmp 26) (Operand.tmp 27), type := 0, pos := _, after := #[{ on := 7, ground := Ground.data }, { on := 8, ground := Ground.data }], guard := none }) (u := ?_) rfl (by kernel_rfl) (by kernel_rfl) (by kernel_rfl) (by kernel_rfl) (by kernel_rfl) (by decide) (fun L v hL h => trivial) (fun L v => by simp only [getD_set_ne true (show 9 ≠ 12 by decide), getD_set_ne true (show 9 ≠ 11 by decide)]) (fun _ _ _ h => h) (Or.inl ⟨by rfl, ?_⟩) hHeld ?_
      rotate_left
      · intro wt _; first | (go_simp; done) | (go_simp; with_reducible rfl) | (trace_state; fail)
      clear hHeld; intro hHeld
      try simp only [Act.put, List.setIfInBounds_toArray, List.set_cons_zero, List.set_cons_succ]
      refine till_take 11 (fun w' => Below wr.heap.size wr w') (i := 10) (oi := { dst := some 29, op := Op.load 3 (Operand.tmp 28), type := 3, pos := _, after := #[{ on := 9, ground := Ground.data }], guard := none }) (u := ?_) rfl (by kernel_rfl) (by kernel_rfl) (by kernel_rfl) (by kernel_rfl) (by kernel_rfl) (by decide) (fun L v hL h => h.2 hL) (fun L v => by simp only [getD_set_ne true (show 10 ≠ 12 by decide), getD_set_ne true (show 10 ≠ 11 by decide)]) (fun _ _ _ h => h) (Or.inl ⟨by rfl, ?_⟩) hHeld ?_
      rotate_left
      · intro wt hSw; (try dsimp only at hSw); have c0 := cellB hSw c0 z0; have c1 := cellB hSw c1 z0; have e0 := cellB hSw e0 ze; first | (go_simp; done) | (go_simp; with_reducible rfl) | (trace_state; fail)
      clear hHeld; intro hHeld
      try simp only [Act.put, List.setIfInBounds_toArray, List.set_cons_zero, List.set_cons_succ]
      refine till_one (i := 5) (o := { dst := some 24, op := Op.call { callee := Callee.value (Operand.func 7), args := #[Operand.tmp 19, Operand.tmp 23], argTypes := #[26, 3] }, type := 26, pos := _, after := #[{ on := 0, ground := Ground.data }, { on := 4, ground := Ground.data }], guard := none }) (by kernel_rfl) rfl (fun K hK => ?_)
      go_simp
      refine (HW1.out _ (hHeld.1 (by kernel_rfl))).mono ?_; rintro e w5 ⟨a5, q5, c5, rfl, hS5, hb5⟩; have hbx := hHeld.1 (by kernel_rfl); have hbc := hbx.trans (hb5.mono hbx.size)
      go_wp2_with fail
      refine hK.out _ _ ?_ (fun hHeld => ?_)
      · (try dsimp only); exact ⟨fun _ => hbc, fun _ => hbc⟩
      clear hK K
      try simp only [Act.put, List.setIfInBounds_toArray, List.set_cons_zero, List.set_cons_succ]
      refine till_one (i := 11) (o := { dst := some 30, op := Op.call { callee := Callee.value (Operand.func 9), args := #[Operand.tmp 25, Operand.tmp 29], argTypes := #[27, 3] }, type := 27, pos := _, after := #[{ on := 6, ground := Ground.data }, { on := 10, ground := Ground.data }, { on := 5, ground := Ground.chain }], guard := none }) (by kernel_rfl) rfl (fun K hK => ?_)
      go_simp
      refine (HR1.out _ hbc).mono ?_; rintro e w6 ⟨u6, rfl, hR6, hb6⟩; have hbd := hbc.trans (hb6.mono hbc.size)
      go_wp2_with fail
      refine hK.out _ _ ?_ (fun hHeld => ?_)
      · (try dsimp only); exact ⟨fun _ => hbd, fun h => absurd h (by decide)⟩
      clear hK K
      have h6 := obj_below hobj.out hbd z0
      have c0 := obj_cell h6 (i := 0) (u := .int .i64 n) rfl
      have c1 := obj_cell h6 (i := 1) (u := .slice a q c) rfl
      have f0 := obj_frozen h6 0
      have f1 := obj_frozen h6 1
      have H6 := Lib.hid h6
      clear h6
      try simp only [Act.put, List.setIfInBounds_toArray, List.set_cons_zero, List.set_cons_succ]
      refine till_one (i := 12) (o := { dst := none, op := Op.store 26 (Operand.tmp 6) (Operand.tmp 24), type := 0, pos := _, after := #[{ on := 5, ground := Ground.data }, { on := 11, ground := Ground.chain }, { on := 0, ground := Ground.phase }, { on := 1, ground := Ground.phase }, { on := 2, ground := Ground.phase }, { on := 3, ground := Ground.phase }, { on := 4, ground := Ground.phase }, { on := 5, ground := Ground.phase }, { on := 6, ground := Ground.textOnly Departure.lateStores }, { on := 7, ground := Ground.textOnly Departure.lateStores }, { on := 8, ground := Ground.textOnly Departure.lateStores }, { on := 9, ground := Ground.textOnly Departure.lateStores }, { on := 10, ground := Ground.textOnly Departure.lateStores }, { on := 11, ground := Ground.textOnly Departure.lateStoresUnsure }], guard := none }) (by kernel_rfl) rfl (fun K hK => ?_)
      go_simp
      refine hK.out _ _ ?_ (fun hHeld => ?_)
      · (try dsimp only); exact ⟨fun h => absurd h (by decide), fun h => absurd h (by decide)⟩
      clear hK K
      try simp only [Act.put, List.setIfInBounds_toArray, List.set_cons_zero, List.set_cons_succ]
      refine till_one (i := 13) (o := { dst := some 7, op := Op.assign (Operand.tmp 30), type := 27, pos := _, after := #[{ on := 11, ground := Ground.data }, { on := 12, ground := Ground.chain }, { on := 0, ground := Ground.phase }, { on := 1, ground := Ground.phase }, { on := 2, ground := Ground.phase }, { on := 3, ground := Ground.phase }, { on := 4, ground := Ground.phase }, { on := 5, ground := Ground.phase }, { on := 6, ground := Ground.phase }, { on := 7, ground := Ground.phase }, { on := 8, ground := Ground.phase }, { on := 9, ground := Ground.phase }, { on := 10, ground := Ground.phase }, { on := 11, ground := Ground.phase }, { on := 12, ground := Ground.phase }], guard := none }) (by kernel_rfl) rfl (fun K hK => ?_)
      go_simp
      refine hK.out _ _ ?_ (fun hHeld => ?_)
      · (try dsimp only); exact ⟨fun h => absurd h (by decide), fun h => absurd h (by decide)⟩
      clear hK K
      try simp only [Act.put, List.setIfInBounds_toArray, List.set_cons_zero, List.set_cons_succ]
      refine till_done (by kernel_rfl) ?_ _
      have h6 := H6.out
      have h7 := obj_self (i := 0) (x := .int .i64 n) h6
      have h8 := obj_self (i := 1) (x := .slice a5 q5 c5) h7
      have hSf := ((hS5.below hb6).put (i := 0) (y := .int .i64 n) h6).put (i := 1) (y := .slice a5 q5 c5) h7
      have hRf := bools_put (i := 1) (y := .slice a5 q5 c5) (bools_put (i := 0) (y := .int .i64 n) hR6 h6) h7
      have hBf := ((hB.out.trans (hbd.mono hB.out.size)).setCell (p := ⟨P, 0, none⟩) (by show w.heap.size ≤ P; omega) (.int .i64 n)).setCell (p := ⟨P, 1, none⟩) (by show w.heap.size ≤ P; omega) (.slice a5 q5 c5)
      have hrf : ((w6.setCell ⟨P, 0, none⟩ (.int .i64 n)).setCell ⟨P, 1, none⟩ (.slice a5 q5 c5)).heap[w.heap.size]? = some (.cells #[.int .i64 0, .slice none 0 0] 26) := by
        rw [get_set (by show P ≠ _; omega), get_set (by show P ≠ _; omega)]
        exact obj_below hres.out hbd (by have := heap_lt hres.out; exact this)
      have HSf := Lib.hid hSf
      have HRf := Lib.hid hRf
      have HBf := Lib.hid hBf
      have Hrf := Lib.hid hrf
      have H8 := Lib.hid (show ((w6.setCell ⟨P, 0, none⟩ (.int .i64 n)).setCell ⟨P, 1, none⟩ (.slice a5 q5 c5)).heap[P]? = some (.cells #[.int .i64 n, .slice a5 q5 c5] 26) from h8)
      clear h6 h7 h8 hSf hRf hBf hrf
      go_wp2_with fail
      go_roundw
      case rel => exact ⟨k + 1, a5, q5, c5, by omega, by simp, H8, Hrf, Lib.hid (by rw [HSN.out]; exact HSf.out), Lib.hid (by rw [HSN.out]; exact HRf.out), HBf⟩
      case measure => simp [intOf]; omega
    · obtain rfl : k = N := by omega
      have qk : ((k : Int) < (k : Int)) = False := eq_false (by omega)
      have qk' : (k < k) = False := eq_false (by omega)
      have c0 : wr.cell? ⟨P, 0, none⟩ = some (.int .i64 n) := obj_cell hobj.out (i := 0) rfl
      have c1 : wr.cell? ⟨P, 1, none⟩ = some (.slice a q c) := obj_cell hobj.out (i := 1) rfl
      have d0 : wr.cell? ⟨w.heap.size, 0, none⟩ = some (.int .i64 0) := obj_cell hres.out (i := 0) rfl
      have d1 : wr.cell? ⟨w.heap.size, 1, none⟩ = some (.slice none 0 0) := obj_cell hres.out (i := 1) rfl
      have f0 := obj_frozen hres.out 0
      have f1 := obj_frozen hres.out 1
      have g1 := obj_self (i := 0) (x := .int .i64 n) hres.out
      have g2 := obj_self (i := 1) (x := .slice a q c) g1
      have e0 := obj_cell g2 (i := 0) (u := .int .i64 n) rfl
      have e1 := obj_cell g2 (i := 1) (u := .slice a q c) rfl
      have HSf := Lib.hid ((hS.out.put (i := 0) (y := .int .i64 n) hres.out).put (i := 1) (y := .slice a q c) g1)
      have HRf := Lib.hid (bools_put (i := 1) (y := .slice a q c) (bools_put (i := 0) (y := .int .i64 n) hR.out hres.out) g1)
      have HBf := Lib.hid ((hB.out.setCell (p := ⟨w.heap.size, 0, none⟩) (Nat.le_refl _) (.int .i64 n)).setCell (p := ⟨w.heap.size, 1, none⟩) (Nat.le_refl _) (.slice a q c))
      have E0 := Lib.hid e0
      have E1 := Lib.hid e1
      have hfull : l.take k = l := List.take_of_length_le (by rw [HN.out]; exact Nat.le_refl _)
      rw [hfull] at HSf HRf
      clear g1 g2 hS hR e0 e1 hfull
      go_wp2_with fail
      have e0 := E0.out
      have e1 := E1.out
      refine bodyPost_ret (by simp [results, Tryd.results6, go_sem, e0, e1]; try rfl) rfl ?_
      exact ⟨_, _, rfl, HSf.out, HRf.out, HBf.out⟩
end Go.Proofs.YtochjlllfbmhpaaDoor
