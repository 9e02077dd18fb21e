/- Layer 23: the answer's Clone. -/
import Derived.Test.YthanmbfelihkfaaStWrite
import Derived.Test.YthanmbfelihkfaaHeldTill
namespace Go.Proofs.Ythanmbfelihkfaa
open Go.RowKit
set_option linter.unusedSimpArgs false
set_option linter.unusedVariables false
theorem bV_app (L M : List (List Int)) : bV (L ++ M) = bV L ++ bV M := by simp [bV]
theorem ten {x : List Int} (h : x.length = 10) : ∃ x0 x1 x2 x3 x4 x5 x6 x7 x8 x9, x = [x0, x1, x2, x3, x4, x5, x6, x7, x8, x9] := by
  match x, h with
  | [x0, x1, x2, x3, x4, x5, x6, x7, x8, x9], _ => exact ⟨x0, x1, x2, x3, x4, x5, x6, x7, x8, x9, rfl⟩
theorem insts_at {w : World} {a : Option Addr} {n cap : Nat} {L : List (List Int)} (hv : RowR 10 instR w (.slice a n cap) L) {k : Nat} (hk : k < L.length) : ∃ b off, a = some ⟨b, off, none⟩ ∧ b < w.heap.size ∧ ∀ i l, L[i]? = some l → l.length = 10 ∧ ∀ r u, (iV l)[r]? = some u → w.cell? ⟨b, off + i * 10 + r, none⟩ = some u := by
  rcases hv with ⟨a, cap, h, rfl, _⟩ | ⟨b, off, cap, h1, _, _, _, h5, h6⟩
  · simp at hk
  · have e : a = some ⟨b, off, none⟩ := by injection h1
    refine ⟨b, off, e, h5, fun i l hl => ?_⟩
    obtain ⟨C, g1, g2, g3, g4, _⟩ := h6 i l hl
    subst g3
    exact ⟨g4, g2⟩
theorem cells10 {w W' : World} {b off q : Nat} {x0 x1 x2 x3 x4 x5 x6 x7 x8 x9 : Int} (h : ∀ r u, (iV [x0, x1, x2, x3, x4, x5, x6, x7, x8, x9])[r]? = some u → w.cell? ⟨b, off + q * 10 + r, none⟩ = some u) (hB : Below w.heap.size w W') (hb : b < w.heap.size) :
    W'.cell? ⟨b, off + q * 10, none⟩ = some (.int .i64 x0) ∧ W'.cell? ⟨b, off + q * 10 + 1, none⟩ = some (.int .i64 x1) ∧ W'.cell? ⟨b, off + q * 10 + 2, none⟩ = some (.int .i64 x2) ∧ W'.cell? ⟨b, off + q * 10 + 3, none⟩ = some (.int .i64 x3) ∧ W'.cell? ⟨b, off + q * 10 + 4, none⟩ = some (.int .i64 x4) ∧ W'.cell? ⟨b, off + q * 10 + 5, none⟩ = some (.int .i64 x5) ∧ W'.cell? ⟨b, off + q * 10 + 6, none⟩ = some (.int .i64 x6) ∧ W'.cell? ⟨b, off + q * 10 + 7, none⟩ = some (.int .i64 x7) ∧ W'.cell? ⟨b, off + q * 10 + 8, none⟩ = some (.int .i64 x8) ∧ W'.cell? ⟨b, off + q * 10 + 9, none⟩ = some (.int .i64 x9) := by
  have k : ∀ r u, (iV [x0, x1, x2, x3, x4, x5, x6, x7, x8, x9])[r]? = some u → W'.cell? ⟨b, off + q * 10 + r, none⟩ = some u := fun r u hu => (hB.cell (p := ⟨b, off + q * 10 + r, none⟩) hb).trans (h r u hu)
  exact ⟨k 0 _ rfl, k 1 _ rfl, k 2 _ rfl, k 3 _ rfl, k 4 _ rfl, k 5 _ rfl, k 6 _ rfl, k 7 _ rfl, k 8 _ rfl, k 9 _ rfl⟩
theorem rows_of_owns {w : World} {B C : Nat} {e f : TypeId} {o : Value} {U : List Value} {L : List (List Int)} (hO : w.ownsRow B e 1 o L.length U) (hR : OwnRows C f w U L) (hL : ∀ l ∈ L, ∀ z ∈ l, I64 z) (hn : L.length ≤ 100) : RowR 1 intsR w o L := by
  obtain ⟨_, h⟩ := hO
  rcases h with ⟨rfl, h0⟩ | ⟨g, cap, cur, rfl, hb, hg, h1, h2, h3, h4⟩
  · exact Or.inl ⟨none, 0, rfl, List.length_eq_zero_iff.1 h0, fun _ => rfl⟩
  · by_cases h0 : L.length = 0
    · exact Or.inl ⟨_, cap, by rw [h0], List.length_eq_zero_iff.1 h0, fun h => by cases h⟩
    · have hlt : g < w.heap.size := by
        by_cases hgl : g < w.heap.size
        · exact hgl
        · rw [Array.getElem?_eq_none (Nat.le_of_not_lt hgl)] at hg; cases hg
      refine Or.inr ⟨g, 0, cap, rfl, by omega, h1, h2, hlt, fun i l hl => ?_⟩
      have hi : i < L.length := by
        by_cases hi : i < L.length
        · exact hi
        · rw [List.getElem?_eq_none (by omega)] at hl; cases hl
      have hu : U[i]? = some (U[i]'(by rw [hR.len]; exact hi)) := by simp [hR.len, hi]
      refine ⟨[U[i]'(by rw [hR.len]; exact hi)], rfl, fun j u hj => ?_, _, rfl, row_of_owns (hR.row i _ l hu hl) (hL l (List.mem_of_getElem? hl))⟩
      have hj0 : j = 0 := by
        by_cases hj0 : j = 0
        · exact hj0
        · rw [List.getElem?_eq_none (by simp; omega)] at hj; cases hj
      subst hj0
      have hju : U[i]'(by rw [hR.len]; exact hi) = u := by simpa using hj
      rw [hju] at hu
      rw [← h4, List.getElem?_take, if_pos (by omega)] at hu
      unfold World.cell?
      rw [hg]
      simpa using hu
set_option maxHeartbeats 4000000 in
theorem ref23_CloneO (v b : Value) (s : St) (w : World) (h : StAt w v b s) (hsh : shortS s = true) : Calls Try.prog 15 #[.agg #[v, b, .int .i64 s.now, .int .i64 s.fault]] w fun e w' => ∃ (v' b' : Value) (U : List Value) (B C D : Nat), e = .returned (.agg #[v', b', .int .i64 s.now, .int .i64 s.fault]) ∧ (w.heap.size ≤ B ∧ w.heap.size ≤ C ∧ w.heap.size ≤ D ∧ w'.ownsRow B 45 1 v' s.vars.length U ∧ OwnRows C 3 w' U s.vars ∧ w'.ownsRow D 62 10 b' s.blocks.length (bV s.blocks)) ∧ StAt w' v' b' s ∧ Below w.heap.size w w' := by
  obtain ⟨s1, s2, s3⟩ : s.vars.length ≤ 100 ∧ s.blocks.length ≤ 100 ∧ ∀ l ∈ s.vars, l.length ≤ 100 := of_decide_eq_true hsh
  obtain ⟨i, hi, hz, hsize, hby⟩ : ∃ i, Try.prog.info? 3 = some i ∧ i.zero = some (.int .i64 0) ∧ i.size = 1 ∧ i.bytes = 8 := ⟨(Try.prog.info? 3).get!, by kernel_rfl, by kernel_rfl, by kernel_rfl, by kernel_rfl⟩
  obtain ⟨j, hj, hjz, hjsize, hjby⟩ : ∃ i, Try.prog.info? 45 = some i ∧ i.zero = some (.slice none 0 0) ∧ i.size = 1 ∧ i.bytes = 24 := ⟨(Try.prog.info? 45).get!, by kernel_rfl, by kernel_rfl, by kernel_rfl, by kernel_rfl⟩
  obtain ⟨ii, hii, hiz, hisize, hiby⟩ : ∃ i, Try.prog.info? 62 = some i ∧ i.zero = some (.agg #[.int .i64 0, .int .i64 0, .int .i64 0, .int .i64 0, .int .i64 0, .int .i64 0, .int .i64 0, .int .i64 0, .int .i64 0, .int .i64 0]) ∧ i.size = 10 ∧ i.bytes = 80 := ⟨(Try.prog.info? 62).get!, by kernel_rfl, by kernel_rfl, by kernel_rfl, by kernel_rfl⟩
  have hv := h.vs
  have hbs := h.bs
  obtain ⟨sa, ca, rfl⟩ := row_get h.vs
  obtain ⟨sb, cb, rfl⟩ := row_get h.bs
  generalize hL : s.vars = L at *
  generalize hN : L.length = N at *
  generalize hNB : s.blocks.length = NB at *
  have HL := Lib.hid hL
  have HN := Lib.hid hN
  have HNB := Lib.hid hNB
  have mc := @more_cell
  have mf := @more_frozen
  have ms := @more_set
  have md := more_drewN
  have md1 := more_drew
  have mm := more_more
  have ma := more_alloc
  go_enter Try.func15, Try.ntmps15
  go_wp2_with fail
  go_loopw [4] (fun jj wr => ∃ (k : Nat) (o : Value) (U : List Value) (l : Array Obj) (d : Nat), k ≤ N ∧ jj = .int .i64 k ∧ Hid (wr.ownsRow (w.heap.size + 1 + 1 + 1) 45 1 o k U) ∧ Hid (OwnRows (w.heap.size + 1 + 1 + 1) 3 wr U (L.take k)) ∧ wr = wmore (((w.alloc (.cells #[.slice sa N ca, .slice sb NB cb, .int .i64 s.now, .int .i64 s.fault] 31)).alloc (.cells #[.slice none 0 0, .slice none 0 0, .int .i64 0, .int .i64 0] 31)).alloc (.cells #[o, .slice none 0 0, .int .i64 s.now, .int .i64 s.fault] 31)) l d) (fun jj _ => N - (intOf jj).toNat)
  case atStart => exact ⟨0, .slice none 0 0, [], #[], _, by omega, rfl, Lib.hid (World.ownsRow_nil _ _ _ _), Lib.hid (OwnRows.nil _ _ _), more_start _⟩
  case round =>
    obtain ⟨k, o, U, l, d, hk, rfl, hO, hR, rfl⟩ := hrel
    have hB : ∀ l' d', Below w.heap.size w (wmore (((w.alloc (.cells #[.slice sa N ca, .slice sb NB cb, .int .i64 s.now, .int .i64 s.fault] 31)).alloc (.cells #[.slice none 0 0, .slice none 0 0, .int .i64 0, .int .i64 0] 31)).alloc (.cells #[o, .slice none 0 0, .int .i64 s.now, .int .i64 s.fault] 31)) l' d') := fun l' d' => by (repeat' (first | (with_reducible exact Below.refl _ _) | (with_reducible assumption) | (with_reducible refine more_below ?_ ?_ _ _) | (with_reducible refine below_drewN ?_ _) | (with_reducible refine Below.alloc ?_ ?_ _) | (with_reducible refine Below.drew ?_) | (with_reducible refine Below.setCell ?_ ?_ _) | (simp only [World.size_alloc, World.size_setCell, World.size_drew, more_size, World.heap_drewN]; omega) | go_size))
    by_cases hlt : k < N
    · obtain ⟨b, off, rfl, hbw, hc⟩ := rows_at hv (k := k) (by omega)
      obtain ⟨lr, hx⟩ : ∃ lr, L[k]? = some lr := ⟨L[k]'(by omega), by simp [hN, hlt]⟩
      obtain ⟨u, c0, hu⟩ := hc k lr hx
      have hlr : lr.length ≤ 100 := s3 lr (by exact List.mem_of_getElem? hx)
      have hts := Lib.hid (take_snoc hx)
      have hsrc := src_ints hu
      obtain ⟨su, cu, rfl⟩ := row_get hu
      obtain ⟨m, hm⟩ : ∃ m, lr.length = m := ⟨_, rfl⟩
      have Hm := Lib.hid hm
      rw [hm] at hsrc hlr c0
      have Hc0 := Lib.hid (fun l' d' => ((hB l' d').cell (p := ⟨b, off + k, none⟩) hbw).trans c0)
      have Hsrc := Lib.hid (fun l' d' => hsrc.below (hB l' d'))
      obtain ⟨ao, co, rfl⟩ := owns_form hO.out
      clear hc hx hu hsrc hm c0
      go_wp2_with fail
      refine wp_region_till (S := (fun (L : Array Bool) (w' : World) => L.getD 12 true = false → ((fun w' => ∃ (l' : Array Obj) (d' : Nat), w' = wmore (((w.alloc (.cells #[.slice (some ⟨b, off, none⟩) N ca, .slice sb NB cb, .int .i64 s.now, .int .i64 s.fault] 31)).alloc (.cells #[.slice none 0 0, .slice none 0 0, .int .i64 0, .int .i64 0] 31)).alloc (.cells #[.slice ao k co, .slice none 0 0, .int .i64 s.now, .int .i64 s.fault] 31)) l' d') w'))) (by kernel_rfl) ?_ (fun hHeld => ?_)
      · (try dsimp only); exact (fun _ => ⟨_, _, by first | rfl | exact more_drew _ _ _⟩)
      refine till_take 12 (fun w' => ∃ (l' : Array Obj) (d' : Nat), w' = wmore (((w.alloc (.cells #[.slice (some ⟨b, off, none⟩) N ca, .slice sb NB cb, .int .i64 s.now, .int .i64 s.fault] 31)).alloc (.cells #[.slice none 0 0, .slice none 0 0, .int .i64 0, .int .i64 0] 31)).alloc (.cells #[.slice ao k co, .slice none 0 0, .int .i64 s.now, .int .i64 s.fault] 31)) l' d') (i := 0) (oi := { dst := some 18, op := Op.fieldAddr 31 (Operand.tmp 3) 0, type := 0, pos := _, after := #[], guard := none }) (u := ?_) rfl (by kernel_rfl) (by kernel_rfl) (by kernel_rfl) (by kernel_rfl) (by kernel_rfl) (by decide) (fun L v hL h => h hL) (fun L v => by simp only [getD_set_ne true (show 0 ≠ 12 by decide)]) (fun _ _ _ h => h) (Or.inl ⟨by rfl, ?_⟩) hHeld ?_
      rotate_left
      · intro wt hSw; (try dsimp only at hSw); obtain ⟨lt, dt, rfl⟩ := hSw; first | (go_simp; done) | (go_simp; with_reducible rfl) | (trace_state; fail)
      clear hHeld; intro hHeld
      try simp only [Act.put, List.setIfInBounds_toArray, List.set_cons_zero, List.set_cons_succ]
      refine till_take 12 (fun w' => ∃ (l' : Array Obj) (d' : Nat), w' = wmore (((w.alloc (.cells #[.slice (some ⟨b, off, none⟩) N ca, .slice sb NB cb, .int .i64 s.now, .int .i64 s.fault] 31)).alloc (.cells #[.slice none 0 0, .slice none 0 0, .int .i64 0, .int .i64 0] 31)).alloc (.cells #[.slice ao k co, .slice none 0 0, .int .i64 s.now, .int .i64 s.fault] 31)) l' d') (i := 1) (oi := { dst := some 19, op := Op.load 28 (Operand.tmp 18), type := 28, pos := _, after := #[{ on := 0, ground := Ground.data }], guard := none }) (u := ?_) rfl (by kernel_rfl) (by kernel_rfl) (by kernel_rfl) (by kernel_rfl) (by kernel_rfl) (by decide) (fun L v hL h => h hL) (fun L v => by simp only [getD_set_ne true (show 1 ≠ 12 by decide)]) (fun _ _ _ h => h) (Or.inl ⟨by rfl, ?_⟩) hHeld ?_
      rotate_left
      · intro wt hSw; (try dsimp only at hSw); obtain ⟨lt, dt, rfl⟩ := hSw; first | (go_simp; done) | (go_simp; with_reducible rfl) | (trace_state; fail)
      clear hHeld; intro hHeld
      try simp only [Act.put, List.setIfInBounds_toArray, List.set_cons_zero, List.set_cons_succ]
      refine till_take 12 (fun w' => ∃ (l' : Array Obj) (d' : Nat), w' = wmore (((w.alloc (.cells #[.slice (some ⟨b, off, none⟩) N ca, .slice sb NB cb, .int .i64 s.now, .int .i64 s.fault] 31)).alloc (.cells #[.slice none 0 0, .slice none 0 0, .int .i64 0, .int .i64 0] 31)).alloc (.cells #[.slice ao k co, .slice none 0 0, .int .i64 s.now, .int .i64 s.fault] 31)) l' d') (i := 3) (oi := { dst := some 21, op := Op.fieldAddr 31 (Operand.tmp 1) 0, type := 0, pos := _, after := #[], guard := none }) (u := ?_) rfl (by kernel_rfl) (by kernel_rfl) (by kernel_rfl) (by kernel_rfl) (by kernel_rfl) (by decide) (fun L v hL h => h hL) (fun L v => by simp only [getD_set_ne true (show 3 ≠ 12 by decide)]) (fun _ _ _ h => h) (Or.inl ⟨by rfl, ?_⟩) hHeld ?_
      rotate_left
      · intro wt hSw; (try dsimp only at hSw); obtain ⟨lt, dt, rfl⟩ := hSw; first | (go_simp; done) | (go_simp; with_reducible rfl) | (trace_state; fail)
      clear hHeld; intro hHeld
      try simp only [Act.put, List.setIfInBounds_toArray, List.set_cons_zero, List.set_cons_succ]
      refine till_take 12 (fun w' => ∃ (l' : Array Obj) (d' : Nat), w' = wmore (((w.alloc (.cells #[.slice (some ⟨b, off, none⟩) N ca, .slice sb NB cb, .int .i64 s.now, .int .i64 s.fault] 31)).alloc (.cells #[.slice none 0 0, .slice none 0 0, .int .i64 0, .int .i64 0] 31)).alloc (.cells #[.slice ao k co, .slice none 0 0, .int .i64 s.now, .int .i64 s.fault] 31)) l' d') (i := 4) (oi := { dst := some 22, op := Op.load 28 (Operand.tmp 21), type := 28, pos := _, after := #[{ on := 3, ground := Ground.data }], guard := none }) (u := ?_) rfl (by kernel_rfl) (by kernel_rfl) (by kernel_rfl) (by kernel_rfl) (by kernel_rfl) (by decide) (fun L v hL h => h hL) (fun L v => by simp only [getD_set_ne true (show 4 ≠ 12 by decide)]) (fun _ _ _ h => h) (Or.inl ⟨by rfl, ?_⟩) hHeld ?_
      rotate_left
      · intro wt hSw; (try dsimp only at hSw); obtain ⟨lt, dt, rfl⟩ := hSw; first | (go_simp; done) | (go_simp; with_reducible rfl) | (trace_state; fail)
      clear hHeld; intro hHeld
      try simp only [Act.put, List.setIfInBounds_toArray, List.set_cons_zero, List.set_cons_succ]
      refine till_take 12 (fun w' => ∃ (l' : Array Obj) (d' : Nat), w' = wmore (((w.alloc (.cells #[.slice (some ⟨b, off, none⟩) N ca, .slice sb NB cb, .int .i64 s.now, .int .i64 s.fault] 31)).alloc (.cells #[.slice none 0 0, .slice none 0 0, .int .i64 0, .int .i64 0] 31)).alloc (.cells #[.slice ao k co, .slice none 0 0, .int .i64 s.now, .int .i64 s.fault] 31)) l' d') (i := 5) (oi := { dst := some 23, op := Op.move (Operand.tmp 4), type := 3, pos := _, after := #[], guard := none }) (u := ?_) rfl (by kernel_rfl) (by kernel_rfl) (by kernel_rfl) (by kernel_rfl) (by kernel_rfl) (by decide) (fun L v hL h => h hL) (fun L v => by simp only [getD_set_ne true (show 5 ≠ 12 by decide)]) (fun _ _ _ h => h) (Or.inl ⟨by rfl, ?_⟩) hHeld ?_
      rotate_left
      · intro wt hSw; (try dsimp only at hSw); obtain ⟨lt, dt, rfl⟩ := hSw; first | (go_simp; done) | (go_simp; with_reducible rfl) | (trace_state; fail)
      clear hHeld; intro hHeld
      try simp only [Act.put, List.setIfInBounds_toArray, List.set_cons_zero, List.set_cons_succ]
      refine till_take 12 (fun w' => ∃ (l' : Array Obj) (d' : Nat), w' = wmore (((w.alloc (.cells #[.slice (some ⟨b, off, none⟩) N ca, .slice sb NB cb, .int .i64 s.now, .int .i64 s.fault] 31)).alloc (.cells #[.slice none 0 0, .slice none 0 0, .int .i64 0, .int .i64 0] 31)).alloc (.cells #[.slice ao k co, .slice none 0 0, .int .i64 s.now, .int .i64 s.fault] 31)) l' d') (i := 6) (oi := { dst := some 24, op := Op.indexAddr 28 (Operand.tmp 22) (Operand.tmp 23), type := 0, pos := _, after := #[{ on := 4, ground := Ground.data }, { on := 5, ground := Ground.data }], guard := none }) (u := ?_) rfl (by kernel_rfl) (by kernel_rfl) (by kernel_rfl) (by kernel_rfl) (by kernel_rfl) (by decide) (fun L v hL h => h hL) (fun L v => by simp only [getD_set_ne true (show 6 ≠ 12 by decide)]) (fun _ _ _ h => h) (Or.inl ⟨by rfl, ?_⟩) hHeld ?_
      rotate_left
      · intro wt hSw; (try dsimp only at hSw); obtain ⟨lt, dt, rfl⟩ := hSw; first | (go_simp; done) | (go_simp; with_reducible rfl) | (trace_state; fail)
      clear hHeld; intro hHeld
      try simp only [Act.put, List.setIfInBounds_toArray, List.set_cons_zero, List.set_cons_succ]
      refine till_take 12 (fun w' => ∃ (l' : Array Obj) (d' : Nat), w' = wmore (((w.alloc (.cells #[.slice (some ⟨b, off, none⟩) N ca, .slice sb NB cb, .int .i64 s.now, .int .i64 s.fault] 31)).alloc (.cells #[.slice none 0 0, .slice none 0 0, .int .i64 0, .int .i64 0] 31)).alloc (.cells #[.slice ao k co, .slice none 0 0, .int .i64 s.now, .int .i64 s.fault] 31)) l' d') (i := 7) (oi := { dst := some 25, op := Op.load 45 (Operand.tmp 24), type := 45, pos := _, after := #[{ on := 6, ground := Ground.data }], guard := none }) (u := ?_) rfl (by kernel_rfl) (by kernel_rfl) (by kernel_rfl) (by kernel_rfl) (by kernel_rfl) (by decide) (fun L v hL h => h hL) (fun L v => by simp only [getD_set_ne true (show 7 ≠ 12 by decide)]) (fun _ _ _ h => h) (Or.inl ⟨by rfl, ?_⟩) hHeld ?_
      rotate_left
      · intro wt hSw; (try dsimp only at hSw); obtain ⟨lt, dt, rfl⟩ := hSw; have c1 := Hc0.out lt dt; first | (go_simp; done) | (go_simp; with_reducible rfl) | (trace_state; fail)
      clear hHeld; intro hHeld
      try simp only [Act.put, List.setIfInBounds_toArray, List.set_cons_zero, List.set_cons_succ]
      refine till_one (i := 2) (o := { dst := some 20, op := Op.buildSlice 45 0 #[], type := 45, pos := _, after := #[], guard := none }) (by kernel_rfl) rfl (fun K hK => ?_)
      go_simp
      refine hK.out _ _ ?_ (fun hHeld => ?_)
      · (try dsimp only); exact (fun _ => ⟨_, _, by first | rfl | exact more_drew _ _ _⟩)
      clear hK K
      have HE : Hid ((wmore (((w.alloc (.cells #[.slice (some ⟨b, off, none⟩) N ca, .slice sb NB cb, .int .i64 s.now, .int .i64 s.fault] 31)).alloc (.cells #[.slice none 0 0, .slice none 0 0, .int .i64 0, .int .i64 0] 31)).alloc (.cells #[.slice ao k co, .slice none 0 0, .int .i64 s.now, .int .i64 s.fault] 31)) (l.push (.cells #[] 3)) (d + 1)).ownsRow (wmore (((w.alloc (.cells #[.slice (some ⟨b, off, none⟩) N ca, .slice sb NB cb, .int .i64 s.now, .int .i64 s.fault] 31)).alloc (.cells #[.slice none 0 0, .slice none 0 0, .int .i64 0, .int .i64 0] 31)).alloc (.cells #[.slice ao k co, .slice none 0 0, .int .i64 s.now, .int .i64 s.fault] 31)) l (d + 1)).heap.size 3 1 (.slice (some ⟨(wmore (((w.alloc (.cells #[.slice (some ⟨b, off, none⟩) N ca, .slice sb NB cb, .int .i64 s.now, .int .i64 s.fault] 31)).alloc (.cells #[.slice none 0 0, .slice none 0 0, .int .i64 0, .int .i64 0] 31)).alloc (.cells #[.slice ao k co, .slice none 0 0, .int .i64 s.now, .int .i64 s.fault] 31)) l (d + 1)).heap.size, 0, none⟩) 0 0) 0 []) := Lib.hid (by rw [← more_alloc]; exact World.ownsRow_lit _ #[] 0 (Nat.le_refl _) (by unfold maxLen; omega) rfl)
      have HEz := Lib.hid (show (wmore (((w.alloc (.cells #[.slice (some ⟨b, off, none⟩) N ca, .slice sb NB cb, .int .i64 s.now, .int .i64 s.fault] 31)).alloc (.cells #[.slice none 0 0, .slice none 0 0, .int .i64 0, .int .i64 0] 31)).alloc (.cells #[.slice ao k co, .slice none 0 0, .int .i64 s.now, .int .i64 s.fault] 31)) l (d + 1)).heap.size ≤ (wmore (((w.alloc (.cells #[.slice (some ⟨b, off, none⟩) N ca, .slice sb NB cb, .int .i64 s.now, .int .i64 s.fault] 31)).alloc (.cells #[.slice none 0 0, .slice none 0 0, .int .i64 0, .int .i64 0] 31)).alloc (.cells #[.slice ao k co, .slice none 0 0, .int .i64 s.now, .int .i64 s.fault] 31)) (l.push (.cells #[] 3)) (d + 1)).heap.size by simp [more_size])
      have HEb := Lib.hid (show Below (wmore (((w.alloc (.cells #[.slice (some ⟨b, off, none⟩) N ca, .slice sb NB cb, .int .i64 s.now, .int .i64 s.fault] 31)).alloc (.cells #[.slice none 0 0, .slice none 0 0, .int .i64 0, .int .i64 0] 31)).alloc (.cells #[.slice ao k co, .slice none 0 0, .int .i64 s.now, .int .i64 s.fault] 31)) l (d + 1)).heap.size (wmore (((w.alloc (.cells #[.slice (some ⟨b, off, none⟩) N ca, .slice sb NB cb, .int .i64 s.now, .int .i64 s.fault] 31)).alloc (.cells #[.slice none 0 0, .slice none 0 0, .int .i64 0, .int .i64 0] 31)).alloc (.cells #[.slice ao k co, .slice none 0 0, .int .i64 s.now, .int .i64 s.fault] 31)) l (d + 1)) (wmore (((w.alloc (.cells #[.slice (some ⟨b, off, none⟩) N ca, .slice sb NB cb, .int .i64 s.now, .int .i64 s.fault] 31)).alloc (.cells #[.slice none 0 0, .slice none 0 0, .int .i64 0, .int .i64 0] 31)).alloc (.cells #[.slice ao k co, .slice none 0 0, .int .i64 s.now, .int .i64 s.fault] 31)) (l.push (.cells #[] 3)) (d + 1)) by rw [← more_alloc]; exact (Below.refl _ _).alloc (Nat.le_refl _) _)
      try simp only [Act.put, List.setIfInBounds_toArray, List.set_cons_zero, List.set_cons_succ]
      refine till_one (i := 8) (o := { dst := some 26, op := Op.call { callee := Callee.builtin Builtin.append, args := #[Operand.tmp 20, Operand.tmp 25], argTypes := #[45, 45] }, type := 45, pos := _, after := #[{ on := 2, ground := Ground.data }, { on := 7, ground := Ground.data }], guard := none }) (by kernel_rfl) rfl (fun K hK => ?_)
      rw [if_pos (by kernel_rfl)]
      refine wp_append_src _ (.tmp 25) 45 rfl _ 3 i (.int .i64 0) 1 8 Try.underlying45 hi hz hsize hby rfl (by omega) _ 0 [] rfl HE.out _ m (iV lr) rfl (Hsrc.out _ _) (by rw [iV_len, Hm.out]; omega) (iV_one lr) (by unfold maxLen; omega) (by omega) HEz.out ?_; intro v2 w2 hO2 hG2; simp only [Nat.zero_add, List.nil_append] at hO2; have hbr := below_grown (Below.trans (more_grow (((w.alloc (.cells #[.slice (some ⟨b, off, none⟩) N ca, .slice sb NB cb, .int .i64 s.now, .int .i64 s.fault] 31)).alloc (.cells #[.slice none 0 0, .slice none 0 0, .int .i64 0, .int .i64 0] 31)).alloc (.cells #[.slice ao k co, .slice none 0 0, .int .i64 s.now, .int .i64 s.fault] 31)) l #[] d (d + 1)) (by rw [Array.append_empty]; exact HEb.out)) (Nat.le_refl _) (by simp [more_size]) hG2; have hOu := Lib.hid (owns_below hO.out hbr); have hRu := Lib.hid (OwnRows.snoc hR.out hbr (by simp [more_size]) (own_eq2 hO2 Hm.out.symm rfl)); obtain ⟨av, cv, rfl⟩ := owns_form hO2; obtain ⟨l2, d2, rfl⟩ := more_of (Below.trans (more_below (Below.refl _ _) (Nat.le_refl _) l d) (hbr.mono (by simp [more_size]))); clear hO2 hG2 hbr
      refine hK.out _ _ ?_ (fun hHeld => ?_)
      · (try dsimp only); exact (fun _ => ⟨_, _, by first | rfl | exact more_drew _ _ _⟩)
      clear hK K
      try simp only [Act.put, List.setIfInBounds_toArray, List.set_cons_zero, List.set_cons_succ]
      refine till_one (i := 9) (o := { dst := some 27, op := Op.buildSlice 28 1 #[(0, Operand.tmp 26)], type := 28, pos := _, after := #[{ on := 8, ground := Ground.data }], guard := none }) (by kernel_rfl) rfl (fun K hK => ?_)
      go_simp
      refine hK.out _ _ ?_ (fun hHeld => ?_)
      · (try dsimp only); exact (fun _ => ⟨_, _, by first | rfl | exact more_drew _ _ _⟩)
      clear hK K
      have hal := more_alloc (((w.alloc (.cells #[.slice (some ⟨b, off, none⟩) N ca, .slice sb NB cb, .int .i64 s.now, .int .i64 s.fault] 31)).alloc (.cells #[.slice none 0 0, .slice none 0 0, .int .i64 0, .int .i64 0] 31)).alloc (.cells #[.slice ao k co, .slice none 0 0, .int .i64 s.now, .int .i64 s.fault] 31)) l2 d2 (.cells #[.slice av m cv] 45)
      have Hou2 := Lib.hid (hal ▸ hOu.out.alloc _)
      have hRu2 := Lib.hid (hal ▸ hRu.out.below ((Below.refl _ _).alloc (Nat.le_refl _) (.cells #[.slice av m cv] 45)))
      have Hsrc2 : Hid (Src (wmore (((w.alloc (.cells #[.slice (some ⟨b, off, none⟩) N ca, .slice sb NB cb, .int .i64 s.now, .int .i64 s.fault] 31)).alloc (.cells #[.slice none 0 0, .slice none 0 0, .int .i64 0, .int .i64 0] 31)).alloc (.cells #[.slice ao k co, .slice none 0 0, .int .i64 s.now, .int .i64 s.fault] 31)) (l2.push (.cells #[.slice av m cv] 45)) d2) (.slice (some ⟨(wmore (((w.alloc (.cells #[.slice (some ⟨b, off, none⟩) N ca, .slice sb NB cb, .int .i64 s.now, .int .i64 s.fault] 31)).alloc (.cells #[.slice none 0 0, .slice none 0 0, .int .i64 0, .int .i64 0] 31)).alloc (.cells #[.slice ao k co, .slice none 0 0, .int .i64 s.now, .int .i64 s.fault] 31)) l2 d2).heap.size, 0, none⟩) 1 1) 1 [.slice av m cv]) := Lib.hid (Or.inr ⟨_, _, rfl, fun q u hu => by rw [add_at, ← more_alloc, cell_at rfl]; simpa using hu⟩)
      have Hz2 := Lib.hid (show w.heap.size + 1 + 1 + 1 ≤ (wmore (((w.alloc (.cells #[.slice (some ⟨b, off, none⟩) N ca, .slice sb NB cb, .int .i64 s.now, .int .i64 s.fault] 31)).alloc (.cells #[.slice none 0 0, .slice none 0 0, .int .i64 0, .int .i64 0] 31)).alloc (.cells #[.slice ao k co, .slice none 0 0, .int .i64 s.now, .int .i64 s.fault] 31)) (l2.push (.cells #[.slice av m cv] 45)) d2).heap.size by simp [more_size] <;> omega)
      have HbA2 := Lib.hid (show Below (w.heap.size + 1 + 1 + 1) (((w.alloc (.cells #[.slice (some ⟨b, off, none⟩) N ca, .slice sb NB cb, .int .i64 s.now, .int .i64 s.fault] 31)).alloc (.cells #[.slice none 0 0, .slice none 0 0, .int .i64 0, .int .i64 0] 31)).alloc (.cells #[.slice ao k co, .slice none 0 0, .int .i64 s.now, .int .i64 s.fault] 31)) (wmore (((w.alloc (.cells #[.slice (some ⟨b, off, none⟩) N ca, .slice sb NB cb, .int .i64 s.now, .int .i64 s.fault] 31)).alloc (.cells #[.slice none 0 0, .slice none 0 0, .int .i64 0, .int .i64 0] 31)).alloc (.cells #[.slice ao k co, .slice none 0 0, .int .i64 s.now, .int .i64 s.fault] 31)) (l2.push (.cells #[.slice av m cv] 45)) d2) by have := more_below (Below.refl (((w.alloc (.cells #[.slice (some ⟨b, off, none⟩) N ca, .slice sb NB cb, .int .i64 s.now, .int .i64 s.fault] 31)).alloc (.cells #[.slice none 0 0, .slice none 0 0, .int .i64 0, .int .i64 0] 31)).alloc (.cells #[.slice ao k co, .slice none 0 0, .int .i64 s.now, .int .i64 s.fault] 31)).heap.size (((w.alloc (.cells #[.slice (some ⟨b, off, none⟩) N ca, .slice sb NB cb, .int .i64 s.now, .int .i64 s.fault] 31)).alloc (.cells #[.slice none 0 0, .slice none 0 0, .int .i64 0, .int .i64 0] 31)).alloc (.cells #[.slice ao k co, .slice none 0 0, .int .i64 s.now, .int .i64 s.fault] 31))) (Nat.le_refl _) (l2.push (.cells #[.slice av m cv] 45)) d2; simpa using this)
      try simp only [Act.put, List.setIfInBounds_toArray, List.set_cons_zero, List.set_cons_succ]
      refine till_one (i := 10) (o := { dst := some 28, op := Op.call { callee := Callee.builtin Builtin.append, args := #[Operand.tmp 19, Operand.tmp 27], argTypes := #[28, 28] }, type := 28, pos := _, after := #[{ on := 1, ground := Ground.data }, { on := 9, ground := Ground.data }, { on := 8, ground := Ground.chain }], guard := none }) (by kernel_rfl) rfl (fun K hK => ?_)
      rw [if_pos (by kernel_rfl)]
      refine wp_append_src (.tmp 19) (.tmp 27) 28 rfl _ 45 j (.slice none 0 0) 1 24 Try.underlying28 hj hjz hjsize hjby rfl (by omega) _ k U rfl Hou2.out _ 1 [.slice av m cv] rfl Hsrc2.out rfl (by intro u hu; rw [List.mem_singleton.1 hu]; rfl) (by unfold maxLen; omega) (by omega) Hz2.out ?_; intro v3 w3 hO3 hG3; have hRw := Lib.hid (hRu2.out.grown Hou2.out (by decide) hG3); have hbA := below_grownV HbA2.out Hz2.out Hou2.out hG3; obtain ⟨l3, d3, rfl⟩ := more_of (show Below (((w.alloc (.cells #[.slice (some ⟨b, off, none⟩) N ca, .slice sb NB cb, .int .i64 s.now, .int .i64 s.fault] 31)).alloc (.cells #[.slice none 0 0, .slice none 0 0, .int .i64 0, .int .i64 0] 31)).alloc (.cells #[.slice ao k co, .slice none 0 0, .int .i64 s.now, .int .i64 s.fault] 31)).heap.size (((w.alloc (.cells #[.slice (some ⟨b, off, none⟩) N ca, .slice sb NB cb, .int .i64 s.now, .int .i64 s.fault] 31)).alloc (.cells #[.slice none 0 0, .slice none 0 0, .int .i64 0, .int .i64 0] 31)).alloc (.cells #[.slice ao k co, .slice none 0 0, .int .i64 s.now, .int .i64 s.fault] 31)) w3 from by simpa using hbA); obtain ⟨a3, c3, rfl⟩ := owns_form hO3; have HO3 := Lib.hid hO3; clear hO3 hG3 hbA
      refine hK.out _ _ ?_ (fun hHeld => ?_)
      · (try dsimp only); exact (fun _ => ⟨_, _, by first | rfl | exact more_drew _ _ _⟩)
      clear hK K
      try simp only [Act.put, List.setIfInBounds_toArray, List.set_cons_zero, List.set_cons_succ]
      refine till_take 12 (fun w' => ∃ (l' : Array Obj) (d' : Nat), w' = wmore (((w.alloc (.cells #[.slice (some ⟨b, off, none⟩) N ca, .slice sb NB cb, .int .i64 s.now, .int .i64 s.fault] 31)).alloc (.cells #[.slice none 0 0, .slice none 0 0, .int .i64 0, .int .i64 0] 31)).alloc (.cells #[.slice ao k co, .slice none 0 0, .int .i64 s.now, .int .i64 s.fault] 31)) l' d') (i := 11) (oi := { dst := some 29, op := Op.fieldAddr 31 (Operand.tmp 3) 0, type := 0, pos := _, after := #[{ on := 0, ground := Ground.phase }, { on := 1, ground := Ground.phase }, { on := 2, ground := Ground.phase }, { on := 3, ground := Ground.phase }, { on := 4, ground := Ground.phase }, { on := 5, ground := Ground.phase }, { on := 6, ground := Ground.phase }, { on := 7, ground := Ground.phase }, { on := 8, ground := Ground.phase }, { on := 9, ground := Ground.phase }, { on := 10, ground := Ground.phase }], guard := none }) (u := ?_) rfl (by kernel_rfl) (by kernel_rfl) (by kernel_rfl) (by kernel_rfl) (by kernel_rfl) (by decide) (fun L v hL h => h hL) (fun L v => by simp only [getD_set_ne true (show 11 ≠ 12 by decide)]) (fun _ _ _ h => h) (Or.inl ⟨by rfl, ?_⟩) hHeld ?_
      rotate_left
      · intro wt hSw; (try dsimp only at hSw); obtain ⟨lt, dt, rfl⟩ := hSw; first | (go_simp; done) | (go_simp; with_reducible rfl) | (trace_state; fail)
      clear hHeld; intro hHeld
      try simp only [Act.put, List.setIfInBounds_toArray, List.set_cons_zero, List.set_cons_succ]
      refine till_one (i := 12) (o := { dst := none, op := Op.store 28 (Operand.tmp 29) (Operand.tmp 28), type := 0, pos := _, after := #[{ on := 11, ground := Ground.data }, { on := 10, ground := Ground.data }, { on := 10, ground := Ground.chain }, { on := 0, ground := Ground.phase }, { on := 1, ground := Ground.phase }, { on := 2, ground := Ground.phase }, { on := 3, ground := Ground.phase }, { on := 4, ground := Ground.phase }, { on := 5, ground := Ground.phase }, { on := 6, ground := Ground.phase }, { on := 7, ground := Ground.phase }, { on := 8, ground := Ground.phase }, { on := 9, ground := Ground.phase }, { on := 10, ground := Ground.phase }], guard := none }) (by kernel_rfl) rfl (fun K hK => ?_)
      go_simp
      refine hK.out _ _ ?_ (fun hHeld => ?_)
      · (try dsimp only); exact (fun h => absurd h (by decide))
      clear hK K
      try simp only [Act.put, List.setIfInBounds_toArray, List.set_cons_zero, List.set_cons_succ]
      refine till_done (by kernel_rfl) ?_ _
      go_wp2_with fail
      go_roundw
      case rel => exact ⟨k + 1, _, _, l3, d3, by omega, by simp, Lib.hid (owns_congr HO3.out (more_congr (by simp) (by simp))), Lib.hid (by rw [hts.out]; exact hRw.out.congr (more_congr (by simp) (by simp))), rfl⟩
      case measure => first | (simp [intOf]; done) | (simp [intOf]; omega)
    · obtain rfl : k = N := by omega
      obtain ⟨ao, co, rfl⟩ := owns_form hO.out
      have hts := hR.out
      rw [List.take_of_length_le (by omega)] at hts
      have hR := Lib.hid hts
      clear hts hB
      have hint := row_ints_all hv
      go_wp2_with fail
      go_loopw [5] (fun jj wr => ∃ (q : Nat) (p : Value) (l : Array Obj) (d : Nat), q ≤ NB ∧ jj = .int .i64 q ∧ Hid (wr.ownsRow (w.heap.size + 1 + 1 + 1) 62 10 p q (bV (s.blocks.take q))) ∧ Hid (wr.ownsRow (w.heap.size + 1 + 1 + 1) 45 1 (.slice ao k co) k U) ∧ Hid (OwnRows (w.heap.size + 1 + 1 + 1) 3 wr U L) ∧ wr = wmore (((w.alloc (.cells #[.slice sa k ca, .slice sb NB cb, .int .i64 s.now, .int .i64 s.fault] 31)).alloc (.cells #[.slice none 0 0, .slice none 0 0, .int .i64 0, .int .i64 0] 31)).alloc (.cells #[.slice ao k co, p, .int .i64 s.now, .int .i64 s.fault] 31)) l d) (fun jj _ => NB - (intOf jj).toNat)
      case atStart => exact ⟨0, .slice none 0 0, l, d, by omega, rfl, Lib.hid (World.ownsRow_nil _ _ _ _), hO, hR, rfl⟩
      case round =>
        clear hO hR
        obtain ⟨q, p, l, d, hq, rfl, HP, HO, HR, rfl⟩ := hrel
        obtain ⟨ap, cpp, rfl⟩ := owns_form HP.out
        by_cases hlq : q < NB
        · obtain ⟨bb, offb, rfl, hbbw, hcc⟩ := insts_at hbs (k := q) (by omega)
          obtain ⟨x, hx⟩ : ∃ x, s.blocks[q]? = some x := ⟨s.blocks[q]'(by omega), by simp [show q < s.blocks.length by omega]⟩
          obtain ⟨hx10, hcx⟩ := hcc q x hx
          have hts := Lib.hid (take_snoc hx)
          obtain ⟨x0, x1, x2, x3, x4, x5, x6, x7, x8, x9, rfl⟩ := ten hx10
          have Hc := Lib.hid (fun (l' : Array Obj) (d' : Nat) => cells10 hcx (show Below w.heap.size w (wmore (((w.alloc (.cells #[.slice sa k ca, .slice (some ⟨bb, offb, none⟩) NB cb, .int .i64 s.now, .int .i64 s.fault] 31)).alloc (.cells #[.slice none 0 0, .slice none 0 0, .int .i64 0, .int .i64 0] 31)).alloc (.cells #[.slice ao k co, .slice ap q cpp, .int .i64 s.now, .int .i64 s.fault] 31)) l' d') by (repeat' (first | (with_reducible exact Below.refl _ _) | (with_reducible assumption) | (with_reducible refine more_below ?_ ?_ _ _) | (with_reducible refine below_drewN ?_ _) | (with_reducible refine Below.alloc ?_ ?_ _) | (with_reducible refine Below.drew ?_) | (with_reducible refine Below.setCell ?_ ?_ _) | (simp only [World.size_alloc, World.size_setCell, World.size_drew, more_size, World.heap_drewN]; omega) | go_size))) hbbw)
          clear hcc hx hcx hx10
          go_wp2_with fail
          refine wp_region_till (S := (fun (L : Array Bool) (w' : World) => L.getD 10 true = false → ((fun w' => ∃ (l' : Array Obj) (d' : Nat), w' = wmore (((w.alloc (.cells #[.slice sa k ca, .slice (some ⟨bb, offb, none⟩) NB cb, .int .i64 s.now, .int .i64 s.fault] 31)).alloc (.cells #[.slice none 0 0, .slice none 0 0, .int .i64 0, .int .i64 0] 31)).alloc (.cells #[.slice ao k co, .slice ap q cpp, .int .i64 s.now, .int .i64 s.fault] 31)) l' d') w'))) (by kernel_rfl) ?_ (fun hHeld => ?_)
          · (try dsimp only); exact (fun _ => ⟨_, _, by first | rfl | exact more_drew _ _ _⟩)
          refine till_take 10 (fun w' => ∃ (l' : Array Obj) (d' : Nat), w' = wmore (((w.alloc (.cells #[.slice sa k ca, .slice (some ⟨bb, offb, none⟩) NB cb, .int .i64 s.now, .int .i64 s.fault] 31)).alloc (.cells #[.slice none 0 0, .slice none 0 0, .int .i64 0, .int .i64 0] 31)).alloc (.cells #[.slice ao k co, .slice ap q cpp, .int .i64 s.now, .int .i64 s.fault] 31)) l' d') (i := 0) (oi := { dst := some 37, op := Op.fieldAddr 31 (Operand.tmp 3) 1, type := 0, pos := _, after := #[], guard := none }) (u := ?_) rfl (by kernel_rfl) (by kernel_rfl) (by kernel_rfl) (by kernel_rfl) (by kernel_rfl) (by decide) (fun L v hL h => h hL) (fun L v => by simp only [getD_set_ne true (show 0 ≠ 10 by decide)]) (fun _ _ _ h => h) (Or.inl ⟨by rfl, ?_⟩) hHeld ?_
          rotate_left
          · intro wt hSw; (try dsimp only at hSw); obtain ⟨lt, dt, rfl⟩ := hSw; first | (go_simp; done) | (go_simp; with_reducible rfl) | (trace_state; fail)
          clear hHeld; intro hHeld
          try simp only [Act.put, List.setIfInBounds_toArray, List.set_cons_zero, List.set_cons_succ]
          refine till_take 10 (fun w' => ∃ (l' : Array Obj) (d' : Nat), w' = wmore (((w.alloc (.cells #[.slice sa k ca, .slice (some ⟨bb, offb, none⟩) NB cb, .int .i64 s.now, .int .i64 s.fault] 31)).alloc (.cells #[.slice none 0 0, .slice none 0 0, .int .i64 0, .int .i64 0] 31)).alloc (.cells #[.slice ao k co, .slice ap q cpp, .int .i64 s.now, .int .i64 s.fault] 31)) l' d') (i := 1) (oi := { dst := some 38, op := Op.load 29 (Operand.tmp 37), type := 29, pos := _, after := #[{ on := 0, ground := Ground.data }], guard := none }) (u := ?_) rfl (by kernel_rfl) (by kernel_rfl) (by kernel_rfl) (by kernel_rfl) (by kernel_rfl) (by decide) (fun L v hL h => h hL) (fun L v => by simp only [getD_set_ne true (show 1 ≠ 10 by decide)]) (fun _ _ _ h => h) (Or.inl ⟨by rfl, ?_⟩) hHeld ?_
          rotate_left
          · intro wt hSw; (try dsimp only at hSw); obtain ⟨lt, dt, rfl⟩ := hSw; first | (go_simp; done) | (go_simp; with_reducible rfl) | (trace_state; fail)
          clear hHeld; intro hHeld
          try simp only [Act.put, List.setIfInBounds_toArray, List.set_cons_zero, List.set_cons_succ]
          refine till_take 10 (fun w' => ∃ (l' : Array Obj) (d' : Nat), w' = wmore (((w.alloc (.cells #[.slice sa k ca, .slice (some ⟨bb, offb, none⟩) NB cb, .int .i64 s.now, .int .i64 s.fault] 31)).alloc (.cells #[.slice none 0 0, .slice none 0 0, .int .i64 0, .int .i64 0] 31)).alloc (.cells #[.slice ao k co, .slice ap q cpp, .int .i64 s.now, .int .i64 s.fault] 31)) l' d') (i := 2) (oi := { dst := some 39, op := Op.fieldAddr 31 (Operand.tmp 1) 1, type := 0, pos := _, after := #[], guard := none }) (u := ?_) rfl (by kernel_rfl) (by kernel_rfl) (by kernel_rfl) (by kernel_rfl) (by kernel_rfl) (by decide) (fun L v hL h => h hL) (fun L v => by simp only [getD_set_ne true (show 2 ≠ 10 by decide)]) (fun _ _ _ h => h) (Or.inl ⟨by rfl, ?_⟩) hHeld ?_
          rotate_left
          · intro wt hSw; (try dsimp only at hSw); obtain ⟨lt, dt, rfl⟩ := hSw; first | (go_simp; done) | (go_simp; with_reducible rfl) | (trace_state; fail)
          clear hHeld; intro hHeld
          try simp only [Act.put, List.setIfInBounds_toArray, List.set_cons_zero, List.set_cons_succ]
          refine till_take 10 (fun w' => ∃ (l' : Array Obj) (d' : Nat), w' = wmore (((w.alloc (.cells #[.slice sa k ca, .slice (some ⟨bb, offb, none⟩) NB cb, .int .i64 s.now, .int .i64 s.fault] 31)).alloc (.cells #[.slice none 0 0, .slice none 0 0, .int .i64 0, .int .i64 0] 31)).alloc (.cells #[.slice ao k co, .slice ap q cpp, .int .i64 s.now, .int .i64 s.fault] 31)) l' d') (i := 3) (oi := { dst := some 40, op := Op.load 29 (Operand.tmp 39), type := 29, pos := _, after := #[{ on := 2, ground := Ground.data }], guard := none }) (u := ?_) rfl (by kernel_rfl) (by kernel_rfl) (by kernel_rfl) (by kernel_rfl) (by kernel_rfl) (by decide) (fun L v hL h => h hL) (fun L v => by simp only [getD_set_ne true (show 3 ≠ 10 by decide)]) (fun _ _ _ h => h) (Or.inl ⟨by rfl, ?_⟩) hHeld ?_
          rotate_left
          · intro wt hSw; (try dsimp only at hSw); obtain ⟨lt, dt, rfl⟩ := hSw; first | (go_simp; done) | (go_simp; with_reducible rfl) | (trace_state; fail)
          clear hHeld; intro hHeld
          try simp only [Act.put, List.setIfInBounds_toArray, List.set_cons_zero, List.set_cons_succ]
          refine till_take 10 (fun w' => ∃ (l' : Array Obj) (d' : Nat), w' = wmore (((w.alloc (.cells #[.slice sa k ca, .slice (some ⟨bb, offb, none⟩) NB cb, .int .i64 s.now, .int .i64 s.fault] 31)).alloc (.cells #[.slice none 0 0, .slice none 0 0, .int .i64 0, .int .i64 0] 31)).alloc (.cells #[.slice ao k co, .slice ap q cpp, .int .i64 s.now, .int .i64 s.fault] 31)) l' d') (i := 4) (oi := { dst := some 41, op := Op.move (Operand.tmp 5), type := 3, pos := _, after := #[], guard := none }) (u := ?_) rfl (by kernel_rfl) (by kernel_rfl) (by kernel_rfl) (by kernel_rfl) (by kernel_rfl) (by decide) (fun L v hL h => h hL) (fun L v => by simp only [getD_set_ne true (show 4 ≠ 10 by decide)]) (fun _ _ _ h => h) (Or.inl ⟨by rfl, ?_⟩) hHeld ?_
          rotate_left
          · intro wt hSw; (try dsimp only at hSw); obtain ⟨lt, dt, rfl⟩ := hSw; first | (go_simp; done) | (go_simp; with_reducible rfl) | (trace_state; fail)
          clear hHeld; intro hHeld
          try simp only [Act.put, List.setIfInBounds_toArray, List.set_cons_zero, List.set_cons_succ]
          refine till_take 10 (fun w' => ∃ (l' : Array Obj) (d' : Nat), w' = wmore (((w.alloc (.cells #[.slice sa k ca, .slice (some ⟨bb, offb, none⟩) NB cb, .int .i64 s.now, .int .i64 s.fault] 31)).alloc (.cells #[.slice none 0 0, .slice none 0 0, .int .i64 0, .int .i64 0] 31)).alloc (.cells #[.slice ao k co, .slice ap q cpp, .int .i64 s.now, .int .i64 s.fault] 31)) l' d') (i := 5) (oi := { dst := some 42, op := Op.indexAddr 29 (Operand.tmp 40) (Operand.tmp 41), type := 0, pos := _, after := #[{ on := 3, ground := Ground.data }, { on := 4, ground := Ground.data }], guard := none }) (u := ?_) rfl (by kernel_rfl) (by kernel_rfl) (by kernel_rfl) (by kernel_rfl) (by kernel_rfl) (by decide) (fun L v hL h => h hL) (fun L v => by simp only [getD_set_ne true (show 5 ≠ 10 by decide)]) (fun _ _ _ h => h) (Or.inl ⟨by rfl, ?_⟩) hHeld ?_
          rotate_left
          · intro wt hSw; (try dsimp only at hSw); obtain ⟨lt, dt, rfl⟩ := hSw; first | (go_simp; done) | (go_simp; with_reducible rfl) | (trace_state; fail)
          clear hHeld; intro hHeld
          try simp only [Act.put, List.setIfInBounds_toArray, List.set_cons_zero, List.set_cons_succ]
          refine till_take 10 (fun w' => ∃ (l' : Array Obj) (d' : Nat), w' = wmore (((w.alloc (.cells #[.slice sa k ca, .slice (some ⟨bb, offb, none⟩) NB cb, .int .i64 s.now, .int .i64 s.fault] 31)).alloc (.cells #[.slice none 0 0, .slice none 0 0, .int .i64 0, .int .i64 0] 31)).alloc (.cells #[.slice ao k co, .slice ap q cpp, .int .i64 s.now, .int .i64 s.fault] 31)) l' d') (i := 6) (oi := { dst := some 43, op := Op.load 62 (Operand.tmp 42), type := 62, pos := _, after := #[{ on := 5, ground := Ground.data }], guard := none }) (u := ?_) rfl (by kernel_rfl) (by kernel_rfl) (by kernel_rfl) (by kernel_rfl) (by kernel_rfl) (by decide) (fun L v hL h => h hL) (fun L v => by simp only [getD_set_ne true (show 6 ≠ 10 by decide)]) (fun _ _ _ h => h) (Or.inl ⟨by rfl, ?_⟩) hHeld ?_
          rotate_left
          · intro wt hSw; (try dsimp only at hSw); obtain ⟨lt, dt, rfl⟩ := hSw; obtain ⟨c0, c1, c2, c3, c4, c5, c6, c7, c8, c9⟩ := Hc.out lt dt; first | (go_simp; done) | (go_simp; with_reducible rfl) | (trace_state; fail)
          clear hHeld; intro hHeld
          try simp only [Act.put, List.setIfInBounds_toArray, List.set_cons_zero, List.set_cons_succ]
          refine till_one (i := 7) (o := { dst := some 44, op := Op.buildSlice 29 1 #[(0, Operand.tmp 43)], type := 29, pos := _, after := #[{ on := 6, ground := Ground.data }], guard := none }) (by kernel_rfl) rfl (fun K hK => ?_)
          go_simp
          refine hK.out _ _ ?_ (fun hHeld => ?_)
          · (try dsimp only); exact (fun _ => ⟨_, _, by first | rfl | exact more_drew _ _ _⟩)
          clear hK K
          have hal := more_alloc (((w.alloc (.cells #[.slice sa k ca, .slice (some ⟨bb, offb, none⟩) NB cb, .int .i64 s.now, .int .i64 s.fault] 31)).alloc (.cells #[.slice none 0 0, .slice none 0 0, .int .i64 0, .int .i64 0] 31)).alloc (.cells #[.slice ao k co, .slice ap q cpp, .int .i64 s.now, .int .i64 s.fault] 31)) l (d + 1) (.cells #[.int .i64 x0, .int .i64 x1, .int .i64 x2, .int .i64 x3, .int .i64 x4, .int .i64 x5, .int .i64 x6, .int .i64 x7, .int .i64 x8, .int .i64 x9] 62)
          have Hp2 := Lib.hid (hal ▸ ((owns_below HP.out (by rw [← more_drew]; exact (Below.refl _ _).drew)).alloc (.cells #[.int .i64 x0, .int .i64 x1, .int .i64 x2, .int .i64 x3, .int .i64 x4, .int .i64 x5, .int .i64 x6, .int .i64 x7, .int .i64 x8, .int .i64 x9] 62)))
          have Ho2 := Lib.hid (hal ▸ ((owns_below HO.out (by rw [← more_drew]; exact (Below.refl _ _).drew)).alloc (.cells #[.int .i64 x0, .int .i64 x1, .int .i64 x2, .int .i64 x3, .int .i64 x4, .int .i64 x5, .int .i64 x6, .int .i64 x7, .int .i64 x8, .int .i64 x9] 62)))
          have Hr2 := Lib.hid (hal ▸ ((HR.out.below (by rw [← more_drew]; exact (Below.refl _ _).drew)).below ((Below.refl _ _).alloc (Nat.le_refl _) (.cells #[.int .i64 x0, .int .i64 x1, .int .i64 x2, .int .i64 x3, .int .i64 x4, .int .i64 x5, .int .i64 x6, .int .i64 x7, .int .i64 x8, .int .i64 x9] 62))))
          have Hs2 : Hid (Src (wmore (((w.alloc (.cells #[.slice sa k ca, .slice (some ⟨bb, offb, none⟩) NB cb, .int .i64 s.now, .int .i64 s.fault] 31)).alloc (.cells #[.slice none 0 0, .slice none 0 0, .int .i64 0, .int .i64 0] 31)).alloc (.cells #[.slice ao k co, .slice ap q cpp, .int .i64 s.now, .int .i64 s.fault] 31)) (l.push (.cells #[.int .i64 x0, .int .i64 x1, .int .i64 x2, .int .i64 x3, .int .i64 x4, .int .i64 x5, .int .i64 x6, .int .i64 x7, .int .i64 x8, .int .i64 x9] 62)) (d + 1)) (.slice (some ⟨(wmore (((w.alloc (.cells #[.slice sa k ca, .slice (some ⟨bb, offb, none⟩) NB cb, .int .i64 s.now, .int .i64 s.fault] 31)).alloc (.cells #[.slice none 0 0, .slice none 0 0, .int .i64 0, .int .i64 0] 31)).alloc (.cells #[.slice ao k co, .slice ap q cpp, .int .i64 s.now, .int .i64 s.fault] 31)) l (d + 1)).heap.size, 0, none⟩) 1 1) 1 (#[.int .i64 x0, .int .i64 x1, .int .i64 x2, .int .i64 x3, .int .i64 x4, .int .i64 x5, .int .i64 x6, .int .i64 x7, .int .i64 x8, .int .i64 x9] : Array Value).toList) := Lib.hid (Or.inr ⟨_, _, rfl, fun q u hu => by rw [add_at, ← more_alloc, cell_at rfl]; simpa using hu⟩)
          have Hz2 := Lib.hid (show w.heap.size + 1 + 1 + 1 ≤ (wmore (((w.alloc (.cells #[.slice sa k ca, .slice (some ⟨bb, offb, none⟩) NB cb, .int .i64 s.now, .int .i64 s.fault] 31)).alloc (.cells #[.slice none 0 0, .slice none 0 0, .int .i64 0, .int .i64 0] 31)).alloc (.cells #[.slice ao k co, .slice ap q cpp, .int .i64 s.now, .int .i64 s.fault] 31)) (l.push (.cells #[.int .i64 x0, .int .i64 x1, .int .i64 x2, .int .i64 x3, .int .i64 x4, .int .i64 x5, .int .i64 x6, .int .i64 x7, .int .i64 x8, .int .i64 x9] 62)) (d + 1)).heap.size by simp [more_size] <;> omega)
          have Hb2 := Lib.hid (show Below (w.heap.size + 1 + 1 + 1) (((w.alloc (.cells #[.slice sa k ca, .slice (some ⟨bb, offb, none⟩) NB cb, .int .i64 s.now, .int .i64 s.fault] 31)).alloc (.cells #[.slice none 0 0, .slice none 0 0, .int .i64 0, .int .i64 0] 31)).alloc (.cells #[.slice ao k co, .slice ap q cpp, .int .i64 s.now, .int .i64 s.fault] 31)) (wmore (((w.alloc (.cells #[.slice sa k ca, .slice (some ⟨bb, offb, none⟩) NB cb, .int .i64 s.now, .int .i64 s.fault] 31)).alloc (.cells #[.slice none 0 0, .slice none 0 0, .int .i64 0, .int .i64 0] 31)).alloc (.cells #[.slice ao k co, .slice ap q cpp, .int .i64 s.now, .int .i64 s.fault] 31)) (l.push (.cells #[.int .i64 x0, .int .i64 x1, .int .i64 x2, .int .i64 x3, .int .i64 x4, .int .i64 x5, .int .i64 x6, .int .i64 x7, .int .i64 x8, .int .i64 x9] 62)) (d + 1)) by have := more_below (Below.refl (((w.alloc (.cells #[.slice sa k ca, .slice (some ⟨bb, offb, none⟩) NB cb, .int .i64 s.now, .int .i64 s.fault] 31)).alloc (.cells #[.slice none 0 0, .slice none 0 0, .int .i64 0, .int .i64 0] 31)).alloc (.cells #[.slice ao k co, .slice ap q cpp, .int .i64 s.now, .int .i64 s.fault] 31)).heap.size (((w.alloc (.cells #[.slice sa k ca, .slice (some ⟨bb, offb, none⟩) NB cb, .int .i64 s.now, .int .i64 s.fault] 31)).alloc (.cells #[.slice none 0 0, .slice none 0 0, .int .i64 0, .int .i64 0] 31)).alloc (.cells #[.slice ao k co, .slice ap q cpp, .int .i64 s.now, .int .i64 s.fault] 31))) (Nat.le_refl _) (l.push (.cells #[.int .i64 x0, .int .i64 x1, .int .i64 x2, .int .i64 x3, .int .i64 x4, .int .i64 x5, .int .i64 x6, .int .i64 x7, .int .i64 x8, .int .i64 x9] 62)) (d + 1); simpa using this)
          try simp only [Act.put, List.setIfInBounds_toArray, List.set_cons_zero, List.set_cons_succ]
          refine till_one (i := 8) (o := { dst := some 45, op := Op.call { callee := Callee.builtin Builtin.append, args := #[Operand.tmp 38, Operand.tmp 44], argTypes := #[29, 29] }, type := 29, pos := _, after := #[{ on := 1, ground := Ground.data }, { on := 7, ground := Ground.data }], guard := none }) (by kernel_rfl) rfl (fun K hK => ?_)
          rw [if_pos (by kernel_rfl)]
          refine wp_append_src (.tmp 38) (.tmp 44) 29 rfl _ 62 ii (.agg #[.int .i64 0, .int .i64 0, .int .i64 0, .int .i64 0, .int .i64 0, .int .i64 0, .int .i64 0, .int .i64 0, .int .i64 0, .int .i64 0]) 10 80 Try.underlying29 hii hiz hisize hiby rfl (by omega) _ q _ rfl Hp2.out _ 1 _ rfl Hs2.out rfl (by intro u hu; simp at hu; rcases hu with rfl | rfl | rfl | rfl | rfl | rfl | rfl | rfl | rfl | rfl <;> rfl) (by unfold maxLen; omega) (by omega) Hz2.out ?_; intro v3 w3 hO3 hG3; have HRw := Lib.hid (Hr2.out.grown Hp2.out (by decide) hG3); have HOw := Lib.hid (owns_grown Ho2.out hG3 (fun g hg => owns_type Ho2.out Hp2.out (by decide) hg)); have hbA := grown3 Hb2.out Hz2.out Hp2.out hG3; obtain ⟨l3, d3, rfl⟩ := more_of (show Below (((w.alloc (.cells #[.slice sa k ca, .slice (some ⟨bb, offb, none⟩) NB cb, .int .i64 s.now, .int .i64 s.fault] 31)).alloc (.cells #[.slice none 0 0, .slice none 0 0, .int .i64 0, .int .i64 0] 31)).alloc (.cells #[.slice ao k co, .slice ap q cpp, .int .i64 s.now, .int .i64 s.fault] 31)).heap.size (((w.alloc (.cells #[.slice sa k ca, .slice (some ⟨bb, offb, none⟩) NB cb, .int .i64 s.now, .int .i64 s.fault] 31)).alloc (.cells #[.slice none 0 0, .slice none 0 0, .int .i64 0, .int .i64 0] 31)).alloc (.cells #[.slice ao k co, .slice ap q cpp, .int .i64 s.now, .int .i64 s.fault] 31)) w3 from by simpa using hbA); obtain ⟨a3, c3, rfl⟩ := owns_form hO3; have HO3 := Lib.hid hO3; clear hO3 hG3 hbA
          refine hK.out _ _ ?_ (fun hHeld => ?_)
          · (try dsimp only); exact (fun _ => ⟨_, _, by first | rfl | exact more_drew _ _ _⟩)
          clear hK K
          try simp only [Act.put, List.setIfInBounds_toArray, List.set_cons_zero, List.set_cons_succ]
          refine till_take 10 (fun w' => ∃ (l' : Array Obj) (d' : Nat), w' = wmore (((w.alloc (.cells #[.slice sa k ca, .slice (some ⟨bb, offb, none⟩) NB cb, .int .i64 s.now, .int .i64 s.fault] 31)).alloc (.cells #[.slice none 0 0, .slice none 0 0, .int .i64 0, .int .i64 0] 31)).alloc (.cells #[.slice ao k co, .slice ap q cpp, .int .i64 s.now, .int .i64 s.fault] 31)) l' d') (i := 9) (oi := { dst := some 46, op := Op.fieldAddr 31 (Operand.tmp 3) 1, type := 0, pos := _, after := #[{ on := 0, ground := Ground.phase }, { on := 1, ground := Ground.phase }, { on := 2, ground := Ground.phase }, { on := 3, ground := Ground.phase }, { on := 4, ground := Ground.phase }, { on := 5, ground := Ground.phase }, { on := 6, ground := Ground.phase }, { on := 7, ground := Ground.phase }, { on := 8, ground := Ground.phase }], guard := none }) (u := ?_) rfl (by kernel_rfl) (by kernel_rfl) (by kernel_rfl) (by kernel_rfl) (by kernel_rfl) (by decide) (fun L v hL h => h hL) (fun L v => by simp only [getD_set_ne true (show 9 ≠ 10 by decide)]) (fun _ _ _ h => h) (Or.inl ⟨by rfl, ?_⟩) hHeld ?_
          rotate_left
          · intro wt hSw; (try dsimp only at hSw); obtain ⟨lt, dt, rfl⟩ := hSw; first | (go_simp; done) | (go_simp; with_reducible rfl) | (trace_state; fail)
          clear hHeld; intro hHeld
          try simp only [Act.put, List.setIfInBounds_toArray, List.set_cons_zero, List.set_cons_succ]
          refine till_one (i := 10) (o := { dst := none, op := Op.store 29 (Operand.tmp 46) (Operand.tmp 45), type := 0, pos := _, after := #[{ on := 9, ground := Ground.data }, { on := 8, ground := Ground.data }, { on := 8, ground := Ground.chain }, { on := 0, ground := Ground.phase }, { on := 1, ground := Ground.phase }, { on := 2, ground := Ground.phase }, { on := 3, ground := Ground.phase }, { on := 4, ground := Ground.phase }, { on := 5, ground := Ground.phase }, { on := 6, ground := Ground.phase }, { on := 7, ground := Ground.phase }, { on := 8, ground := Ground.phase }], guard := none }) (by kernel_rfl) rfl (fun K hK => ?_)
          go_simp
          refine hK.out _ _ ?_ (fun hHeld => ?_)
          · (try dsimp only); exact (fun h => absurd h (by decide))
          clear hK K
          try simp only [Act.put, List.setIfInBounds_toArray, List.set_cons_zero, List.set_cons_succ]
          refine till_done (by kernel_rfl) ?_ _
          go_wp2_with fail
          go_roundw
          case rel => exact ⟨q + 1, _, l3, d3, by omega, by simp, Lib.hid (own_eq2 (owns_congr HO3.out (more_congr (by simp) (by simp))) rfl (by rw [hts.out, bV_app]; rfl)), Lib.hid (owns_congr HOw.out (more_congr (by simp) (by simp))), Lib.hid (HRw.out.congr (more_congr (by simp) (by simp))), rfl⟩
          case measure => first | (simp [intOf]; done) | (simp [intOf]; omega)
        · obtain rfl : q = NB := by omega
          go_wp2_with fail
          refine bodyPost_ret (by simp [results, Try.results15, go_sem, more_cell, more_size, more_frozen]; try rfl) rfl ?_
          refine ⟨_, _, U, w.heap.size + 1 + 1 + 1, w.heap.size + 1 + 1 + 1, w.heap.size + 1 + 1 + 1, rfl, ⟨?cb, ?cc, ?cd, ?co, ?cr, ?cp⟩, ⟨?vs, ?bs, h.n64, h.f64⟩, by (repeat' (first | (with_reducible exact Below.refl _ _) | (with_reducible assumption) | (with_reducible refine more_below ?_ ?_ _ _) | (with_reducible refine below_drewN ?_ _) | (with_reducible refine Below.alloc ?_ ?_ _) | (with_reducible refine Below.drew ?_) | (with_reducible refine Below.setCell ?_ ?_ _) | (simp only [World.size_alloc, World.size_setCell, World.size_drew, more_size, World.heap_drewN]; omega) | go_size))⟩
          case co => refine owns_congr HO.out ?_; exact more_congr (by simp) (by simp)
          case cr => refine HR.out.congr ?_; exact more_congr (by simp) (by simp)
          case cp =>
            have hb := HP.out
            rw [List.take_of_length_le (by omega)] at hb
            refine owns_congr hb ?_; exact more_congr (by simp) (by simp)
          case vs =>
            rw [HL.out]
            exact rows_of_owns (own_eq2 (owns_congr HO.out (more_congr (by simp) (by simp))) HN.out.symm rfl) (HR.out.congr (more_congr (by simp) (by simp))) hint (by omega)
          case bs =>
            have hb := HP.out
            rw [List.take_of_length_le (by omega)] at hb
            exact insts_of_owns (own_eq2 (owns_congr hb (more_congr (by simp) (by simp))) HNB.out.symm rfl) (inst_lens hbs)
          case cb => omega
          case cc => omega
          case cd => omega
theorem ref23_Clone (v b : Value) (s : St) (w : World) (h : StAt w v b s) (hsh : shortS s = true) : Calls Try.prog 15 #[.agg #[v, b, .int .i64 s.now, .int .i64 s.fault]] w fun e w' => ∃ v' b' : Value, e = .returned (.agg #[v', b', .int .i64 s.now, .int .i64 s.fault]) ∧ StAt w' v' b' s ∧ Below w.heap.size w w' := by
  refine (ref23_CloneO v b s w h hsh).mono ?_
  rintro e w' ⟨v', b', U, B, C, D, he, _, hs, hb⟩
  exact ⟨v', b', he, hs, hb⟩
end Go.Proofs.Ythanmbfelihkfaa
