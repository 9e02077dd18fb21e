/- Layer 23: the same state, to the answer. -/
import Derived.Test.YthanmbfelihkfaaStRefClone
import Derived.Test.YthanmbfelihkfaaInst
namespace Go.Proofs.Ythanmbfelihkfaa
open Go.RowKit
set_option linter.unusedSimpArgs false
set_option linter.unusedVariables false
theorem neq_inst_self (w : World) (a b c d f g h i j l : Int) : (binOp .neq 62 (.agg #[.int .i64 a, .int .i64 b, .int .i64 c, .int .i64 d, .int .i64 f, .int .i64 g, .int .i64 h, .int .i64 i, .int .i64 j, .int .i64 l]) (.agg #[.int .i64 a, .int .i64 b, .int .i64 c, .int .i64 d, .int .i64 f, .int .i64 g, .int .i64 h, .int .i64 i, .int .i64 j, .int .i64 l])).run Try.prog w = .ok (.bool false) w := by
  have hh := eq_inst_self w a b c d f g h i j l
  rw [run_eql_struct] at hh
  rw [run_neq_struct]
  generalize (Op.equalIn 10000 62 _ _).run Try.prog w = r at *
  cases r with
  | ok v w' =>
    simp [Result.andThen] at hh ⊢
    obtain ⟨h1, h2⟩ := hh
    exact ⟨by rw [h1], h2⟩
  | halt r w' => simp [Result.andThen] at hh
theorem cells10_at {w W' : World} {b off q : Nat} {x : List Int} (hx : x.length = 10) (h : ∀ r u, (iV x)[r]? = some u → w.cell? ⟨b, off + q * 10 + r, none⟩ = some u) : True := trivial
set_option maxHeartbeats 4000000 in
theorem ref23_Same_eq (v b v2 bl2 : Value) (s : St) (w : World) (h : StAt w v b s) (g : StAt w v2 bl2 s) : Calls Try.prog 10 #[.agg #[v, b, .int .i64 s.now, .int .i64 s.fault], .agg #[v2, bl2, .int .i64 s.now, .int .i64 s.fault]] w fun e w' => e = .returned (.bool true) ∧ Below w.heap.size w w' := by
  have hvl := h.vs.len
  have hbl := h.bs.len
  have hv := h.vs
  have hb := h.bs
  have gv := g.vs
  have gb := g.bs
  obtain ⟨sa, ca, rfl⟩ := row_get h.vs
  obtain ⟨sb, cb, rfl⟩ := row_get h.bs
  obtain ⟨ta, da, rfl⟩ := row_get g.vs
  obtain ⟨tb, db, rfl⟩ := row_get g.bs
  generalize hL : s.vars = L at *
  generalize hM : s.blocks = M at *
  generalize hN : L.length = N at *
  generalize hNB : M.length = NB at *
  have cp := @cell_past
  go_enter Try.func10, Try.ntmps10
  go_wp2_with fail
  go_loopw [5] (fun jj wr => ∃ k m : Nat, k ≤ N ∧ jj = .int .i64 k ∧ wr = World.drewN ((w.alloc (.cells #[.slice sa N ca, .slice sb NB cb, .int .i64 s.now, .int .i64 s.fault] 31)).alloc (.cells #[.slice ta N da, .slice tb NB db, .int .i64 s.now, .int .i64 s.fault] 31)) m) (fun jj _ => N - (intOf jj).toNat)
  case atStart => exact ⟨0, 0, by omega, rfl, rfl⟩
  case round =>
    obtain ⟨k, m, hk, rfl, rfl⟩ := hrel
    by_cases hlt : k < N
    · have HBW := Lib.hid (show Below w.heap.size w ((w.alloc (.cells #[.slice sa N ca, .slice sb NB cb, .int .i64 s.now, .int .i64 s.fault] 31)).alloc (.cells #[.slice ta N da, .slice tb NB db, .int .i64 s.now, .int .i64 s.fault] 31)) by (repeat' (first | (with_reducible exact Below.refl _ _) | (with_reducible assumption) | (with_reducible refine below_drewN ?_ _) | (with_reducible refine Below.alloc ?_ ?_ _) | (with_reducible refine Below.drew ?_) | (with_reducible refine Below.setCell ?_ ?_ _) | go_size)))
      obtain ⟨b, off, rfl, hbw, hc⟩ := rows_at hv (k := k) (by omega)
      obtain ⟨b2, off2, rfl, hbw2, hd⟩ := rows_at gv (k := k) (by omega)
      obtain ⟨lr, hx⟩ : ∃ lr, L[k]? = some lr := ⟨L[k]'(by omega), by simp [hN, hlt]⟩
      obtain ⟨u1, c0, hu1⟩ := hc k lr hx
      obtain ⟨u2, d0, hu2⟩ := hd k lr hx
      clear hc hd hx
      go_wp2_with fail
      refine wp_region_held_drew (S := (fun w' => ∃ mm : Nat, w' = World.drewN ((w.alloc (.cells #[.slice (some ⟨b, off, none⟩) N ca, .slice sb NB cb, .int .i64 s.now, .int .i64 s.fault] 31)).alloc (.cells #[.slice (some ⟨b2, off2, none⟩) N da, .slice tb NB db, .int .i64 s.now, .int .i64 s.fault] 31)) mm)) (by kernel_rfl) ?_ (fun hHeld => ?_)
      · (try dsimp only); first | exact ⟨_, rfl⟩ | exact ⟨m + 1, rfl⟩ | exact ⟨_, World.drewN_drewN _ _ _⟩ | (trace_state; fail)
      refine wpAnyH_take (i := 0) (oi := { dst := some 44, op := Op.fieldAddr 31 (Operand.tmp 2) 0, type := 0, pos := _, after := #[], guard := none }) (v := ?_) rfl (by kernel_rfl) (by kernel_rfl) (by kernel_rfl) (fun _ _ _ h => h) (Or.inl ⟨by rfl, ?_⟩) (by assumption) ?_
      rotate_left
      · intro w hSw; (try dsimp only at hSw); first | (go_simp; done) | (go_simp; with_reducible rfl)
      try simp only [Act.put, List.setIfInBounds_toArray, List.set_cons_zero, List.set_cons_succ]
      refine wpAnyH_take (i := 1) (oi := { dst := some 45, op := Op.load 28 (Operand.tmp 44), type := 28, pos := _, after := #[{ on := 0, ground := Ground.data }], guard := none }) (v := ?_) rfl (by kernel_rfl) (by kernel_rfl) (by kernel_rfl) (fun _ _ _ h => h) (Or.inl ⟨by rfl, ?_⟩) (by assumption) ?_
      rotate_left
      · intro wt hSw; (try dsimp only at hSw); obtain ⟨mt, rfl⟩ := hSw; first | (go_simp; done) | (go_simp; with_reducible rfl) | (trace_state; fail)
      try simp only [Act.put, List.setIfInBounds_toArray, List.set_cons_zero, List.set_cons_succ]
      refine wpAnyH_take (i := 2) (oi := { dst := some 46, op := Op.move (Operand.tmp 5), type := 3, pos := _, after := #[], guard := none }) (v := ?_) rfl (by kernel_rfl) (by kernel_rfl) (by kernel_rfl) (fun _ _ _ h => h) (Or.inl ⟨by rfl, ?_⟩) (by assumption) ?_
      rotate_left
      · intro w hSw; (try dsimp only at hSw); first | (go_simp; done) | (go_simp; with_reducible rfl)
      try simp only [Act.put, List.setIfInBounds_toArray, List.set_cons_zero, List.set_cons_succ]
      refine wpAnyH_take (i := 3) (oi := { dst := some 47, op := Op.indexAddr 28 (Operand.tmp 45) (Operand.tmp 46), type := 0, pos := _, after := #[{ on := 1, ground := Ground.data }, { on := 2, ground := Ground.data }], guard := none }) (v := ?_) rfl (by kernel_rfl) (by kernel_rfl) (by kernel_rfl) (fun _ _ _ h => h) (Or.inl ⟨by rfl, ?_⟩) (by assumption) ?_
      rotate_left
      · intro w hSw; (try dsimp only at hSw); first | (go_simp; done) | (go_simp; with_reducible rfl)
      try simp only [Act.put, List.setIfInBounds_toArray, List.set_cons_zero, List.set_cons_succ]
      refine wpAnyH_take (i := 4) (oi := { dst := some 48, op := Op.load 45 (Operand.tmp 47), type := 45, pos := _, after := #[{ on := 3, ground := Ground.data }], guard := none }) (v := ?_) rfl (by kernel_rfl) (by kernel_rfl) (by kernel_rfl) (fun _ _ _ h => h) (Or.inl ⟨by rfl, ?_⟩) (by assumption) ?_
      rotate_left
      · intro wt hSw; (try dsimp only at hSw); obtain ⟨mt, rfl⟩ := hSw; first | (go_simp; done) | (go_simp; with_reducible rfl) | (trace_state; fail)
      try simp only [Act.put, List.setIfInBounds_toArray, List.set_cons_zero, List.set_cons_succ]
      refine wpAnyH_take (i := 5) (oi := { dst := some 49, op := Op.fieldAddr 31 (Operand.tmp 3) 0, type := 0, pos := _, after := #[], guard := none }) (v := ?_) rfl (by kernel_rfl) (by kernel_rfl) (by kernel_rfl) (fun _ _ _ h => h) (Or.inl ⟨by rfl, ?_⟩) (by assumption) ?_
      rotate_left
      · intro w hSw; (try dsimp only at hSw); first | (go_simp; done) | (go_simp; with_reducible rfl)
      try simp only [Act.put, List.setIfInBounds_toArray, List.set_cons_zero, List.set_cons_succ]
      refine wpAnyH_take (i := 6) (oi := { dst := some 50, op := Op.load 28 (Operand.tmp 49), type := 28, pos := _, after := #[{ on := 5, ground := Ground.data }], guard := none }) (v := ?_) rfl (by kernel_rfl) (by kernel_rfl) (by kernel_rfl) (fun _ _ _ h => h) (Or.inl ⟨by rfl, ?_⟩) (by assumption) ?_
      rotate_left
      · intro wt hSw; (try dsimp only at hSw); obtain ⟨mt, rfl⟩ := hSw; first | (go_simp; done) | (go_simp; with_reducible rfl) | (trace_state; fail)
      try simp only [Act.put, List.setIfInBounds_toArray, List.set_cons_zero, List.set_cons_succ]
      refine wpAnyH_take (i := 7) (oi := { dst := some 51, op := Op.move (Operand.tmp 5), type := 3, pos := _, after := #[], guard := none }) (v := ?_) rfl (by kernel_rfl) (by kernel_rfl) (by kernel_rfl) (fun _ _ _ h => h) (Or.inl ⟨by rfl, ?_⟩) (by assumption) ?_
      rotate_left
      · intro w hSw; (try dsimp only at hSw); first | (go_simp; done) | (go_simp; with_reducible rfl)
      try simp only [Act.put, List.setIfInBounds_toArray, List.set_cons_zero, List.set_cons_succ]
      refine wpAnyH_take (i := 8) (oi := { dst := some 52, op := Op.indexAddr 28 (Operand.tmp 50) (Operand.tmp 51), type := 0, pos := _, after := #[{ on := 6, ground := Ground.data }, { on := 7, ground := Ground.data }], guard := none }) (v := ?_) rfl (by kernel_rfl) (by kernel_rfl) (by kernel_rfl) (fun _ _ _ h => h) (Or.inl ⟨by rfl, ?_⟩) (by assumption) ?_
      rotate_left
      · intro w hSw; (try dsimp only at hSw); first | (go_simp; done) | (go_simp; with_reducible rfl)
      try simp only [Act.put, List.setIfInBounds_toArray, List.set_cons_zero, List.set_cons_succ]
      refine wpAnyH_take (i := 9) (oi := { dst := some 53, op := Op.load 45 (Operand.tmp 52), type := 45, pos := _, after := #[{ on := 8, ground := Ground.data }], guard := none }) (v := ?_) rfl (by kernel_rfl) (by kernel_rfl) (by kernel_rfl) (fun _ _ _ h => h) (Or.inl ⟨by rfl, ?_⟩) (by assumption) ?_
      rotate_left
      · intro wt hSw; (try dsimp only at hSw); obtain ⟨mt, rfl⟩ := hSw; first | (go_simp; done) | (go_simp; with_reducible rfl) | (trace_state; fail)
      try simp only [Act.put, List.setIfInBounds_toArray, List.set_cons_zero, List.set_cons_succ]
      refine wpAnyH_ready (rs := [10]) (by kernel_rfl) (by simp) ?_
      refine AllReadyH.cons (o := { dst := some 54, op := Op.call { callee := Callee.value (Operand.func 18), args := #[Operand.tmp 48, Operand.tmp 53], argTypes := #[45, 45] }, type := 4, pos := _, after := #[{ on := 4, ground := Ground.data }, { on := 9, ground := Ground.data }], guard := none }) rfl (fun K hK => ?_) AllReadyH.nil
      go_simp
      refine (ref15_Ints _ _ lr lr _ (hu1.below intR_stable (below_drewN HBW.out _)) (hu2.below intR_stable (below_drewN HBW.out _))).mono ?_; rintro e wz ⟨rfl, mz, rfl⟩; rw [decide_eq_true rfl]
      go_wp2_with fail
      refine hK.out _ _ ?_ (fun hHeld => ?_)
      · (try dsimp only); first | exact ⟨_, rfl⟩ | exact ⟨m + 1, rfl⟩ | exact ⟨_, World.drewN_drewN _ _ _⟩ | (trace_state; fail)
      clear hK K
      try simp only [Act.put, List.setIfInBounds_toArray, List.set_cons_zero, List.set_cons_succ]
      refine wpAnyH_take (i := 11) (oi := { dst := some 55, op := Op.unOp UnOp.not 4 (Operand.tmp 54), type := 4, pos := _, after := #[{ on := 10, ground := Ground.data }], guard := none }) (v := ?_) rfl (by kernel_rfl) (by kernel_rfl) (by kernel_rfl) (fun _ _ _ h => h) (Or.inl ⟨by rfl, ?_⟩) (by assumption) ?_
      rotate_left
      · intro w hSw; (try dsimp only at hSw); first | (go_simp; done) | (go_simp; with_reducible rfl)
      try simp only [Act.put, List.setIfInBounds_toArray, List.set_cons_zero, List.set_cons_succ]
      refine wpAnyH_done (by kernel_rfl) ?_ _
      go_wp2_with fail
      go_roundw
      case rel => exact ⟨k + 1, _, by omega, by simp, by first | rfl | exact World.drewN_drewN _ _ _⟩
      case measure => first | (simp [intOf]; done) | (simp [intOf]; omega)
    · obtain rfl : k = N := by omega
      go_wp2_with fail
      go_loopw [6] (fun jj wr => ∃ q m : Nat, q ≤ NB ∧ jj = .int .i64 q ∧ wr = World.drewN ((w.alloc (.cells #[.slice sa k ca, .slice sb NB cb, .int .i64 s.now, .int .i64 s.fault] 31)).alloc (.cells #[.slice ta k da, .slice tb NB db, .int .i64 s.now, .int .i64 s.fault] 31)) m) (fun jj _ => NB - (intOf jj).toNat)
      case atStart => exact ⟨0, m, by omega, rfl, rfl⟩
      case round =>
        obtain ⟨q, m, hq, rfl, rfl⟩ := hrel
        by_cases hlq : q < NB
        · obtain ⟨b, off, rfl, hbw, hc⟩ := insts_at hb (k := q) (by omega)
          obtain ⟨b2, off2, rfl, hbw2, hd⟩ := insts_at gb (k := q) (by omega)
          obtain ⟨x, hx⟩ : ∃ x, M[q]? = some x := ⟨M[q]'(by omega), by simp [hNB, hlq]⟩
          obtain ⟨hx10, hcx⟩ := hc q x hx
          obtain ⟨_, hdx⟩ := hd q x hx
          obtain ⟨x0, x1, x2, x3, x4, x5, x6, x7, x8, x9, rfl⟩ := ten hx10
          obtain ⟨c0, c1, c2, c3, c4, c5, c6, c7, c8, c9⟩ := cells10 hcx (Below.refl _ _) hbw
          obtain ⟨d0, d1, d2, d3, d4, d5, d6, d7, d8, d9⟩ := cells10 hdx (Below.refl _ _) hbw2
          have hne := fun W => neq_inst_self W x0 x1 x2 x3 x4 x5 x6 x7 x8 x9
          clear hc hd hx hcx hdx hx10
          go_wp2_with fail
          refine wp_region_held_drew (S := (fun w' => ∃ mm : Nat, w' = World.drewN ((w.alloc (.cells #[.slice sa k ca, .slice (some ⟨b, off, none⟩) NB cb, .int .i64 s.now, .int .i64 s.fault] 31)).alloc (.cells #[.slice ta k da, .slice (some ⟨b2, off2, none⟩) NB db, .int .i64 s.now, .int .i64 s.fault] 31)) mm)) (by kernel_rfl) ?_ (fun hHeld => ?_)
          · (try dsimp only); first | exact ⟨_, rfl⟩ | exact ⟨m + 1, rfl⟩ | exact ⟨_, World.drewN_drewN _ _ _⟩ | (trace_state; fail)
          refine wpAnyH_take (i := 0) (oi := { dst := some 63, op := Op.fieldAddr 31 (Operand.tmp 2) 1, type := 0, pos := _, after := #[], guard := none }) (v := ?_) rfl (by kernel_rfl) (by kernel_rfl) (by kernel_rfl) (fun _ _ _ h => h) (Or.inl ⟨by rfl, ?_⟩) (by assumption) ?_
          rotate_left
          · intro w hSw; (try dsimp only at hSw); first | (go_simp; done) | (go_simp; with_reducible rfl)
          try simp only [Act.put, List.setIfInBounds_toArray, List.set_cons_zero, List.set_cons_succ]
          refine wpAnyH_take (i := 1) (oi := { dst := some 64, op := Op.load 29 (Operand.tmp 63), type := 29, pos := _, after := #[{ on := 0, ground := Ground.data }], guard := none }) (v := ?_) rfl (by kernel_rfl) (by kernel_rfl) (by kernel_rfl) (fun _ _ _ h => h) (Or.inl ⟨by rfl, ?_⟩) (by assumption) ?_
          rotate_left
          · intro wt hSw; (try dsimp only at hSw); obtain ⟨mt, rfl⟩ := hSw; first | (go_simp; done) | (go_simp; with_reducible rfl) | (trace_state; fail)
          try simp only [Act.put, List.setIfInBounds_toArray, List.set_cons_zero, List.set_cons_succ]
          refine wpAnyH_take (i := 2) (oi := { dst := some 65, op := Op.move (Operand.tmp 6), type := 3, pos := _, after := #[], guard := none }) (v := ?_) rfl (by kernel_rfl) (by kernel_rfl) (by kernel_rfl) (fun _ _ _ h => h) (Or.inl ⟨by rfl, ?_⟩) (by assumption) ?_
          rotate_left
          · intro w hSw; (try dsimp only at hSw); first | (go_simp; done) | (go_simp; with_reducible rfl)
          try simp only [Act.put, List.setIfInBounds_toArray, List.set_cons_zero, List.set_cons_succ]
          refine wpAnyH_take (i := 3) (oi := { dst := some 66, op := Op.indexAddr 29 (Operand.tmp 64) (Operand.tmp 65), type := 0, pos := _, after := #[{ on := 1, ground := Ground.data }, { on := 2, ground := Ground.data }], guard := none }) (v := ?_) rfl (by kernel_rfl) (by kernel_rfl) (by kernel_rfl) (fun _ _ _ h => h) (Or.inl ⟨by rfl, ?_⟩) (by assumption) ?_
          rotate_left
          · intro w hSw; (try dsimp only at hSw); first | (go_simp; done) | (go_simp; with_reducible rfl)
          try simp only [Act.put, List.setIfInBounds_toArray, List.set_cons_zero, List.set_cons_succ]
          refine wpAnyH_take (i := 4) (oi := { dst := some 67, op := Op.load 62 (Operand.tmp 66), type := 62, pos := _, after := #[{ on := 3, ground := Ground.data }], guard := none }) (v := ?_) rfl (by kernel_rfl) (by kernel_rfl) (by kernel_rfl) (fun _ _ _ h => h) (Or.inl ⟨by rfl, ?_⟩) (by assumption) ?_
          rotate_left
          · intro wt hSw; (try dsimp only at hSw); obtain ⟨mt, rfl⟩ := hSw; first | (go_simp; done) | (go_simp; with_reducible rfl) | (trace_state; fail)
          try simp only [Act.put, List.setIfInBounds_toArray, List.set_cons_zero, List.set_cons_succ]
          refine wpAnyH_take (i := 5) (oi := { dst := some 68, op := Op.fieldAddr 31 (Operand.tmp 3) 1, type := 0, pos := _, after := #[], guard := none }) (v := ?_) rfl (by kernel_rfl) (by kernel_rfl) (by kernel_rfl) (fun _ _ _ h => h) (Or.inl ⟨by rfl, ?_⟩) (by assumption) ?_
          rotate_left
          · intro w hSw; (try dsimp only at hSw); first | (go_simp; done) | (go_simp; with_reducible rfl)
          try simp only [Act.put, List.setIfInBounds_toArray, List.set_cons_zero, List.set_cons_succ]
          refine wpAnyH_take (i := 6) (oi := { dst := some 69, op := Op.load 29 (Operand.tmp 68), type := 29, pos := _, after := #[{ on := 5, ground := Ground.data }], guard := none }) (v := ?_) rfl (by kernel_rfl) (by kernel_rfl) (by kernel_rfl) (fun _ _ _ h => h) (Or.inl ⟨by rfl, ?_⟩) (by assumption) ?_
          rotate_left
          · intro wt hSw; (try dsimp only at hSw); obtain ⟨mt, rfl⟩ := hSw; first | (go_simp; done) | (go_simp; with_reducible rfl) | (trace_state; fail)
          try simp only [Act.put, List.setIfInBounds_toArray, List.set_cons_zero, List.set_cons_succ]
          refine wpAnyH_take (i := 7) (oi := { dst := some 70, op := Op.move (Operand.tmp 6), type := 3, pos := _, after := #[], guard := none }) (v := ?_) rfl (by kernel_rfl) (by kernel_rfl) (by kernel_rfl) (fun _ _ _ h => h) (Or.inl ⟨by rfl, ?_⟩) (by assumption) ?_
          rotate_left
          · intro w hSw; (try dsimp only at hSw); first | (go_simp; done) | (go_simp; with_reducible rfl)
          try simp only [Act.put, List.setIfInBounds_toArray, List.set_cons_zero, List.set_cons_succ]
          refine wpAnyH_take (i := 8) (oi := { dst := some 71, op := Op.indexAddr 29 (Operand.tmp 69) (Operand.tmp 70), type := 0, pos := _, after := #[{ on := 6, ground := Ground.data }, { on := 7, ground := Ground.data }], guard := none }) (v := ?_) rfl (by kernel_rfl) (by kernel_rfl) (by kernel_rfl) (fun _ _ _ h => h) (Or.inl ⟨by rfl, ?_⟩) (by assumption) ?_
          rotate_left
          · intro w hSw; (try dsimp only at hSw); first | (go_simp; done) | (go_simp; with_reducible rfl)
          try simp only [Act.put, List.setIfInBounds_toArray, List.set_cons_zero, List.set_cons_succ]
          refine wpAnyH_take (i := 9) (oi := { dst := some 72, op := Op.load 62 (Operand.tmp 71), type := 62, pos := _, after := #[{ on := 8, ground := Ground.data }], guard := none }) (v := ?_) rfl (by kernel_rfl) (by kernel_rfl) (by kernel_rfl) (fun _ _ _ h => h) (Or.inl ⟨by rfl, ?_⟩) (by assumption) ?_
          rotate_left
          · intro wt hSw; (try dsimp only at hSw); obtain ⟨mt, rfl⟩ := hSw; first | (go_simp; done) | (go_simp; with_reducible rfl) | (trace_state; fail)
          try simp only [Act.put, List.setIfInBounds_toArray, List.set_cons_zero, List.set_cons_succ]
          refine wpAnyH_take (i := 10) (oi := { dst := some 73, op := Op.binOp BinOp.neq 62 (Operand.tmp 67) (Operand.tmp 72) 62, type := 4, pos := _, after := #[{ on := 4, ground := Ground.data }, { on := 9, ground := Ground.data }], guard := none }) (v := ?_) rfl (by kernel_rfl) (by kernel_rfl) (by kernel_rfl) (fun _ _ _ h => h) (Or.inl ⟨by rfl, ?_⟩) (by assumption) ?_
          rotate_left
          · intro w hSw; (try dsimp only at hSw); first | (go_simp; done) | (go_simp; with_reducible rfl)
          try simp only [Act.put, List.setIfInBounds_toArray, List.set_cons_zero, List.set_cons_succ]
          refine wpAnyH_done (by kernel_rfl) ?_ _
          go_wp2_with fail
          go_roundw
          case rel => exact ⟨q + 1, _, by omega, by simp, rfl⟩
          case measure => first | (simp [intOf]; done) | (simp [intOf]; omega)
        · obtain rfl : q = NB := by omega
          go_wp2_with fail
          go_ret
          exact ⟨rfl, by (repeat' (first | (with_reducible exact Below.refl _ _) | (with_reducible assumption) | (with_reducible refine below_drewN ?_ _) | (with_reducible refine Below.alloc ?_ ?_ _) | (with_reducible refine Below.drew ?_) | (with_reducible refine Below.setCell ?_ ?_ _) | go_size))⟩
end Go.Proofs.Ythanmbfelihkfaa
