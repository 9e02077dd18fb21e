/- Layer 13: bytes as instructions: the answer's. -/
import Derived.Test.YtaeaiaamhgcmbaaDoorCodeDec
namespace Go.Proofs.YtaeaiaamhgcmbaaDoor
open Go.RowKit
set_option linter.unusedSimpArgs false
set_option linter.unusedVariables false
set_option maxHeartbeats 8000000 in
theorem ref13_Decode (v : Value) (B : List UInt8) (w : World) (hv : RowAt w v B.length (byteV B)) (hn : B.length ≤ 5000) :
    Calls Tryd.prog 12 #[v] w fun e w' => ∃ r L a er, e = .returned (.tuple #[r, .int .i64 a, .int .i64 er]) ∧ DecR B L a er ∧ RowR 3 insR w' r L ∧ Below w.heap.size w w' := by
  obtain ⟨i, hi, hz, hsize, hby⟩ : ∃ i, Tryd.prog.info? 36 = some i ∧ i.zero = some (.agg #[.int .i64 0, .int .i64 0, .int .i64 0]) ∧ i.size = 3 ∧ i.bytes = 24 := ⟨(Tryd.prog.info? 36).get!, by kernel_rfl, by kernel_rfl, by kernel_rfl, by kernel_rfl⟩
  obtain ⟨sa, cap, rfl⟩ := bytes_get hv
  generalize hN : B.length = N at *
  go_enter Tryd.func12, Tryd.ntmps12
  go_wp2_with fail
  go_loopw [5, 6] (fun o j wr => ∃ k : Nat, Good B k ∧ 5 * k < N + 5 ∧ j = .int .i64 (5 * (k : Int)) ∧ Hid (wr.ownsRow w.heap.size 36 3 o k (insV (decL B k))) ∧ Below w.heap.size w wr) (fun _ j _ => N + 5 - (intOf j).toNat)
  case atStart => exact ⟨0, fun j hj => by omega, by omega, rfl, Lib.hid (World.ownsRow_nil _ _ _ _), Below.refl _ _⟩
  case round =>
    obtain ⟨k, hg, hk, rfl, hO, hB⟩ := hrel
    have hz' := hB.size
    have G := Lib.hid hg
    have hw5 : IntKind.i64.wrap (5 * (k : Int) + 5) = 5 * (k : Int) + 5 := IntWalk.i64_in _ (by omega)
    have hq5 : (5 * (k : Int)).tdiv 5 = k := by rw [Int.tdiv_eq_ediv_of_nonneg (by omega)]; omega
    clear hg
    by_cases hlt : 5 * k < N
    · obtain ⟨b, off, rfl, hcap, hcm, hbw, hc⟩ := bytes_at hv (by omega)
      by_cases hsh : N < 5 * k + 5
      · have he : errAt B k = 1 := errAt_short (by omega)
        have HD := Lib.hid (show DecR B [] k 1 from Or.inl ⟨k, G.out, by omega, he, by omega, rfl, rfl⟩)
        clear he hc hO G
        go_wp2_with fail
        go_returns
        exact ⟨.slice none 0 0, [], k, 1, by simp, HD.out, Or.inl ⟨none, 0, rfl, rfl, fun _ => rfl⟩, hB⟩
      · have hin := errAt_in (B := B) (k := k) (by omega)
        have hc0 := (hB.cell (p := ⟨b, off + 5 * k, none⟩) hbw).trans (hc (5 * k) (by omega))
        have hc1 := (hB.cell (p := ⟨b, off + (5 * k + 1), none⟩) hbw).trans (hc (5 * k + 1) (by omega))
        have hc2 := (hB.cell (p := ⟨b, off + (5 * k + 2), none⟩) hbw).trans (hc (5 * k + 2) (by omega))
        have hc3 := (hB.cell (p := ⟨b, off + (5 * k + 3), none⟩) hbw).trans (hc (5 * k + 3) (by omega))
        have hc4 := (hB.cell (p := ⟨b, off + (5 * k + 4), none⟩) hbw).trans (hc (5 * k + 4) (by omega))
        have hbr : b < wr.heap.size := by omega
        have hds := Lib.hid (decL_succ B k)
        have hZI := Lib.hid (insAt_I64 B k)
        have hxx : insAt B k = (((B.getD (5 * k) 0).toNat : Int), ((B.getD (5 * k + 1) 0).toNat : Int) + 256 * (B.getD (5 * k + 2) 0).toNat, ((B.getD (5 * k + 3) 0).toNat : Int) + 256 * (B.getD (5 * k + 4) 0).toNat) := rfl
        unfold byteV at hc0 hc1 hc2 hc3 hc4
        generalize insAt B k = x at *
        generalize B.getD (5 * k) 0 = c0 at *
        generalize B.getD (5 * k + 1) 0 = c1 at *
        generalize B.getD (5 * k + 2) 0 = c2 at *
        generalize B.getD (5 * k + 3) 0 = c3 at *
        generalize B.getD (5 * k + 4) 0 = c4 at *
        have w1 : IntKind.i64.wrap (5 * (k : Int) + 1) = 5 * (k : Int) + 1 := IntWalk.i64_in _ (by omega)
        have w2 : IntKind.i64.wrap (5 * (k : Int) + 2) = 5 * (k : Int) + 2 := IntWalk.i64_in _ (by omega)
        have w3 : IntKind.i64.wrap (5 * (k : Int) + 3) = 5 * (k : Int) + 3 := IntWalk.i64_in _ (by omega)
        have w4 : IntKind.i64.wrap (5 * (k : Int) + 4) = 5 * (k : Int) + 4 := IntWalk.i64_in _ (by omega)
        have k0 : (0 ≤ 5 * (k : Int)) = True := eq_true (by omega)
        have k0n : (5 * (k : Int) < N) = True := eq_true (by omega)
        have k1 : (0 ≤ 5 * (k : Int) + 1) = True := eq_true (by omega)
        have k1n : (5 * (k : Int) + 1 < N) = True := eq_true (by omega)
        have k2 : (0 ≤ 5 * (k : Int) + 2) = True := eq_true (by omega)
        have k2n : (5 * (k : Int) + 2 < N) = True := eq_true (by omega)
        have k3 : (0 ≤ 5 * (k : Int) + 3) = True := eq_true (by omega)
        have k3n : (5 * (k : Int) + 3 < N) = True := eq_true (by omega)
        have k4 : (0 ≤ 5 * (k : Int) + 4) = True := eq_true (by omega)
        have k4n : (5 * (k : Int) + 4 < N) = True := eq_true (by omega)
        have t0 : (5 * (k : Int)).toNat = 5 * k := by omega
        have t1 : (5 * (k : Int) + 1).toNat = 5 * k + 1 := by omega
        have t2 : (5 * (k : Int) + 2).toNat = 5 * k + 2 := by omega
        have t3 : (5 * (k : Int) + 3).toNat = 5 * k + 3 := by omega
        have t4 : (5 * (k : Int) + 4).toNat = 5 * k + 4 := by omega
        have b0 := c0.toNat_lt
        have b1 := c1.toNat_lt
        have b2 := c2.toNat_lt
        have b3 := c3.toNat_lt
        have b4 := c4.toNat_lt
        clear hc
        go_wp2_with fail
        refine wp_region_held_drew (S := (fun w' => Below wr.heap.size wr w')) (by kernel_rfl) ?_ (fun hHeld => ?_)
        · (try dsimp only); first | exact (Below.refl _ _).drew | exact (by (repeat' (first | (with_reducible exact Below.refl _ _) | (with_reducible assumption) | (with_reducible refine below_drewN ?_ _) | (with_reducible refine Below.alloc ?_ ?_ _) | (with_reducible refine Below.drew ?_) | (with_reducible refine Below.setCell ?_ ?_ _) | go_size))) | (trace_state; fail)
        refine wpAnyH_take (i := 0) (oi := { dst := some 21, op := Op.move (Operand.tmp 0), type := 24, pos := _, after := #[], guard := none }) (v := ?_) rfl (by kernel_rfl) (by kernel_rfl) (by kernel_rfl) (fun _ _ _ h => h) (Or.inl ⟨by rfl, ?_⟩) (by assumption) ?_
        rotate_left
        · intro w hSw; (try dsimp only at hSw); first | (go_simp; done) | (go_simp; with_reducible rfl)
        try simp only [Act.put, List.setIfInBounds_toArray, List.set_cons_zero, List.set_cons_succ]
        refine wpAnyH_take (i := 1) (oi := { dst := some 22, op := Op.move (Operand.tmp 6), type := 3, pos := _, after := #[], guard := none }) (v := ?_) rfl (by kernel_rfl) (by kernel_rfl) (by kernel_rfl) (fun _ _ _ h => h) (Or.inl ⟨by rfl, ?_⟩) (by assumption) ?_
        rotate_left
        · intro w hSw; (try dsimp only at hSw); first | (go_simp; done) | (go_simp; with_reducible rfl)
        try simp only [Act.put, List.setIfInBounds_toArray, List.set_cons_zero, List.set_cons_succ]
        refine wpAnyH_take (i := 2) (oi := { dst := some 23, op := Op.indexAddr 24 (Operand.tmp 21) (Operand.tmp 22), type := 0, pos := _, after := #[{ on := 0, ground := Ground.data }, { on := 1, ground := Ground.data }], guard := none }) (v := ?_) rfl (by kernel_rfl) (by kernel_rfl) (by kernel_rfl) (fun _ _ _ h => h) (Or.inl ⟨by rfl, ?_⟩) (by assumption) ?_
        rotate_left
        · intro w hSw; (try dsimp only at hSw); first | (go_simp; done) | (go_simp; with_reducible rfl)
        try simp only [Act.put, List.setIfInBounds_toArray, List.set_cons_zero, List.set_cons_succ]
        refine wpAnyH_take (i := 3) (oi := { dst := some 24, op := Op.load 5 (Operand.tmp 23), type := 5, pos := _, after := #[{ on := 2, ground := Ground.data }], guard := none }) (v := ?_) rfl (by kernel_rfl) (by kernel_rfl) (by kernel_rfl) (fun _ _ _ h => h) (Or.inl ⟨by rfl, ?_⟩) (by assumption) ?_
        rotate_left
        · intro wt hSw; (try dsimp only at hSw); have q0 := (hSw.cell (p := ⟨b, off + 5 * k, none⟩) hbr).trans hc0; first | (go_simp; done) | (go_simp; with_reducible rfl) | (trace_state; fail)
        try simp only [Act.put, List.setIfInBounds_toArray, List.set_cons_zero, List.set_cons_succ]
        refine wpAnyH_take (i := 4) (oi := { dst := some 25, op := Op.convert 5 3 (Operand.tmp 24), type := 3, pos := _, after := #[{ on := 3, ground := Ground.data }], guard := none }) (v := ?_) rfl (by kernel_rfl) (by kernel_rfl) (by kernel_rfl) (fun _ _ _ h => h) (Or.inl ⟨by rfl, ?_⟩) (by assumption) ?_
        rotate_left
        · intro w hSw; (try dsimp only at hSw); first | (go_simp; done) | (go_simp; with_reducible rfl)
        try simp only [Act.put, List.setIfInBounds_toArray, List.set_cons_zero, List.set_cons_succ]
        refine wpAnyH_take (i := 5) (oi := { dst := some 26, op := Op.move (Operand.tmp 0), type := 24, pos := _, after := #[], guard := none }) (v := ?_) rfl (by kernel_rfl) (by kernel_rfl) (by kernel_rfl) (fun _ _ _ h => h) (Or.inl ⟨by rfl, ?_⟩) (by assumption) ?_
        rotate_left
        · intro w hSw; (try dsimp only at hSw); first | (go_simp; done) | (go_simp; with_reducible rfl)
        try simp only [Act.put, List.setIfInBounds_toArray, List.set_cons_zero, List.set_cons_succ]
        refine wpAnyH_take (i := 6) (oi := { dst := some 27, op := Op.move (Operand.tmp 6), type := 3, pos := _, after := #[], guard := none }) (v := ?_) rfl (by kernel_rfl) (by kernel_rfl) (by kernel_rfl) (fun _ _ _ h => h) (Or.inl ⟨by rfl, ?_⟩) (by assumption) ?_
        rotate_left
        · intro w hSw; (try dsimp only at hSw); first | (go_simp; done) | (go_simp; with_reducible rfl)
        try simp only [Act.put, List.setIfInBounds_toArray, List.set_cons_zero, List.set_cons_succ]
        refine wpAnyH_take (i := 7) (oi := { dst := some 28, op := Op.binOp BinOp.add 3 (Operand.tmp 27) (Operand.const (Value.int IntKind.i64 1)) 3, type := 3, pos := _, after := #[{ on := 6, ground := Ground.data }], guard := none }) (v := ?_) rfl (by kernel_rfl) (by kernel_rfl) (by kernel_rfl) (fun _ _ _ h => h) (Or.inl ⟨by rfl, ?_⟩) (by assumption) ?_
        rotate_left
        · intro w hSw; (try dsimp only at hSw); first | (go_simp; done) | (go_simp; with_reducible rfl)
        try simp only [Act.put, List.setIfInBounds_toArray, List.set_cons_zero, List.set_cons_succ]
        refine wpAnyH_take (i := 8) (oi := { dst := some 29, op := Op.indexAddr 24 (Operand.tmp 26) (Operand.tmp 28), type := 0, pos := _, after := #[{ on := 5, ground := Ground.data }, { on := 7, ground := Ground.data }], guard := none }) (v := ?_) rfl (by kernel_rfl) (by kernel_rfl) (by kernel_rfl) (fun _ _ _ h => h) (Or.inl ⟨by rfl, ?_⟩) (by assumption) ?_
        rotate_left
        · intro w hSw; (try dsimp only at hSw); first | (go_simp; done) | (go_simp; with_reducible rfl)
        try simp only [Act.put, List.setIfInBounds_toArray, List.set_cons_zero, List.set_cons_succ]
        refine wpAnyH_take (i := 9) (oi := { dst := some 30, op := Op.load 5 (Operand.tmp 29), type := 5, pos := _, after := #[{ on := 8, ground := Ground.data }], guard := none }) (v := ?_) rfl (by kernel_rfl) (by kernel_rfl) (by kernel_rfl) (fun _ _ _ h => h) (Or.inl ⟨by rfl, ?_⟩) (by assumption) ?_
        rotate_left
        · intro wt hSw; (try dsimp only at hSw); have q0 := (hSw.cell (p := ⟨b, off + (5 * k + 1), none⟩) hbr).trans hc1; have q1 := q0; rw [show off + (5 * k + 1) = off + 5 * k + 1 by omega] at q1; first | (go_simp; done) | (go_simp; with_reducible rfl) | (trace_state; fail)
        try simp only [Act.put, List.setIfInBounds_toArray, List.set_cons_zero, List.set_cons_succ]
        refine wpAnyH_take (i := 10) (oi := { dst := some 31, op := Op.convert 5 3 (Operand.tmp 30), type := 3, pos := _, after := #[{ on := 9, ground := Ground.data }], guard := none }) (v := ?_) rfl (by kernel_rfl) (by kernel_rfl) (by kernel_rfl) (fun _ _ _ h => h) (Or.inl ⟨by rfl, ?_⟩) (by assumption) ?_
        rotate_left
        · intro w hSw; (try dsimp only at hSw); first | (go_simp; done) | (go_simp; with_reducible rfl)
        try simp only [Act.put, List.setIfInBounds_toArray, List.set_cons_zero, List.set_cons_succ]
        refine wpAnyH_take (i := 11) (oi := { dst := some 32, op := Op.move (Operand.tmp 0), type := 24, pos := _, after := #[], guard := none }) (v := ?_) rfl (by kernel_rfl) (by kernel_rfl) (by kernel_rfl) (fun _ _ _ h => h) (Or.inl ⟨by rfl, ?_⟩) (by assumption) ?_
        rotate_left
        · intro w hSw; (try dsimp only at hSw); first | (go_simp; done) | (go_simp; with_reducible rfl)
        try simp only [Act.put, List.setIfInBounds_toArray, List.set_cons_zero, List.set_cons_succ]
        refine wpAnyH_take (i := 12) (oi := { dst := some 33, op := Op.move (Operand.tmp 6), type := 3, pos := _, after := #[], guard := none }) (v := ?_) rfl (by kernel_rfl) (by kernel_rfl) (by kernel_rfl) (fun _ _ _ h => h) (Or.inl ⟨by rfl, ?_⟩) (by assumption) ?_
        rotate_left
        · intro w hSw; (try dsimp only at hSw); first | (go_simp; done) | (go_simp; with_reducible rfl)
        try simp only [Act.put, List.setIfInBounds_toArray, List.set_cons_zero, List.set_cons_succ]
        refine wpAnyH_take (i := 13) (oi := { dst := some 34, op := Op.binOp BinOp.add 3 (Operand.tmp 33) (Operand.const (Value.int IntKind.i64 2)) 3, type := 3, pos := _, after := #[{ on := 12, ground := Ground.data }], guard := none }) (v := ?_) rfl (by kernel_rfl) (by kernel_rfl) (by kernel_rfl) (fun _ _ _ h => h) (Or.inl ⟨by rfl, ?_⟩) (by assumption) ?_
        rotate_left
        · intro w hSw; (try dsimp only at hSw); first | (go_simp; done) | (go_simp; with_reducible rfl)
        try simp only [Act.put, List.setIfInBounds_toArray, List.set_cons_zero, List.set_cons_succ]
        refine wpAnyH_take (i := 14) (oi := { dst := some 35, op := Op.indexAddr 24 (Operand.tmp 32) (Operand.tmp 34), type := 0, pos := _, after := #[{ on := 11, ground := Ground.data }, { on := 13, ground := Ground.data }], guard := none }) (v := ?_) rfl (by kernel_rfl) (by kernel_rfl) (by kernel_rfl) (fun _ _ _ h => h) (Or.inl ⟨by rfl, ?_⟩) (by assumption) ?_
        rotate_left
        · intro w hSw; (try dsimp only at hSw); first | (go_simp; done) | (go_simp; with_reducible rfl)
        try simp only [Act.put, List.setIfInBounds_toArray, List.set_cons_zero, List.set_cons_succ]
        refine wpAnyH_take (i := 15) (oi := { dst := some 36, op := Op.load 5 (Operand.tmp 35), type := 5, pos := _, after := #[{ on := 14, ground := Ground.data }], guard := none }) (v := ?_) rfl (by kernel_rfl) (by kernel_rfl) (by kernel_rfl) (fun _ _ _ h => h) (Or.inl ⟨by rfl, ?_⟩) (by assumption) ?_
        rotate_left
        · intro wt hSw; (try dsimp only at hSw); have q0 := (hSw.cell (p := ⟨b, off + (5 * k + 2), none⟩) hbr).trans hc2; have q1 := q0; rw [show off + (5 * k + 2) = off + 5 * k + 2 by omega] at q1; first | (go_simp; done) | (go_simp; with_reducible rfl) | (trace_state; fail)
        try simp only [Act.put, List.setIfInBounds_toArray, List.set_cons_zero, List.set_cons_succ]
        refine wpAnyH_take (i := 16) (oi := { dst := some 37, op := Op.convert 5 3 (Operand.tmp 36), type := 3, pos := _, after := #[{ on := 15, ground := Ground.data }], guard := none }) (v := ?_) rfl (by kernel_rfl) (by kernel_rfl) (by kernel_rfl) (fun _ _ _ h => h) (Or.inl ⟨by rfl, ?_⟩) (by assumption) ?_
        rotate_left
        · intro w hSw; (try dsimp only at hSw); first | (go_simp; done) | (go_simp; with_reducible rfl)
        try simp only [Act.put, List.setIfInBounds_toArray, List.set_cons_zero, List.set_cons_succ]
        refine wpAnyH_take (i := 17) (oi := { dst := some 38, op := Op.binOp BinOp.mul 3 (Operand.const (Value.int IntKind.i64 256)) (Operand.tmp 37) 3, type := 3, pos := _, after := #[{ on := 16, ground := Ground.data }], guard := none }) (v := ?_) rfl (by kernel_rfl) (by kernel_rfl) (by kernel_rfl) (fun _ _ _ h => h) (Or.inl ⟨by rfl, ?_⟩) (by assumption) ?_
        rotate_left
        · intro w hSw; (try dsimp only at hSw); first | (go_simp; done) | (go_simp; with_reducible rfl)
        try simp only [Act.put, List.setIfInBounds_toArray, List.set_cons_zero, List.set_cons_succ]
        refine wpAnyH_take (i := 18) (oi := { dst := some 39, op := Op.binOp BinOp.add 3 (Operand.tmp 31) (Operand.tmp 38) 3, type := 3, pos := _, after := #[{ on := 10, ground := Ground.data }, { on := 17, ground := Ground.data }], guard := none }) (v := ?_) rfl (by kernel_rfl) (by kernel_rfl) (by kernel_rfl) (fun _ _ _ h => h) (Or.inl ⟨by rfl, ?_⟩) (by assumption) ?_
        rotate_left
        · intro w hSw; (try dsimp only at hSw); first | (go_simp; done) | (go_simp; with_reducible rfl)
        try simp only [Act.put, List.setIfInBounds_toArray, List.set_cons_zero, List.set_cons_succ]
        refine wpAnyH_take (i := 19) (oi := { dst := some 40, op := Op.move (Operand.tmp 0), type := 24, pos := _, after := #[], guard := none }) (v := ?_) rfl (by kernel_rfl) (by kernel_rfl) (by kernel_rfl) (fun _ _ _ h => h) (Or.inl ⟨by rfl, ?_⟩) (by assumption) ?_
        rotate_left
        · intro w hSw; (try dsimp only at hSw); first | (go_simp; done) | (go_simp; with_reducible rfl)
        try simp only [Act.put, List.setIfInBounds_toArray, List.set_cons_zero, List.set_cons_succ]
        refine wpAnyH_take (i := 20) (oi := { dst := some 41, op := Op.move (Operand.tmp 6), type := 3, pos := _, after := #[], guard := none }) (v := ?_) rfl (by kernel_rfl) (by kernel_rfl) (by kernel_rfl) (fun _ _ _ h => h) (Or.inl ⟨by rfl, ?_⟩) (by assumption) ?_
        rotate_left
        · intro w hSw; (try dsimp only at hSw); first | (go_simp; done) | (go_simp; with_reducible rfl)
        try simp only [Act.put, List.setIfInBounds_toArray, List.set_cons_zero, List.set_cons_succ]
        refine wpAnyH_take (i := 21) (oi := { dst := some 42, op := Op.binOp BinOp.add 3 (Operand.tmp 41) (Operand.const (Value.int IntKind.i64 3)) 3, type := 3, pos := _, after := #[{ on := 20, ground := Ground.data }], guard := none }) (v := ?_) rfl (by kernel_rfl) (by kernel_rfl) (by kernel_rfl) (fun _ _ _ h => h) (Or.inl ⟨by rfl, ?_⟩) (by assumption) ?_
        rotate_left
        · intro w hSw; (try dsimp only at hSw); first | (go_simp; done) | (go_simp; with_reducible rfl)
        try simp only [Act.put, List.setIfInBounds_toArray, List.set_cons_zero, List.set_cons_succ]
        refine wpAnyH_take (i := 22) (oi := { dst := some 43, op := Op.indexAddr 24 (Operand.tmp 40) (Operand.tmp 42), type := 0, pos := _, after := #[{ on := 19, ground := Ground.data }, { on := 21, ground := Ground.data }], guard := none }) (v := ?_) rfl (by kernel_rfl) (by kernel_rfl) (by kernel_rfl) (fun _ _ _ h => h) (Or.inl ⟨by rfl, ?_⟩) (by assumption) ?_
        rotate_left
        · intro w hSw; (try dsimp only at hSw); first | (go_simp; done) | (go_simp; with_reducible rfl)
        try simp only [Act.put, List.setIfInBounds_toArray, List.set_cons_zero, List.set_cons_succ]
        refine wpAnyH_take (i := 23) (oi := { dst := some 44, op := Op.load 5 (Operand.tmp 43), type := 5, pos := _, after := #[{ on := 22, ground := Ground.data }], guard := none }) (v := ?_) rfl (by kernel_rfl) (by kernel_rfl) (by kernel_rfl) (fun _ _ _ h => h) (Or.inl ⟨by rfl, ?_⟩) (by assumption) ?_
        rotate_left
        · intro wt hSw; (try dsimp only at hSw); have q0 := (hSw.cell (p := ⟨b, off + (5 * k + 3), none⟩) hbr).trans hc3; have q1 := q0; rw [show off + (5 * k + 3) = off + 5 * k + 3 by omega] at q1; first | (go_simp; done) | (go_simp; with_reducible rfl) | (trace_state; fail)
        try simp only [Act.put, List.setIfInBounds_toArray, List.set_cons_zero, List.set_cons_succ]
        refine wpAnyH_take (i := 24) (oi := { dst := some 45, op := Op.convert 5 3 (Operand.tmp 44), type := 3, pos := _, after := #[{ on := 23, ground := Ground.data }], guard := none }) (v := ?_) rfl (by kernel_rfl) (by kernel_rfl) (by kernel_rfl) (fun _ _ _ h => h) (Or.inl ⟨by rfl, ?_⟩) (by assumption) ?_
        rotate_left
        · intro w hSw; (try dsimp only at hSw); first | (go_simp; done) | (go_simp; with_reducible rfl)
        try simp only [Act.put, List.setIfInBounds_toArray, List.set_cons_zero, List.set_cons_succ]
        refine wpAnyH_take (i := 25) (oi := { dst := some 46, op := Op.move (Operand.tmp 0), type := 24, pos := _, after := #[], guard := none }) (v := ?_) rfl (by kernel_rfl) (by kernel_rfl) (by kernel_rfl) (fun _ _ _ h => h) (Or.inl ⟨by rfl, ?_⟩) (by assumption) ?_
        rotate_left
        · intro w hSw; (try dsimp only at hSw); first | (go_simp; done) | (go_simp; with_reducible rfl)
        try simp only [Act.put, List.setIfInBounds_toArray, List.set_cons_zero, List.set_cons_succ]
        refine wpAnyH_take (i := 26) (oi := { dst := some 47, op := Op.move (Operand.tmp 6), type := 3, pos := _, after := #[], guard := none }) (v := ?_) rfl (by kernel_rfl) (by kernel_rfl) (by kernel_rfl) (fun _ _ _ h => h) (Or.inl ⟨by rfl, ?_⟩) (by assumption) ?_
        rotate_left
        · intro w hSw; (try dsimp only at hSw); first | (go_simp; done) | (go_simp; with_reducible rfl)
        try simp only [Act.put, List.setIfInBounds_toArray, List.set_cons_zero, List.set_cons_succ]
        refine wpAnyH_take (i := 27) (oi := { dst := some 48, op := Op.binOp BinOp.add 3 (Operand.tmp 47) (Operand.const (Value.int IntKind.i64 4)) 3, type := 3, pos := _, after := #[{ on := 26, ground := Ground.data }], guard := none }) (v := ?_) rfl (by kernel_rfl) (by kernel_rfl) (by kernel_rfl) (fun _ _ _ h => h) (Or.inl ⟨by rfl, ?_⟩) (by assumption) ?_
        rotate_left
        · intro w hSw; (try dsimp only at hSw); first | (go_simp; done) | (go_simp; with_reducible rfl)
        try simp only [Act.put, List.setIfInBounds_toArray, List.set_cons_zero, List.set_cons_succ]
        refine wpAnyH_take (i := 28) (oi := { dst := some 49, op := Op.indexAddr 24 (Operand.tmp 46) (Operand.tmp 48), type := 0, pos := _, after := #[{ on := 25, ground := Ground.data }, { on := 27, ground := Ground.data }], guard := none }) (v := ?_) rfl (by kernel_rfl) (by kernel_rfl) (by kernel_rfl) (fun _ _ _ h => h) (Or.inl ⟨by rfl, ?_⟩) (by assumption) ?_
        rotate_left
        · intro w hSw; (try dsimp only at hSw); first | (go_simp; done) | (go_simp; with_reducible rfl)
        try simp only [Act.put, List.setIfInBounds_toArray, List.set_cons_zero, List.set_cons_succ]
        refine wpAnyH_take (i := 29) (oi := { dst := some 50, op := Op.load 5 (Operand.tmp 49), type := 5, pos := _, after := #[{ on := 28, ground := Ground.data }], guard := none }) (v := ?_) rfl (by kernel_rfl) (by kernel_rfl) (by kernel_rfl) (fun _ _ _ h => h) (Or.inl ⟨by rfl, ?_⟩) (by assumption) ?_
        rotate_left
        · intro wt hSw; (try dsimp only at hSw); have q0 := (hSw.cell (p := ⟨b, off + (5 * k + 4), none⟩) hbr).trans hc4; have q1 := q0; rw [show off + (5 * k + 4) = off + 5 * k + 4 by omega] at q1; first | (go_simp; done) | (go_simp; with_reducible rfl) | (trace_state; fail)
        try simp only [Act.put, List.setIfInBounds_toArray, List.set_cons_zero, List.set_cons_succ]
        refine wpAnyH_take (i := 30) (oi := { dst := some 51, op := Op.convert 5 3 (Operand.tmp 50), type := 3, pos := _, after := #[{ on := 29, ground := Ground.data }], guard := none }) (v := ?_) rfl (by kernel_rfl) (by kernel_rfl) (by kernel_rfl) (fun _ _ _ h => h) (Or.inl ⟨by rfl, ?_⟩) (by assumption) ?_
        rotate_left
        · intro w hSw; (try dsimp only at hSw); first | (go_simp; done) | (go_simp; with_reducible rfl)
        try simp only [Act.put, List.setIfInBounds_toArray, List.set_cons_zero, List.set_cons_succ]
        refine wpAnyH_take (i := 31) (oi := { dst := some 52, op := Op.binOp BinOp.mul 3 (Operand.const (Value.int IntKind.i64 256)) (Operand.tmp 51) 3, type := 3, pos := _, after := #[{ on := 30, ground := Ground.data }], guard := none }) (v := ?_) rfl (by kernel_rfl) (by kernel_rfl) (by kernel_rfl) (fun _ _ _ h => h) (Or.inl ⟨by rfl, ?_⟩) (by assumption) ?_
        rotate_left
        · intro w hSw; (try dsimp only at hSw); first | (go_simp; done) | (go_simp; with_reducible rfl)
        try simp only [Act.put, List.setIfInBounds_toArray, List.set_cons_zero, List.set_cons_succ]
        refine wpAnyH_take (i := 32) (oi := { dst := some 53, op := Op.binOp BinOp.add 3 (Operand.tmp 45) (Operand.tmp 52) 3, type := 3, pos := _, after := #[{ on := 24, ground := Ground.data }, { on := 31, ground := Ground.data }], guard := none }) (v := ?_) rfl (by kernel_rfl) (by kernel_rfl) (by kernel_rfl) (fun _ _ _ h => h) (Or.inl ⟨by rfl, ?_⟩) (by assumption) ?_
        rotate_left
        · intro w hSw; (try dsimp only at hSw); first | (go_simp; done) | (go_simp; with_reducible rfl)
        try simp only [Act.put, List.setIfInBounds_toArray, List.set_cons_zero, List.set_cons_succ]
        refine wpAnyH_take (i := 33) (oi := { dst := some 54, op := Op.build 36 #[(0, Operand.tmp 25), (1, Operand.tmp 39), (2, Operand.tmp 53)], type := 36, pos := _, after := #[{ on := 4, ground := Ground.data }, { on := 18, ground := Ground.data }, { on := 32, ground := Ground.data }], guard := none }) (v := ?_) rfl (by kernel_rfl) (by kernel_rfl) (by kernel_rfl) (fun _ _ _ h => h) (Or.inl ⟨by rfl, ?_⟩) (by assumption) ?_
        rotate_left
        · intro w hSw; (try dsimp only at hSw); first | (go_simp; done) | (go_simp; with_reducible rfl)
        try simp only [Act.put, List.setIfInBounds_toArray, List.set_cons_zero, List.set_cons_succ]
        refine wpAnyH_ready (rs := [34]) (by kernel_rfl) (by simp) ?_
        refine AllReadyH.cons (o := { dst := some 7, op := Op.alloc 36, type := 0, pos := _, after := #[], guard := none }) rfl (fun K hK => ?_) AllReadyH.nil
        go_simp
        refine hK.out _ _ ?_ (fun hHeld => ?_)
        · (try dsimp only); first | exact (Below.refl _ _).drew | exact (by (repeat' (first | (with_reducible exact Below.refl _ _) | (with_reducible assumption) | (with_reducible refine below_drewN ?_ _) | (with_reducible refine Below.alloc ?_ ?_ _) | (with_reducible refine Below.drew ?_) | (with_reducible refine Below.setCell ?_ ?_ _) | go_size))) | (trace_state; fail)
        clear hK K
        try simp only [Act.put, List.setIfInBounds_toArray, List.set_cons_zero, List.set_cons_succ]
        refine wpAnyH_ready (rs := [35]) (by kernel_rfl) (by simp) ?_
        refine AllReadyH.cons (o := { dst := none, op := Op.store 36 (Operand.tmp 7) (Operand.tmp 54), type := 0, pos := _, after := #[{ on := 34, ground := Ground.data }, { on := 33, ground := Ground.data }, { on := 0, ground := Ground.phase }, { on := 1, ground := Ground.phase }, { on := 2, ground := Ground.phase }, { on := 3, ground := Ground.phase }, { on := 4, ground := Ground.phase }, { on := 5, ground := Ground.phase }, { on := 6, ground := Ground.phase }, { on := 7, ground := Ground.phase }, { on := 8, ground := Ground.phase }, { on := 9, ground := Ground.phase }, { on := 10, ground := Ground.phase }, { on := 11, ground := Ground.phase }, { on := 12, ground := Ground.phase }, { on := 13, ground := Ground.phase }, { on := 14, ground := Ground.phase }, { on := 15, ground := Ground.phase }, { on := 16, ground := Ground.phase }, { on := 17, ground := Ground.phase }, { on := 18, ground := Ground.phase }, { on := 19, ground := Ground.phase }, { on := 20, ground := Ground.phase }, { on := 21, ground := Ground.phase }, { on := 22, ground := Ground.phase }, { on := 23, ground := Ground.phase }, { on := 24, ground := Ground.phase }, { on := 25, ground := Ground.phase }, { on := 26, ground := Ground.phase }, { on := 27, ground := Ground.phase }, { on := 28, ground := Ground.phase }, { on := 29, ground := Ground.phase }, { on := 30, ground := Ground.phase }, { on := 31, ground := Ground.phase }, { on := 32, ground := Ground.phase }, { on := 33, ground := Ground.phase }, { on := 34, ground := Ground.phase }], guard := none }) rfl (fun K hK => ?_) AllReadyH.nil
        go_simp
        refine hK.out _ _ ?_ (fun hHeld => ?_)
        · (try dsimp only); first | exact (Below.refl _ _).drew | exact (by (repeat' (first | (with_reducible exact Below.refl _ _) | (with_reducible assumption) | (with_reducible refine below_drewN ?_ _) | (with_reducible refine Below.alloc ?_ ?_ _) | (with_reducible refine Below.drew ?_) | (with_reducible refine Below.setCell ?_ ?_ _) | go_size))) | (trace_state; fail)
        clear hK K
        try simp only [Act.put, List.setIfInBounds_toArray, List.set_cons_zero, List.set_cons_succ]
        refine wpAnyH_done (by kernel_rfl) ?_ _
        have v0 : IntKind.i64.wrap (c0.toNat : Int) = x.1 := by rw [hxx]; exact IntWalk.i64_in _ (by omega)
        have v1 : IntKind.i64.wrap (IntKind.i64.wrap (c1.toNat : Int) + IntKind.i64.wrap (256 * IntKind.i64.wrap (c2.toNat : Int))) = x.2.1 := by
          rw [IntWalk.i64_in (c1.toNat : Int) (by omega), IntWalk.i64_in (c2.toNat : Int) (by omega), IntWalk.i64_in (256 * (c2.toNat : Int)) (by omega), IntWalk.i64_in _ (by omega), hxx]
        have v2 : IntKind.i64.wrap (IntKind.i64.wrap (c3.toNat : Int) + IntKind.i64.wrap (256 * IntKind.i64.wrap (c4.toNat : Int))) = x.2.2 := by
          rw [IntWalk.i64_in (c3.toNat : Int) (by omega), IntWalk.i64_in (c4.toNat : Int) (by omega), IntWalk.i64_in (256 * (c4.toNat : Int)) (by omega), IntWalk.i64_in _ (by omega), hxx]
        have hx0 : 0 ≤ x.1 ∧ x.1 < 256 := by rw [hxx]; simp only; omega
        rw [v0, v1, v2]
        have HE := Lib.hid (show errI x = if oReal x.1 then 6 else if rI x then 0 else 7 from rfl)
        have hRt := ref12_Right x.1 x.2.1 x.2.2
        have hxr : oRight x.1 x.2.1 x.2.2 = rI x := rfl
        have hrin := rI_in (x := x)
        have HIN := Lib.hid hrin
        rw [hxr] at hRt
        clear hxx v0 v1 v2 b0 b1 b2 b3 b4 k0 k0n k1 k1n k2 k2n k3 k3n k4 k4n t0 t1 t2 t3 t4 w1 w2 w3 w4 hc0 hc1 hc2 hc3 hc4 hHeld hxr hrin hbr
        have bad : errI x ≠ 0 → DecR B [] k (errI x) := fun he => Or.inl ⟨k, G.out, by omega, hin, he, rfl, rfl⟩
        have BAD := Lib.hid bad
        clear bad
        rcases (show x.1 < 48 ∨ (48 ≤ x.1 ∧ x.1 ≤ 55) ∨ 55 < x.1 by omega) with g | ⟨g, g2⟩ | g
        · have hr : oReal x.1 = false := decide_eq_false (by omega)
          have q1 : (48 ≤ x.1) = False := eq_false (by omega)
          cases hq : rI x
          · rw [hq] at hRt
            have he : errI x = 7 := by rw [HE.out, hr, hq]; rfl
            have HD := Lib.hid (BAD.out (by rw [he]; omega))
            rw [he] at HD
            clear he
            go_wp2_with fail
            refine (hRt _).mono ?_; rintro e W1 ⟨rfl, hb1⟩
            have hb0 : Below (wr.heap.size + 1) (wr.alloc (.cells #[.int .i64 x.1, .int .i64 x.2.1, .int .i64 x.2.2] 36)) W1 := Below.trans (Below.refl _ _).drew (by simpa using hb1)
            have hbr1 : Below wr.heap.size wr W1 := Below.trans (by (repeat' (first | (with_reducible exact Below.refl _ _) | (with_reducible assumption) | (with_reducible refine below_drewN ?_ _) | (with_reducible refine Below.alloc ?_ ?_ _) | (with_reducible refine Below.drew ?_) | (with_reducible refine Below.setCell ?_ ?_ _) | go_size))) (hb0.mono (by omega))
            have hB1 : Below w.heap.size w W1 := hB.trans (hbr1.mono hz')
            clear hb1
            go_wp2_with fail
            go_returns
            exact ⟨.slice none 0 0, [], k, 7, by simp, HD.out, Or.inl ⟨none, 0, rfl, rfl, fun _ => rfl⟩, hB1⟩
          · rw [hq] at hRt
            have he : errI x = 0 := by rw [HE.out, hr, hq]; rfl
            have hG := Lib.hid (G.out.succ (by omega) (hin.trans he))
            have hI3 := hZI.out
            clear he hin
            go_wp2_with fail
            refine (hRt _).mono ?_; rintro e W1 ⟨rfl, hb1⟩
            have hb0 : Below (wr.heap.size + 1) (wr.alloc (.cells #[.int .i64 x.1, .int .i64 x.2.1, .int .i64 x.2.2] 36)) W1 := Below.trans (Below.refl _ _).drew (by simpa using hb1)
            have hbr1 : Below wr.heap.size wr W1 := Below.trans (by (repeat' (first | (with_reducible exact Below.refl _ _) | (with_reducible assumption) | (with_reducible refine below_drewN ?_ _) | (with_reducible refine Below.alloc ?_ ?_ _) | (with_reducible refine Below.drew ?_) | (with_reducible refine Below.setCell ?_ ?_ _) | go_size))) (hb0.mono (by omega))
            have hB1 : Below w.heap.size w W1 := hB.trans (hbr1.mono hz')
            clear hb1
            have hO1 := Lib.hid (owns_below hO.out hbr1)
            obtain ⟨d0, d1, d2⟩ := C3.new wr x.1 x.2.1 x.2.2 _ hb0
            have hz1 := hB1.size
            go_wp2_with (first | (at_builtin; go_loud (refine wpList_append_ins rfl (.tmp 70) (.tmp 72) 22 rfl w.heap.size 36 36 i (.agg #[.int .i64 0, .int .i64 0, .int .i64 0]) 24 Tryd.underlying22 hi hz hsize hby rfl _ k _ rfl hO1.out x _ rfl (by simp) (by unfold maxLen; omega) (by omega) hz1 ?_; intro v2 w2 hO2 hG2; have HO2 := Lib.hid hO2; have hB2 := grown3 (hB1.alloc hz1 _) (by simp only [World.size_alloc]; omega) (hO1.out.alloc _) hG2; clear hO2 hG2)) | fail)
            go_roundw
            case rel => exact ⟨k + 1, hG.out, by omega, by first | rfl | (congr 1; omega), Lib.hid (own_eq HO2.out rfl (by rw [hds.out, insV_snoc])), hB2⟩
            case measure => first | (simp [intOf]; done) | (simp [intOf]; omega)
        · have hr : oReal x.1 = true := decide_eq_true ⟨g, g2⟩
          have q1 : (48 ≤ x.1) = True := eq_true g
          have q2 : (x.1 ≤ 55) = True := eq_true g2
          have he : errI x = 6 := by rw [HE.out, hr]; rfl
          have HD := Lib.hid (BAD.out (by rw [he]; omega))
          rw [he] at HD
          clear he
          go_wp2_with fail
          go_returns
          exact ⟨.slice none 0 0, [], k, 6, by simp, HD.out, Or.inl ⟨none, 0, rfl, rfl, fun _ => rfl⟩, by (repeat' (first | (with_reducible exact Below.refl _ _) | (with_reducible assumption) | (with_reducible refine below_drewN ?_ _) | (with_reducible refine Below.alloc ?_ ?_ _) | (with_reducible refine Below.drew ?_) | (with_reducible refine Below.setCell ?_ ?_ _) | go_size))⟩
        · have hr : oReal x.1 = false := decide_eq_false (by omega)
          have q1 : (48 ≤ x.1) = True := eq_true (by omega)
          have q2 : (x.1 ≤ 55) = False := eq_false (by omega)
          have hq : rI x = false := by
            cases hq : rI x
            · rfl
            · have := (HIN.out hq).1; omega
          rw [hq] at hRt
          have he : errI x = 7 := by rw [HE.out, hr, hq]; rfl
          have HD := Lib.hid (BAD.out (by rw [he]; omega))
          rw [he] at HD
          clear he
          go_wp2_with fail
          refine (hRt _).mono ?_; rintro e W1 ⟨rfl, hb1⟩
          have hb0 : Below (wr.heap.size + 1) (wr.alloc (.cells #[.int .i64 x.1, .int .i64 x.2.1, .int .i64 x.2.2] 36)) W1 := Below.trans (Below.refl _ _).drew (by simpa using hb1)
          have hbr1 : Below wr.heap.size wr W1 := Below.trans (by (repeat' (first | (with_reducible exact Below.refl _ _) | (with_reducible assumption) | (with_reducible refine below_drewN ?_ _) | (with_reducible refine Below.alloc ?_ ?_ _) | (with_reducible refine Below.drew ?_) | (with_reducible refine Below.setCell ?_ ?_ _) | go_size))) (hb0.mono (by omega))
          have hB1 : Below w.heap.size w W1 := hB.trans (hbr1.mono hz')
          clear hb1
          go_wp2_with fail
          go_returns
          exact ⟨.slice none 0 0, [], k, 7, by simp, HD.out, Or.inl ⟨none, 0, rfl, rfl, fun _ => rfl⟩, hB1⟩
    · have HD := Lib.hid (show DecR B (decL B k) 0 0 from Or.inr ⟨k, G.out, by omega, rfl, rfl, rfl⟩)
      clear G
      go_wp2_with fail
      go_returns
      exact ⟨_, decL B k, 0, 0, rfl, HD.out, RowR.ins_owned (own_eq hO.out (decL_len B k).symm rfl) (decL_I64 B k), hB⟩
end Go.Proofs.YtaeaiaamhgcmbaaDoor
