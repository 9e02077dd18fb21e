/- Layer 23: whether two states are the same. -/
import Derived.Test.YtpnnmhcemecjfaaInstEq
namespace Go.Proofs.Ytpnnmhcemecjfaa
open Go.RowKit
set_option linter.unusedSimpArgs false
set_option linter.unusedVariables false
def sameS (s t : St) : Bool := decide (s.now = t.now ∧ s.fault = t.fault ∧ s.vars = t.vars ∧ s.blocks = t.blocks)
theorem sameS_self (s : St) : sameS s s = true := decide_eq_true ⟨rfl, rfl, rfl, rfl⟩
set_option maxHeartbeats 4000000 in
theorem ref23_Same (v b v2 bl2 : Value) (s t : St) (w : World) (h : StAt w v b s) (g : StAt w v2 bl2 t) : Calls Try.prog 9 #[.agg #[v, b, .int .i64 s.now, .int .i64 s.fault], .agg #[v2, bl2, .int .i64 t.now, .int .i64 t.fault]] w fun e w' => e = .returned (.bool (sameS s t)) ∧ Below w.heap.size w w' := by
  have hvl := h.vs.len
  have hbl := h.bs.len
  have gvl := g.vs.len
  have gbl := g.bs.len
  have hv := h.vs
  have hb := h.bs
  have gv := g.vs
  have gb := g.bs
  obtain ⟨sa, ca, rfl⟩ := row_get h.vs
  obtain ⟨sb, cb, rfl⟩ := row_get h.bs
  obtain ⟨ta, da, rfl⟩ := row_get g.vs
  obtain ⟨tb, db, rfl⟩ := row_get g.bs
  have HD := Lib.hid (show sameS s t = decide (s.now = t.now ∧ s.fault = t.fault ∧ s.vars = t.vars ∧ s.blocks = t.blocks) from rfl)
  have cp := @cell_past
  generalize hL : s.vars = L at *
  generalize hM : s.blocks = M at *
  generalize hL2 : t.vars = L2 at *
  generalize hM2 : t.blocks = M2 at *
  by_cases n1 : s.now = t.now
  case neg =>
    have hs := Lib.hid (HD.out.trans (decide_eq_false (fun q => n1 q.1)))
    have q1 : (s.now != t.now) = true := by simpa using n1
    clear n1 hL hM hL2 hM2 h g hv hb gv gb
    generalize L.length = N at *
    generalize M.length = NB at *
    generalize L2.length = N2 at *
    generalize M2.length = NB2 at *
    go_enter Try.func9, Try.ntmps9
    go_wp2_with fail
    go_ret
    exact ⟨by rw [hs.out]; rfl, by (repeat' (first | (with_reducible exact Below.refl _ _) | (with_reducible assumption) | (with_reducible refine below_drewN ?_ _) | (with_reducible refine Below.alloc ?_ ?_ _) | (with_reducible refine Below.drew ?_) | (with_reducible refine Below.setCell ?_ ?_ _) | go_size))⟩
  by_cases n2 : s.fault = t.fault
  case neg =>
    have hs := Lib.hid (HD.out.trans (decide_eq_false (fun q => n2 q.2.1)))
    have q1 : (s.now != t.now) = false := by simpa using n1
    have q2 : (s.fault != t.fault) = true := by simpa using n2
    clear n1 n2 hL hM hL2 hM2 h g hv hb gv gb
    generalize L.length = N at *
    generalize M.length = NB at *
    generalize L2.length = N2 at *
    generalize M2.length = NB2 at *
    go_enter Try.func9, Try.ntmps9
    go_wp2_with fail
    go_ret
    exact ⟨by rw [hs.out]; rfl, by (repeat' (first | (with_reducible exact Below.refl _ _) | (with_reducible assumption) | (with_reducible refine below_drewN ?_ _) | (with_reducible refine Below.alloc ?_ ?_ _) | (with_reducible refine Below.drew ?_) | (with_reducible refine Below.setCell ?_ ?_ _) | go_size))⟩
  by_cases n3 : L.length = L2.length
  case neg =>
    have hs := Lib.hid (HD.out.trans (decide_eq_false (fun q => n3 (by rw [q.2.2.1]))))
    have q1 : (s.now != t.now) = false := by simpa using n1
    have q2 : (s.fault != t.fault) = false := by simpa using n2
    have q3 : ((L.length : Int) != (L2.length : Int)) = true := by simp; omega
    clear n1 n2 n3 hL hM hL2 hM2 h g hv hb gv gb
    generalize L.length = N at *
    generalize M.length = NB at *
    generalize L2.length = N2 at *
    generalize M2.length = NB2 at *
    go_enter Try.func9, Try.ntmps9
    go_wp2_with fail
    go_ret
    exact ⟨by rw [hs.out]; rfl, by (repeat' (first | (with_reducible exact Below.refl _ _) | (with_reducible assumption) | (with_reducible refine below_drewN ?_ _) | (with_reducible refine Below.alloc ?_ ?_ _) | (with_reducible refine Below.drew ?_) | (with_reducible refine Below.setCell ?_ ?_ _) | go_size))⟩
  by_cases n4 : M.length = M2.length
  case neg =>
    have hs := Lib.hid (HD.out.trans (decide_eq_false (fun q => n4 (by rw [q.2.2.2]))))
    have q1 : (s.now != t.now) = false := by simpa using n1
    have q2 : (s.fault != t.fault) = false := by simpa using n2
    have q3 : ((L.length : Int) != (L2.length : Int)) = false := by simp; omega
    have q4 : ((M.length : Int) != (M2.length : Int)) = true := by simp; omega
    clear n1 n2 n3 n4 hL hM hL2 hM2 h g hv hb gv gb
    generalize L.length = N at *
    generalize M.length = NB at *
    generalize L2.length = N2 at *
    generalize M2.length = NB2 at *
    go_enter Try.func9, Try.ntmps9
    go_wp2_with fail
    go_ret
    exact ⟨by rw [hs.out]; rfl, by (repeat' (first | (with_reducible exact Below.refl _ _) | (with_reducible assumption) | (with_reducible refine below_drewN ?_ _) | (with_reducible refine Below.alloc ?_ ?_ _) | (with_reducible refine Below.drew ?_) | (with_reducible refine Below.setCell ?_ ?_ _) | go_size))⟩
  have q1 : (s.now != t.now) = false := by simpa using n1
  have q2 : (s.fault != t.fault) = false := by simpa using n2
  have HY := Lib.hid (fun (u1 : L = L2) (u2 : M = M2) => HD.out.trans (decide_eq_true ⟨n1, n2, u1, u2⟩))
  have HN1 := Lib.hid (fun (u1 : ¬ L = L2) => HD.out.trans (decide_eq_false (fun q => u1 q.2.2.1)))
  have HN2 := Lib.hid (fun (u1 : ¬ M = M2) => HD.out.trans (decide_eq_false (fun q => u1 q.2.2.2)))
  have hlens := inst_lens hb
  have hlens2 := inst_lens gb
  clear n1 n2 hL hM hL2 hM2 h g HD
  obtain ⟨N, hN⟩ : ∃ N, L.length = N := ⟨_, rfl⟩
  obtain ⟨NB, hNB⟩ : ∃ N, M.length = N := ⟨_, rfl⟩
  have hN2 : L2.length = N := n3.symm.trans hN
  have hNB2 : M2.length = NB := n4.symm.trans hNB
  have HNs := Lib.hid (show L.length = N ∧ L2.length = N ∧ M.length = NB ∧ M2.length = NB from ⟨hN, hN2, hNB, hNB2⟩)
  rw [hN] at hv hvl n3 ⊢
  rw [hNB] at hb hbl n4 ⊢
  rw [hN2] at gv gvl n3 ⊢
  rw [hNB2] at gb gbl n4 ⊢
  clear n3 n4 hN hN2 hNB hNB2 gvl gbl
  go_enter Try.func9, Try.ntmps9
  go_wp2_with fail
  go_loopw [5] (fun jj wr => ∃ k m : Nat, k ≤ N ∧ jj = .int .i64 k ∧ Hid (L.take k = L2.take k) ∧ wr = World.drewN ((w.alloc (.cells #[.slice sa N ca, .slice sb NB cb, .int .i64 s.now, .int .i64 s.fault] 31)).alloc (.cells #[.slice ta N da, .slice tb NB db, .int .i64 t.now, .int .i64 t.fault] 31)) m) (fun jj _ => N - (intOf jj).toNat)
  case atStart => exact ⟨0, 0, by omega, rfl, Lib.hid (by simp), rfl⟩
  case round =>
    obtain ⟨k, m, hk, rfl, hst, rfl⟩ := hrel
    by_cases hlt : k < N
    · have HBW := Lib.hid (show Below w.heap.size w ((w.alloc (.cells #[.slice sa N ca, .slice sb NB cb, .int .i64 s.now, .int .i64 s.fault] 31)).alloc (.cells #[.slice ta N da, .slice tb NB db, .int .i64 t.now, .int .i64 t.fault] 31)) by (repeat' (first | (with_reducible exact Below.refl _ _) | (with_reducible assumption) | (with_reducible refine below_drewN ?_ _) | (with_reducible refine Below.alloc ?_ ?_ _) | (with_reducible refine Below.drew ?_) | (with_reducible refine Below.setCell ?_ ?_ _) | go_size)))
      obtain ⟨lr, hx⟩ := get_some (L := L) (n := k) (by have := HNs.out.1; omega)
      obtain ⟨lr2, hx2⟩ := get_some (L := L2) (n := k) (by have := HNs.out.2.1; omega)
      obtain ⟨b, off, rfl, hbw, hc⟩ := rows_at hv (k := k) (lt_of_get hx)
      obtain ⟨b2, off2, rfl, hbw2, hd⟩ := rows_at gv (k := k) (lt_of_get hx2)
      obtain ⟨u1, c0, hu1⟩ := hc k lr hx
      obtain ⟨u2, d0, hu2⟩ := hd k lr2 hx2
      have HX := Lib.hid hx
      have HX2 := Lib.hid hx2
      clear hc hd hx hx2
      go_wp2_with fail
      refine wp_region_held_drew (S := (fun w' => ∃ mm : Nat, w' = World.drewN ((w.alloc (.cells #[.slice (some ⟨b, off, none⟩) N ca, .slice sb NB cb, .int .i64 s.now, .int .i64 s.fault] 31)).alloc (.cells #[.slice (some ⟨b2, off2, none⟩) N da, .slice tb NB db, .int .i64 t.now, .int .i64 t.fault] 31)) mm)) (by kernel_rfl) ?_ (fun hHeld => ?_)
      · (try dsimp only); first | exact ⟨_, rfl⟩ | exact ⟨m + 1, rfl⟩ | exact ⟨_, World.drewN_drewN _ _ _⟩ | (trace_state; fail)
      refine wpAnyH_take (i := 0) (oi := { dst := some 44, op := Op.fieldAddr 31 (Operand.tmp 2) 0, type := 0, pos := _, after := #[], guard := none }) (v := ?_) rfl (by kernel_rfl) (by kernel_rfl) (by kernel_rfl) (fun _ _ _ h => h) (Or.inl ⟨by rfl, ?_⟩) (by assumption) ?_
      rotate_left
      · intro w hSw; (try dsimp only at hSw); first | (go_simp; done) | (go_simp; with_reducible rfl)
      try simp only [Act.put, List.setIfInBounds_toArray, List.set_cons_zero, List.set_cons_succ]
      refine wpAnyH_take (i := 1) (oi := { dst := some 45, op := Op.load 28 (Operand.tmp 44), type := 28, pos := _, after := #[{ on := 0, ground := Ground.data }], guard := none }) (v := ?_) rfl (by kernel_rfl) (by kernel_rfl) (by kernel_rfl) (fun _ _ _ h => h) (Or.inl ⟨by rfl, ?_⟩) (by assumption) ?_
      rotate_left
      · intro wt hSw; (try dsimp only at hSw); obtain ⟨mt, rfl⟩ := hSw; first | (go_simp; done) | (go_simp; with_reducible rfl) | (trace_state; fail)
      try simp only [Act.put, List.setIfInBounds_toArray, List.set_cons_zero, List.set_cons_succ]
      refine wpAnyH_take (i := 2) (oi := { dst := some 46, op := Op.move (Operand.tmp 5), type := 3, pos := _, after := #[], guard := none }) (v := ?_) rfl (by kernel_rfl) (by kernel_rfl) (by kernel_rfl) (fun _ _ _ h => h) (Or.inl ⟨by rfl, ?_⟩) (by assumption) ?_
      rotate_left
      · intro w hSw; (try dsimp only at hSw); first | (go_simp; done) | (go_simp; with_reducible rfl)
      try simp only [Act.put, List.setIfInBounds_toArray, List.set_cons_zero, List.set_cons_succ]
      refine wpAnyH_take (i := 3) (oi := { dst := some 47, op := Op.indexAddr 28 (Operand.tmp 45) (Operand.tmp 46), type := 0, pos := _, after := #[{ on := 1, ground := Ground.data }, { on := 2, ground := Ground.data }], guard := none }) (v := ?_) rfl (by kernel_rfl) (by kernel_rfl) (by kernel_rfl) (fun _ _ _ h => h) (Or.inl ⟨by rfl, ?_⟩) (by assumption) ?_
      rotate_left
      · intro w hSw; (try dsimp only at hSw); first | (go_simp; done) | (go_simp; with_reducible rfl)
      try simp only [Act.put, List.setIfInBounds_toArray, List.set_cons_zero, List.set_cons_succ]
      refine wpAnyH_take (i := 4) (oi := { dst := some 48, op := Op.load 32 (Operand.tmp 47), type := 32, pos := _, after := #[{ on := 3, ground := Ground.data }], guard := none }) (v := ?_) rfl (by kernel_rfl) (by kernel_rfl) (by kernel_rfl) (fun _ _ _ h => h) (Or.inl ⟨by rfl, ?_⟩) (by assumption) ?_
      rotate_left
      · intro wt hSw; (try dsimp only at hSw); obtain ⟨mt, rfl⟩ := hSw; first | (go_simp; done) | (go_simp; with_reducible rfl) | (trace_state; fail)
      try simp only [Act.put, List.setIfInBounds_toArray, List.set_cons_zero, List.set_cons_succ]
      refine wpAnyH_take (i := 5) (oi := { dst := some 49, op := Op.fieldAddr 31 (Operand.tmp 3) 0, type := 0, pos := _, after := #[], guard := none }) (v := ?_) rfl (by kernel_rfl) (by kernel_rfl) (by kernel_rfl) (fun _ _ _ h => h) (Or.inl ⟨by rfl, ?_⟩) (by assumption) ?_
      rotate_left
      · intro w hSw; (try dsimp only at hSw); first | (go_simp; done) | (go_simp; with_reducible rfl)
      try simp only [Act.put, List.setIfInBounds_toArray, List.set_cons_zero, List.set_cons_succ]
      refine wpAnyH_take (i := 6) (oi := { dst := some 50, op := Op.load 28 (Operand.tmp 49), type := 28, pos := _, after := #[{ on := 5, ground := Ground.data }], guard := none }) (v := ?_) rfl (by kernel_rfl) (by kernel_rfl) (by kernel_rfl) (fun _ _ _ h => h) (Or.inl ⟨by rfl, ?_⟩) (by assumption) ?_
      rotate_left
      · intro wt hSw; (try dsimp only at hSw); obtain ⟨mt, rfl⟩ := hSw; first | (go_simp; done) | (go_simp; with_reducible rfl) | (trace_state; fail)
      try simp only [Act.put, List.setIfInBounds_toArray, List.set_cons_zero, List.set_cons_succ]
      refine wpAnyH_take (i := 7) (oi := { dst := some 51, op := Op.move (Operand.tmp 5), type := 3, pos := _, after := #[], guard := none }) (v := ?_) rfl (by kernel_rfl) (by kernel_rfl) (by kernel_rfl) (fun _ _ _ h => h) (Or.inl ⟨by rfl, ?_⟩) (by assumption) ?_
      rotate_left
      · intro w hSw; (try dsimp only at hSw); first | (go_simp; done) | (go_simp; with_reducible rfl)
      try simp only [Act.put, List.setIfInBounds_toArray, List.set_cons_zero, List.set_cons_succ]
      refine wpAnyH_take (i := 8) (oi := { dst := some 52, op := Op.indexAddr 28 (Operand.tmp 50) (Operand.tmp 51), type := 0, pos := _, after := #[{ on := 6, ground := Ground.data }, { on := 7, ground := Ground.data }], guard := none }) (v := ?_) rfl (by kernel_rfl) (by kernel_rfl) (by kernel_rfl) (fun _ _ _ h => h) (Or.inl ⟨by rfl, ?_⟩) (by assumption) ?_
      rotate_left
      · intro w hSw; (try dsimp only at hSw); first | (go_simp; done) | (go_simp; with_reducible rfl)
      try simp only [Act.put, List.setIfInBounds_toArray, List.set_cons_zero, List.set_cons_succ]
      refine wpAnyH_take (i := 9) (oi := { dst := some 53, op := Op.load 32 (Operand.tmp 52), type := 32, pos := _, after := #[{ on := 8, ground := Ground.data }], guard := none }) (v := ?_) rfl (by kernel_rfl) (by kernel_rfl) (by kernel_rfl) (fun _ _ _ h => h) (Or.inl ⟨by rfl, ?_⟩) (by assumption) ?_
      rotate_left
      · intro wt hSw; (try dsimp only at hSw); obtain ⟨mt, rfl⟩ := hSw; first | (go_simp; done) | (go_simp; with_reducible rfl) | (trace_state; fail)
      try simp only [Act.put, List.setIfInBounds_toArray, List.set_cons_zero, List.set_cons_succ]
      refine wpAnyH_ready (rs := [10]) (by kernel_rfl) (by simp) ?_
      refine AllReadyH.cons (o := { dst := some 54, op := Op.call { callee := Callee.value (Operand.func 14), args := #[Operand.tmp 48, Operand.tmp 53], argTypes := #[32, 32] }, type := 4, pos := _, after := #[{ on := 4, ground := Ground.data }, { on := 9, ground := Ground.data }], guard := none }) rfl (fun K hK => ?_) AllReadyH.nil
      go_simp
      refine (ref15_Ints _ _ lr lr2 _ (hu1.below intR_stable (below_drewN HBW.out _)) (hu2.below intR_stable (below_drewN HBW.out _))).mono ?_; rintro e wz ⟨rfl, mz, rfl⟩; generalize hdd : decide (lr = lr2) = dd; have HDD := Lib.hid hdd; clear hdd
      go_wp2_with fail
      refine hK.out _ _ ?_ (fun hHeld => ?_)
      · (try dsimp only); first | exact ⟨_, rfl⟩ | exact ⟨m + 1, rfl⟩ | exact ⟨_, World.drewN_drewN _ _ _⟩ | (trace_state; fail)
      clear hK K
      try simp only [Act.put, List.setIfInBounds_toArray, List.set_cons_zero, List.set_cons_succ]
      refine wpAnyH_take (i := 11) (oi := { dst := some 55, op := Op.unOp UnOp.not 4 (Operand.tmp 54), type := 4, pos := _, after := #[{ on := 10, ground := Ground.data }], guard := none }) (v := ?_) rfl (by kernel_rfl) (by kernel_rfl) (by kernel_rfl) (fun _ _ _ h => h) (Or.inl ⟨by rfl, ?_⟩) (by assumption) ?_
      rotate_left
      · intro w hSw; (try dsimp only at hSw); first | (go_simp; done) | (go_simp; with_reducible rfl)
      try simp only [Act.put, List.setIfInBounds_toArray, List.set_cons_zero, List.set_cons_succ]
      refine wpAnyH_done (by kernel_rfl) ?_ _
      cases dd
      · have hs := Lib.hid (HN1.out (fun hq => (of_decide_eq_false HDD.out) (by have h1 := HX.out; have h2 := HX2.out; rw [hq, h2] at h1; exact (Option.some.inj h1).symm)))
        go_wp2_with fail
        go_ret
        exact ⟨by rw [hs.out]; rfl, below_drewN (by (repeat' (first | (with_reducible exact Below.refl _ _) | (with_reducible assumption) | (with_reducible refine below_drewN ?_ _) | (with_reducible refine Below.alloc ?_ ?_ _) | (with_reducible refine Below.drew ?_) | (with_reducible refine Below.setCell ?_ ?_ _) | go_size))) _⟩
      · have hs := Lib.hid (show L.take (k + 1) = L2.take (k + 1) by rw [take_snoc HX.out, take_snoc HX2.out, hst.out, of_decide_eq_true HDD.out])
        go_wp2_with fail
        go_roundw
        case rel => exact ⟨k + 1, _, by omega, by simp, hs, by first | rfl | exact World.drewN_drewN _ _ _⟩
        case measure => first | (simp [intOf]; done) | (simp [intOf]; omega)
    · obtain rfl : k = N := by omega
      have HE := Lib.hid (show L = L2 by have := hst.out; rw [List.take_of_length_le (by have := HNs.out.1; omega), List.take_of_length_le (by have := HNs.out.2.1; omega)] at this; exact this)
      clear hst
      go_wp2_with fail
      go_loopw [6] (fun jj wr => ∃ q m : Nat, q ≤ NB ∧ jj = .int .i64 q ∧ Hid (M.take q = M2.take q) ∧ wr = World.drewN ((w.alloc (.cells #[.slice sa k ca, .slice sb NB cb, .int .i64 s.now, .int .i64 s.fault] 31)).alloc (.cells #[.slice ta k da, .slice tb NB db, .int .i64 t.now, .int .i64 t.fault] 31)) m) (fun jj _ => NB - (intOf jj).toNat)
      case atStart => exact ⟨0, m, by omega, rfl, Lib.hid (by simp), rfl⟩
      case round =>
        obtain ⟨q, m, hq, rfl, hst, rfl⟩ := hrel
        by_cases hlq : q < NB
        · obtain ⟨x, hx⟩ := get_some (L := M) (n := q) (by have := HNs.out.2.2.1; omega)
          obtain ⟨y, hy⟩ := get_some (L := M2) (n := q) (by have := HNs.out.2.2.2; omega)
          obtain ⟨b, off, rfl, hbw, hc⟩ := insts_at hb (k := q) (lt_of_get hx)
          obtain ⟨b2, off2, rfl, hbw2, hd⟩ := insts_at gb (k := q) (lt_of_get hy)
          obtain ⟨hx10, hcx⟩ := hc q x hx
          obtain ⟨hy10, hdx⟩ := hd q y hy
          have hne := fun W => neq_inst W hx10 hy10
          generalize hdd : decide (x = y) = dd at hne
          have HDD := Lib.hid hdd
          have HX := Lib.hid hx
          have HX2 := Lib.hid hy
          obtain ⟨x0, x1, x2, x3, x4, x5, x6, x7, x8, x9, rfl⟩ := ten hx10
          obtain ⟨y0, y1, y2, y3, y4, y5, y6, y7, y8, y9, rfl⟩ := ten hy10
          obtain ⟨c0, c1, c2, c3, c4, c5, c6, c7, c8, c9⟩ := cells10 hcx (Below.refl _ _) hbw
          obtain ⟨d0, d1, d2, d3, d4, d5, d6, d7, d8, d9⟩ := cells10 hdx (Below.refl _ _) hbw2
          have hne : ∀ W, (binOp .neq 56 (.agg #[.int .i64 x0, .int .i64 x1, .int .i64 x2, .int .i64 x3, .int .i64 x4, .int .i64 x5, .int .i64 x6, .int .i64 x7, .int .i64 x8, .int .i64 x9]) (.agg #[.int .i64 y0, .int .i64 y1, .int .i64 y2, .int .i64 y3, .int .i64 y4, .int .i64 y5, .int .i64 y6, .int .i64 y7, .int .i64 y8, .int .i64 y9])).run Try.prog W = .ok (.bool (!dd)) W := hne
          clear hc hd hx hy hcx hdx hx10 hy10 hdd
          go_wp2_with fail
          refine wp_region_held_drew (S := (fun w' => ∃ mm : Nat, w' = World.drewN ((w.alloc (.cells #[.slice sa k ca, .slice (some ⟨b, off, none⟩) NB cb, .int .i64 s.now, .int .i64 s.fault] 31)).alloc (.cells #[.slice ta k da, .slice (some ⟨b2, off2, none⟩) NB db, .int .i64 t.now, .int .i64 t.fault] 31)) mm)) (by kernel_rfl) ?_ (fun hHeld => ?_)
          · (try dsimp only); first | exact ⟨_, rfl⟩ | exact ⟨m + 1, rfl⟩ | exact ⟨_, World.drewN_drewN _ _ _⟩ | (trace_state; fail)
          refine wpAnyH_take (i := 0) (oi := { dst := some 63, op := Op.fieldAddr 31 (Operand.tmp 2) 1, type := 0, pos := _, after := #[], guard := none }) (v := ?_) rfl (by kernel_rfl) (by kernel_rfl) (by kernel_rfl) (fun _ _ _ h => h) (Or.inl ⟨by rfl, ?_⟩) (by assumption) ?_
          rotate_left
          · intro w hSw; (try dsimp only at hSw); first | (go_simp; done) | (go_simp; with_reducible rfl)
          try simp only [Act.put, List.setIfInBounds_toArray, List.set_cons_zero, List.set_cons_succ]
          refine wpAnyH_take (i := 1) (oi := { dst := some 64, op := Op.load 29 (Operand.tmp 63), type := 29, pos := _, after := #[{ on := 0, ground := Ground.data }], guard := none }) (v := ?_) rfl (by kernel_rfl) (by kernel_rfl) (by kernel_rfl) (fun _ _ _ h => h) (Or.inl ⟨by rfl, ?_⟩) (by assumption) ?_
          rotate_left
          · intro wt hSw; (try dsimp only at hSw); obtain ⟨mt, rfl⟩ := hSw; first | (go_simp; done) | (go_simp; with_reducible rfl) | (trace_state; fail)
          try simp only [Act.put, List.setIfInBounds_toArray, List.set_cons_zero, List.set_cons_succ]
          refine wpAnyH_take (i := 2) (oi := { dst := some 65, op := Op.move (Operand.tmp 6), type := 3, pos := _, after := #[], guard := none }) (v := ?_) rfl (by kernel_rfl) (by kernel_rfl) (by kernel_rfl) (fun _ _ _ h => h) (Or.inl ⟨by rfl, ?_⟩) (by assumption) ?_
          rotate_left
          · intro w hSw; (try dsimp only at hSw); first | (go_simp; done) | (go_simp; with_reducible rfl)
          try simp only [Act.put, List.setIfInBounds_toArray, List.set_cons_zero, List.set_cons_succ]
          refine wpAnyH_take (i := 3) (oi := { dst := some 66, op := Op.indexAddr 29 (Operand.tmp 64) (Operand.tmp 65), type := 0, pos := _, after := #[{ on := 1, ground := Ground.data }, { on := 2, ground := Ground.data }], guard := none }) (v := ?_) rfl (by kernel_rfl) (by kernel_rfl) (by kernel_rfl) (fun _ _ _ h => h) (Or.inl ⟨by rfl, ?_⟩) (by assumption) ?_
          rotate_left
          · intro w hSw; (try dsimp only at hSw); first | (go_simp; done) | (go_simp; with_reducible rfl)
          try simp only [Act.put, List.setIfInBounds_toArray, List.set_cons_zero, List.set_cons_succ]
          refine wpAnyH_take (i := 4) (oi := { dst := some 67, op := Op.load 56 (Operand.tmp 66), type := 56, pos := _, after := #[{ on := 3, ground := Ground.data }], guard := none }) (v := ?_) rfl (by kernel_rfl) (by kernel_rfl) (by kernel_rfl) (fun _ _ _ h => h) (Or.inl ⟨by rfl, ?_⟩) (by assumption) ?_
          rotate_left
          · intro wt hSw; (try dsimp only at hSw); obtain ⟨mt, rfl⟩ := hSw; first | (go_simp; done) | (go_simp; with_reducible rfl) | (trace_state; fail)
          try simp only [Act.put, List.setIfInBounds_toArray, List.set_cons_zero, List.set_cons_succ]
          refine wpAnyH_take (i := 5) (oi := { dst := some 68, op := Op.fieldAddr 31 (Operand.tmp 3) 1, type := 0, pos := _, after := #[], guard := none }) (v := ?_) rfl (by kernel_rfl) (by kernel_rfl) (by kernel_rfl) (fun _ _ _ h => h) (Or.inl ⟨by rfl, ?_⟩) (by assumption) ?_
          rotate_left
          · intro w hSw; (try dsimp only at hSw); first | (go_simp; done) | (go_simp; with_reducible rfl)
          try simp only [Act.put, List.setIfInBounds_toArray, List.set_cons_zero, List.set_cons_succ]
          refine wpAnyH_take (i := 6) (oi := { dst := some 69, op := Op.load 29 (Operand.tmp 68), type := 29, pos := _, after := #[{ on := 5, ground := Ground.data }], guard := none }) (v := ?_) rfl (by kernel_rfl) (by kernel_rfl) (by kernel_rfl) (fun _ _ _ h => h) (Or.inl ⟨by rfl, ?_⟩) (by assumption) ?_
          rotate_left
          · intro wt hSw; (try dsimp only at hSw); obtain ⟨mt, rfl⟩ := hSw; first | (go_simp; done) | (go_simp; with_reducible rfl) | (trace_state; fail)
          try simp only [Act.put, List.setIfInBounds_toArray, List.set_cons_zero, List.set_cons_succ]
          refine wpAnyH_take (i := 7) (oi := { dst := some 70, op := Op.move (Operand.tmp 6), type := 3, pos := _, after := #[], guard := none }) (v := ?_) rfl (by kernel_rfl) (by kernel_rfl) (by kernel_rfl) (fun _ _ _ h => h) (Or.inl ⟨by rfl, ?_⟩) (by assumption) ?_
          rotate_left
          · intro w hSw; (try dsimp only at hSw); first | (go_simp; done) | (go_simp; with_reducible rfl)
          try simp only [Act.put, List.setIfInBounds_toArray, List.set_cons_zero, List.set_cons_succ]
          refine wpAnyH_take (i := 8) (oi := { dst := some 71, op := Op.indexAddr 29 (Operand.tmp 69) (Operand.tmp 70), type := 0, pos := _, after := #[{ on := 6, ground := Ground.data }, { on := 7, ground := Ground.data }], guard := none }) (v := ?_) rfl (by kernel_rfl) (by kernel_rfl) (by kernel_rfl) (fun _ _ _ h => h) (Or.inl ⟨by rfl, ?_⟩) (by assumption) ?_
          rotate_left
          · intro w hSw; (try dsimp only at hSw); first | (go_simp; done) | (go_simp; with_reducible rfl)
          try simp only [Act.put, List.setIfInBounds_toArray, List.set_cons_zero, List.set_cons_succ]
          refine wpAnyH_take (i := 9) (oi := { dst := some 72, op := Op.load 56 (Operand.tmp 71), type := 56, pos := _, after := #[{ on := 8, ground := Ground.data }], guard := none }) (v := ?_) rfl (by kernel_rfl) (by kernel_rfl) (by kernel_rfl) (fun _ _ _ h => h) (Or.inl ⟨by rfl, ?_⟩) (by assumption) ?_
          rotate_left
          · intro wt hSw; (try dsimp only at hSw); obtain ⟨mt, rfl⟩ := hSw; first | (go_simp; done) | (go_simp; with_reducible rfl) | (trace_state; fail)
          try simp only [Act.put, List.setIfInBounds_toArray, List.set_cons_zero, List.set_cons_succ]
          refine wpAnyH_take (i := 10) (oi := { dst := some 73, op := Op.binOp BinOp.neq 56 (Operand.tmp 67) (Operand.tmp 72) 56, type := 4, pos := _, after := #[{ on := 4, ground := Ground.data }, { on := 9, ground := Ground.data }], guard := none }) (v := ?_) rfl (by kernel_rfl) (by kernel_rfl) (by kernel_rfl) (fun _ _ _ h => h) (Or.inl ⟨by rfl, ?_⟩) (by assumption) ?_
          rotate_left
          · intro w hSw; (try dsimp only at hSw); first | (go_simp; done) | (go_simp; with_reducible rfl)
          try simp only [Act.put, List.setIfInBounds_toArray, List.set_cons_zero, List.set_cons_succ]
          refine wpAnyH_done (by kernel_rfl) ?_ _
          cases dd
          · have hs := Lib.hid (HN2.out (fun hq => (of_decide_eq_false HDD.out) (by have h1 := HX.out; have h2 := HX2.out; rw [hq, h2] at h1; exact (Option.some.inj h1).symm)))
            go_wp2_with fail
            go_ret
            exact ⟨by rw [hs.out]; rfl, below_drewN (by (repeat' (first | (with_reducible exact Below.refl _ _) | (with_reducible assumption) | (with_reducible refine below_drewN ?_ _) | (with_reducible refine Below.alloc ?_ ?_ _) | (with_reducible refine Below.drew ?_) | (with_reducible refine Below.setCell ?_ ?_ _) | go_size))) _⟩
          · have hs := Lib.hid (show M.take (q + 1) = M2.take (q + 1) by rw [take_snoc HX.out, take_snoc HX2.out, hst.out, of_decide_eq_true HDD.out])
            go_wp2_with fail
            go_roundw
            case rel => exact ⟨q + 1, _, by omega, by simp, hs, by first | rfl | exact World.drewN_drewN _ _ _⟩
            case measure => first | (simp [intOf]; done) | (simp [intOf]; omega)
        · obtain rfl : q = NB := by omega
          have hs := Lib.hid (HY.out HE.out (by have := hst.out; rw [List.take_of_length_le (by have := HNs.out.2.2.1; omega), List.take_of_length_le (by have := HNs.out.2.2.2; omega)] at this; exact this))
          clear hst
          go_wp2_with fail
          go_ret
          exact ⟨by rw [hs.out]; rfl, below_drewN (by (repeat' (first | (with_reducible exact Below.refl _ _) | (with_reducible assumption) | (with_reducible refine below_drewN ?_ _) | (with_reducible refine Below.alloc ?_ ?_ _) | (with_reducible refine Below.drew ?_) | (with_reducible refine Below.setCell ?_ ?_ _) | go_size))) _⟩
end Go.Proofs.Ytpnnmhcemecjfaa
