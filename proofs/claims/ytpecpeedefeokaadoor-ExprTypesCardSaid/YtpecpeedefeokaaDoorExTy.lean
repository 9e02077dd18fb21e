/- expr.Type. -/
import Derived.Test.YtpecpeedefeokaaDoorExD
import Derived.Test.YtpecpeedefeokaaDoorExC
namespace Go.Proofs.YtpecpeedefeokaaDoor
open Go.RowKit
set_option linter.unusedSimpArgs false
set_option linter.unusedVariables false
def typeM (s : Sc) (e : Ex) : List Int → Int
  | [] => leafT s e
  | [a] => singleT s e a
  | [a, b] => doubleT e a b
  | _ => 0
theorem typeF_m (s : Sc) (e : Ex) (ts : List Int) : typeF s e ts = if ts.any (· == 0) then 0 else typeM s e ts := by
  unfold typeF typeM
  rfl
theorem any_zero_yes {L : List Int} {k : Nat} (h : L[k]? = some 0) : L.any (· == 0) = true := List.any_eq_true.2 ⟨0, List.mem_of_getElem? h, rfl⟩
set_option maxHeartbeats 4000000 in
theorem type_1 (p : Nat) (a b c d : Value) (s : Sc) (e : Ex) (v u : Value) (L : List Int) (w : World) (hs : ScAt w a b d s) (hv : ExV w v e) (hg : AGoes w) (hT : BTab w) (hu : RowR 1 intR w u L)
    (c0 : w.cell? ⟨p, 0, none⟩ = some a) (c1 : w.cell? ⟨p, 1, none⟩ = some b) (c2 : w.cell? ⟨p, 2, none⟩ = some c) (c3 : w.cell? ⟨p, 3, none⟩ = some d) :
    Calls Tryd.prog 24 #[v, u, .pointer (some ⟨p, 0, none⟩)] w fun r w' => r = .returned (.int .i64 (typeF s e L)) ∧ Below w.heap.size w w' := by
  have HLf := Lib.hid (fun W (h : Below w.heap.size w W) => expr_leaf a b c d s e v W (hs.below h) (hv.below h) (hT.below h))
  have HSg := Lib.hid (fun t W (h : Below w.heap.size w W) => expr_single a b c d s e v t W (hs.below h) (hv.below h) (hg.below h))
  have HDb := Lib.hid (fun t t' W (h : Below w.heap.size w W) => expr_double e v t t' W (hv.below h) (hg.below h))
  have HTy := Lib.hid (typeF_m s e L)
  generalize typeF s e L = R at *
  obtain ⟨sl, rfl, _, _⟩ := hv
  have HU := Lib.hid (fun W (h : Below w.heap.size w W) => hu.below intR_stable h)
  obtain ⟨sa, sc, rfl⟩ := row_get hu
  have hlen63 := hu.len
  obtain ⟨N, hN⟩ : ∃ N, L.length = N := ⟨_, rfl⟩
  have HN := Lib.hid hN
  rw [hN] at HU hlen63 ⊢
  have z0 := World.block_lt_of_cell? _ _ c0
  obtain ⟨W0, hW0⟩ : ∃ W0, W0 = w.alloc (.cells #[.int .i64 e.op, .int .i64 e.t, .int .i64 e.n, .int .i64 e.m, sl] 30) := ⟨_, rfl⟩
  have hbW : Below w.heap.size w W0 := by rw [hW0]; exact by (repeat' (first | (with_reducible exact Below.refl _ _) | (with_reducible assumption) | (with_reducible refine below_drewN ?_ _) | (with_reducible refine Below.alloc ?_ ?_ _) | (with_reducible refine Below.drew ?_) | (with_reducible refine Below.setCell ?_ ?_ _) | go_size))
  have c0 := (hbW.cell (p := ⟨p, 0, none⟩) z0).trans c0
  have c1 := (hbW.cell (p := ⟨p, 1, none⟩) z0).trans c1
  have c2 := (hbW.cell (p := ⟨p, 2, none⟩) z0).trans c2
  have c3 := (hbW.cell (p := ⟨p, 3, none⟩) z0).trans c3
  have z0 : p < W0.heap.size := Nat.lt_of_lt_of_le z0 hbW.size
  have oE : W0.heap[w.heap.size]? = some (.cells #[.int .i64 e.op, .int .i64 e.t, .int .i64 e.n, .int .i64 e.m, sl] 30) := by rw [hW0]; exact get_last rfl
  have zE := heap_lt oE
  have e0 : W0.cell? ⟨w.heap.size, 0, none⟩ = some (.int .i64 e.op) := obj_cell oE (i := 0) rfl
  have e1 : W0.cell? ⟨w.heap.size, 1, none⟩ = some (.int .i64 e.t) := obj_cell oE (i := 1) rfl
  have e2 : W0.cell? ⟨w.heap.size, 2, none⟩ = some (.int .i64 e.n) := obj_cell oE (i := 2) rfl
  have e3 : W0.cell? ⟨w.heap.size, 3, none⟩ = some (.int .i64 e.m) := obj_cell oE (i := 3) rfl
  have e4 : W0.cell? ⟨w.heap.size, 4, none⟩ = some sl := obj_cell oE (i := 4) rfl
  have HB0 := Lib.hid hbW
  have HW0 := Lib.hid hW0
  generalize e.op = o1 at *
  generalize e.t = o2 at *
  generalize e.n = o3 at *
  generalize e.m = o4 at *
  clear hu hN hs hT hg hW0 hbW oE
  go_enter Tryd.func24, Tryd.ntmps24
  go_wp2_with fail
  rw [← HW0.out]
  go_loopw [10] (fun jj wr => ∃ k : Nat, k ≤ N ∧ jj = .int .i64 k ∧ Hid (∀ i, i < k → ∀ x, L[i]? = some x → (x == 0) = false) ∧ wr = W0) (fun jj _ => N - (intOf jj).toNat)
  case atStart => exact ⟨0, by omega, rfl, Lib.hid (fun i h => by omega), rfl⟩
  case round =>
    obtain ⟨k, hk, rfl, hall, hwr⟩ := hrel
    have hwr := hwr.symm
    subst hwr
    by_cases hlt : k < N
    · have qk : ((k : Int) < (N : Int)) = True := eq_true (by omega)
      have qk' : (k < N) = True := eq_true hlt
      have hU := HU.out _ HB0.out
      obtain ⟨x, hx⟩ := get_some (L := L) (n := k) (by rw [HN.out]; exact hlt)
      obtain ⟨b1, off, rfl, hbw, hc⟩ := ints_at hU (k := k) (by rw [HN.out]; exact hlt)
      have hc := (hc k x hx).1
      have HLT := Lib.hid hlt
      have hk63 : k ≤ 9223372036854775806 := by omega
      by_cases hx0 : x = 0
      · subst hx0
        have hR := Lib.hid (show R = 0 by rw [HTy.out, any_zero_yes hx]; rfl)
        clear hx hU hlt
        go_wp2_with fail
        go_ret
        exact ⟨by rw [hR.out]; rfl, HB0.out⟩
      · have hxe : (x == 0) = false := by simpa using hx0
        have hs := Lib.hid (show ∀ i, i < k + 1 → ∀ x, L[i]? = some x → (x == 0) = false from fun i hi y hy => by
          rcases (show i < k ∨ i = k by omega) with h | rfl
          · exact hall.out i h y hy
          · rw [hx] at hy; obtain rfl := Option.some.inj hy; exact hxe)
        clear hx hU hlt hx0
        go_wp2_with fail
        go_roundw
        case rel => exact ⟨k + 1, by have := HLT.out; omega, by simp, hs, by first | rfl | trivial⟩
        case measure => have := HLT.out; first | (simp [intOf]; done) | (simp [intOf]; omega)
    · obtain rfl : k = N := by omega
      have qk : ((k : Int) < (k : Int)) = False := eq_false (by omega)
      have qk' : (k < k) = False := eq_false (by omega)
      have hany : L.any (· == 0) = false := List.any_eq_false.2 (fun x hx => by
        obtain ⟨i, hi, rfl⟩ := List.getElem_of_mem hx
        have := hall.out i (by rw [← HN.out]; exact hi) L[i] (List.getElem?_eq_getElem hi)
        rw [this]; simp)
      have HTy := Lib.hid (show R = typeM s e L by rw [HTy.out, hany]; rfl)
      have hU := HU.out _ HB0.out
      clear hall hlt hany hlen63 HU
      by_cases n0 : k = 0
      · subst n0
        obtain rfl : L = [] := List.length_eq_zero_iff.1 HN.out
        have hR := Lib.hid (show R = leafT s e from HTy.out)
        clear hU
        go_wp2_with fail
        refine (HLf.out _ HB0.out).mono ?_; rintro r w2 ⟨rfl, hb2⟩
        have HBE := Lib.hid (HB0.out.trans (hb2.mono HB0.out.size))
        clear hb2
        go_wp2_with fail
        go_ret
        exact ⟨by rw [hR.out]; rfl, HBE.out⟩
      have n0e : ((k : Int) == 0) = false := by simpa using n0
      by_cases n1 : k = 1
      · subst n1
        obtain ⟨x, rfl⟩ : ∃ x, L = [x] := List.length_eq_one_iff.1 HN.out
        have hR := Lib.hid (show R = singleT s e x from HTy.out)
        obtain ⟨b1, off, rfl, hbw, hc⟩ := ints_at hU (k := 0) (by simp)
        have hc : W0.cell? ⟨b1, off, none⟩ = some (.int .i64 x) := (hc 0 x rfl).1
        have hcap := cap_row hU (k := 0) (by omega)
        have HS1 := Lib.hid (fun W (h : Below W0.heap.size W0 W) => HSg.out x W (HB0.out.trans (h.mono HB0.out.size)))
        clear hU
        go_upto_region 11 with fail
        refine wp_region_held_drew (S := (fun w' => Below W0.heap.size W0 w')) (by kernel_rfl) ?_ (fun hHeld => ?_)
        · (try dsimp only); first | assumption | exact Below.alloc hHeld hHeld.size _ | exact (Below.refl _ _).drew | exact Below.drew (Below.refl _ _) | exact Below_drewN _ _ _ | exact Below.refl _ _ | (trace_state; fail)
        refine wpAnyH_take (i := 0) (oi := { dst := some 26, op := Op.load 37 (Operand.tmp 2), type := 37, pos := _, after := #[], guard := none }) (v := ?_) rfl (by kernel_rfl) (by kernel_rfl) (by kernel_rfl) (fun _ _ _ h => h) (Or.inl ⟨by rfl, ?_⟩) (by assumption) ?_
        rotate_left
        · intro wt hSw; (try dsimp only at hSw); have c0 := cellB hSw c0 z0; have c1 := cellB hSw c1 z0; have c2 := cellB hSw c2 z0; have c3 := cellB hSw c3 z0; have e0 := cellB hSw e0 zE; have e1 := cellB hSw e1 zE; have e2 := cellB hSw e2 zE; have e3 := cellB hSw e3 zE; have e4 := cellB hSw e4 zE; have hc := cellB hSw hc hbw; first | (go_simp; done) | (go_simp; with_reducible rfl) | (trace_state; fail)
        try simp only [Act.put, List.setIfInBounds_toArray, List.set_cons_zero, List.set_cons_succ]
        refine wpAnyH_take (i := 1) (oi := { dst := some 27, op := Op.load 30 (Operand.tmp 3), type := 30, pos := _, after := #[], guard := none }) (v := ?_) rfl (by kernel_rfl) (by kernel_rfl) (by kernel_rfl) (fun _ _ _ h => h) (Or.inl ⟨by rfl, ?_⟩) (by assumption) ?_
        rotate_left
        · intro wt hSw; (try dsimp only at hSw); have c0 := cellB hSw c0 z0; have c1 := cellB hSw c1 z0; have c2 := cellB hSw c2 z0; have c3 := cellB hSw c3 z0; have e0 := cellB hSw e0 zE; have e1 := cellB hSw e1 zE; have e2 := cellB hSw e2 zE; have e3 := cellB hSw e3 zE; have e4 := cellB hSw e4 zE; have hc := cellB hSw hc hbw; first | (go_simp; done) | (go_simp; with_reducible rfl) | (trace_state; fail)
        try simp only [Act.put, List.setIfInBounds_toArray, List.set_cons_zero, List.set_cons_succ]
        refine wpAnyH_take (i := 2) (oi := { dst := some 28, op := Op.move (Operand.tmp 1), type := 35, pos := _, after := #[], guard := none }) (v := ?_) rfl (by kernel_rfl) (by kernel_rfl) (by kernel_rfl) (fun _ _ _ h => h) (Or.inl ⟨by rfl, ?_⟩) (by assumption) ?_
        rotate_left
        · intro wt hSw; (try dsimp only at hSw); have c0 := cellB hSw c0 z0; have c1 := cellB hSw c1 z0; have c2 := cellB hSw c2 z0; have c3 := cellB hSw c3 z0; have e0 := cellB hSw e0 zE; have e1 := cellB hSw e1 zE; have e2 := cellB hSw e2 zE; have e3 := cellB hSw e3 zE; have e4 := cellB hSw e4 zE; have hc := cellB hSw hc hbw; first | (go_simp; done) | (go_simp; with_reducible rfl) | (trace_state; fail)
        try simp only [Act.put, List.setIfInBounds_toArray, List.set_cons_zero, List.set_cons_succ]
        refine wpAnyH_take (i := 3) (oi := { dst := some 29, op := Op.indexAddr 35 (Operand.tmp 28) (Operand.const (Value.int IntKind.i64 0)), type := 0, pos := _, after := #[{ on := 2, ground := Ground.data }], guard := none }) (v := ?_) rfl (by kernel_rfl) (by kernel_rfl) (by kernel_rfl) (fun _ _ _ h => h) (Or.inl ⟨by rfl, ?_⟩) (by assumption) ?_
        rotate_left
        · intro wt hSw; (try dsimp only at hSw); have c0 := cellB hSw c0 z0; have c1 := cellB hSw c1 z0; have c2 := cellB hSw c2 z0; have c3 := cellB hSw c3 z0; have e0 := cellB hSw e0 zE; have e1 := cellB hSw e1 zE; have e2 := cellB hSw e2 zE; have e3 := cellB hSw e3 zE; have e4 := cellB hSw e4 zE; have hc := cellB hSw hc hbw; first | (go_simp; done) | (go_simp; with_reducible rfl) | (trace_state; fail)
        try simp only [Act.put, List.setIfInBounds_toArray, List.set_cons_zero, List.set_cons_succ]
        refine wpAnyH_take (i := 4) (oi := { dst := some 30, op := Op.load 3 (Operand.tmp 29), type := 3, pos := _, after := #[{ on := 3, ground := Ground.data }], guard := none }) (v := ?_) rfl (by kernel_rfl) (by kernel_rfl) (by kernel_rfl) (fun _ _ _ h => h) (Or.inl ⟨by rfl, ?_⟩) (by assumption) ?_
        rotate_left
        · intro wt hSw; (try dsimp only at hSw); have c0 := cellB hSw c0 z0; have c1 := cellB hSw c1 z0; have c2 := cellB hSw c2 z0; have c3 := cellB hSw c3 z0; have e0 := cellB hSw e0 zE; have e1 := cellB hSw e1 zE; have e2 := cellB hSw e2 zE; have e3 := cellB hSw e3 zE; have e4 := cellB hSw e4 zE; have hc := cellB hSw hc hbw; first | (go_simp; done) | (go_simp; with_reducible rfl) | (trace_state; fail)
        try simp only [Act.put, List.setIfInBounds_toArray, List.set_cons_zero, List.set_cons_succ]
        refine wpAnyH_ready (rs := [5]) (by kernel_rfl) (by simp) ?_
        refine AllReadyH.cons (o := { dst := some 31, op := Op.call { callee := Callee.value (Operand.func 26), args := #[Operand.tmp 26, Operand.tmp 27, Operand.tmp 30], argTypes := #[37, 30, 3] }, type := 3, pos := _, after := #[{ on := 0, ground := Ground.data }, { on := 1, ground := Ground.data }, { on := 4, ground := Ground.data }], guard := none }) rfl (fun K hK => ?_) AllReadyH.nil
        go_simp
        refine (HS1.out _ hHeld).mono ?_; rintro r w2 ⟨rfl, hb⟩; have hHeld := hHeld.trans (hb.mono hHeld.size)
        go_wp2_with fail
        refine hK.out _ _ ?_ (fun hHeld => ?_)
        · (try dsimp only); first | assumption | exact Below.alloc hHeld hHeld.size _ | exact (Below.refl _ _).drew | exact Below.drew (Below.refl _ _) | exact Below_drewN _ _ _ | exact Below.refl _ _ | (trace_state; fail)
        clear hK K
        try simp only [Act.put, List.setIfInBounds_toArray, List.set_cons_zero, List.set_cons_succ]
        refine wpAnyH_take (i := 6) (oi := { dst := some 5, op := Op.assign (Operand.tmp 31), type := 3, pos := _, after := #[{ on := 5, ground := Ground.data }, { on := 5, ground := Ground.chain }, { on := 0, ground := Ground.phase }, { on := 1, ground := Ground.phase }, { on := 2, ground := Ground.phase }, { on := 3, ground := Ground.phase }, { on := 4, ground := Ground.phase }, { on := 5, ground := Ground.phase }], guard := none }) (v := ?_) rfl (by kernel_rfl) (by kernel_rfl) (by kernel_rfl) (fun _ _ _ h => h) (Or.inl ⟨by rfl, ?_⟩) (by assumption) ?_
        rotate_left
        · intro wt hSw; (try dsimp only at hSw); have c0 := cellB hSw c0 z0; have c1 := cellB hSw c1 z0; have c2 := cellB hSw c2 z0; have c3 := cellB hSw c3 z0; have e0 := cellB hSw e0 zE; have e1 := cellB hSw e1 zE; have e2 := cellB hSw e2 zE; have e3 := cellB hSw e3 zE; have e4 := cellB hSw e4 zE; have hc := cellB hSw hc hbw; first | (go_simp; done) | (go_simp; with_reducible rfl) | (trace_state; fail)
        try simp only [Act.put, List.setIfInBounds_toArray, List.set_cons_zero, List.set_cons_succ]
        refine wpAnyH_done (by kernel_rfl) ?_ _
        have HHw := Lib.hid (HB0.out.trans (hHeld.mono HB0.out.size))
        clear hHeld
        go_wp2_with fail
        go_ret
        exact ⟨by rw [hR.out]; rfl, HHw.out⟩
      have n1e : ((k : Int) == 1) = false := by have : ¬ ((k : Int) = 1) := by omega
                                                simpa using this
      by_cases n2 : k = 2
      · subst n2
        obtain ⟨x, y, rfl⟩ : ∃ x y, L = [x, y] := by
          have h := HN.out
          match L, h with
          | [x, y], _ => exact ⟨x, y, rfl⟩
        have hR := Lib.hid (show R = doubleT e x y from HTy.out)
        obtain ⟨b1, off, rfl, hbw, hcc⟩ := ints_at hU (k := 0) (by simp)
        have hc0 : W0.cell? ⟨b1, off, none⟩ = some (.int .i64 x) := (hcc 0 x rfl).1
        have hc1 : W0.cell? ⟨b1, off + 1, none⟩ = some (.int .i64 y) := (hcc 1 y rfl).1
        have hcap := cap_row hU (k := 0) (by omega)
        have HS1 := Lib.hid (fun W (h : Below W0.heap.size W0 W) => HDb.out x y W (HB0.out.trans (h.mono HB0.out.size)))
        clear hU hcc
        go_upto_region 13 with fail
        refine wp_region_held_drew (S := (fun w' => Below W0.heap.size W0 w')) (by kernel_rfl) ?_ (fun hHeld => ?_)
        · (try dsimp only); first | assumption | exact Below.alloc hHeld hHeld.size _ | exact (Below.refl _ _).drew | exact Below.drew (Below.refl _ _) | exact Below_drewN _ _ _ | exact Below.refl _ _ | (trace_state; fail)
        refine wpAnyH_take (i := 0) (oi := { dst := some 34, op := Op.load 30 (Operand.tmp 3), type := 30, pos := _, after := #[], guard := none }) (v := ?_) rfl (by kernel_rfl) (by kernel_rfl) (by kernel_rfl) (fun _ _ _ h => h) (Or.inl ⟨by rfl, ?_⟩) (by assumption) ?_
        rotate_left
        · intro wt hSw; (try dsimp only at hSw); have e0 := cellB hSw e0 zE; have e1 := cellB hSw e1 zE; have e2 := cellB hSw e2 zE; have e3 := cellB hSw e3 zE; have e4 := cellB hSw e4 zE; have hc0 := cellB hSw hc0 hbw; have hc1 := cellB hSw hc1 hbw; first | (go_simp; done) | (go_simp; with_reducible rfl) | (trace_state; fail)
        try simp only [Act.put, List.setIfInBounds_toArray, List.set_cons_zero, List.set_cons_succ]
        refine wpAnyH_take (i := 1) (oi := { dst := some 35, op := Op.move (Operand.tmp 1), type := 35, pos := _, after := #[], guard := none }) (v := ?_) rfl (by kernel_rfl) (by kernel_rfl) (by kernel_rfl) (fun _ _ _ h => h) (Or.inl ⟨by rfl, ?_⟩) (by assumption) ?_
        rotate_left
        · intro wt hSw; (try dsimp only at hSw); have e0 := cellB hSw e0 zE; have e1 := cellB hSw e1 zE; have e2 := cellB hSw e2 zE; have e3 := cellB hSw e3 zE; have e4 := cellB hSw e4 zE; have hc0 := cellB hSw hc0 hbw; have hc1 := cellB hSw hc1 hbw; first | (go_simp; done) | (go_simp; with_reducible rfl) | (trace_state; fail)
        try simp only [Act.put, List.setIfInBounds_toArray, List.set_cons_zero, List.set_cons_succ]
        refine wpAnyH_take (i := 2) (oi := { dst := some 36, op := Op.indexAddr 35 (Operand.tmp 35) (Operand.const (Value.int IntKind.i64 0)), type := 0, pos := _, after := #[{ on := 1, ground := Ground.data }], guard := none }) (v := ?_) rfl (by kernel_rfl) (by kernel_rfl) (by kernel_rfl) (fun _ _ _ h => h) (Or.inl ⟨by rfl, ?_⟩) (by assumption) ?_
        rotate_left
        · intro wt hSw; (try dsimp only at hSw); have e0 := cellB hSw e0 zE; have e1 := cellB hSw e1 zE; have e2 := cellB hSw e2 zE; have e3 := cellB hSw e3 zE; have e4 := cellB hSw e4 zE; have hc0 := cellB hSw hc0 hbw; have hc1 := cellB hSw hc1 hbw; first | (go_simp; done) | (go_simp; with_reducible rfl) | (trace_state; fail)
        try simp only [Act.put, List.setIfInBounds_toArray, List.set_cons_zero, List.set_cons_succ]
        refine wpAnyH_take (i := 3) (oi := { dst := some 37, op := Op.load 3 (Operand.tmp 36), type := 3, pos := _, after := #[{ on := 2, ground := Ground.data }], guard := none }) (v := ?_) rfl (by kernel_rfl) (by kernel_rfl) (by kernel_rfl) (fun _ _ _ h => h) (Or.inl ⟨by rfl, ?_⟩) (by assumption) ?_
        rotate_left
        · intro wt hSw; (try dsimp only at hSw); have e0 := cellB hSw e0 zE; have e1 := cellB hSw e1 zE; have e2 := cellB hSw e2 zE; have e3 := cellB hSw e3 zE; have e4 := cellB hSw e4 zE; have hc0 := cellB hSw hc0 hbw; have hc1 := cellB hSw hc1 hbw; first | (go_simp; done) | (go_simp; with_reducible rfl) | (trace_state; fail)
        try simp only [Act.put, List.setIfInBounds_toArray, List.set_cons_zero, List.set_cons_succ]
        refine wpAnyH_take (i := 4) (oi := { dst := some 38, op := Op.move (Operand.tmp 1), type := 35, pos := _, after := #[], guard := none }) (v := ?_) rfl (by kernel_rfl) (by kernel_rfl) (by kernel_rfl) (fun _ _ _ h => h) (Or.inl ⟨by rfl, ?_⟩) (by assumption) ?_
        rotate_left
        · intro wt hSw; (try dsimp only at hSw); have e0 := cellB hSw e0 zE; have e1 := cellB hSw e1 zE; have e2 := cellB hSw e2 zE; have e3 := cellB hSw e3 zE; have e4 := cellB hSw e4 zE; have hc0 := cellB hSw hc0 hbw; have hc1 := cellB hSw hc1 hbw; first | (go_simp; done) | (go_simp; with_reducible rfl) | (trace_state; fail)
        try simp only [Act.put, List.setIfInBounds_toArray, List.set_cons_zero, List.set_cons_succ]
        refine wpAnyH_take (i := 5) (oi := { dst := some 39, op := Op.indexAddr 35 (Operand.tmp 38) (Operand.const (Value.int IntKind.i64 1)), type := 0, pos := _, after := #[{ on := 4, ground := Ground.data }], guard := none }) (v := ?_) rfl (by kernel_rfl) (by kernel_rfl) (by kernel_rfl) (fun _ _ _ h => h) (Or.inl ⟨by rfl, ?_⟩) (by assumption) ?_
        rotate_left
        · intro wt hSw; (try dsimp only at hSw); have e0 := cellB hSw e0 zE; have e1 := cellB hSw e1 zE; have e2 := cellB hSw e2 zE; have e3 := cellB hSw e3 zE; have e4 := cellB hSw e4 zE; have hc0 := cellB hSw hc0 hbw; have hc1 := cellB hSw hc1 hbw; first | (go_simp; done) | (go_simp; with_reducible rfl) | (trace_state; fail)
        try simp only [Act.put, List.setIfInBounds_toArray, List.set_cons_zero, List.set_cons_succ]
        refine wpAnyH_take (i := 6) (oi := { dst := some 40, op := Op.load 3 (Operand.tmp 39), type := 3, pos := _, after := #[{ on := 5, ground := Ground.data }], guard := none }) (v := ?_) rfl (by kernel_rfl) (by kernel_rfl) (by kernel_rfl) (fun _ _ _ h => h) (Or.inl ⟨by rfl, ?_⟩) (by assumption) ?_
        rotate_left
        · intro wt hSw; (try dsimp only at hSw); have e0 := cellB hSw e0 zE; have e1 := cellB hSw e1 zE; have e2 := cellB hSw e2 zE; have e3 := cellB hSw e3 zE; have e4 := cellB hSw e4 zE; have hc0 := cellB hSw hc0 hbw; have hc1 := cellB hSw hc1 hbw; first | (go_simp; done) | (go_simp; with_reducible rfl) | (trace_state; fail)
        try simp only [Act.put, List.setIfInBounds_toArray, List.set_cons_zero, List.set_cons_succ]
        refine wpAnyH_ready (rs := [7]) (by kernel_rfl) (by simp) ?_
        refine AllReadyH.cons (o := { dst := some 41, op := Op.call { callee := Callee.value (Operand.func 27), args := #[Operand.tmp 34, Operand.tmp 37, Operand.tmp 40], argTypes := #[30, 3, 3] }, type := 3, pos := _, after := #[{ on := 0, ground := Ground.data }, { on := 3, ground := Ground.data }, { on := 6, ground := Ground.data }], guard := none }) rfl (fun K hK => ?_) AllReadyH.nil
        go_simp
        refine (HS1.out _ hHeld).mono ?_; rintro r w2 ⟨rfl, hb⟩; have hHeld := hHeld.trans (hb.mono hHeld.size)
        go_wp2_with fail
        refine hK.out _ _ ?_ (fun hHeld => ?_)
        · (try dsimp only); first | assumption | exact Below.alloc hHeld hHeld.size _ | exact (Below.refl _ _).drew | exact Below.drew (Below.refl _ _) | exact Below_drewN _ _ _ | exact Below.refl _ _ | (trace_state; fail)
        clear hK K
        try simp only [Act.put, List.setIfInBounds_toArray, List.set_cons_zero, List.set_cons_succ]
        refine wpAnyH_take (i := 8) (oi := { dst := some 5, op := Op.assign (Operand.tmp 41), type := 3, pos := _, after := #[{ on := 7, ground := Ground.data }, { on := 7, ground := Ground.chain }, { on := 0, ground := Ground.phase }, { on := 1, ground := Ground.phase }, { on := 2, ground := Ground.phase }, { on := 3, ground := Ground.phase }, { on := 4, ground := Ground.phase }, { on := 5, ground := Ground.phase }, { on := 6, ground := Ground.phase }, { on := 7, ground := Ground.phase }], guard := none }) (v := ?_) rfl (by kernel_rfl) (by kernel_rfl) (by kernel_rfl) (fun _ _ _ h => h) (Or.inl ⟨by rfl, ?_⟩) (by assumption) ?_
        rotate_left
        · intro wt hSw; (try dsimp only at hSw); have e0 := cellB hSw e0 zE; have e1 := cellB hSw e1 zE; have e2 := cellB hSw e2 zE; have e3 := cellB hSw e3 zE; have e4 := cellB hSw e4 zE; have hc0 := cellB hSw hc0 hbw; have hc1 := cellB hSw hc1 hbw; first | (go_simp; done) | (go_simp; with_reducible rfl) | (trace_state; fail)
        try simp only [Act.put, List.setIfInBounds_toArray, List.set_cons_zero, List.set_cons_succ]
        refine wpAnyH_done (by kernel_rfl) ?_ _
        have HHw := Lib.hid (HB0.out.trans (hHeld.mono HB0.out.size))
        clear hHeld
        go_wp2_with fail
        go_ret
        exact ⟨by rw [hR.out]; rfl, HHw.out⟩
      have n2e : ((k : Int) == 2) = false := by have : ¬ ((k : Int) = 2) := by omega
                                                simpa using this
      have hR := Lib.hid (show R = 0 by
        rw [HTy.out]
        have h := HN.out
        match L, h with
        | [], h => simp at h; omega
        | [x], h => simp at h; omega
        | [x, y], h => simp at h; omega
        | x :: y :: z :: r, _ => rfl)
      clear hU n0 n1 n2
      go_wp2_with fail
      go_ret
      exact ⟨by rw [hR.out]; rfl, HB0.out⟩
set_option maxHeartbeats 4000000 in
theorem expr_Type (a b c d : Value) (s : Sc) (e : Ex) (he : SmallE 300 e) (v : Value) (w : World) (hs : ScAt w a b d s) (hv : ExV w v e) (hg : AGoes w) (hT : BTab w) :
    Calls Tryd.prog 10 #[.agg #[a, b, c, d], v] w fun r w' => r = .returned (.int .i64 (typeE s e)) ∧ Below w.heap.size w w' := by
  have hmf : ∀ (fn : Fn) (first cap : Array Value) (w : World), (Instr.makeFunc fn first cap).run Tryd.prog w = .ok (.func fn first cap) w := fun _ _ _ _ => rfl
  obtain ⟨sl, rfl, hi, hr⟩ := id hv
  obtain ⟨W1, hW1⟩ : ∃ W1, W1 = (w.alloc (.cells #[a, b, c, d] 37)).alloc (.cells #[.int .i64 e.op, .int .i64 e.t, .int .i64 e.n, .int .i64 e.m, sl] 30) := ⟨_, rfl⟩
  have hb : Below w.heap.size w W1 := by rw [hW1]; exact by (repeat' (first | (with_reducible exact Below.refl _ _) | (with_reducible assumption) | (with_reducible refine below_drewN ?_ _) | (with_reducible refine Below.alloc ?_ ?_ _) | (with_reducible refine Below.drew ?_) | (with_reducible refine Below.setCell ?_ ?_ _) | go_size))
  have oS : W1.heap[w.heap.size]? = some (.cells #[a, b, c, d] 37) := by rw [hW1]; exact (get_past (by simp)).trans (get_last rfl)
  have zS := heap_lt oS
  have HF := Lib.hid (fold_int 24 #[.pointer (some ⟨w.heap.size, 0, none⟩)] (typeF s) (SmallE 300) W1 (fun _ _ => rfl) (fun e h => h.within)
    (fun e h => by have := typeE_le s e; unfold typeE at this; unfold I64; omega) (fun e h => h.len)
    (fun W hW e v u hg' hv' hu => type_1 w.heap.size a b c d s e v u _ W (hs.below (hb.trans (hW.mono hb.size))) hv' (hg.below (hb.trans (hW.mono hb.size))) (hT.below (hb.trans (hW.mono hb.size))) hu
      ((hW.cell (p := ⟨w.heap.size, 0, none⟩) zS).trans (obj_cell oS (i := 0) rfl)) ((hW.cell (p := ⟨w.heap.size, 1, none⟩) zS).trans (obj_cell oS (i := 1) rfl)) ((hW.cell (p := ⟨w.heap.size, 2, none⟩) zS).trans (obj_cell oS (i := 2) rfl)) ((hW.cell (p := ⟨w.heap.size, 3, none⟩) zS).trans (obj_cell oS (i := 3) rfl))) e he W1 _ (Below.refl _ _) (hv.below hb))
  have HW1 := Lib.hid hW1
  have HB := Lib.hid hb
  clear hW1 hv hi hr hs hg hT oS zS hb
  generalize hTy : foldE (typeF s) e = R at *
  have HTy := Lib.hid (show typeE s e = R from hTy)
  clear hTy
  generalize e.op = o1 at *
  generalize e.t = o2 at *
  generalize e.n = o3 at *
  generalize e.m = o4 at *
  go_enter Tryd.func10, Tryd.ntmps10
  go_wp2_with fail
  rw [← HW1.out]
  refine HF.out.mono ?_; rintro r w2 ⟨rfl, hb⟩
  rw [← HTy.out]
  have HBE := Lib.hid (HB.out.trans (hb.mono HB.out.size))
  clear hb
  go_wp2_with fail
  go_ret
  exact ⟨rfl, HBE.out⟩
end Go.Proofs.YtpecpeedefeokaaDoor
