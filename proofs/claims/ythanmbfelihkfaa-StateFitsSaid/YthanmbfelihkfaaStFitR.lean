/- Layer 23: whether a state fits declarations, by the answer. -/
import Derived.Test.YthanmbfelihkfaaStFit
import Derived.Deep.QuietTactic
namespace Go.Proofs.Ythanmbfelihkfaa
open Go.RowKit
set_option linter.unusedSimpArgs false
set_option linter.unusedVariables false
theorem kIn_right {t z : Int} (h : kRight t = false) : kIn t z = false := by unfold kIn; rw [h]; rfl
set_option maxHeartbeats 4000000 in
theorem ref23_Fits (vv bv v b : Value) (V : List Vr) (nb : Nat) (s : St) (w : World) (hvv : RowR 5 varR w vv V) (hbv : ∃ a c, bv = .slice a nb c) (h : StAt w v b s) (hsh : shortS s = true) (hV : V.length ≤ 70) (hnb : nb ≤ 40) :
    Calls Try.prog 13 #[vv, bv, .agg #[v, b, .int .i64 s.now, .int .i64 s.fault]] w fun e w' => e = .returned (.bool (fitS V nb s)) ∧ Below w.heap.size w w' := by
  obtain ⟨s1, s2, s3⟩ : s.vars.length ≤ 100 ∧ s.blocks.length ≤ 100 ∧ ∀ l ∈ s.vars, l.length ≤ 100 := of_decide_eq_true hsh
  obtain ⟨ab, cb0, rfl⟩ := hbv
  have hv := h.vs
  obtain ⟨sv, cv, rfl⟩ := row_get hvv
  obtain ⟨sa, ca, rfl⟩ := row_get h.vs
  obtain ⟨sb, cb, rfl⟩ := row_get h.bs
  clear h
  obtain ⟨N, hN⟩ : ∃ N, V.length = N := ⟨_, rfl⟩
  obtain ⟨M, hM⟩ : ∃ N, s.vars.length = N := ⟨_, rfl⟩
  obtain ⟨BL, hBL⟩ : ∃ N, s.blocks.length = N := ⟨_, rfl⟩
  have HL := Lib.hid (And.intro hN (And.intro hM hBL))
  rw [hN] at hvv hV ⊢
  rw [hM] at hv s1 ⊢
  rw [hBL] at s2 ⊢
  clear hN hM hBL
  have cp := @cell_past
  by_cases h0 : M = N
  case neg =>
    have hno := Lib.hid (fitS_head (V := V) (nb := nb) (s := s) (fun g => h0 (by have := g.1; have := g.2.1; have := g.2.2.1; have := g.2.2.2.1; have := g.2.2.2.2.1; have := g.2.2.2.2.2; have := HL.out; omega)))
    have q0 : ((M : Int) != (N : Int)) = true := by rw [bne_iff_ne]; omega
    clear h0
    go_enter Try.func13, Try.ntmps13
    go_wp2_with fail
    go_ret
    exact ⟨by rw [hno.out]; rfl, by (repeat' (first | (with_reducible exact Below.refl _ _) | (with_reducible assumption) | (with_reducible refine below_drewN ?_ _) | (with_reducible refine Below.alloc ?_ ?_ _) | (with_reducible refine Below.drew ?_) | (with_reducible refine Below.setCell ?_ ?_ _) | go_size))⟩
  have q0 : ((M : Int) != (N : Int)) = false := by simp; omega
  by_cases h1 : BL = nb
  case neg =>
    have hno := Lib.hid (fitS_head (V := V) (nb := nb) (s := s) (fun g => h1 (by have := g.1; have := g.2.1; have := g.2.2.1; have := g.2.2.2.1; have := g.2.2.2.2.1; have := g.2.2.2.2.2; have := HL.out; omega)))
    have q1 : ((BL : Int) != (nb : Int)) = true := by rw [bne_iff_ne]; omega
    clear h1 h0
    go_enter Try.func13, Try.ntmps13
    go_wp2_with fail
    go_ret
    exact ⟨by rw [hno.out]; rfl, by (repeat' (first | (with_reducible exact Below.refl _ _) | (with_reducible assumption) | (with_reducible refine below_drewN ?_ _) | (with_reducible refine Below.alloc ?_ ?_ _) | (with_reducible refine Below.drew ?_) | (with_reducible refine Below.setCell ?_ ?_ _) | go_size))⟩
  have q1 : ((BL : Int) != (nb : Int)) = false := by simp; omega
  by_cases h2 : 0 ≤ s.now
  case neg =>
    have hno := Lib.hid (fitS_head (V := V) (nb := nb) (s := s) (fun g => h2 (by have := g.1; have := g.2.1; have := g.2.2.1; have := g.2.2.2.1; have := g.2.2.2.2.1; have := g.2.2.2.2.2; have := HL.out; omega)))
    have q2 : (s.now < 0) = True := eq_true (by omega)
    clear h2 h0 h1
    go_enter Try.func13, Try.ntmps13
    go_wp2_with fail
    go_ret
    exact ⟨by rw [hno.out]; rfl, by (repeat' (first | (with_reducible exact Below.refl _ _) | (with_reducible assumption) | (with_reducible refine below_drewN ?_ _) | (with_reducible refine Below.alloc ?_ ?_ _) | (with_reducible refine Below.drew ?_) | (with_reducible refine Below.setCell ?_ ?_ _) | go_size))⟩
  have q2 : (s.now < 0) = False := eq_false (by omega)
  by_cases h3 : s.now ≤ 1099511627776
  case neg =>
    have hno := Lib.hid (fitS_head (V := V) (nb := nb) (s := s) (fun g => h3 (by have := g.1; have := g.2.1; have := g.2.2.1; have := g.2.2.2.1; have := g.2.2.2.2.1; have := g.2.2.2.2.2; have := HL.out; omega)))
    have q3 : (1099511627776 < s.now) = True := eq_true (by omega)
    clear h3 h0 h1 h2
    go_enter Try.func13, Try.ntmps13
    go_wp2_with fail
    go_ret
    exact ⟨by rw [hno.out]; rfl, by (repeat' (first | (with_reducible exact Below.refl _ _) | (with_reducible assumption) | (with_reducible refine below_drewN ?_ _) | (with_reducible refine Below.alloc ?_ ?_ _) | (with_reducible refine Below.drew ?_) | (with_reducible refine Below.setCell ?_ ?_ _) | go_size))⟩
  have q3 : (1099511627776 < s.now) = False := eq_false (by omega)
  by_cases h4 : 0 ≤ s.fault
  case neg =>
    have hno := Lib.hid (fitS_head (V := V) (nb := nb) (s := s) (fun g => h4 (by have := g.1; have := g.2.1; have := g.2.2.1; have := g.2.2.2.1; have := g.2.2.2.2.1; have := g.2.2.2.2.2; have := HL.out; omega)))
    have q4 : (s.fault < 0) = True := eq_true (by omega)
    clear h4 h0 h1 h2 h3
    go_enter Try.func13, Try.ntmps13
    go_wp2_with fail
    go_ret
    exact ⟨by rw [hno.out]; rfl, by (repeat' (first | (with_reducible exact Below.refl _ _) | (with_reducible assumption) | (with_reducible refine below_drewN ?_ _) | (with_reducible refine Below.alloc ?_ ?_ _) | (with_reducible refine Below.drew ?_) | (with_reducible refine Below.setCell ?_ ?_ _) | go_size))⟩
  have q4 : (s.fault < 0) = False := eq_false (by omega)
  by_cases h5 : s.fault ≤ 3
  case neg =>
    have hno := Lib.hid (fitS_head (V := V) (nb := nb) (s := s) (fun g => h5 (by have := g.1; have := g.2.1; have := g.2.2.1; have := g.2.2.2.1; have := g.2.2.2.2.1; have := g.2.2.2.2.2; have := HL.out; omega)))
    have q5 : (3 < s.fault) = True := eq_true (by omega)
    clear h5 h0 h1 h2 h3 h4
    go_enter Try.func13, Try.ntmps13
    go_wp2_with fail
    go_ret
    exact ⟨by rw [hno.out]; rfl, by (repeat' (first | (with_reducible exact Below.refl _ _) | (with_reducible assumption) | (with_reducible refine below_drewN ?_ _) | (with_reducible refine Below.alloc ?_ ?_ _) | (with_reducible refine Below.drew ?_) | (with_reducible refine Below.setCell ?_ ?_ _) | go_size))⟩
  have q5 : (3 < s.fault) = False := eq_false (by omega)
  have hhead := Lib.hid (show headS V nb s from ⟨by have := HL.out; omega, by have := HL.out; omega, h2, h3, h4, h5⟩)
  obtain rfl : M = N := h0
  obtain rfl : BL = nb := h1
  clear h2 h3 h4 h5
  obtain ⟨Wb, hWb⟩ : ∃ Wb, Wb = w.alloc (.cells #[.slice sa M ca, .slice sb BL cb, .int .i64 s.now, .int .i64 s.fault] 31) := ⟨_, rfl⟩
  have hwb : Below w.heap.size w Wb := by rw [hWb]; exact by (repeat' (first | (with_reducible exact Below.refl _ _) | (with_reducible assumption) | (with_reducible refine below_drewN ?_ _) | (with_reducible refine Below.alloc ?_ ?_ _) | (with_reducible refine Below.drew ?_) | (with_reducible refine Below.setCell ?_ ?_ _) | go_size))
  have gs := C4.new w (.slice sa M ca) (.slice sb BL cb) (.int .i64 s.now) (.int .i64 s.fault) 31 (W' := Wb) (by rw [hWb]; exact by (repeat' (first | (with_reducible exact Below.refl _ _) | (with_reducible assumption) | (with_reducible refine below_drewN ?_ _) | (with_reducible refine Below.alloc ?_ ?_ _) | (with_reducible refine Below.drew ?_) | (with_reducible refine Below.setCell ?_ ?_ _) | go_size)))
  have zb : w.heap.size < Wb.heap.size := World.block_lt_of_cell? _ _ gs.1
  have HG := Lib.hid gs
  have HWB := Lib.hid hwb
  have HWb := Lib.hid hWb
  clear hWb gs hwb
  go_enter Try.func13, Try.ntmps13
  go_wp2_with fail
  rw [← HWb.out]
  go_loopw [7] (fun jj wr => ∃ (k : Nat), k ≤ M ∧ jj = .int .i64 k ∧ Hid (fitRows (V.take k) s.vars = true) ∧ Hid (Below Wb.heap.size Wb wr)) (fun jj _ => M - (intOf jj).toNat)
  case atStart => exact ⟨0, by omega, rfl, Lib.hid (by simp [fitRows]), Lib.hid (Below.refl _ _)⟩
  case round =>
    obtain ⟨k, hk, rfl, hall, hB⟩ := hrel
    by_cases hlt : k < M
    · have qk : ((k : Int) < (M : Int)) = True := eq_true (by omega)
      obtain ⟨x, hx⟩ := get_some (L := V) (n := k) (by have := HL.out.1; omega)
      obtain ⟨bb, off, rfl, hbw, hc⟩ := var_at hvv (k := k) (lt_of_get hx)
      obtain ⟨_, c1, c2, _, _, _, _, hn64, _⟩ := hc k x hx
      obtain ⟨l, hl⟩ := get_some (L := s.vars) (n := k) (by have := HL.out.2.1; omega)
      have hl100 := s3 l (List.mem_of_getElem? hl)
      obtain ⟨b2, off2, rfl, hbw2, hd⟩ := rows_at hv (k := k) (lt_of_get hl)
      obtain ⟨u, d0, hu⟩ := hd k l hl
      obtain ⟨su, cu, rfl⟩ := row_get hu
      obtain ⟨m, hm⟩ : ∃ m, l.length = m := ⟨_, rfl⟩
      have HNo := Lib.hid (fun hf : fitRow x l = false => fitS_rows (nb := BL) (fitRows_at hx hl hf))
      have HYes := Lib.hid (fun hf : fitRow x l = true => fitRows_take hx hl hall.out hf)
      have HD := Lib.hid (show fitRow x l = (decide ((m : Int) = x.n) && l.all (kIn x.t)) by unfold fitRow; rw [hm])
      have Hm := Lib.hid hm
      rw [hm] at d0 hl100 hu
      have Hu := Lib.hid hu
      have HF := Lib.hid (fun W (hb : Below Wb.heap.size Wb W) => And.intro (HG.out.keep zb hb).1 (And.intro ((((HWB.out.trans (hb.mono HWB.out.size)).cell (p := ⟨b2, off2 + k, none⟩) hbw2).trans d0)) (And.intro (((HWB.out.trans (hb.mono HWB.out.size)).cell (p := ⟨bb, off + k * 5 + 1, none⟩) hbw).trans c1) (((HWB.out.trans (hb.mono HWB.out.size)).cell (p := ⟨bb, off + k * 5 + 2, none⟩) hbw).trans c2))))
      clear hc hd hx hl hm hu d0 c1 c2
      obtain ⟨f0, fd, x1, x2⟩ := HF.out _ hB.out
      have z5 : w.heap.size < wr.heap.size := World.block_lt_of_cell? _ _ f0
      have z2 : b2 < wr.heap.size := World.block_lt_of_cell? _ _ fd
      have zv : bb < wr.heap.size := World.block_lt_of_cell? _ _ x1
      by_cases hn : (m : Int) = x.n
      · have qn : ((m : Int) != x.n) = false := by simp [hn]
        have hD2 := Lib.hid (show fitRow x l = l.all (kIn x.t) by rw [HD.out, decide_eq_true hn]; rfl)
        clear hn
        go_wp2_with fail
        go_quiet (fail)
        have hb6 := Lib.hid (hB.out.trans ((Below_drewN wr.heap.size wr nq).mono hB.out.size))
        clear f0 fd x1 x2 z5 z2 zv
        go_wp2_with fail
        go_loopw [8] (fun ji wr2 => ∃ (q : Nat), q ≤ m ∧ ji = .int .i64 q ∧ Hid ((l.take q).all (kIn x.t) = true) ∧ Hid (Below Wb.heap.size Wb wr2)) (fun ji _ => m - (intOf ji).toNat)
        case atStart => exact ⟨0, by omega, rfl, Lib.hid (by simp), hb6⟩
        case round =>
          obtain ⟨q, hq, rfl, hal, hB⟩ := hrel
          obtain ⟨f0, fd, x1, x2⟩ := HF.out _ hB.out
          have z5 : w.heap.size < wr.heap.size := World.block_lt_of_cell? _ _ f0
          have z2 : b2 < wr.heap.size := World.block_lt_of_cell? _ _ fd
          have zv : bb < wr.heap.size := World.block_lt_of_cell? _ _ x1
          have HBr := Lib.hid (HWB.out.trans (hB.out.mono HWB.out.size))
          by_cases hqm : q < m
          · have qq : ((q : Int) < (m : Int)) = True := eq_true (by omega)
            obtain ⟨z, hz⟩ := get_some (L := l) (n := q) (by have := Hm.out; omega)
            obtain ⟨b3, off3, rfl, hbw3, hg⟩ := ints_at Hu.out (k := q) (lt_of_get hz)
            obtain ⟨g0, _⟩ := hg q z hz
            have g0 := (HBr.out.cell (p := ⟨b3, off3 + q, none⟩) hbw3).trans g0
            have z3 : b3 < wr.heap.size := World.block_lt_of_cell? _ _ g0
            have hts := Lib.hid (take_snoc hz)
            have hbad := Lib.hid (fun hk : kIn x.t z = false => HNo.out (by rw [hD2.out]; exact kIn_all_no hz hk))
            clear hg hz
            have HI := Lib.hid (fun W => ref01_In x.t z W)
            cases hkr : kRight x.t
            · have hno := Lib.hid (hbad.out (kIn_right hkr))
              go_wp2_with fail
              refine wp_region_held_drew (S := (fun w' => Below wr.heap.size wr w')) (by kernel_rfl) ?_ (fun hHeld => ?_)
              · (try dsimp only); first | assumption | exact Below.alloc hHeld hHeld.size _ | exact (Below.refl _ _).drew | exact Below.drew (Below.refl _ _) | exact Below_drewN _ _ _ | exact Below.refl _ _ | (trace_state; fail)
              refine wpAnyH_take (i := 0) (oi := { dst := some 71, op := Op.move (Operand.tmp 0), type := 23, pos := _, after := #[], guard := none }) (v := ?_) rfl (by kernel_rfl) (by kernel_rfl) (by kernel_rfl) (fun _ _ _ h => h) (Or.inl ⟨by rfl, ?_⟩) (by assumption) ?_
              rotate_left
              · intro wt hSw; (try dsimp only at hSw); have f0 := cellB hSw f0 z5; have fd := cellB hSw fd z2; have x1 := cellB hSw x1 zv; have g0 := cellB hSw g0 z3; first | (go_simp; done) | (go_simp; with_reducible rfl) | (trace_state; fail)
              try simp only [Act.put, List.setIfInBounds_toArray, List.set_cons_zero, List.set_cons_succ]
              refine wpAnyH_take (i := 1) (oi := { dst := some 72, op := Op.move (Operand.tmp 7), type := 3, pos := _, after := #[], guard := none }) (v := ?_) rfl (by kernel_rfl) (by kernel_rfl) (by kernel_rfl) (fun _ _ _ h => h) (Or.inl ⟨by rfl, ?_⟩) (by assumption) ?_
              rotate_left
              · intro wt hSw; (try dsimp only at hSw); have f0 := cellB hSw f0 z5; have fd := cellB hSw fd z2; have x1 := cellB hSw x1 zv; have g0 := cellB hSw g0 z3; first | (go_simp; done) | (go_simp; with_reducible rfl) | (trace_state; fail)
              try simp only [Act.put, List.setIfInBounds_toArray, List.set_cons_zero, List.set_cons_succ]
              refine wpAnyH_take (i := 2) (oi := { dst := some 73, op := Op.indexAddr 23 (Operand.tmp 71) (Operand.tmp 72), type := 0, pos := _, after := #[{ on := 0, ground := Ground.data }, { on := 1, ground := Ground.data }], guard := none }) (v := ?_) rfl (by kernel_rfl) (by kernel_rfl) (by kernel_rfl) (fun _ _ _ h => h) (Or.inl ⟨by rfl, ?_⟩) (by assumption) ?_
              rotate_left
              · intro wt hSw; (try dsimp only at hSw); have f0 := cellB hSw f0 z5; have fd := cellB hSw fd z2; have x1 := cellB hSw x1 zv; have g0 := cellB hSw g0 z3; first | (go_simp; done) | (go_simp; with_reducible rfl) | (trace_state; fail)
              try simp only [Act.put, List.setIfInBounds_toArray, List.set_cons_zero, List.set_cons_succ]
              refine wpAnyH_take (i := 3) (oi := { dst := some 74, op := Op.fieldAddr 53 (Operand.tmp 73) 1, type := 0, pos := _, after := #[{ on := 2, ground := Ground.data }], guard := none }) (v := ?_) rfl (by kernel_rfl) (by kernel_rfl) (by kernel_rfl) (fun _ _ _ h => h) (Or.inl ⟨by rfl, ?_⟩) (by assumption) ?_
              rotate_left
              · intro wt hSw; (try dsimp only at hSw); have f0 := cellB hSw f0 z5; have fd := cellB hSw fd z2; have x1 := cellB hSw x1 zv; have g0 := cellB hSw g0 z3; first | (go_simp; done) | (go_simp; with_reducible rfl) | (trace_state; fail)
              try simp only [Act.put, List.setIfInBounds_toArray, List.set_cons_zero, List.set_cons_succ]
              refine wpAnyH_take (i := 4) (oi := { dst := some 75, op := Op.load 3 (Operand.tmp 74), type := 3, pos := _, after := #[{ on := 3, ground := Ground.data }], guard := none }) (v := ?_) rfl (by kernel_rfl) (by kernel_rfl) (by kernel_rfl) (fun _ _ _ h => h) (Or.inl ⟨by rfl, ?_⟩) (by assumption) ?_
              rotate_left
              · intro wt hSw; (try dsimp only at hSw); have f0 := cellB hSw f0 z5; have fd := cellB hSw fd z2; have x1 := cellB hSw x1 zv; have g0 := cellB hSw g0 z3; first | (go_simp; done) | (go_simp; with_reducible rfl) | (trace_state; fail)
              try simp only [Act.put, List.setIfInBounds_toArray, List.set_cons_zero, List.set_cons_succ]
              refine wpAnyH_ready (rs := [5]) (by kernel_rfl) (by simp) ?_
              refine AllReadyH.cons (o := { dst := some 76, op := Op.call { callee := Callee.value (Operand.func 25), args := #[Operand.tmp 75], argTypes := #[3] }, type := 4, pos := _, after := #[{ on := 4, ground := Ground.data }], guard := none }) rfl (fun K hK => ?_) AllReadyH.nil
              go_simp
              refine (ref01_Right _ _).mono ?_; rintro e w1 ⟨rfl, rfl⟩; rw [hkr]
              go_wp2_with fail
              refine hK.out _ _ ?_ (fun hHeld => ?_)
              · (try dsimp only); first | assumption | exact Below.alloc hHeld hHeld.size _ | exact (Below.refl _ _).drew | exact Below.drew (Below.refl _ _) | exact Below_drewN _ _ _ | exact Below.refl _ _ | (trace_state; fail)
              clear hK K
              try simp only [Act.put, List.setIfInBounds_toArray, List.set_cons_zero, List.set_cons_succ]
              refine wpAnyH_take (i := 6) (oi := { dst := some 77, op := Op.unOp UnOp.not 4 (Operand.tmp 76), type := 4, pos := _, after := #[{ on := 5, ground := Ground.data }], guard := none }) (v := ?_) rfl (by kernel_rfl) (by kernel_rfl) (by kernel_rfl) (fun _ _ _ h => h) (Or.inl ⟨by rfl, ?_⟩) (by assumption) ?_
              rotate_left
              · intro wt hSw; (try dsimp only at hSw); have f0 := cellB hSw f0 z5; have fd := cellB hSw fd z2; have x1 := cellB hSw x1 zv; have g0 := cellB hSw g0 z3; first | (go_simp; done) | (go_simp; with_reducible rfl) | (trace_state; fail)
              try simp only [Act.put, List.setIfInBounds_toArray, List.set_cons_zero, List.set_cons_succ]
              refine wpAnyH_take (i := 7) (oi := { dst := some 78, op := Op.move (Operand.tmp 77), type := 4, pos := _, after := #[{ on := 6, ground := Ground.data }, { on := 5, ground := Ground.chain }], guard := none }) (v := ?_) rfl (by kernel_rfl) (by kernel_rfl) (by kernel_rfl) (fun _ _ _ h => h) (Or.inl ⟨by rfl, ?_⟩) (by assumption) ?_
              rotate_left
              · intro wt hSw; (try dsimp only at hSw); have f0 := cellB hSw f0 z5; have fd := cellB hSw fd z2; have x1 := cellB hSw x1 zv; have g0 := cellB hSw g0 z3; first | (go_simp; done) | (go_simp; with_reducible rfl) | (trace_state; fail)
              try simp only [Act.put, List.setIfInBounds_toArray, List.set_cons_zero, List.set_cons_succ]
              refine wpAnyH_take (i := 8) (oi := { dst := some 79, op := Op.move (Operand.tmp 0), type := 23, pos := _, after := #[{ on := 7, ground := Ground.guard }], guard := some (7, false) }) (v := undef) rfl (by kernel_rfl) (by kernel_rfl) (by kernel_rfl) (fun _ _ _ h => h) (Or.inr ⟨by rfl, rfl⟩) (by assumption) ?_
              try simp only [Act.put, List.setIfInBounds_toArray, List.set_cons_zero, List.set_cons_succ]
              refine wpAnyH_take (i := 9) (oi := { dst := some 80, op := Op.move (Operand.tmp 7), type := 3, pos := _, after := #[{ on := 7, ground := Ground.guard }], guard := some (7, false) }) (v := undef) rfl (by kernel_rfl) (by kernel_rfl) (by kernel_rfl) (fun _ _ _ h => h) (Or.inr ⟨by rfl, rfl⟩) (by assumption) ?_
              try simp only [Act.put, List.setIfInBounds_toArray, List.set_cons_zero, List.set_cons_succ]
              refine wpAnyH_take (i := 10) (oi := { dst := some 81, op := Op.indexAddr 23 (Operand.tmp 79) (Operand.tmp 80), type := 0, pos := _, after := #[{ on := 8, ground := Ground.data }, { on := 9, ground := Ground.data }, { on := 7, ground := Ground.guard }], guard := some (7, false) }) (v := undef) rfl (by kernel_rfl) (by kernel_rfl) (by kernel_rfl) (fun _ _ _ h => h) (Or.inr ⟨by rfl, rfl⟩) (by assumption) ?_
              try simp only [Act.put, List.setIfInBounds_toArray, List.set_cons_zero, List.set_cons_succ]
              refine wpAnyH_take (i := 11) (oi := { dst := some 82, op := Op.fieldAddr 53 (Operand.tmp 81) 1, type := 0, pos := _, after := #[{ on := 10, ground := Ground.data }, { on := 7, ground := Ground.guard }], guard := some (7, false) }) (v := undef) rfl (by kernel_rfl) (by kernel_rfl) (by kernel_rfl) (fun _ _ _ h => h) (Or.inr ⟨by rfl, rfl⟩) (by assumption) ?_
              try simp only [Act.put, List.setIfInBounds_toArray, List.set_cons_zero, List.set_cons_succ]
              refine wpAnyH_take (i := 12) (oi := { dst := some 83, op := Op.load 3 (Operand.tmp 82), type := 3, pos := _, after := #[{ on := 11, ground := Ground.data }, { on := 7, ground := Ground.guard }], guard := some (7, false) }) (v := undef) rfl (by kernel_rfl) (by kernel_rfl) (by kernel_rfl) (fun _ _ _ h => h) (Or.inr ⟨by rfl, rfl⟩) (by assumption) ?_
              try simp only [Act.put, List.setIfInBounds_toArray, List.set_cons_zero, List.set_cons_succ]
              refine wpAnyH_take (i := 13) (oi := { dst := some 84, op := Op.fieldAddr 31 (Operand.tmp 5) 0, type := 0, pos := _, after := #[{ on := 7, ground := Ground.guard }], guard := some (7, false) }) (v := undef) rfl (by kernel_rfl) (by kernel_rfl) (by kernel_rfl) (fun _ _ _ h => h) (Or.inr ⟨by rfl, rfl⟩) (by assumption) ?_
              try simp only [Act.put, List.setIfInBounds_toArray, List.set_cons_zero, List.set_cons_succ]
              refine wpAnyH_take (i := 14) (oi := { dst := some 85, op := Op.load 28 (Operand.tmp 84), type := 28, pos := _, after := #[{ on := 13, ground := Ground.data }, { on := 7, ground := Ground.guard }], guard := some (7, false) }) (v := undef) rfl (by kernel_rfl) (by kernel_rfl) (by kernel_rfl) (fun _ _ _ h => h) (Or.inr ⟨by rfl, rfl⟩) (by assumption) ?_
              try simp only [Act.put, List.setIfInBounds_toArray, List.set_cons_zero, List.set_cons_succ]
              refine wpAnyH_take (i := 15) (oi := { dst := some 86, op := Op.move (Operand.tmp 7), type := 3, pos := _, after := #[{ on := 7, ground := Ground.guard }], guard := some (7, false) }) (v := undef) rfl (by kernel_rfl) (by kernel_rfl) (by kernel_rfl) (fun _ _ _ h => h) (Or.inr ⟨by rfl, rfl⟩) (by assumption) ?_
              try simp only [Act.put, List.setIfInBounds_toArray, List.set_cons_zero, List.set_cons_succ]
              refine wpAnyH_take (i := 16) (oi := { dst := some 87, op := Op.indexAddr 28 (Operand.tmp 85) (Operand.tmp 86), type := 0, pos := _, after := #[{ on := 14, ground := Ground.data }, { on := 15, ground := Ground.data }, { on := 7, ground := Ground.guard }], guard := some (7, false) }) (v := undef) rfl (by kernel_rfl) (by kernel_rfl) (by kernel_rfl) (fun _ _ _ h => h) (Or.inr ⟨by rfl, rfl⟩) (by assumption) ?_
              try simp only [Act.put, List.setIfInBounds_toArray, List.set_cons_zero, List.set_cons_succ]
              refine wpAnyH_take (i := 17) (oi := { dst := some 88, op := Op.load 45 (Operand.tmp 87), type := 45, pos := _, after := #[{ on := 16, ground := Ground.data }, { on := 7, ground := Ground.guard }], guard := some (7, false) }) (v := undef) rfl (by kernel_rfl) (by kernel_rfl) (by kernel_rfl) (fun _ _ _ h => h) (Or.inr ⟨by rfl, rfl⟩) (by assumption) ?_
              try simp only [Act.put, List.setIfInBounds_toArray, List.set_cons_zero, List.set_cons_succ]
              refine wpAnyH_take (i := 18) (oi := { dst := some 89, op := Op.move (Operand.tmp 8), type := 3, pos := _, after := #[{ on := 7, ground := Ground.guard }], guard := some (7, false) }) (v := undef) rfl (by kernel_rfl) (by kernel_rfl) (by kernel_rfl) (fun _ _ _ h => h) (Or.inr ⟨by rfl, rfl⟩) (by assumption) ?_
              try simp only [Act.put, List.setIfInBounds_toArray, List.set_cons_zero, List.set_cons_succ]
              refine wpAnyH_take (i := 19) (oi := { dst := some 90, op := Op.indexAddr 45 (Operand.tmp 88) (Operand.tmp 89), type := 0, pos := _, after := #[{ on := 17, ground := Ground.data }, { on := 18, ground := Ground.data }, { on := 7, ground := Ground.guard }], guard := some (7, false) }) (v := undef) rfl (by kernel_rfl) (by kernel_rfl) (by kernel_rfl) (fun _ _ _ h => h) (Or.inr ⟨by rfl, rfl⟩) (by assumption) ?_
              try simp only [Act.put, List.setIfInBounds_toArray, List.set_cons_zero, List.set_cons_succ]
              refine wpAnyH_take (i := 20) (oi := { dst := some 91, op := Op.load 3 (Operand.tmp 90), type := 3, pos := _, after := #[{ on := 19, ground := Ground.data }, { on := 7, ground := Ground.guard }], guard := some (7, false) }) (v := undef) rfl (by kernel_rfl) (by kernel_rfl) (by kernel_rfl) (fun _ _ _ h => h) (Or.inr ⟨by rfl, rfl⟩) (by assumption) ?_
              try simp only [Act.put, List.setIfInBounds_toArray, List.set_cons_zero, List.set_cons_succ]
              refine wpAnyH_take (i := 21) (oi := { dst := some 92, op := Op.call { callee := Callee.value (Operand.func 26), args := #[Operand.tmp 83, Operand.tmp 91], argTypes := #[3, 3] }, type := 4, pos := _, after := #[{ on := 12, ground := Ground.data }, { on := 20, ground := Ground.data }, { on := 7, ground := Ground.chain }, { on := 7, ground := Ground.guard }], guard := some (7, false) }) (v := undef) rfl (by kernel_rfl) (by kernel_rfl) (by kernel_rfl) (fun _ _ _ h => h) (Or.inr ⟨by rfl, rfl⟩) (by assumption) ?_
              try simp only [Act.put, List.setIfInBounds_toArray, List.set_cons_zero, List.set_cons_succ]
              refine wpAnyH_take (i := 22) (oi := { dst := some 93, op := Op.unOp UnOp.not 4 (Operand.tmp 92), type := 4, pos := _, after := #[{ on := 21, ground := Ground.data }, { on := 7, ground := Ground.guard }], guard := some (7, false) }) (v := undef) rfl (by kernel_rfl) (by kernel_rfl) (by kernel_rfl) (fun _ _ _ h => h) (Or.inr ⟨by rfl, rfl⟩) (by assumption) ?_
              try simp only [Act.put, List.setIfInBounds_toArray, List.set_cons_zero, List.set_cons_succ]
              refine wpAnyH_take (i := 23) (oi := { dst := some 94, op := Op.pick (Operand.tmp 78) (Operand.const (Value.bool true)) (Operand.tmp 93), type := 4, pos := _, after := #[{ on := 7, ground := Ground.data }, { on := 22, ground := Ground.data }], guard := none }) (v := ?_) rfl (by kernel_rfl) (by kernel_rfl) (by kernel_rfl) (fun _ _ _ h => h) (Or.inl ⟨by rfl, ?_⟩) (by assumption) ?_
              rotate_left
              · intro wt hSw; (try dsimp only at hSw); have f0 := cellB hSw f0 z5; have fd := cellB hSw fd z2; have x1 := cellB hSw x1 zv; have g0 := cellB hSw g0 z3; first | (go_simp; done) | (go_simp; with_reducible rfl) | (trace_state; fail)
              try simp only [Act.put, List.setIfInBounds_toArray, List.set_cons_zero, List.set_cons_succ]
              refine wpAnyH_done (by kernel_rfl) ?_ _
              go_wp2_with fail
              go_ret
              exact ⟨by rw [hno.out]; rfl, HBr.out.trans (hHeld.mono HBr.out.size)⟩
            · cases hk : kIn x.t z
              · have hno := Lib.hid (hbad.out hk)
                rw [hk] at HI
                go_wp2_with fail
                refine wp_region_held_drew (S := (fun w' => Below wr.heap.size wr w')) (by kernel_rfl) ?_ (fun hHeld => ?_)
                · (try dsimp only); first | assumption | exact Below.alloc hHeld hHeld.size _ | exact (Below.refl _ _).drew | exact Below.drew (Below.refl _ _) | exact Below_drewN _ _ _ | exact Below.refl _ _ | (trace_state; fail)
                refine wpAnyH_take (i := 0) (oi := { dst := some 71, op := Op.move (Operand.tmp 0), type := 23, pos := _, after := #[], guard := none }) (v := ?_) rfl (by kernel_rfl) (by kernel_rfl) (by kernel_rfl) (fun _ _ _ h => h) (Or.inl ⟨by rfl, ?_⟩) (by assumption) ?_
                rotate_left
                · intro wt hSw; (try dsimp only at hSw); have f0 := cellB hSw f0 z5; have fd := cellB hSw fd z2; have x1 := cellB hSw x1 zv; have g0 := cellB hSw g0 z3; first | (go_simp; done) | (go_simp; with_reducible rfl) | (trace_state; fail)
                try simp only [Act.put, List.setIfInBounds_toArray, List.set_cons_zero, List.set_cons_succ]
                refine wpAnyH_take (i := 1) (oi := { dst := some 72, op := Op.move (Operand.tmp 7), type := 3, pos := _, after := #[], guard := none }) (v := ?_) rfl (by kernel_rfl) (by kernel_rfl) (by kernel_rfl) (fun _ _ _ h => h) (Or.inl ⟨by rfl, ?_⟩) (by assumption) ?_
                rotate_left
                · intro wt hSw; (try dsimp only at hSw); have f0 := cellB hSw f0 z5; have fd := cellB hSw fd z2; have x1 := cellB hSw x1 zv; have g0 := cellB hSw g0 z3; first | (go_simp; done) | (go_simp; with_reducible rfl) | (trace_state; fail)
                try simp only [Act.put, List.setIfInBounds_toArray, List.set_cons_zero, List.set_cons_succ]
                refine wpAnyH_take (i := 2) (oi := { dst := some 73, op := Op.indexAddr 23 (Operand.tmp 71) (Operand.tmp 72), type := 0, pos := _, after := #[{ on := 0, ground := Ground.data }, { on := 1, ground := Ground.data }], guard := none }) (v := ?_) rfl (by kernel_rfl) (by kernel_rfl) (by kernel_rfl) (fun _ _ _ h => h) (Or.inl ⟨by rfl, ?_⟩) (by assumption) ?_
                rotate_left
                · intro wt hSw; (try dsimp only at hSw); have f0 := cellB hSw f0 z5; have fd := cellB hSw fd z2; have x1 := cellB hSw x1 zv; have g0 := cellB hSw g0 z3; first | (go_simp; done) | (go_simp; with_reducible rfl) | (trace_state; fail)
                try simp only [Act.put, List.setIfInBounds_toArray, List.set_cons_zero, List.set_cons_succ]
                refine wpAnyH_take (i := 3) (oi := { dst := some 74, op := Op.fieldAddr 53 (Operand.tmp 73) 1, type := 0, pos := _, after := #[{ on := 2, ground := Ground.data }], guard := none }) (v := ?_) rfl (by kernel_rfl) (by kernel_rfl) (by kernel_rfl) (fun _ _ _ h => h) (Or.inl ⟨by rfl, ?_⟩) (by assumption) ?_
                rotate_left
                · intro wt hSw; (try dsimp only at hSw); have f0 := cellB hSw f0 z5; have fd := cellB hSw fd z2; have x1 := cellB hSw x1 zv; have g0 := cellB hSw g0 z3; first | (go_simp; done) | (go_simp; with_reducible rfl) | (trace_state; fail)
                try simp only [Act.put, List.setIfInBounds_toArray, List.set_cons_zero, List.set_cons_succ]
                refine wpAnyH_take (i := 4) (oi := { dst := some 75, op := Op.load 3 (Operand.tmp 74), type := 3, pos := _, after := #[{ on := 3, ground := Ground.data }], guard := none }) (v := ?_) rfl (by kernel_rfl) (by kernel_rfl) (by kernel_rfl) (fun _ _ _ h => h) (Or.inl ⟨by rfl, ?_⟩) (by assumption) ?_
                rotate_left
                · intro wt hSw; (try dsimp only at hSw); have f0 := cellB hSw f0 z5; have fd := cellB hSw fd z2; have x1 := cellB hSw x1 zv; have g0 := cellB hSw g0 z3; first | (go_simp; done) | (go_simp; with_reducible rfl) | (trace_state; fail)
                try simp only [Act.put, List.setIfInBounds_toArray, List.set_cons_zero, List.set_cons_succ]
                refine wpAnyH_ready (rs := [5]) (by kernel_rfl) (by simp) ?_
                refine AllReadyH.cons (o := { dst := some 76, op := Op.call { callee := Callee.value (Operand.func 25), args := #[Operand.tmp 75], argTypes := #[3] }, type := 4, pos := _, after := #[{ on := 4, ground := Ground.data }], guard := none }) rfl (fun K hK => ?_) AllReadyH.nil
                go_simp
                refine (ref01_Right _ _).mono ?_; rintro e w1 ⟨rfl, rfl⟩; rw [hkr]
                go_wp2_with fail
                refine hK.out _ _ ?_ (fun hHeld => ?_)
                · (try dsimp only); first | assumption | exact Below.alloc hHeld hHeld.size _ | exact (Below.refl _ _).drew | exact Below.drew (Below.refl _ _) | exact Below_drewN _ _ _ | exact Below.refl _ _ | (trace_state; fail)
                clear hK K
                try simp only [Act.put, List.setIfInBounds_toArray, List.set_cons_zero, List.set_cons_succ]
                refine wpAnyH_take (i := 6) (oi := { dst := some 77, op := Op.unOp UnOp.not 4 (Operand.tmp 76), type := 4, pos := _, after := #[{ on := 5, ground := Ground.data }], guard := none }) (v := ?_) rfl (by kernel_rfl) (by kernel_rfl) (by kernel_rfl) (fun _ _ _ h => h) (Or.inl ⟨by rfl, ?_⟩) (by assumption) ?_
                rotate_left
                · intro wt hSw; (try dsimp only at hSw); have f0 := cellB hSw f0 z5; have fd := cellB hSw fd z2; have x1 := cellB hSw x1 zv; have g0 := cellB hSw g0 z3; first | (go_simp; done) | (go_simp; with_reducible rfl) | (trace_state; fail)
                try simp only [Act.put, List.setIfInBounds_toArray, List.set_cons_zero, List.set_cons_succ]
                refine wpAnyH_take (i := 7) (oi := { dst := some 78, op := Op.move (Operand.tmp 77), type := 4, pos := _, after := #[{ on := 6, ground := Ground.data }, { on := 5, ground := Ground.chain }], guard := none }) (v := ?_) rfl (by kernel_rfl) (by kernel_rfl) (by kernel_rfl) (fun _ _ _ h => h) (Or.inl ⟨by rfl, ?_⟩) (by assumption) ?_
                rotate_left
                · intro wt hSw; (try dsimp only at hSw); have f0 := cellB hSw f0 z5; have fd := cellB hSw fd z2; have x1 := cellB hSw x1 zv; have g0 := cellB hSw g0 z3; first | (go_simp; done) | (go_simp; with_reducible rfl) | (trace_state; fail)
                try simp only [Act.put, List.setIfInBounds_toArray, List.set_cons_zero, List.set_cons_succ]
                refine wpAnyH_take (i := 8) (oi := { dst := some 79, op := Op.move (Operand.tmp 0), type := 23, pos := _, after := #[{ on := 7, ground := Ground.guard }], guard := some (7, false) }) (v := ?_) rfl (by kernel_rfl) (by kernel_rfl) (by kernel_rfl) (fun _ _ _ h => h) (Or.inl ⟨by rfl, ?_⟩) (by assumption) ?_
                rotate_left
                · intro wt hSw; (try dsimp only at hSw); have f0 := cellB hSw f0 z5; have fd := cellB hSw fd z2; have x1 := cellB hSw x1 zv; have g0 := cellB hSw g0 z3; first | (go_simp; done) | (go_simp; with_reducible rfl) | (trace_state; fail)
                try simp only [Act.put, List.setIfInBounds_toArray, List.set_cons_zero, List.set_cons_succ]
                refine wpAnyH_take (i := 9) (oi := { dst := some 80, op := Op.move (Operand.tmp 7), type := 3, pos := _, after := #[{ on := 7, ground := Ground.guard }], guard := some (7, false) }) (v := ?_) rfl (by kernel_rfl) (by kernel_rfl) (by kernel_rfl) (fun _ _ _ h => h) (Or.inl ⟨by rfl, ?_⟩) (by assumption) ?_
                rotate_left
                · intro wt hSw; (try dsimp only at hSw); have f0 := cellB hSw f0 z5; have fd := cellB hSw fd z2; have x1 := cellB hSw x1 zv; have g0 := cellB hSw g0 z3; first | (go_simp; done) | (go_simp; with_reducible rfl) | (trace_state; fail)
                try simp only [Act.put, List.setIfInBounds_toArray, List.set_cons_zero, List.set_cons_succ]
                refine wpAnyH_take (i := 10) (oi := { dst := some 81, op := Op.indexAddr 23 (Operand.tmp 79) (Operand.tmp 80), type := 0, pos := _, after := #[{ on := 8, ground := Ground.data }, { on := 9, ground := Ground.data }, { on := 7, ground := Ground.guard }], guard := some (7, false) }) (v := ?_) rfl (by kernel_rfl) (by kernel_rfl) (by kernel_rfl) (fun _ _ _ h => h) (Or.inl ⟨by rfl, ?_⟩) (by assumption) ?_
                rotate_left
                · intro wt hSw; (try dsimp only at hSw); have f0 := cellB hSw f0 z5; have fd := cellB hSw fd z2; have x1 := cellB hSw x1 zv; have g0 := cellB hSw g0 z3; first | (go_simp; done) | (go_simp; with_reducible rfl) | (trace_state; fail)
                try simp only [Act.put, List.setIfInBounds_toArray, List.set_cons_zero, List.set_cons_succ]
                refine wpAnyH_take (i := 11) (oi := { dst := some 82, op := Op.fieldAddr 53 (Operand.tmp 81) 1, type := 0, pos := _, after := #[{ on := 10, ground := Ground.data }, { on := 7, ground := Ground.guard }], guard := some (7, false) }) (v := ?_) rfl (by kernel_rfl) (by kernel_rfl) (by kernel_rfl) (fun _ _ _ h => h) (Or.inl ⟨by rfl, ?_⟩) (by assumption) ?_
                rotate_left
                · intro wt hSw; (try dsimp only at hSw); have f0 := cellB hSw f0 z5; have fd := cellB hSw fd z2; have x1 := cellB hSw x1 zv; have g0 := cellB hSw g0 z3; first | (go_simp; done) | (go_simp; with_reducible rfl) | (trace_state; fail)
                try simp only [Act.put, List.setIfInBounds_toArray, List.set_cons_zero, List.set_cons_succ]
                refine wpAnyH_take (i := 12) (oi := { dst := some 83, op := Op.load 3 (Operand.tmp 82), type := 3, pos := _, after := #[{ on := 11, ground := Ground.data }, { on := 7, ground := Ground.guard }], guard := some (7, false) }) (v := ?_) rfl (by kernel_rfl) (by kernel_rfl) (by kernel_rfl) (fun _ _ _ h => h) (Or.inl ⟨by rfl, ?_⟩) (by assumption) ?_
                rotate_left
                · intro wt hSw; (try dsimp only at hSw); have f0 := cellB hSw f0 z5; have fd := cellB hSw fd z2; have x1 := cellB hSw x1 zv; have g0 := cellB hSw g0 z3; first | (go_simp; done) | (go_simp; with_reducible rfl) | (trace_state; fail)
                try simp only [Act.put, List.setIfInBounds_toArray, List.set_cons_zero, List.set_cons_succ]
                refine wpAnyH_take (i := 13) (oi := { dst := some 84, op := Op.fieldAddr 31 (Operand.tmp 5) 0, type := 0, pos := _, after := #[{ on := 7, ground := Ground.guard }], guard := some (7, false) }) (v := ?_) rfl (by kernel_rfl) (by kernel_rfl) (by kernel_rfl) (fun _ _ _ h => h) (Or.inl ⟨by rfl, ?_⟩) (by assumption) ?_
                rotate_left
                · intro wt hSw; (try dsimp only at hSw); have f0 := cellB hSw f0 z5; have fd := cellB hSw fd z2; have x1 := cellB hSw x1 zv; have g0 := cellB hSw g0 z3; first | (go_simp; done) | (go_simp; with_reducible rfl) | (trace_state; fail)
                try simp only [Act.put, List.setIfInBounds_toArray, List.set_cons_zero, List.set_cons_succ]
                refine wpAnyH_take (i := 14) (oi := { dst := some 85, op := Op.load 28 (Operand.tmp 84), type := 28, pos := _, after := #[{ on := 13, ground := Ground.data }, { on := 7, ground := Ground.guard }], guard := some (7, false) }) (v := ?_) rfl (by kernel_rfl) (by kernel_rfl) (by kernel_rfl) (fun _ _ _ h => h) (Or.inl ⟨by rfl, ?_⟩) (by assumption) ?_
                rotate_left
                · intro wt hSw; (try dsimp only at hSw); have f0 := cellB hSw f0 z5; have fd := cellB hSw fd z2; have x1 := cellB hSw x1 zv; have g0 := cellB hSw g0 z3; first | (go_simp; done) | (go_simp; with_reducible rfl) | (trace_state; fail)
                try simp only [Act.put, List.setIfInBounds_toArray, List.set_cons_zero, List.set_cons_succ]
                refine wpAnyH_take (i := 15) (oi := { dst := some 86, op := Op.move (Operand.tmp 7), type := 3, pos := _, after := #[{ on := 7, ground := Ground.guard }], guard := some (7, false) }) (v := ?_) rfl (by kernel_rfl) (by kernel_rfl) (by kernel_rfl) (fun _ _ _ h => h) (Or.inl ⟨by rfl, ?_⟩) (by assumption) ?_
                rotate_left
                · intro wt hSw; (try dsimp only at hSw); have f0 := cellB hSw f0 z5; have fd := cellB hSw fd z2; have x1 := cellB hSw x1 zv; have g0 := cellB hSw g0 z3; first | (go_simp; done) | (go_simp; with_reducible rfl) | (trace_state; fail)
                try simp only [Act.put, List.setIfInBounds_toArray, List.set_cons_zero, List.set_cons_succ]
                refine wpAnyH_take (i := 16) (oi := { dst := some 87, op := Op.indexAddr 28 (Operand.tmp 85) (Operand.tmp 86), type := 0, pos := _, after := #[{ on := 14, ground := Ground.data }, { on := 15, ground := Ground.data }, { on := 7, ground := Ground.guard }], guard := some (7, false) }) (v := ?_) rfl (by kernel_rfl) (by kernel_rfl) (by kernel_rfl) (fun _ _ _ h => h) (Or.inl ⟨by rfl, ?_⟩) (by assumption) ?_
                rotate_left
                · intro wt hSw; (try dsimp only at hSw); have f0 := cellB hSw f0 z5; have fd := cellB hSw fd z2; have x1 := cellB hSw x1 zv; have g0 := cellB hSw g0 z3; first | (go_simp; done) | (go_simp; with_reducible rfl) | (trace_state; fail)
                try simp only [Act.put, List.setIfInBounds_toArray, List.set_cons_zero, List.set_cons_succ]
                refine wpAnyH_take (i := 17) (oi := { dst := some 88, op := Op.load 45 (Operand.tmp 87), type := 45, pos := _, after := #[{ on := 16, ground := Ground.data }, { on := 7, ground := Ground.guard }], guard := some (7, false) }) (v := ?_) rfl (by kernel_rfl) (by kernel_rfl) (by kernel_rfl) (fun _ _ _ h => h) (Or.inl ⟨by rfl, ?_⟩) (by assumption) ?_
                rotate_left
                · intro wt hSw; (try dsimp only at hSw); have f0 := cellB hSw f0 z5; have fd := cellB hSw fd z2; have x1 := cellB hSw x1 zv; have g0 := cellB hSw g0 z3; first | (go_simp; done) | (go_simp; with_reducible rfl) | (trace_state; fail)
                try simp only [Act.put, List.setIfInBounds_toArray, List.set_cons_zero, List.set_cons_succ]
                refine wpAnyH_take (i := 18) (oi := { dst := some 89, op := Op.move (Operand.tmp 8), type := 3, pos := _, after := #[{ on := 7, ground := Ground.guard }], guard := some (7, false) }) (v := ?_) rfl (by kernel_rfl) (by kernel_rfl) (by kernel_rfl) (fun _ _ _ h => h) (Or.inl ⟨by rfl, ?_⟩) (by assumption) ?_
                rotate_left
                · intro wt hSw; (try dsimp only at hSw); have f0 := cellB hSw f0 z5; have fd := cellB hSw fd z2; have x1 := cellB hSw x1 zv; have g0 := cellB hSw g0 z3; first | (go_simp; done) | (go_simp; with_reducible rfl) | (trace_state; fail)
                try simp only [Act.put, List.setIfInBounds_toArray, List.set_cons_zero, List.set_cons_succ]
                refine wpAnyH_take (i := 19) (oi := { dst := some 90, op := Op.indexAddr 45 (Operand.tmp 88) (Operand.tmp 89), type := 0, pos := _, after := #[{ on := 17, ground := Ground.data }, { on := 18, ground := Ground.data }, { on := 7, ground := Ground.guard }], guard := some (7, false) }) (v := ?_) rfl (by kernel_rfl) (by kernel_rfl) (by kernel_rfl) (fun _ _ _ h => h) (Or.inl ⟨by rfl, ?_⟩) (by assumption) ?_
                rotate_left
                · intro wt hSw; (try dsimp only at hSw); have f0 := cellB hSw f0 z5; have fd := cellB hSw fd z2; have x1 := cellB hSw x1 zv; have g0 := cellB hSw g0 z3; first | (go_simp; done) | (go_simp; with_reducible rfl) | (trace_state; fail)
                try simp only [Act.put, List.setIfInBounds_toArray, List.set_cons_zero, List.set_cons_succ]
                refine wpAnyH_take (i := 20) (oi := { dst := some 91, op := Op.load 3 (Operand.tmp 90), type := 3, pos := _, after := #[{ on := 19, ground := Ground.data }, { on := 7, ground := Ground.guard }], guard := some (7, false) }) (v := ?_) rfl (by kernel_rfl) (by kernel_rfl) (by kernel_rfl) (fun _ _ _ h => h) (Or.inl ⟨by rfl, ?_⟩) (by assumption) ?_
                rotate_left
                · intro wt hSw; (try dsimp only at hSw); have f0 := cellB hSw f0 z5; have fd := cellB hSw fd z2; have x1 := cellB hSw x1 zv; have g0 := cellB hSw g0 z3; first | (go_simp; done) | (go_simp; with_reducible rfl) | (trace_state; fail)
                try simp only [Act.put, List.setIfInBounds_toArray, List.set_cons_zero, List.set_cons_succ]
                refine wpAnyH_ready (rs := [21]) (by kernel_rfl) (by simp) ?_
                refine AllReadyH.cons (o := { dst := some 92, op := Op.call { callee := Callee.value (Operand.func 26), args := #[Operand.tmp 83, Operand.tmp 91], argTypes := #[3, 3] }, type := 4, pos := _, after := #[{ on := 12, ground := Ground.data }, { on := 20, ground := Ground.data }, { on := 7, ground := Ground.chain }, { on := 7, ground := Ground.guard }], guard := some (7, false) }) rfl (fun K hK => ?_) AllReadyH.nil
                go_simp
                refine (HI.out _).mono ?_; rintro e w2 ⟨rfl, rfl⟩
                go_wp2_with fail
                refine hK.out _ _ ?_ (fun hHeld => ?_)
                · (try dsimp only); first | assumption | exact Below.alloc hHeld hHeld.size _ | exact (Below.refl _ _).drew | exact Below.drew (Below.refl _ _) | exact Below_drewN _ _ _ | exact Below.refl _ _ | (trace_state; fail)
                clear hK K
                try simp only [Act.put, List.setIfInBounds_toArray, List.set_cons_zero, List.set_cons_succ]
                refine wpAnyH_take (i := 22) (oi := { dst := some 93, op := Op.unOp UnOp.not 4 (Operand.tmp 92), type := 4, pos := _, after := #[{ on := 21, ground := Ground.data }, { on := 7, ground := Ground.guard }], guard := some (7, false) }) (v := ?_) rfl (by kernel_rfl) (by kernel_rfl) (by kernel_rfl) (fun _ _ _ h => h) (Or.inl ⟨by rfl, ?_⟩) (by assumption) ?_
                rotate_left
                · intro wt hSw; (try dsimp only at hSw); have f0 := cellB hSw f0 z5; have fd := cellB hSw fd z2; have x1 := cellB hSw x1 zv; have g0 := cellB hSw g0 z3; first | (go_simp; done) | (go_simp; with_reducible rfl) | (trace_state; fail)
                try simp only [Act.put, List.setIfInBounds_toArray, List.set_cons_zero, List.set_cons_succ]
                refine wpAnyH_take (i := 23) (oi := { dst := some 94, op := Op.pick (Operand.tmp 78) (Operand.const (Value.bool true)) (Operand.tmp 93), type := 4, pos := _, after := #[{ on := 7, ground := Ground.data }, { on := 22, ground := Ground.data }], guard := none }) (v := ?_) rfl (by kernel_rfl) (by kernel_rfl) (by kernel_rfl) (fun _ _ _ h => h) (Or.inl ⟨by rfl, ?_⟩) (by assumption) ?_
                rotate_left
                · intro wt hSw; (try dsimp only at hSw); have f0 := cellB hSw f0 z5; have fd := cellB hSw fd z2; have x1 := cellB hSw x1 zv; have g0 := cellB hSw g0 z3; first | (go_simp; done) | (go_simp; with_reducible rfl) | (trace_state; fail)
                try simp only [Act.put, List.setIfInBounds_toArray, List.set_cons_zero, List.set_cons_succ]
                refine wpAnyH_done (by kernel_rfl) ?_ _
                go_wp2_with fail
                go_ret
                exact ⟨by rw [hno.out]; rfl, HBr.out.trans (hHeld.mono HBr.out.size)⟩
              · rw [hk] at HI
                have hal2 := Lib.hid (show (l.take (q + 1)).all (kIn x.t) = true by rw [hts.out, List.all_append, hal.out]; simp [hk])
                clear hk
                go_wp2_with fail
                refine wp_region_held_drew (S := (fun w' => Below wr.heap.size wr w')) (by kernel_rfl) ?_ (fun hHeld => ?_)
                · (try dsimp only); first | assumption | exact Below.alloc hHeld hHeld.size _ | exact (Below.refl _ _).drew | exact Below.drew (Below.refl _ _) | exact Below_drewN _ _ _ | exact Below.refl _ _ | (trace_state; fail)
                refine wpAnyH_take (i := 0) (oi := { dst := some 71, op := Op.move (Operand.tmp 0), type := 23, pos := _, after := #[], guard := none }) (v := ?_) rfl (by kernel_rfl) (by kernel_rfl) (by kernel_rfl) (fun _ _ _ h => h) (Or.inl ⟨by rfl, ?_⟩) (by assumption) ?_
                rotate_left
                · intro wt hSw; (try dsimp only at hSw); have f0 := cellB hSw f0 z5; have fd := cellB hSw fd z2; have x1 := cellB hSw x1 zv; have g0 := cellB hSw g0 z3; first | (go_simp; done) | (go_simp; with_reducible rfl) | (trace_state; fail)
                try simp only [Act.put, List.setIfInBounds_toArray, List.set_cons_zero, List.set_cons_succ]
                refine wpAnyH_take (i := 1) (oi := { dst := some 72, op := Op.move (Operand.tmp 7), type := 3, pos := _, after := #[], guard := none }) (v := ?_) rfl (by kernel_rfl) (by kernel_rfl) (by kernel_rfl) (fun _ _ _ h => h) (Or.inl ⟨by rfl, ?_⟩) (by assumption) ?_
                rotate_left
                · intro wt hSw; (try dsimp only at hSw); have f0 := cellB hSw f0 z5; have fd := cellB hSw fd z2; have x1 := cellB hSw x1 zv; have g0 := cellB hSw g0 z3; first | (go_simp; done) | (go_simp; with_reducible rfl) | (trace_state; fail)
                try simp only [Act.put, List.setIfInBounds_toArray, List.set_cons_zero, List.set_cons_succ]
                refine wpAnyH_take (i := 2) (oi := { dst := some 73, op := Op.indexAddr 23 (Operand.tmp 71) (Operand.tmp 72), type := 0, pos := _, after := #[{ on := 0, ground := Ground.data }, { on := 1, ground := Ground.data }], guard := none }) (v := ?_) rfl (by kernel_rfl) (by kernel_rfl) (by kernel_rfl) (fun _ _ _ h => h) (Or.inl ⟨by rfl, ?_⟩) (by assumption) ?_
                rotate_left
                · intro wt hSw; (try dsimp only at hSw); have f0 := cellB hSw f0 z5; have fd := cellB hSw fd z2; have x1 := cellB hSw x1 zv; have g0 := cellB hSw g0 z3; first | (go_simp; done) | (go_simp; with_reducible rfl) | (trace_state; fail)
                try simp only [Act.put, List.setIfInBounds_toArray, List.set_cons_zero, List.set_cons_succ]
                refine wpAnyH_take (i := 3) (oi := { dst := some 74, op := Op.fieldAddr 53 (Operand.tmp 73) 1, type := 0, pos := _, after := #[{ on := 2, ground := Ground.data }], guard := none }) (v := ?_) rfl (by kernel_rfl) (by kernel_rfl) (by kernel_rfl) (fun _ _ _ h => h) (Or.inl ⟨by rfl, ?_⟩) (by assumption) ?_
                rotate_left
                · intro wt hSw; (try dsimp only at hSw); have f0 := cellB hSw f0 z5; have fd := cellB hSw fd z2; have x1 := cellB hSw x1 zv; have g0 := cellB hSw g0 z3; first | (go_simp; done) | (go_simp; with_reducible rfl) | (trace_state; fail)
                try simp only [Act.put, List.setIfInBounds_toArray, List.set_cons_zero, List.set_cons_succ]
                refine wpAnyH_take (i := 4) (oi := { dst := some 75, op := Op.load 3 (Operand.tmp 74), type := 3, pos := _, after := #[{ on := 3, ground := Ground.data }], guard := none }) (v := ?_) rfl (by kernel_rfl) (by kernel_rfl) (by kernel_rfl) (fun _ _ _ h => h) (Or.inl ⟨by rfl, ?_⟩) (by assumption) ?_
                rotate_left
                · intro wt hSw; (try dsimp only at hSw); have f0 := cellB hSw f0 z5; have fd := cellB hSw fd z2; have x1 := cellB hSw x1 zv; have g0 := cellB hSw g0 z3; first | (go_simp; done) | (go_simp; with_reducible rfl) | (trace_state; fail)
                try simp only [Act.put, List.setIfInBounds_toArray, List.set_cons_zero, List.set_cons_succ]
                refine wpAnyH_ready (rs := [5]) (by kernel_rfl) (by simp) ?_
                refine AllReadyH.cons (o := { dst := some 76, op := Op.call { callee := Callee.value (Operand.func 25), args := #[Operand.tmp 75], argTypes := #[3] }, type := 4, pos := _, after := #[{ on := 4, ground := Ground.data }], guard := none }) rfl (fun K hK => ?_) AllReadyH.nil
                go_simp
                refine (ref01_Right _ _).mono ?_; rintro e w1 ⟨rfl, rfl⟩; rw [hkr]
                go_wp2_with fail
                refine hK.out _ _ ?_ (fun hHeld => ?_)
                · (try dsimp only); first | assumption | exact Below.alloc hHeld hHeld.size _ | exact (Below.refl _ _).drew | exact Below.drew (Below.refl _ _) | exact Below_drewN _ _ _ | exact Below.refl _ _ | (trace_state; fail)
                clear hK K
                try simp only [Act.put, List.setIfInBounds_toArray, List.set_cons_zero, List.set_cons_succ]
                refine wpAnyH_take (i := 6) (oi := { dst := some 77, op := Op.unOp UnOp.not 4 (Operand.tmp 76), type := 4, pos := _, after := #[{ on := 5, ground := Ground.data }], guard := none }) (v := ?_) rfl (by kernel_rfl) (by kernel_rfl) (by kernel_rfl) (fun _ _ _ h => h) (Or.inl ⟨by rfl, ?_⟩) (by assumption) ?_
                rotate_left
                · intro wt hSw; (try dsimp only at hSw); have f0 := cellB hSw f0 z5; have fd := cellB hSw fd z2; have x1 := cellB hSw x1 zv; have g0 := cellB hSw g0 z3; first | (go_simp; done) | (go_simp; with_reducible rfl) | (trace_state; fail)
                try simp only [Act.put, List.setIfInBounds_toArray, List.set_cons_zero, List.set_cons_succ]
                refine wpAnyH_take (i := 7) (oi := { dst := some 78, op := Op.move (Operand.tmp 77), type := 4, pos := _, after := #[{ on := 6, ground := Ground.data }, { on := 5, ground := Ground.chain }], guard := none }) (v := ?_) rfl (by kernel_rfl) (by kernel_rfl) (by kernel_rfl) (fun _ _ _ h => h) (Or.inl ⟨by rfl, ?_⟩) (by assumption) ?_
                rotate_left
                · intro wt hSw; (try dsimp only at hSw); have f0 := cellB hSw f0 z5; have fd := cellB hSw fd z2; have x1 := cellB hSw x1 zv; have g0 := cellB hSw g0 z3; first | (go_simp; done) | (go_simp; with_reducible rfl) | (trace_state; fail)
                try simp only [Act.put, List.setIfInBounds_toArray, List.set_cons_zero, List.set_cons_succ]
                refine wpAnyH_take (i := 8) (oi := { dst := some 79, op := Op.move (Operand.tmp 0), type := 23, pos := _, after := #[{ on := 7, ground := Ground.guard }], guard := some (7, false) }) (v := ?_) rfl (by kernel_rfl) (by kernel_rfl) (by kernel_rfl) (fun _ _ _ h => h) (Or.inl ⟨by rfl, ?_⟩) (by assumption) ?_
                rotate_left
                · intro wt hSw; (try dsimp only at hSw); have f0 := cellB hSw f0 z5; have fd := cellB hSw fd z2; have x1 := cellB hSw x1 zv; have g0 := cellB hSw g0 z3; first | (go_simp; done) | (go_simp; with_reducible rfl) | (trace_state; fail)
                try simp only [Act.put, List.setIfInBounds_toArray, List.set_cons_zero, List.set_cons_succ]
                refine wpAnyH_take (i := 9) (oi := { dst := some 80, op := Op.move (Operand.tmp 7), type := 3, pos := _, after := #[{ on := 7, ground := Ground.guard }], guard := some (7, false) }) (v := ?_) rfl (by kernel_rfl) (by kernel_rfl) (by kernel_rfl) (fun _ _ _ h => h) (Or.inl ⟨by rfl, ?_⟩) (by assumption) ?_
                rotate_left
                · intro wt hSw; (try dsimp only at hSw); have f0 := cellB hSw f0 z5; have fd := cellB hSw fd z2; have x1 := cellB hSw x1 zv; have g0 := cellB hSw g0 z3; first | (go_simp; done) | (go_simp; with_reducible rfl) | (trace_state; fail)
                try simp only [Act.put, List.setIfInBounds_toArray, List.set_cons_zero, List.set_cons_succ]
                refine wpAnyH_take (i := 10) (oi := { dst := some 81, op := Op.indexAddr 23 (Operand.tmp 79) (Operand.tmp 80), type := 0, pos := _, after := #[{ on := 8, ground := Ground.data }, { on := 9, ground := Ground.data }, { on := 7, ground := Ground.guard }], guard := some (7, false) }) (v := ?_) rfl (by kernel_rfl) (by kernel_rfl) (by kernel_rfl) (fun _ _ _ h => h) (Or.inl ⟨by rfl, ?_⟩) (by assumption) ?_
                rotate_left
                · intro wt hSw; (try dsimp only at hSw); have f0 := cellB hSw f0 z5; have fd := cellB hSw fd z2; have x1 := cellB hSw x1 zv; have g0 := cellB hSw g0 z3; first | (go_simp; done) | (go_simp; with_reducible rfl) | (trace_state; fail)
                try simp only [Act.put, List.setIfInBounds_toArray, List.set_cons_zero, List.set_cons_succ]
                refine wpAnyH_take (i := 11) (oi := { dst := some 82, op := Op.fieldAddr 53 (Operand.tmp 81) 1, type := 0, pos := _, after := #[{ on := 10, ground := Ground.data }, { on := 7, ground := Ground.guard }], guard := some (7, false) }) (v := ?_) rfl (by kernel_rfl) (by kernel_rfl) (by kernel_rfl) (fun _ _ _ h => h) (Or.inl ⟨by rfl, ?_⟩) (by assumption) ?_
                rotate_left
                · intro wt hSw; (try dsimp only at hSw); have f0 := cellB hSw f0 z5; have fd := cellB hSw fd z2; have x1 := cellB hSw x1 zv; have g0 := cellB hSw g0 z3; first | (go_simp; done) | (go_simp; with_reducible rfl) | (trace_state; fail)
                try simp only [Act.put, List.setIfInBounds_toArray, List.set_cons_zero, List.set_cons_succ]
                refine wpAnyH_take (i := 12) (oi := { dst := some 83, op := Op.load 3 (Operand.tmp 82), type := 3, pos := _, after := #[{ on := 11, ground := Ground.data }, { on := 7, ground := Ground.guard }], guard := some (7, false) }) (v := ?_) rfl (by kernel_rfl) (by kernel_rfl) (by kernel_rfl) (fun _ _ _ h => h) (Or.inl ⟨by rfl, ?_⟩) (by assumption) ?_
                rotate_left
                · intro wt hSw; (try dsimp only at hSw); have f0 := cellB hSw f0 z5; have fd := cellB hSw fd z2; have x1 := cellB hSw x1 zv; have g0 := cellB hSw g0 z3; first | (go_simp; done) | (go_simp; with_reducible rfl) | (trace_state; fail)
                try simp only [Act.put, List.setIfInBounds_toArray, List.set_cons_zero, List.set_cons_succ]
                refine wpAnyH_take (i := 13) (oi := { dst := some 84, op := Op.fieldAddr 31 (Operand.tmp 5) 0, type := 0, pos := _, after := #[{ on := 7, ground := Ground.guard }], guard := some (7, false) }) (v := ?_) rfl (by kernel_rfl) (by kernel_rfl) (by kernel_rfl) (fun _ _ _ h => h) (Or.inl ⟨by rfl, ?_⟩) (by assumption) ?_
                rotate_left
                · intro wt hSw; (try dsimp only at hSw); have f0 := cellB hSw f0 z5; have fd := cellB hSw fd z2; have x1 := cellB hSw x1 zv; have g0 := cellB hSw g0 z3; first | (go_simp; done) | (go_simp; with_reducible rfl) | (trace_state; fail)
                try simp only [Act.put, List.setIfInBounds_toArray, List.set_cons_zero, List.set_cons_succ]
                refine wpAnyH_take (i := 14) (oi := { dst := some 85, op := Op.load 28 (Operand.tmp 84), type := 28, pos := _, after := #[{ on := 13, ground := Ground.data }, { on := 7, ground := Ground.guard }], guard := some (7, false) }) (v := ?_) rfl (by kernel_rfl) (by kernel_rfl) (by kernel_rfl) (fun _ _ _ h => h) (Or.inl ⟨by rfl, ?_⟩) (by assumption) ?_
                rotate_left
                · intro wt hSw; (try dsimp only at hSw); have f0 := cellB hSw f0 z5; have fd := cellB hSw fd z2; have x1 := cellB hSw x1 zv; have g0 := cellB hSw g0 z3; first | (go_simp; done) | (go_simp; with_reducible rfl) | (trace_state; fail)
                try simp only [Act.put, List.setIfInBounds_toArray, List.set_cons_zero, List.set_cons_succ]
                refine wpAnyH_take (i := 15) (oi := { dst := some 86, op := Op.move (Operand.tmp 7), type := 3, pos := _, after := #[{ on := 7, ground := Ground.guard }], guard := some (7, false) }) (v := ?_) rfl (by kernel_rfl) (by kernel_rfl) (by kernel_rfl) (fun _ _ _ h => h) (Or.inl ⟨by rfl, ?_⟩) (by assumption) ?_
                rotate_left
                · intro wt hSw; (try dsimp only at hSw); have f0 := cellB hSw f0 z5; have fd := cellB hSw fd z2; have x1 := cellB hSw x1 zv; have g0 := cellB hSw g0 z3; first | (go_simp; done) | (go_simp; with_reducible rfl) | (trace_state; fail)
                try simp only [Act.put, List.setIfInBounds_toArray, List.set_cons_zero, List.set_cons_succ]
                refine wpAnyH_take (i := 16) (oi := { dst := some 87, op := Op.indexAddr 28 (Operand.tmp 85) (Operand.tmp 86), type := 0, pos := _, after := #[{ on := 14, ground := Ground.data }, { on := 15, ground := Ground.data }, { on := 7, ground := Ground.guard }], guard := some (7, false) }) (v := ?_) rfl (by kernel_rfl) (by kernel_rfl) (by kernel_rfl) (fun _ _ _ h => h) (Or.inl ⟨by rfl, ?_⟩) (by assumption) ?_
                rotate_left
                · intro wt hSw; (try dsimp only at hSw); have f0 := cellB hSw f0 z5; have fd := cellB hSw fd z2; have x1 := cellB hSw x1 zv; have g0 := cellB hSw g0 z3; first | (go_simp; done) | (go_simp; with_reducible rfl) | (trace_state; fail)
                try simp only [Act.put, List.setIfInBounds_toArray, List.set_cons_zero, List.set_cons_succ]
                refine wpAnyH_take (i := 17) (oi := { dst := some 88, op := Op.load 45 (Operand.tmp 87), type := 45, pos := _, after := #[{ on := 16, ground := Ground.data }, { on := 7, ground := Ground.guard }], guard := some (7, false) }) (v := ?_) rfl (by kernel_rfl) (by kernel_rfl) (by kernel_rfl) (fun _ _ _ h => h) (Or.inl ⟨by rfl, ?_⟩) (by assumption) ?_
                rotate_left
                · intro wt hSw; (try dsimp only at hSw); have f0 := cellB hSw f0 z5; have fd := cellB hSw fd z2; have x1 := cellB hSw x1 zv; have g0 := cellB hSw g0 z3; first | (go_simp; done) | (go_simp; with_reducible rfl) | (trace_state; fail)
                try simp only [Act.put, List.setIfInBounds_toArray, List.set_cons_zero, List.set_cons_succ]
                refine wpAnyH_take (i := 18) (oi := { dst := some 89, op := Op.move (Operand.tmp 8), type := 3, pos := _, after := #[{ on := 7, ground := Ground.guard }], guard := some (7, false) }) (v := ?_) rfl (by kernel_rfl) (by kernel_rfl) (by kernel_rfl) (fun _ _ _ h => h) (Or.inl ⟨by rfl, ?_⟩) (by assumption) ?_
                rotate_left
                · intro wt hSw; (try dsimp only at hSw); have f0 := cellB hSw f0 z5; have fd := cellB hSw fd z2; have x1 := cellB hSw x1 zv; have g0 := cellB hSw g0 z3; first | (go_simp; done) | (go_simp; with_reducible rfl) | (trace_state; fail)
                try simp only [Act.put, List.setIfInBounds_toArray, List.set_cons_zero, List.set_cons_succ]
                refine wpAnyH_take (i := 19) (oi := { dst := some 90, op := Op.indexAddr 45 (Operand.tmp 88) (Operand.tmp 89), type := 0, pos := _, after := #[{ on := 17, ground := Ground.data }, { on := 18, ground := Ground.data }, { on := 7, ground := Ground.guard }], guard := some (7, false) }) (v := ?_) rfl (by kernel_rfl) (by kernel_rfl) (by kernel_rfl) (fun _ _ _ h => h) (Or.inl ⟨by rfl, ?_⟩) (by assumption) ?_
                rotate_left
                · intro wt hSw; (try dsimp only at hSw); have f0 := cellB hSw f0 z5; have fd := cellB hSw fd z2; have x1 := cellB hSw x1 zv; have g0 := cellB hSw g0 z3; first | (go_simp; done) | (go_simp; with_reducible rfl) | (trace_state; fail)
                try simp only [Act.put, List.setIfInBounds_toArray, List.set_cons_zero, List.set_cons_succ]
                refine wpAnyH_take (i := 20) (oi := { dst := some 91, op := Op.load 3 (Operand.tmp 90), type := 3, pos := _, after := #[{ on := 19, ground := Ground.data }, { on := 7, ground := Ground.guard }], guard := some (7, false) }) (v := ?_) rfl (by kernel_rfl) (by kernel_rfl) (by kernel_rfl) (fun _ _ _ h => h) (Or.inl ⟨by rfl, ?_⟩) (by assumption) ?_
                rotate_left
                · intro wt hSw; (try dsimp only at hSw); have f0 := cellB hSw f0 z5; have fd := cellB hSw fd z2; have x1 := cellB hSw x1 zv; have g0 := cellB hSw g0 z3; first | (go_simp; done) | (go_simp; with_reducible rfl) | (trace_state; fail)
                try simp only [Act.put, List.setIfInBounds_toArray, List.set_cons_zero, List.set_cons_succ]
                refine wpAnyH_ready (rs := [21]) (by kernel_rfl) (by simp) ?_
                refine AllReadyH.cons (o := { dst := some 92, op := Op.call { callee := Callee.value (Operand.func 26), args := #[Operand.tmp 83, Operand.tmp 91], argTypes := #[3, 3] }, type := 4, pos := _, after := #[{ on := 12, ground := Ground.data }, { on := 20, ground := Ground.data }, { on := 7, ground := Ground.chain }, { on := 7, ground := Ground.guard }], guard := some (7, false) }) rfl (fun K hK => ?_) AllReadyH.nil
                go_simp
                refine (HI.out _).mono ?_; rintro e w2 ⟨rfl, rfl⟩
                go_wp2_with fail
                refine hK.out _ _ ?_ (fun hHeld => ?_)
                · (try dsimp only); first | assumption | exact Below.alloc hHeld hHeld.size _ | exact (Below.refl _ _).drew | exact Below.drew (Below.refl _ _) | exact Below_drewN _ _ _ | exact Below.refl _ _ | (trace_state; fail)
                clear hK K
                try simp only [Act.put, List.setIfInBounds_toArray, List.set_cons_zero, List.set_cons_succ]
                refine wpAnyH_take (i := 22) (oi := { dst := some 93, op := Op.unOp UnOp.not 4 (Operand.tmp 92), type := 4, pos := _, after := #[{ on := 21, ground := Ground.data }, { on := 7, ground := Ground.guard }], guard := some (7, false) }) (v := ?_) rfl (by kernel_rfl) (by kernel_rfl) (by kernel_rfl) (fun _ _ _ h => h) (Or.inl ⟨by rfl, ?_⟩) (by assumption) ?_
                rotate_left
                · intro wt hSw; (try dsimp only at hSw); have f0 := cellB hSw f0 z5; have fd := cellB hSw fd z2; have x1 := cellB hSw x1 zv; have g0 := cellB hSw g0 z3; first | (go_simp; done) | (go_simp; with_reducible rfl) | (trace_state; fail)
                try simp only [Act.put, List.setIfInBounds_toArray, List.set_cons_zero, List.set_cons_succ]
                refine wpAnyH_take (i := 23) (oi := { dst := some 94, op := Op.pick (Operand.tmp 78) (Operand.const (Value.bool true)) (Operand.tmp 93), type := 4, pos := _, after := #[{ on := 7, ground := Ground.data }, { on := 22, ground := Ground.data }], guard := none }) (v := ?_) rfl (by kernel_rfl) (by kernel_rfl) (by kernel_rfl) (fun _ _ _ h => h) (Or.inl ⟨by rfl, ?_⟩) (by assumption) ?_
                rotate_left
                · intro wt hSw; (try dsimp only at hSw); have f0 := cellB hSw f0 z5; have fd := cellB hSw fd z2; have x1 := cellB hSw x1 zv; have g0 := cellB hSw g0 z3; first | (go_simp; done) | (go_simp; with_reducible rfl) | (trace_state; fail)
                try simp only [Act.put, List.setIfInBounds_toArray, List.set_cons_zero, List.set_cons_succ]
                refine wpAnyH_done (by kernel_rfl) ?_ _
                have hBn := Lib.hid (hB.out.trans (hHeld.mono hB.out.size))
                clear hHeld
                go_wp2_with fail
                go_roundw
                case rel => exact ⟨q + 1, by omega, by simp, hal2, hBn⟩
                case measure => first | (simp [intOf]; done) | (simp [intOf]; omega)
          · obtain rfl : q = m := by omega
            have qq : ((q : Int) < (q : Int)) = False := eq_false (by omega)
            have hy := Lib.hid (HYes.out (by rw [hD2.out]; have := hal.out; rwa [List.take_of_length_le (by have := Hm.out; omega)] at this))
            go_wp2_with fail
            go_roundw
            case rel => exact ⟨k + 1, by omega, by simp, hy, hB⟩
            case measure => first | (simp [intOf]; done) | (simp [intOf]; omega)
      · have qn : ((m : Int) != x.n) = true := by simpa using hn
        have hno := Lib.hid (HNo.out (by rw [HD.out, decide_eq_false hn]; rfl))
        clear hn
        go_wp2_with fail
        go_quiet (fail)
        go_wp2_with fail
        go_ret
        exact ⟨by rw [hno.out]; rfl, HWB.out.trans ((hB.out.trans ((Below_drewN wr.heap.size wr nq).mono hB.out.size)).mono HWB.out.size)⟩
    · obtain rfl : k = M := by omega
      have qk : ((k : Int) < (k : Int)) = False := eq_false (by omega)
      have hyes := Lib.hid (fitS_yes hhead.out (by have := hall.out; rw [List.take_of_length_le (by have := HL.out.1; omega)] at this; exact this))
      go_wp2_with fail
      go_ret
      exact ⟨by rw [hyes.out]; rfl, HWB.out.trans (hB.out.mono HWB.out.size)⟩
end Go.Proofs.Ythanmbfelihkfaa
