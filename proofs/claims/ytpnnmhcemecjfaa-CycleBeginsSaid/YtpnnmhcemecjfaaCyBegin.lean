/- Layer 24: a scan's beginning. -/
import Derived.Test.YtpnnmhcemecjfaaCyNext
namespace Go.Proofs.Ytpnnmhcemecjfaa
open Go.RowKit
set_option linter.unusedSimpArgs false
set_option linter.unusedVariables false
theorem cell_grown {w w' : World} {g q o : Nat} (h : w.grownBy w' (some q)) (hg : g < w.heap.size) (hne : g ≠ q) : w'.cell? ⟨g, o, none⟩ = w.cell? ⟨g, o, none⟩ :=
  World.cell?_of_block (h.block g hg (by simp [hne]))
set_option maxHeartbeats 4000000 in
theorem cycle_Begin (vv v b iv : Value) (L : List Vr) (s : St) (ins : List Int) (dt : Int) (w : World) (hvv : RowR 5 varR w vv L) (h : StAt w v b s) (hsh : shortS s = true) (hri : RowR 1 intR w iv ins) (hL : L.length ≤ 70) (hlen : ins.length ≤ 300) (hdt : I64 dt) :
    Calls Try.prog 10 #[vv, .agg #[v, b, .int .i64 s.now, .int .i64 s.fault], iv, .int .i64 dt] w fun e w' => ∃ v' b' : Value, e = .returned (.agg #[v', b', .int .i64 (laterF s.now dt), .int .i64 s.fault]) ∧ StAt w' v' b' (begS L ins s dt) ∧ Below w.heap.size w w' := by
  obtain ⟨s1, s2, s3⟩ : s.vars.length ≤ 100 ∧ s.blocks.length ≤ 100 ∧ ∀ l ∈ s.vars, l.length ≤ 100 := of_decide_eq_true hsh
  have cp := @cell_past
  have hmf : ∀ (fn : Fn) (first cap : Array Value) (w : World), (Instr.makeFunc fn first cap).run Try.prog w = .ok (.func fn first cap) w := fun _ _ _ _ => rfl
  have hC := Lib.hid (fun W (hb : Below w.heap.size w W) => state_Clone v b s W (h.below hb) hsh)
  have hLt := Lib.hid (fun W => cycle_later s.now dt h.n64 hdt W)
  have hI := Lib.hid (row_ints hri)
  obtain ⟨s0, hs0⟩ : ∃ s0, s0 = { s with now := laterF s.now dt } := ⟨_, rfl⟩
  have Hs0 := Lib.hid hs0
  have HS0 := Lib.hid (show begS L ins s dt = (begF L ins s0 L.length).1 from by rw [hs0]; rfl)
  have HV0 := Lib.hid (show s0.vars = s.vars from by rw [hs0])
  have H64 := Lib.hid (show I64 s0.now ∧ I64 s0.fault from by rw [hs0]; exact ⟨laterF_i64 h.n64, h.f64⟩)
  have HNUM := Lib.hid (begF_num (vs := L) (ins := ins) (s := s0) (by rw [HV0.out]; exact s3))
  clear hs0
  obtain ⟨si, ci, rfl⟩ := row_get hri
  obtain ⟨N, hN⟩ : ∃ N, L.length = N := ⟨_, rfl⟩
  obtain ⟨NI, hNI⟩ : ∃ N, ins.length = N := ⟨_, rfl⟩
  have HN := Lib.hid hN
  have HNI := Lib.hid hNI
  obtain ⟨sv, cv, rfl⟩ := row_get hvv
  obtain ⟨sa, ca, rfl⟩ := row_get h.vs
  obtain ⟨sb, cb, rfl⟩ := row_get h.bs
  rw [hN] at hL hvv ⊢
  rw [hNI] at hri ⊢
  generalize hSL : s.vars.length = M at *
  have HSL := Lib.hid hSL
  generalize hBL : s.blocks.length = BL at *
  have HBL := Lib.hid hBL
  clear hN hNI hSL hBL
  go_enter Try.func10, Try.ntmps10
  go_wp2_with fail
  refine (hC.out _ (by (repeat' (first | (with_reducible exact Below.refl _ _) | (with_reducible assumption) | (with_reducible refine more_below ?_ ?_ _ _) | (with_reducible refine below_drewN ?_ _) | (with_reducible refine Below.alloc ?_ ?_ _) | (with_reducible refine Below.drew ?_) | (with_reducible refine Below.setCell ?_ ?_ _) | (simp only [World.size_alloc, World.size_setCell, World.size_drew, more_size, World.heap_drewN]; omega) | go_size)))).mono ?_; rintro e W1 ⟨v', b', g, U, C, rfl, hO, hb1⟩
  obtain ⟨Wb, hWb⟩ : ∃ Wb, Wb = (((w.alloc (.cells #[.slice sa M ca, .slice sb BL cb, .int .i64 s.now, .int .i64 s.fault] 31)).alloc (.cells #[.slice si NI ci] 32)).alloc (.cells #[.slice none 0 0, .slice none 0 0, .int .i64 0, .int .i64 0] 31)) := ⟨_, rfl⟩
  rw [← hWb] at hb1 hO
  have zb : Wb.heap.size = w.heap.size + 1 + 1 + 1 := by rw [hWb]; simp
  have hwb : Below w.heap.size w Wb := by rw [hWb]; exact by (repeat' (first | (with_reducible exact Below.refl _ _) | (with_reducible assumption) | (with_reducible refine more_below ?_ ?_ _ _) | (with_reducible refine below_drewN ?_ _) | (with_reducible refine Below.alloc ?_ ?_ _) | (with_reducible refine Below.drew ?_) | (with_reducible refine Below.setCell ?_ ?_ _) | (simp only [World.size_alloc, World.size_setCell, World.size_drew, more_size, World.heap_drewN]; omega) | go_size))
  have gi1 : Wb.cell? ⟨w.heap.size + 1, 0, none⟩ = some (.slice si NI ci) := by rw [hWb, cell_past (by simp), cell_at (by simp)]; rfl
  have gs1 : C4 Wb w.heap.size (.slice sa M ca) (.slice sb BL cb) (.int .i64 s.now) (.int .i64 s.fault) := by
    have := C4.new w (.slice sa M ca) (.slice sb BL cb) (.int .i64 s.now) (.int .i64 s.fault) 31 (W' := Wb) (by rw [hWb]; exact by (repeat' (first | (with_reducible exact Below.refl _ _) | (with_reducible assumption) | (with_reducible refine more_below ?_ ?_ _ _) | (with_reducible refine below_drewN ?_ _) | (with_reducible refine Below.alloc ?_ ?_ _) | (with_reducible refine Below.drew ?_) | (with_reducible refine Below.setCell ?_ ?_ _) | (simp only [World.size_alloc, World.size_setCell, World.size_drew, more_size, World.heap_drewN]; omega) | go_size)))
    exact this
  obtain ⟨e0, e1, e2, e3⟩ := gs1.keep (by omega) hb1
  have GI := Lib.hid gi1
  have HWb := Lib.hid hWb
  have HWL := Lib.hid hwb
  have hfm := hO.form
  rw [HSL.out] at hfm
  obtain rfl := hfm
  have hin := hO.inst
  rw [HBL.out] at hin
  obtain ⟨ab, cbb, rfl⟩ := owns_form hin
  clear hin
  have hO1 := Lib.hid (show OwnS Wb.heap.size W1 _ _ s0 U.toList from ⟨HV0.out.symm ▸ hO.own.own, HV0.out.symm ▸ hO.own.rows, by have := hO.own.inst; rw [Hs0.out]; exact this, by rw [HV0.out]; exact hO.ints, by rw [Hs0.out]; exact hO.lens, H64.out.1, H64.out.2, by rw [HV0.out]; exact hO.few⟩)
  have z1 : Wb.heap.size ≤ W1.heap.size := hb1.size
  have HB1 := Lib.hid hb1
  clear hWb gi1 gs1 hb1 hO hwb
  rw [zb] at hO1 z1
  have zz : w.heap.size < W1.heap.size := by omega
  go_wp2_with fail
  refine (hLt.out _).mono ?_; rintro e w' ⟨rfl, rfl⟩
  clear e0 e1 e2 e3 zz
  go_wp2_with fail
  go_loopw [25] (fun jj wr => ∃ (k : Nat) (G : World), k ≤ N ∧ jj = .int .i64 k ∧ G.heap.size = W1.heap.size ∧ Hid (Mid (w.heap.size + 1 + 1 + 1) Wb G wr (.slice (some ⟨g, 0, none⟩) M M) (.slice ab BL cbb) (begF L ins s0 k).1 U.toList (.int .i64 (laterF s.now dt)) (.int .i64 s.fault)) ∧ Hid (wr.cell? ⟨W1.heap.size + 1, 0, none⟩ = some (.int .i64 ((min (begF L ins s0 k).2 NI : Nat) : Int)) ∧ wr.frozen? ⟨W1.heap.size + 1, 0, none⟩ = false)) (fun jj _ => N - (intOf jj).toNat)
  case atStart =>
    have hW2 : Below W1.heap.size W1 ((W1.alloc (.cells #[.slice (some ⟨g, 0, none⟩) M M, .slice ab BL cbb, .int .i64 (laterF s.now dt), .int .i64 s.fault] 31)).alloc (.cells #[.int .i64 0] 3)) := by (repeat' (first | (with_reducible exact Below.refl _ _) | (with_reducible assumption) | (with_reducible refine below_drewN ?_ _) | (with_reducible refine Below.alloc ?_ ?_ _) | (with_reducible refine Below.drew ?_) | (with_reducible refine Below.setCell ?_ ?_ _) | go_size))
    refine ⟨0, W1, by omega, rfl, rfl, Lib.hid ⟨hO1.out, hW2, ?_, ?_⟩, Lib.hid ⟨?_, ?_⟩⟩
    · exact (zb ▸ HB1.out).trans (hW2.mono z1)
    · exact C4.new W1 _ _ _ _ _ (by (repeat' (first | (with_reducible exact Below.refl _ _) | (with_reducible assumption) | (with_reducible refine below_drewN ?_ _) | (with_reducible refine Below.alloc ?_ ?_ _) | (with_reducible refine Below.drew ?_) | (with_reducible refine Below.setCell ?_ ?_ _) | go_size)))
    · rw [cell_at (by simp)]; simp [begF]
    · rw [frozen_at (by simp)]
  case round =>
    obtain ⟨k, G, hk, rfl, hGs, hM', hcn⟩ := hrel
    have z10 := World.block_lt_of_cell? _ _ hcn.out.1
    have z10 : W1.heap.size + 1 < wr.heap.size := z10
    have hBG : w.heap.size + 1 + 1 + 1 ≤ G.heap.size := by omega
    have hB0 : Below w.heap.size w wr := HWL.out.trans (hM'.out.low.mono (by omega))
    obtain ⟨a0, a1, a2, a3⟩ := hM'.out.c9
    rw [hGs] at a0 a1 a2 a3
    have z9 : W1.heap.size < wr.heap.size := by omega
    by_cases hlt : k < N
    · obtain ⟨x, hx⟩ := get_some (L := L) (n := k) (by rw [HN.out]; exact hlt)
      obtain ⟨bb, off, rfl, hbw, hc⟩ := var_at hvv (k := k) (lt_of_get hx)
      obtain ⟨c0, c1, c2, c3, c4, _⟩ := hc k x hx
      have c0 := (hB0.cell (p := ⟨bb, off + k * 5, none⟩) hbw).trans c0
      have c1 := (hB0.cell (p := ⟨bb, off + k * 5 + 1, none⟩) hbw).trans c1
      have c2 := (hB0.cell (p := ⟨bb, off + k * 5 + 2, none⟩) hbw).trans c2
      have c3 := (hB0.cell (p := ⟨bb, off + k * 5 + 3, none⟩) hbw).trans c3
      have c4 := (hB0.cell (p := ⟨bb, off + k * 5 + 4, none⟩) hbw).trans c4
      have HX := Lib.hid hx
      clear hc hx
      generalize (⟨x.name.toArray⟩ : ByteArray) = nm at *
      by_cases ha : x.area = 1
      · have qa : (x.area != 1) = false := by simpa using ha
        by_cases hkm : k < M
        · have qm : ((M : Int) ≤ (k : Int)) = False := eq_false (by omega)
          obtain ⟨l, hl⟩ := get_some (L := s.vars) (n := k) (by rw [HSL.out]; exact hkm)
          have hl100 := s3 l (List.mem_of_getElem? hl)
          have HY := Lib.hid (begF_yes (ins := ins) (s := s0) HX.out (by rw [HV0.out]; exact hl) ha)
          obtain ⟨lk, hlk, hll⟩ := len_row (begF_len L ins s0 k) (by rw [HV0.out]; exact hl)
          have HLK := Lib.hid hlk
          have hnum := HNUM.out k
          obtain ⟨gv, q1, q2, q3, ar, capo, q4⟩ := hM'.out.row hlk
          obtain rfl : g = gv := by injection q1 with q1; injection q1
          rw [hll] at q4
          obtain ⟨m, hm⟩ : ∃ m, l.length = m := ⟨_, rfl⟩
          obtain ⟨nn, hnn⟩ : ∃ nn, (begF L ins s0 k).2 = nn := ⟨_, rfl⟩
          rw [hm] at q4 hl100 HY hll
          rw [hnn] at HY hcn hnum
          have HNN := Lib.hid hnn
          have HLL := Lib.hid hll
          clear ha q1 hl hlk hm hnn hll
          go_wp2_with fail
          obtain ⟨gx, hgx⟩ : ∃ gx, gx = wr.heap.size := ⟨_, rfl⟩
          have hst := (show Below wr.heap.size wr (wr.alloc (.cells #[.string nm, .int .i64 x.t, .int .i64 x.n, .int .i64 x.area, .int .i64 x.init] 47)) by (repeat' (first | (with_reducible exact Below.refl _ _) | (with_reducible assumption) | (with_reducible refine below_drewN ?_ _) | (with_reducible refine Below.alloc ?_ ?_ _) | (with_reducible refine Below.drew ?_) | (with_reducible refine Below.setCell ?_ ?_ _) | go_size)))
          have HST := Lib.hid hst
          have zxx : w.heap.size + 1 + 1 + 1 ≤ gx ∧ W1.heap.size + 1 < gx := by omega
          have hx1 : (wr.alloc (.cells #[.string nm, .int .i64 x.t, .int .i64 x.n, .int .i64 x.area, .int .i64 x.init] 47)).cell? ⟨gx, 1, none⟩ = some (.int .i64 x.t) := by rw [cell_at hgx]; rfl
          have HX1 := Lib.hid hx1
          rw [← hgx]
          have HGX := Lib.hid hgx
          clear hst hx1 hgx
          go_loopw [46] (fun ji wr2 => ∃ (q : Nat) (G2 : World), q ≤ m ∧ ji = .int .i64 q ∧ G2.heap.size = W1.heap.size ∧ Hid (Mid (w.heap.size + 1 + 1 + 1) Wb G2 wr2 (.slice (some ⟨g, 0, none⟩) M M) (.slice ab BL cbb) (fillTo (begF L ins s0 k).1 k x.t ins nn q) U.toList (.int .i64 (laterF s.now dt)) (.int .i64 s.fault)) ∧ Hid (wr2.cell? ⟨W1.heap.size + 1, 0, none⟩ = some (.int .i64 ((min (nn + q) NI : Nat) : Int)) ∧ wr2.frozen? ⟨W1.heap.size + 1, 0, none⟩ = false) ∧ Hid (wr2.cell? ⟨gx, 1, none⟩ = some (.int .i64 x.t))) (fun ji _ => m - (intOf ji).toNat)
          case atStart =>
            exact ⟨0, G, by omega, rfl, hGs, Lib.hid (hM'.out.step (by omega) HST.out), Lib.hid ⟨(HST.out.cell (p := ⟨W1.heap.size + 1, 0, none⟩) z10).trans hcn.out.1, (HST.out.frozen (p := ⟨W1.heap.size + 1, 0, none⟩) z10).trans hcn.out.2⟩, HX1⟩
          case round =>
            clear hM' hcn hB0 a0 a1 a2 a3 c0 c1 c2 c3 c4 hGs hBG q2 q3 q4
            obtain ⟨q, G2, hq, rfl, hGs, hM2, hcn, hxc⟩ := hrel
            have z10' := World.block_lt_of_cell? _ _ hcn.out.1
            have z10' : W1.heap.size + 1 < wr.heap.size := z10'
            have z9' : W1.heap.size < wr.heap.size := by omega
            have zx := World.block_lt_of_cell? _ _ hxc.out
            have zx : gx < wr.heap.size := zx
            obtain ⟨a0, a1, a2, a3⟩ := hM2.out.c9
            rw [hGs] at a0 a1 a2 a3
            by_cases hqm : q < m
            · obtain ⟨lq, hlq, hlql⟩ := len_row (fillTo_len (begF L ins s0 k).1 k x.t ins nn q) HLK.out
              rw [HLL.out] at hlql
              obtain ⟨gv, bi, cap, q1, q2, q3, q4, q5, q6, q7, hbn, q8, q9, _⟩ := hM2.out.at (by omega) hlq (m := q) (by omega) (x := 0) (by unfold I64; omega)
              obtain rfl : g = gv := by injection q1 with q1; injection q1
              rw [hlql] at q4
              have hHS := Lib.hid (And.intro a0 (And.intro q4 hxc.out))
              have hgi := Lib.hid ((hM2.out.low.cell (p := ⟨w.heap.size + 1, 0, none⟩) (by show w.heap.size + 1 < _; omega)).trans GI.out)
              have hbr := Lib.hid (HWL.out.trans (hM2.out.low.mono (by omega)))
              have HLQ := Lib.hid hlq
              have HLQL := Lib.hid hlql
              clear q1 q8 q9 hlq hlql
              go_wp2_with fail
              refine wp_region_held_drew (S := (fun w' => w'.cell? ⟨W1.heap.size, 0, none⟩ = some (.slice (some ⟨g, 0, none⟩) M M) ∧ w'.cell? ⟨g, k, none⟩ = some (.slice (some ⟨bi, 0, none⟩) m cap) ∧ w'.cell? ⟨gx, 1, none⟩ = some (.int .i64 x.t))) (by kernel_rfl) ?_ (fun hHeld => ?_)
              · (try dsimp only); first | exact hHS.out | (trace_state; fail)
              refine wpAnyH_take (i := 0) (oi := { dst := some 49, op := Op.fieldAddr 31 (Operand.tmp 9) 0, type := 0, pos := _, after := #[], guard := none }) (v := ?_) rfl (by kernel_rfl) (by kernel_rfl) (by kernel_rfl) (fun _ _ _ h => h) (Or.inl ⟨by rfl, ?_⟩) (by assumption) ?_
              rotate_left
              · intro wt hSw; (try dsimp only at hSw); obtain ⟨t0, t1, t2⟩ := hSw; first | (go_simp; done) | (go_simp; with_reducible rfl) | (trace_state; fail)
              try simp only [Act.put, List.setIfInBounds_toArray, List.set_cons_zero, List.set_cons_succ]
              refine wpAnyH_take (i := 1) (oi := { dst := some 50, op := Op.load 28 (Operand.tmp 49), type := 28, pos := _, after := #[{ on := 0, ground := Ground.data }], guard := none }) (v := ?_) rfl (by kernel_rfl) (by kernel_rfl) (by kernel_rfl) (fun _ _ _ h => h) (Or.inl ⟨by rfl, ?_⟩) (by assumption) ?_
              rotate_left
              · intro wt hSw; (try dsimp only at hSw); obtain ⟨t0, t1, t2⟩ := hSw; first | (go_simp; done) | (go_simp; with_reducible rfl) | (trace_state; fail)
              try simp only [Act.put, List.setIfInBounds_toArray, List.set_cons_zero, List.set_cons_succ]
              refine wpAnyH_take (i := 2) (oi := { dst := some 51, op := Op.move (Operand.tmp 12), type := 3, pos := _, after := #[], guard := none }) (v := ?_) rfl (by kernel_rfl) (by kernel_rfl) (by kernel_rfl) (fun _ _ _ h => h) (Or.inl ⟨by rfl, ?_⟩) (by assumption) ?_
              rotate_left
              · intro wt hSw; (try dsimp only at hSw); obtain ⟨t0, t1, t2⟩ := hSw; first | (go_simp; done) | (go_simp; with_reducible rfl) | (trace_state; fail)
              try simp only [Act.put, List.setIfInBounds_toArray, List.set_cons_zero, List.set_cons_succ]
              refine wpAnyH_take (i := 3) (oi := { dst := some 52, op := Op.indexAddr 28 (Operand.tmp 50) (Operand.tmp 51), type := 0, pos := _, after := #[{ on := 1, ground := Ground.data }, { on := 2, ground := Ground.data }], guard := none }) (v := ?_) rfl (by kernel_rfl) (by kernel_rfl) (by kernel_rfl) (fun _ _ _ h => h) (Or.inl ⟨by rfl, ?_⟩) (by assumption) ?_
              rotate_left
              · intro wt hSw; (try dsimp only at hSw); obtain ⟨t0, t1, t2⟩ := hSw; first | (go_simp; done) | (go_simp; with_reducible rfl) | (trace_state; fail)
              try simp only [Act.put, List.setIfInBounds_toArray, List.set_cons_zero, List.set_cons_succ]
              refine wpAnyH_take (i := 4) (oi := { dst := some 53, op := Op.load 32 (Operand.tmp 52), type := 32, pos := _, after := #[{ on := 3, ground := Ground.data }], guard := none }) (v := ?_) rfl (by kernel_rfl) (by kernel_rfl) (by kernel_rfl) (fun _ _ _ h => h) (Or.inl ⟨by rfl, ?_⟩) (by assumption) ?_
              rotate_left
              · intro wt hSw; (try dsimp only at hSw); obtain ⟨t0, t1, t2⟩ := hSw; first | (go_simp; done) | (go_simp; with_reducible rfl) | (trace_state; fail)
              try simp only [Act.put, List.setIfInBounds_toArray, List.set_cons_zero, List.set_cons_succ]
              refine wpAnyH_take (i := 5) (oi := { dst := some 54, op := Op.move (Operand.tmp 14), type := 3, pos := _, after := #[], guard := none }) (v := ?_) rfl (by kernel_rfl) (by kernel_rfl) (by kernel_rfl) (fun _ _ _ h => h) (Or.inl ⟨by rfl, ?_⟩) (by assumption) ?_
              rotate_left
              · intro wt hSw; (try dsimp only at hSw); obtain ⟨t0, t1, t2⟩ := hSw; first | (go_simp; done) | (go_simp; with_reducible rfl) | (trace_state; fail)
              try simp only [Act.put, List.setIfInBounds_toArray, List.set_cons_zero, List.set_cons_succ]
              refine wpAnyH_take (i := 6) (oi := { dst := some 55, op := Op.fieldAddr 47 (Operand.tmp 13) 1, type := 0, pos := _, after := #[], guard := none }) (v := ?_) rfl (by kernel_rfl) (by kernel_rfl) (by kernel_rfl) (fun _ _ _ h => h) (Or.inl ⟨by rfl, ?_⟩) (by assumption) ?_
              rotate_left
              · intro wt hSw; (try dsimp only at hSw); obtain ⟨t0, t1, t2⟩ := hSw; first | (go_simp; done) | (go_simp; with_reducible rfl) | (trace_state; fail)
              try simp only [Act.put, List.setIfInBounds_toArray, List.set_cons_zero, List.set_cons_succ]
              refine wpAnyH_take (i := 7) (oi := { dst := some 56, op := Op.load 3 (Operand.tmp 55), type := 3, pos := _, after := #[{ on := 6, ground := Ground.data }], guard := none }) (v := ?_) rfl (by kernel_rfl) (by kernel_rfl) (by kernel_rfl) (fun _ _ _ h => h) (Or.inl ⟨by rfl, ?_⟩) (by assumption) ?_
              rotate_left
              · intro wt hSw; (try dsimp only at hSw); obtain ⟨t0, t1, t2⟩ := hSw; first | (go_simp; done) | (go_simp; with_reducible rfl) | (trace_state; fail)
              try simp only [Act.put, List.setIfInBounds_toArray, List.set_cons_zero, List.set_cons_succ]
              refine wpAnyH_take (i := 8) (oi := { dst := some 57, op := Op.move (Operand.tmp 11), type := 58, pos := _, after := #[], guard := none }) (v := ?_) rfl (by kernel_rfl) (by kernel_rfl) (by kernel_rfl) (fun _ _ _ h => h) (Or.inl ⟨by rfl, ?_⟩) (by assumption) ?_
              rotate_left
              · intro wt hSw; (try dsimp only at hSw); obtain ⟨t0, t1, t2⟩ := hSw; first | (go_simp; done) | (go_simp; with_reducible rfl) | (trace_state; fail)
              try simp only [Act.put, List.setIfInBounds_toArray, List.set_cons_zero, List.set_cons_succ]
              refine wpAnyH_ready (rs := [9]) (by kernel_rfl) (by simp) ?_
              refine AllReadyH.cons (o := { dst := some 58, op := Op.call { callee := Callee.value (Operand.tmp 57), args := #[], argTypes := #[] }, type := 3, pos := _, after := #[{ on := 8, ground := Ground.data }], guard := none }) rfl (fun K hK => ?_) AllReadyH.nil
              go_simp
              refine (cycle_next (W1.heap.size + 1) (w.heap.size + 1) _ ins (min (nn + q) NI) w wr.drew hcn.out.1 hcn.out.2 hgi.out hri hbr.out.drew (by omega) (by omega) (by rw [HNI.out]; omega) hlen).mono ?_; rintro e w3 ⟨rfl, hc3, hf3, hg3'⟩; have hg3 : wr.grownBy w3 (some (W1.heap.size + 1)) := ⟨hg3'.os, hg3'.tape, hg3'.output, hg3'.size, hg3'.block⟩; clear hg3'; have HG3 := Lib.hid hg3; have hHS := Lib.hid (show w3.cell? ⟨W1.heap.size, 0, none⟩ = some (.slice (some ⟨g, 0, none⟩) M M) ∧ w3.cell? ⟨g, k, none⟩ = some (.slice (some ⟨bi, 0, none⟩) m cap) ∧ w3.cell? ⟨gx, 1, none⟩ = some (.int .i64 x.t) from ⟨(cell_grown hg3 (by omega) (by omega)).trans hHS.out.1, (cell_grown hg3 (by omega) (by omega)).trans hHS.out.2.1, (cell_grown hg3 (by omega) (by omega)).trans hHS.out.2.2⟩); have HC3 := Lib.hid (And.intro hc3 hf3); clear hc3 hf3 hg3
              go_wp2_with fail
              refine hK.out _ _ ?_ (fun hHeld => ?_)
              · (try dsimp only); first | exact hHS.out | (trace_state; fail)
              clear hK K
              try simp only [Act.put, List.setIfInBounds_toArray, List.set_cons_zero, List.set_cons_succ]
              refine wpAnyH_ready (rs := [10]) (by kernel_rfl) (by simp) ?_
              refine AllReadyH.cons (o := { dst := some 59, op := Op.call { callee := Callee.value (Operand.func 21), args := #[Operand.tmp 56, Operand.tmp 58], argTypes := #[3, 3] }, type := 3, pos := _, after := #[{ on := 7, ground := Ground.data }, { on := 9, ground := Ground.data }, { on := 9, ground := Ground.chain }], guard := none }) rfl (fun K hK => ?_) AllReadyH.nil
              go_simp
              refine (kind_Wrap _ _ _).mono ?_; rintro e w4 ⟨rfl, rfl⟩; have hlql := HLQL.out; have hM3 := Lib.hid (hM2.out.grown (by omega) (show wr.grownBy w3 (some (W1.heap.size + 1)) from HG3.out) (by omega)); obtain ⟨gv', bi', cap', k1, k2, k3, k4, k5, k6, k7, k8, k9, k10, G', k11, k12⟩ := hM3.out.at (by omega) HLQ.out (m := q) (x := kWrap x.t (inAt ins (min (nn + q) NI))) (by omega) (kWrap_i64 (inAt_i64 hI.out _)); obtain rfl : g = gv' := (by simpa using k1); rw [hHS.out.2.1, hlql] at k4; obtain ⟨rfl, rfl⟩ : bi = bi' ∧ cap = cap' := (by simpa using k4); have HM12 := Lib.hid k12; have HK := Lib.hid (And.intro k11 (And.intro k5 k6)); clear k1 k2 k3 k4 k12 k11 hlql
              go_wp2_with fail
              refine hK.out _ _ ?_ (fun hHeld => ?_)
              · (try dsimp only); first | exact hHS.out | (trace_state; fail)
              clear hK K
              try simp only [Act.put, List.setIfInBounds_toArray, List.set_cons_zero, List.set_cons_succ]
              refine wpAnyH_take (i := 11) (oi := { dst := some 60, op := Op.indexAddr 32 (Operand.tmp 53) (Operand.tmp 54), type := 0, pos := _, after := #[{ on := 4, ground := Ground.data }, { on := 5, ground := Ground.data }, { on := 0, ground := Ground.phase }, { on := 1, ground := Ground.phase }, { on := 2, ground := Ground.phase }, { on := 3, ground := Ground.phase }, { on := 4, ground := Ground.phase }, { on := 5, ground := Ground.phase }, { on := 6, ground := Ground.phase }, { on := 7, ground := Ground.phase }, { on := 8, ground := Ground.phase }, { on := 9, ground := Ground.phase }, { on := 10, ground := Ground.phase }], guard := none }) (v := ?_) rfl (by kernel_rfl) (by kernel_rfl) (by kernel_rfl) (fun _ _ _ h => h) (Or.inl ⟨by rfl, ?_⟩) (by assumption) ?_
              rotate_left
              · intro wt hSw; (try dsimp only at hSw); obtain ⟨t0, t1, t2⟩ := hSw; first | (go_simp; done) | (go_simp; with_reducible rfl) | (trace_state; fail)
              try simp only [Act.put, List.setIfInBounds_toArray, List.set_cons_zero, List.set_cons_succ]
              refine wpAnyH_ready (rs := [12]) (by kernel_rfl) (by simp) ?_
              refine AllReadyH.cons (o := { dst := none, op := Op.store 3 (Operand.tmp 60) (Operand.tmp 59), type := 0, pos := _, after := #[{ on := 11, ground := Ground.data }, { on := 10, ground := Ground.data }, { on := 10, ground := Ground.chain }, { on := 0, ground := Ground.phase }, { on := 1, ground := Ground.phase }, { on := 2, ground := Ground.phase }, { on := 3, ground := Ground.phase }, { on := 4, ground := Ground.phase }, { on := 5, ground := Ground.phase }, { on := 6, ground := Ground.phase }, { on := 7, ground := Ground.phase }, { on := 8, ground := Ground.phase }, { on := 9, ground := Ground.phase }, { on := 10, ground := Ground.phase }], guard := none }) rfl (fun K hK => ?_) AllReadyH.nil
              go_simp
              refine hK.out _ _ ?_ (fun hHeld => ?_)
              · (try dsimp only); exact ⟨(cell_set_ne (by omega)).trans hHS.out.1, (cell_set_ne hbn).trans hHS.out.2.1, (cell_set_ne (by omega)).trans hHS.out.2.2⟩
              clear hK K
              try simp only [Act.put, List.setIfInBounds_toArray, List.set_cons_zero, List.set_cons_succ]
              refine wpAnyH_done (by kernel_rfl) ?_ _
              go_wp2_with fail
              have HIN := Lib.hid (inAt_min (ins := ins) (n := nn + q))
              rw [HNI.out] at HIN
              rw [HIN.out] at HM12 ⊢
              have HMI := Lib.hid (show min (min (nn + q) NI + 1) ins.length = min (nn + (q + 1)) NI by rw [HNI.out]; omega)
              go_roundw
              case rel => exact ⟨q + 1, G', by omega, by simp, HK.out.1.trans hGs, HM12, Lib.hid (by
                rw [← HMI.out]
                exact ⟨(cell_set_ne (by omega)).trans HC3.out.1, (frozen_set_ne (by omega)).trans HC3.out.2⟩), Lib.hid ((cell_set_ne (by omega)).trans hHS.out.2.2)⟩
              case measure => first | (simp [intOf]; done) | (simp [intOf]; omega)
            · obtain rfl : q = m := by omega
              go_wp2_with fail
              go_roundw
              case rel => exact ⟨k + 1, G2, by omega, by simp, hGs, Lib.hid (by rw [HY.out]; exact hM2.out), Lib.hid (by rw [HY.out]; exact hcn.out)⟩
              case measure => first | (simp [intOf]; done) | (simp [intOf]; omega)
        · have qm : ((M : Int) ≤ (k : Int)) = True := eq_true (by omega)
          have HP := Lib.hid (begF_past (vs := L) (ins := ins) (s := s0) (i := k) (by rw [HV0.out, HSL.out]; omega))
          clear ha
          go_wp2_with fail
          go_roundw
          case rel =>
            have hst := (show Below wr.heap.size wr (wr.alloc (.cells #[.string nm, .int .i64 x.t, .int .i64 x.n, .int .i64 x.area, .int .i64 x.init] 47)) by (repeat' (first | (with_reducible exact Below.refl _ _) | (with_reducible assumption) | (with_reducible refine below_drewN ?_ _) | (with_reducible refine Below.alloc ?_ ?_ _) | (with_reducible refine Below.drew ?_) | (with_reducible refine Below.setCell ?_ ?_ _) | go_size)))
            exact ⟨k + 1, G, by omega, by simp, hGs, Lib.hid (by rw [HP.out]; exact hM'.out.step (by omega) hst), Lib.hid (by rw [HP.out]; exact ⟨(hst.cell (p := ⟨W1.heap.size + 1, 0, none⟩) z10).trans hcn.out.1, (hst.frozen (p := ⟨W1.heap.size + 1, 0, none⟩) z10).trans hcn.out.2⟩)⟩
          case measure => first | (simp [intOf]; done) | (simp [intOf]; omega)
      · have qa : (x.area != 1) = true := by simpa using ha
        have HP := Lib.hid (begF_no (ins := ins) (s := s0) HX.out ha)
        clear ha
        go_wp2_with fail
        go_roundw
        case rel =>
          have hst := (show Below wr.heap.size wr (wr.alloc (.cells #[.string nm, .int .i64 x.t, .int .i64 x.n, .int .i64 x.area, .int .i64 x.init] 47)) by (repeat' (first | (with_reducible exact Below.refl _ _) | (with_reducible assumption) | (with_reducible refine below_drewN ?_ _) | (with_reducible refine Below.alloc ?_ ?_ _) | (with_reducible refine Below.drew ?_) | (with_reducible refine Below.setCell ?_ ?_ _) | go_size)))
          exact ⟨k + 1, G, by omega, by simp, hGs, Lib.hid (by rw [HP.out]; exact hM'.out.step (by omega) hst), Lib.hid (by rw [HP.out]; exact ⟨(hst.cell (p := ⟨W1.heap.size + 1, 0, none⟩) z10).trans hcn.out.1, (hst.frozen (p := ⟨W1.heap.size + 1, 0, none⟩) z10).trans hcn.out.2⟩)⟩
        case measure => first | (simp [intOf]; done) | (simp [intOf]; omega)
    · obtain rfl : k = N := by omega
      have hfin := Lib.hid (hM'.out.own.below hM'.out.ext)
      obtain ⟨l9, d9, hw9⟩ := more_of (show Below Wb.heap.size Wb wr by rw [zb]; exact hM'.out.low)
      rw [HWb.out] at hw9
      have mc := @more_cell
      have mf := @more_frozen
      have ms := @more_set
      have HD := Lib.hid hcn
      clear hM' hcn hB0 z9 z10
      subst hw9
      go_wp2_with fail
      refine bodyPost_ret (by simp [results, Try.results10, go_sem, more_cell, more_size, more_frozen]; try rfl) rfl ?_
      refine ⟨_, _, rfl, ?st, by (repeat' (first | (with_reducible exact Below.refl _ _) | (with_reducible assumption) | (with_reducible refine more_below ?_ ?_ _ _) | (with_reducible refine below_drewN ?_ _) | (with_reducible refine Below.alloc ?_ ?_ _) | (with_reducible refine Below.drew ?_) | (with_reducible refine Below.setCell ?_ ?_ _) | (simp only [World.size_alloc, World.size_setCell, World.size_drew, more_size, World.heap_drewN]; omega) | go_size))⟩
      case st =>
        rw [HS0.out, HN.out]
        exact (hfin.out.congr (more_congr (by simp) (by simp))).st
end Go.Proofs.Ytpnnmhcemecjfaa
