/- Layer 24: the walk of CycleBegins. -/
import Derived.Test.YtpnnmhcemecjfaaCyAwake
import Derived.Test.YtpnnmhcemecjfaaCyRef
import Derived.Test.YtpnnmhcemecjfaaStSameQ
import Derived.Test.YtpnnmhcemecjfaaFewP
import Derived.Test.YtpnnmhcemecjfaaLawTwentythree
namespace Go.Proofs.Ytpnnmhcemecjfaa
open Go.RowKit
set_option linter.unusedSimpArgs false
set_option linter.unusedVariables false
theorem cycle_BeginS (vv v b iv : Value) (L : List Vr) (s : St) (ins : List Int) (dt : Int) (w : World) (hvv : RowR 5 varR w vv L) (h : StAt w v b s) (hsh : shortS s = true) (hri : RowR 1 intR w iv ins) (hL : L.length ≤ 70) (hlen : ins.length ≤ 300) (hdt : I64 dt) :
    Calls Try.prog 10 #[vv, .agg #[v, b, .int .i64 s.now, .int .i64 s.fault], iv, .int .i64 dt] w fun e w' => ∃ v' b' : Value, e = .returned (.agg #[v', b', .int .i64 (begS L ins s dt).now, .int .i64 (begS L ins s dt).fault]) ∧ StAt w' v' b' (begS L ins s dt) ∧ Below w.heap.size w w' := by
  rw [(begS_now L ins s dt).1, (begS_now L ins s dt).2]; exact cycle_Begin vv v b iv L s ins dt w hvv h hsh hri hL hlen hdt
theorem ref24_BeginS (vv v b iv : Value) (L : List Vr) (s : St) (ins : List Int) (dt : Int) (w : World) (hvv : RowR 5 varR w vv L) (h : StAt w v b s) (hsh : shortS s = true) (hri : RowR 1 intR w iv ins) (hL : L.length ≤ 70) (hlen : ins.length ≤ 300) (hdt : I64 dt) :
    Calls Try.prog 11 #[vv, .agg #[v, b, .int .i64 s.now, .int .i64 s.fault], iv, .int .i64 dt] w fun e w' => ∃ v' b' : Value, e = .returned (.agg #[v', b', .int .i64 (begS L ins s dt).now, .int .i64 (begS L ins s dt).fault]) ∧ StAt w' v' b' (begS L ins s dt) ∧ Below w.heap.size w w' := by
  rw [(begS_now L ins s dt).1, (begS_now L ins s dt).2]; exact ref24_Begin vv v b iv L s ins dt w hvv h hsh hri hL hlen hdt
set_option maxHeartbeats 8000000 in
theorem cycleBegins_walk (pc pv pb pu : Value) (p : Pr) (v b : Value) (s : St) (iv : Value) (ins : List Int) (w : World) (hp : PrAt w pc pv pb pu p) (h : StAt w v b s) (hri : RowR 1 intR w iv ins) :
    Calls Try.prog 3 #[.agg #[pc, pv, pb, pu], .agg #[v, b, .int .i64 s.now, .int .i64 s.fault], iv] w fun e w' => e = .returned (.bool true) ∧ Below w.heap.size w w' := by
  have cp := @cell_past
  have hAw := law24_awake
  have hS1 := Lib.hid (fun W (hb : Below w.heap.size w W) => law23_Short v b s W (h.below hb))
  have hF := Lib.hid (fun W (hb : Below w.heap.size w W) => law16_Few pc pv pb pu p W (hp.below hb))
  obtain ⟨W0, hW0⟩ : ∃ W0, W0 = (w.alloc (.cells #[pc, pv, pb, pu] 27)).alloc (.cells #[v, b, .int .i64 s.now, .int .i64 s.fault] 31) := ⟨_, rfl⟩
  have hBW0 : Below w.heap.size w W0 := by rw [hW0]; exact by (repeat' (first | (with_reducible exact Below.refl _ _) | (with_reducible assumption) | (with_reducible refine below_drewN ?_ _) | (with_reducible refine Below.alloc ?_ ?_ _) | (with_reducible refine Below.drew ?_) | (with_reducible refine Below.setCell ?_ ?_ _) | go_size))
  obtain ⟨k1, k2, z2, _⟩ := boxed2 w [pc, pv, pb, pu] [v, b, .int .i64 s.now, .int .i64 s.fault] 27 31 (W' := W0) (by rw [hW0]; exact Below.refl _ _)
  have K1 := Lib.hid k1
  have K2 := Lib.hid k2
  have z1 : w.heap.size < W0.heap.size := by omega
  have HW0 := Lib.hid hW0
  have HB0 := Lib.hid hBW0
  clear hW0 k1 k2 hBW0
  have hlen0 := hri.len
  obtain ⟨si, ci, rfl⟩ := row_get hri
  obtain ⟨NI, hNI⟩ : ∃ N, ins.length = N := ⟨_, rfl⟩
  have HNI := Lib.hid hNI
  rw [hNI] at hri hlen0 ⊢
  clear hNI
  cases hfp : fewP p
  · rw [hfp] at hF
    go_enter Try.func3, Try.ntmps3
    go_wp2_with fail
    refine (hF.out _ (by (repeat' (first | (with_reducible exact Below.refl _ _) | (with_reducible assumption) | (with_reducible refine below_drewN ?_ _) | (with_reducible refine Below.alloc ?_ ?_ _) | (with_reducible refine Below.drew ?_) | (with_reducible refine Below.setCell ?_ ?_ _) | go_size)))).mono ?_; rintro e A1 ⟨rfl, hb1⟩
    rw [← HW0.out] at hb1
    go_wp2_with fail
    refine (hAw _).mono ?_; rintro e A3 ⟨rfl, hb3⟩
    have hb3 := hb1.trans (hb3.mono hb1.size)
    go_wp2_with fail
    go_ret
    exact ⟨rfl, HB0.out.trans (hb3.mono HB0.out.size)⟩
  rw [hfp] at hF
  cases hs1 : shortS s
  · rw [hs1] at hS1
    go_enter Try.func3, Try.ntmps3
    go_wp2_with fail
    refine (hF.out _ (by (repeat' (first | (with_reducible exact Below.refl _ _) | (with_reducible assumption) | (with_reducible refine below_drewN ?_ _) | (with_reducible refine Below.alloc ?_ ?_ _) | (with_reducible refine Below.drew ?_) | (with_reducible refine Below.setCell ?_ ?_ _) | go_size)))).mono ?_; rintro e A1 ⟨rfl, hb1⟩
    rw [← HW0.out] at hb1
    have kk := K2.out.keep z2 hb1
    have e0 := kk 0 _ rfl
    have e1 := kk 1 _ rfl
    have e2 := kk 2 _ rfl
    have e3 := kk 3 _ rfl
    clear kk
    go_wp2_with fail
    refine (hS1.out _ (HB0.out.trans (hb1.mono HB0.out.size))).mono ?_; rintro e A2 ⟨rfl, hb2⟩
    have hb2 := hb1.trans (hb2.mono hb1.size)
    go_wp2_with fail
    refine (hAw _).mono ?_; rintro e A3 ⟨rfl, hb3⟩
    have hb3 := hb2.trans (hb3.mono hb2.size)
    go_wp2_with fail
    go_ret
    exact ⟨rfl, HB0.out.trans (hb3.mono HB0.out.size)⟩
  rw [hs1] at hS1
  by_cases hni : 300 < NI
  · have q3 : (300 < (NI : Int)) = True := eq_true (by omega)
    go_enter Try.func3, Try.ntmps3
    go_wp2_with fail
    refine (hF.out _ (by (repeat' (first | (with_reducible exact Below.refl _ _) | (with_reducible assumption) | (with_reducible refine below_drewN ?_ _) | (with_reducible refine Below.alloc ?_ ?_ _) | (with_reducible refine Below.drew ?_) | (with_reducible refine Below.setCell ?_ ?_ _) | go_size)))).mono ?_; rintro e A1 ⟨rfl, hb1⟩
    rw [← HW0.out] at hb1
    have kk := K2.out.keep z2 hb1
    have e0 := kk 0 _ rfl
    have e1 := kk 1 _ rfl
    have e2 := kk 2 _ rfl
    have e3 := kk 3 _ rfl
    clear kk
    go_wp2_with fail
    refine (hS1.out _ (HB0.out.trans (hb1.mono HB0.out.size))).mono ?_; rintro e A2 ⟨rfl, hb2⟩
    have hb2 := hb1.trans (hb2.mono hb1.size)
    go_wp2_with fail
    refine (hAw _).mono ?_; rintro e A3 ⟨rfl, hb3⟩
    have hb3 := hb2.trans (hb3.mono hb2.size)
    go_wp2_with fail
    go_ret
    exact ⟨rfl, HB0.out.trans (hb3.mono HB0.out.size)⟩
  have q3 : (300 < (NI : Int)) = False := eq_false (by omega)
  obtain ⟨⟨_, hL, _, _⟩, _⟩ : (p.consts.length ≤ 60 ∧ p.vars.length ≤ 70 ∧ p.blocks.length ≤ 40 ∧ p.units.length ≤ 10) ∧ (∀ x ∈ p.vars, x.name.length ≤ 300) ∧ (∀ x ∈ p.blocks, x.name.length ≤ 300) ∧ ∀ x ∈ p.units, fewU x = true := of_decide_eq_true hfp
  have HB1 := Lib.hid (fun (dt : Int) (hdt : I64 dt) W (hb : Below w.heap.size w W) => cycle_BeginS pv v b (.slice si NI ci) p.vars s ins dt W (hp.vs.below varR_stable hb) (h.below hb) hs1 (hri.below intR_stable hb) hL (by rw [HNI.out]; omega) hdt)
  have HB2 := Lib.hid (fun (dt : Int) (hdt : I64 dt) W (hb : Below w.heap.size w W) => ref24_BeginS pv v b (.slice si NI ci) p.vars s ins dt W (hp.vs.below varR_stable hb) (h.below hb) hs1 (hri.below intR_stable hb) hL (by rw [HNI.out]; omega) hdt)
  have HSame := Lib.hid (fun (s : St) (W : World) (v b v2 b2 : Value) (h1 : StAt W v b s) (h2 : StAt W v2 b2 s) => sameS_self s ▸ ref23_Same v b v2 b2 s s W h1 h2)
  have hC := Lib.hid (fun W (hb : Below w.heap.size w W) => ref23_Clone v b s W (h.below hb) hs1)
  go_enter Try.func3, Try.ntmps3
  go_wp2_with fail
  refine (hF.out _ (by (repeat' (first | (with_reducible exact Below.refl _ _) | (with_reducible assumption) | (with_reducible refine below_drewN ?_ _) | (with_reducible refine Below.alloc ?_ ?_ _) | (with_reducible refine Below.drew ?_) | (with_reducible refine Below.setCell ?_ ?_ _) | go_size)))).mono ?_; rintro e A1 ⟨rfl, hb1⟩
  rw [← HW0.out] at hb1
  have kk := K2.out.keep z2 hb1
  have e0 := kk 0 _ rfl
  have e1 := kk 1 _ rfl
  have e2 := kk 2 _ rfl
  have e3 := kk 3 _ rfl
  clear kk
  go_wp2_with fail
  refine (hS1.out _ (HB0.out.trans (hb1.mono HB0.out.size))).mono ?_; rintro e A2 ⟨rfl, hb2⟩
  have hb2 := hb1.trans (hb2.mono hb1.size)
  clear e0 e1 e2 e3
  have kk := K2.out.keep z2 hb2
  have e0 := kk 0 _ rfl
  have e1 := kk 1 _ rfl
  have e2 := kk 2 _ rfl
  have e3 := kk 3 _ rfl
  clear kk
  go_wp2_with fail
  refine (hC.out _ (HB0.out.trans (hb2.mono HB0.out.size))).mono ?_; rintro e A3 ⟨v7, b7, rfl, hst7, hb3⟩
  obtain ⟨sv7, cv7, rfl⟩ := row_get hst7.vs
  obtain ⟨sb7, cb7, rfl⟩ := row_get hst7.bs
  have hb3 := hb2.trans (hb3.mono hb2.size)
  have HC7 := Lib.hid (C4.new A3 (.slice sv7 s.vars.length cv7) (.slice sb7 s.blocks.length cb7) (.int .i64 s.now) (.int .i64 s.fault) 31 (Below.refl _ _))
  have hst7 := Lib.hid (hst7.below (show Below A3.heap.size A3 (A3.alloc (.cells #[.slice sv7 s.vars.length cv7, .slice sb7 s.blocks.length cb7, .int .i64 s.now, .int .i64 s.fault] 31)) by (repeat' (first | (with_reducible exact Below.refl _ _) | (with_reducible assumption) | (with_reducible refine below_drewN ?_ _) | (with_reducible refine Below.alloc ?_ ?_ _) | (with_reducible refine Below.drew ?_) | (with_reducible refine Below.setCell ?_ ?_ _) | go_size))))
  have hb4 := hb3.trans ((show Below A3.heap.size A3 (A3.alloc (.cells #[.slice sv7 s.vars.length cv7, .slice sb7 s.blocks.length cb7, .int .i64 s.now, .int .i64 s.fault] 31)) by (repeat' (first | (with_reducible exact Below.refl _ _) | (with_reducible assumption) | (with_reducible refine below_drewN ?_ _) | (with_reducible refine Below.alloc ?_ ?_ _) | (with_reducible refine Below.drew ?_) | (with_reducible refine Below.setCell ?_ ?_ _) | go_size))).mono hb3.size)
  obtain ⟨W7, hW7⟩ : ∃ W7, W7 = (A3.alloc (.cells #[.slice sv7 s.vars.length cv7, .slice sb7 s.blocks.length cb7, .int .i64 s.now, .int .i64 s.fault] 31)) := ⟨_, rfl⟩
  rw [← hW7] at HC7 hst7 hb4
  have z7 : A3.heap.size < W7.heap.size := by rw [hW7]; simp
  have HW7 := Lib.hid hW7
  have HB4 := Lib.hid hb4
  clear e0 e1 e2 e3 hb1 hb2 hb3 hb4 hW7
  go_wp2_with fail
  rw [← HW7.out]
  go_loopw [8] (fun jj wr => ∃ (k : Nat), k ≤ 3 ∧ k ≤ NI ∧ jj = .int .i64 k ∧ Hid (Below W7.heap.size W7 wr)) (fun jj _ => 3 - (intOf jj).toNat)
  case atStart => exact ⟨0, by omega, by omega, rfl, Lib.hid (Below.refl _ _)⟩
  case round =>
    obtain ⟨k, hk, hkn, rfl, hBw⟩ := hrel
    have hBr := HB4.out.trans (hBw.out.mono HB4.out.size)
    have HBr := Lib.hid (HB0.out.trans (hBr.mono HB0.out.size))
    have kk := K2.out.keep z2 hBr
    have s0 := kk 0 _ rfl
    have s1 := kk 1 _ rfl
    have s2 := kk 2 _ rfl
    have s3 := kk 3 _ rfl
    have p1 := K1.out.keep z1 hBr 1 _ rfl
    have yp : w.heap.size < wr.heap.size := Nat.lt_of_lt_of_le z1 hBr.size
    have ys : w.heap.size + 1 < wr.heap.size := Nat.lt_of_lt_of_le z2 hBr.size
    clear kk
    by_cases hkn2 : k < NI
    · have qa : ((k : Int) < (NI : Int)) = True := eq_true (by omega)
      by_cases hk3 : k < 3
      · have qb : ((k : Int) < 3) = True := eq_true (by omega)
        obtain ⟨z, hz⟩ := get_some (L := ins) (n := k) (by rw [HNI.out]; exact hkn2)
        obtain ⟨b5, off5, rfl, hbw5, hg⟩ := ints_at hri (k := k) (lt_of_get hz)
        obtain ⟨i0, hz64⟩ := hg k z hz
        have i0 := (HBr.out.cell (p := ⟨b5, off5 + k, none⟩) hbw5).trans i0
        have yi : b5 < wr.heap.size := Nat.lt_of_lt_of_le hbw5 HBr.out.size
        have HB1x := Lib.hid (fun W hb => HB1.out z hz64 W hb)
        have HB2x := Lib.hid (fun W hb => HB2.out z hz64 W hb)
        clear hg hz
        go_wp2_with fail
        refine wp_region_held_drew (S := (fun w' => Below wr.heap.size wr w')) (by kernel_rfl) ?_ (fun hHeld => ?_)
        · (try dsimp only); first | assumption | exact Below.alloc hHeld hHeld.size _ | exact (Below.refl _ _).drew | exact Below.drew (Below.refl _ _) | exact Below_drewN _ _ _ | exact Below.refl _ _ | (trace_state; fail)
        refine wpAnyH_take (i := 0) (oi := { dst := some 35, op := Op.fieldAddr 27 (Operand.tmp 3) 1, type := 0, pos := _, after := #[], guard := none }) (v := ?_) rfl (by kernel_rfl) (by kernel_rfl) (by kernel_rfl) (fun _ _ _ h => h) (Or.inl ⟨by rfl, ?_⟩) (by assumption) ?_
        rotate_left
        · intro wt hSw; (try dsimp only at hSw); have p1 := cellB hSw p1 yp; have s0 := cellB hSw s0 ys; have s1 := cellB hSw s1 ys; have s2 := cellB hSw s2 ys; have s3 := cellB hSw s3 ys; have i0 := cellB hSw i0 yi; first | (go_simp; done) | (go_simp; with_reducible rfl) | (trace_state; fail)
        try simp only [Act.put, List.setIfInBounds_toArray, List.set_cons_zero, List.set_cons_succ]
        refine wpAnyH_take (i := 1) (oi := { dst := some 36, op := Op.load 23 (Operand.tmp 35), type := 23, pos := _, after := #[{ on := 0, ground := Ground.data }], guard := none }) (v := ?_) rfl (by kernel_rfl) (by kernel_rfl) (by kernel_rfl) (fun _ _ _ h => h) (Or.inl ⟨by rfl, ?_⟩) (by assumption) ?_
        rotate_left
        · intro wt hSw; (try dsimp only at hSw); have p1 := cellB hSw p1 yp; have s0 := cellB hSw s0 ys; have s1 := cellB hSw s1 ys; have s2 := cellB hSw s2 ys; have s3 := cellB hSw s3 ys; have i0 := cellB hSw i0 yi; first | (go_simp; done) | (go_simp; with_reducible rfl) | (trace_state; fail)
        try simp only [Act.put, List.setIfInBounds_toArray, List.set_cons_zero, List.set_cons_succ]
        refine wpAnyH_take (i := 2) (oi := { dst := some 37, op := Op.load 31 (Operand.tmp 4), type := 31, pos := _, after := #[], guard := none }) (v := ?_) rfl (by kernel_rfl) (by kernel_rfl) (by kernel_rfl) (fun _ _ _ h => h) (Or.inl ⟨by rfl, ?_⟩) (by assumption) ?_
        rotate_left
        · intro wt hSw; (try dsimp only at hSw); have p1 := cellB hSw p1 yp; have s0 := cellB hSw s0 ys; have s1 := cellB hSw s1 ys; have s2 := cellB hSw s2 ys; have s3 := cellB hSw s3 ys; have i0 := cellB hSw i0 yi; first | (go_simp; done) | (go_simp; with_reducible rfl) | (trace_state; fail)
        try simp only [Act.put, List.setIfInBounds_toArray, List.set_cons_zero, List.set_cons_succ]
        refine wpAnyH_take (i := 3) (oi := { dst := some 38, op := Op.move (Operand.tmp 2), type := 32, pos := _, after := #[], guard := none }) (v := ?_) rfl (by kernel_rfl) (by kernel_rfl) (by kernel_rfl) (fun _ _ _ h => h) (Or.inl ⟨by rfl, ?_⟩) (by assumption) ?_
        rotate_left
        · intro wt hSw; (try dsimp only at hSw); have p1 := cellB hSw p1 yp; have s0 := cellB hSw s0 ys; have s1 := cellB hSw s1 ys; have s2 := cellB hSw s2 ys; have s3 := cellB hSw s3 ys; have i0 := cellB hSw i0 yi; first | (go_simp; done) | (go_simp; with_reducible rfl) | (trace_state; fail)
        try simp only [Act.put, List.setIfInBounds_toArray, List.set_cons_zero, List.set_cons_succ]
        refine wpAnyH_take (i := 4) (oi := { dst := some 39, op := Op.move (Operand.tmp 2), type := 32, pos := _, after := #[], guard := none }) (v := ?_) rfl (by kernel_rfl) (by kernel_rfl) (by kernel_rfl) (fun _ _ _ h => h) (Or.inl ⟨by rfl, ?_⟩) (by assumption) ?_
        rotate_left
        · intro wt hSw; (try dsimp only at hSw); have p1 := cellB hSw p1 yp; have s0 := cellB hSw s0 ys; have s1 := cellB hSw s1 ys; have s2 := cellB hSw s2 ys; have s3 := cellB hSw s3 ys; have i0 := cellB hSw i0 yi; first | (go_simp; done) | (go_simp; with_reducible rfl) | (trace_state; fail)
        try simp only [Act.put, List.setIfInBounds_toArray, List.set_cons_zero, List.set_cons_succ]
        refine wpAnyH_take (i := 5) (oi := { dst := some 40, op := Op.move (Operand.tmp 8), type := 3, pos := _, after := #[], guard := none }) (v := ?_) rfl (by kernel_rfl) (by kernel_rfl) (by kernel_rfl) (fun _ _ _ h => h) (Or.inl ⟨by rfl, ?_⟩) (by assumption) ?_
        rotate_left
        · intro wt hSw; (try dsimp only at hSw); have p1 := cellB hSw p1 yp; have s0 := cellB hSw s0 ys; have s1 := cellB hSw s1 ys; have s2 := cellB hSw s2 ys; have s3 := cellB hSw s3 ys; have i0 := cellB hSw i0 yi; first | (go_simp; done) | (go_simp; with_reducible rfl) | (trace_state; fail)
        try simp only [Act.put, List.setIfInBounds_toArray, List.set_cons_zero, List.set_cons_succ]
        refine wpAnyH_take (i := 6) (oi := { dst := some 41, op := Op.indexAddr 32 (Operand.tmp 39) (Operand.tmp 40), type := 0, pos := _, after := #[{ on := 4, ground := Ground.data }, { on := 5, ground := Ground.data }], guard := none }) (v := ?_) rfl (by kernel_rfl) (by kernel_rfl) (by kernel_rfl) (fun _ _ _ h => h) (Or.inl ⟨by rfl, ?_⟩) (by assumption) ?_
        rotate_left
        · intro wt hSw; (try dsimp only at hSw); have p1 := cellB hSw p1 yp; have s0 := cellB hSw s0 ys; have s1 := cellB hSw s1 ys; have s2 := cellB hSw s2 ys; have s3 := cellB hSw s3 ys; have i0 := cellB hSw i0 yi; first | (go_simp; done) | (go_simp; with_reducible rfl) | (trace_state; fail)
        try simp only [Act.put, List.setIfInBounds_toArray, List.set_cons_zero, List.set_cons_succ]
        refine wpAnyH_take (i := 7) (oi := { dst := some 42, op := Op.load 3 (Operand.tmp 41), type := 3, pos := _, after := #[{ on := 6, ground := Ground.data }], guard := none }) (v := ?_) rfl (by kernel_rfl) (by kernel_rfl) (by kernel_rfl) (fun _ _ _ h => h) (Or.inl ⟨by rfl, ?_⟩) (by assumption) ?_
        rotate_left
        · intro wt hSw; (try dsimp only at hSw); have p1 := cellB hSw p1 yp; have s0 := cellB hSw s0 ys; have s1 := cellB hSw s1 ys; have s2 := cellB hSw s2 ys; have s3 := cellB hSw s3 ys; have i0 := cellB hSw i0 yi; first | (go_simp; done) | (go_simp; with_reducible rfl) | (trace_state; fail)
        try simp only [Act.put, List.setIfInBounds_toArray, List.set_cons_zero, List.set_cons_succ]
        refine wpAnyH_take (i := 9) (oi := { dst := some 44, op := Op.fieldAddr 27 (Operand.tmp 3) 1, type := 0, pos := _, after := #[], guard := none }) (v := ?_) rfl (by kernel_rfl) (by kernel_rfl) (by kernel_rfl) (fun _ _ _ h => h) (Or.inl ⟨by rfl, ?_⟩) (by assumption) ?_
        rotate_left
        · intro wt hSw; (try dsimp only at hSw); have p1 := cellB hSw p1 yp; have s0 := cellB hSw s0 ys; have s1 := cellB hSw s1 ys; have s2 := cellB hSw s2 ys; have s3 := cellB hSw s3 ys; have i0 := cellB hSw i0 yi; first | (go_simp; done) | (go_simp; with_reducible rfl) | (trace_state; fail)
        try simp only [Act.put, List.setIfInBounds_toArray, List.set_cons_zero, List.set_cons_succ]
        refine wpAnyH_take (i := 10) (oi := { dst := some 45, op := Op.load 23 (Operand.tmp 44), type := 23, pos := _, after := #[{ on := 9, ground := Ground.data }], guard := none }) (v := ?_) rfl (by kernel_rfl) (by kernel_rfl) (by kernel_rfl) (fun _ _ _ h => h) (Or.inl ⟨by rfl, ?_⟩) (by assumption) ?_
        rotate_left
        · intro wt hSw; (try dsimp only at hSw); have p1 := cellB hSw p1 yp; have s0 := cellB hSw s0 ys; have s1 := cellB hSw s1 ys; have s2 := cellB hSw s2 ys; have s3 := cellB hSw s3 ys; have i0 := cellB hSw i0 yi; first | (go_simp; done) | (go_simp; with_reducible rfl) | (trace_state; fail)
        try simp only [Act.put, List.setIfInBounds_toArray, List.set_cons_zero, List.set_cons_succ]
        refine wpAnyH_take (i := 11) (oi := { dst := some 46, op := Op.load 31 (Operand.tmp 4), type := 31, pos := _, after := #[], guard := none }) (v := ?_) rfl (by kernel_rfl) (by kernel_rfl) (by kernel_rfl) (fun _ _ _ h => h) (Or.inl ⟨by rfl, ?_⟩) (by assumption) ?_
        rotate_left
        · intro wt hSw; (try dsimp only at hSw); have p1 := cellB hSw p1 yp; have s0 := cellB hSw s0 ys; have s1 := cellB hSw s1 ys; have s2 := cellB hSw s2 ys; have s3 := cellB hSw s3 ys; have i0 := cellB hSw i0 yi; first | (go_simp; done) | (go_simp; with_reducible rfl) | (trace_state; fail)
        try simp only [Act.put, List.setIfInBounds_toArray, List.set_cons_zero, List.set_cons_succ]
        refine wpAnyH_take (i := 12) (oi := { dst := some 47, op := Op.move (Operand.tmp 2), type := 32, pos := _, after := #[], guard := none }) (v := ?_) rfl (by kernel_rfl) (by kernel_rfl) (by kernel_rfl) (fun _ _ _ h => h) (Or.inl ⟨by rfl, ?_⟩) (by assumption) ?_
        rotate_left
        · intro wt hSw; (try dsimp only at hSw); have p1 := cellB hSw p1 yp; have s0 := cellB hSw s0 ys; have s1 := cellB hSw s1 ys; have s2 := cellB hSw s2 ys; have s3 := cellB hSw s3 ys; have i0 := cellB hSw i0 yi; first | (go_simp; done) | (go_simp; with_reducible rfl) | (trace_state; fail)
        try simp only [Act.put, List.setIfInBounds_toArray, List.set_cons_zero, List.set_cons_succ]
        refine wpAnyH_take (i := 13) (oi := { dst := some 48, op := Op.move (Operand.tmp 2), type := 32, pos := _, after := #[], guard := none }) (v := ?_) rfl (by kernel_rfl) (by kernel_rfl) (by kernel_rfl) (fun _ _ _ h => h) (Or.inl ⟨by rfl, ?_⟩) (by assumption) ?_
        rotate_left
        · intro wt hSw; (try dsimp only at hSw); have p1 := cellB hSw p1 yp; have s0 := cellB hSw s0 ys; have s1 := cellB hSw s1 ys; have s2 := cellB hSw s2 ys; have s3 := cellB hSw s3 ys; have i0 := cellB hSw i0 yi; first | (go_simp; done) | (go_simp; with_reducible rfl) | (trace_state; fail)
        try simp only [Act.put, List.setIfInBounds_toArray, List.set_cons_zero, List.set_cons_succ]
        refine wpAnyH_take (i := 14) (oi := { dst := some 49, op := Op.move (Operand.tmp 8), type := 3, pos := _, after := #[], guard := none }) (v := ?_) rfl (by kernel_rfl) (by kernel_rfl) (by kernel_rfl) (fun _ _ _ h => h) (Or.inl ⟨by rfl, ?_⟩) (by assumption) ?_
        rotate_left
        · intro wt hSw; (try dsimp only at hSw); have p1 := cellB hSw p1 yp; have s0 := cellB hSw s0 ys; have s1 := cellB hSw s1 ys; have s2 := cellB hSw s2 ys; have s3 := cellB hSw s3 ys; have i0 := cellB hSw i0 yi; first | (go_simp; done) | (go_simp; with_reducible rfl) | (trace_state; fail)
        try simp only [Act.put, List.setIfInBounds_toArray, List.set_cons_zero, List.set_cons_succ]
        refine wpAnyH_take (i := 15) (oi := { dst := some 50, op := Op.indexAddr 32 (Operand.tmp 48) (Operand.tmp 49), type := 0, pos := _, after := #[{ on := 13, ground := Ground.data }, { on := 14, ground := Ground.data }], guard := none }) (v := ?_) rfl (by kernel_rfl) (by kernel_rfl) (by kernel_rfl) (fun _ _ _ h => h) (Or.inl ⟨by rfl, ?_⟩) (by assumption) ?_
        rotate_left
        · intro wt hSw; (try dsimp only at hSw); have p1 := cellB hSw p1 yp; have s0 := cellB hSw s0 ys; have s1 := cellB hSw s1 ys; have s2 := cellB hSw s2 ys; have s3 := cellB hSw s3 ys; have i0 := cellB hSw i0 yi; first | (go_simp; done) | (go_simp; with_reducible rfl) | (trace_state; fail)
        try simp only [Act.put, List.setIfInBounds_toArray, List.set_cons_zero, List.set_cons_succ]
        refine wpAnyH_take (i := 16) (oi := { dst := some 51, op := Op.load 3 (Operand.tmp 50), type := 3, pos := _, after := #[{ on := 15, ground := Ground.data }], guard := none }) (v := ?_) rfl (by kernel_rfl) (by kernel_rfl) (by kernel_rfl) (fun _ _ _ h => h) (Or.inl ⟨by rfl, ?_⟩) (by assumption) ?_
        rotate_left
        · intro wt hSw; (try dsimp only at hSw); have p1 := cellB hSw p1 yp; have s0 := cellB hSw s0 ys; have s1 := cellB hSw s1 ys; have s2 := cellB hSw s2 ys; have s3 := cellB hSw s3 ys; have i0 := cellB hSw i0 yi; first | (go_simp; done) | (go_simp; with_reducible rfl) | (trace_state; fail)
        try simp only [Act.put, List.setIfInBounds_toArray, List.set_cons_zero, List.set_cons_succ]
        refine wpAnyH_ready (rs := [8]) (by kernel_rfl) (by simp) ?_
        refine AllReadyH.cons (o := { dst := some 43, op := Op.call { callee := Callee.value (Operand.func 10), args := #[Operand.tmp 36, Operand.tmp 37, Operand.tmp 38, Operand.tmp 42], argTypes := #[23, 31, 32, 3] }, type := 31, pos := _, after := #[{ on := 1, ground := Ground.data }, { on := 2, ground := Ground.data }, { on := 3, ground := Ground.data }, { on := 7, ground := Ground.data }], guard := none }) rfl (fun K hK => ?_) AllReadyH.nil
        go_simp
        refine (HB1x.out _ (HBr.out.trans (hHeld.mono HBr.out.size))).mono ?_; rintro e w1 ⟨v3, b3, rfl, hst3, hb⟩; have hHeld := hHeld.trans (hb.mono hHeld.size); have hst3 := Lib.hid hst3; clear hb
        go_wp2_with fail
        refine hK.out _ _ ?_ (fun hHeld => ?_)
        · (try dsimp only); first | assumption | exact Below.alloc hHeld hHeld.size _ | exact (Below.refl _ _).drew | exact Below.drew (Below.refl _ _) | exact Below_drewN _ _ _ | exact Below.refl _ _ | (trace_state; fail)
        clear hK K
        try simp only [Act.put, List.setIfInBounds_toArray, List.set_cons_zero, List.set_cons_succ]
        refine wpAnyH_ready (rs := [17]) (by kernel_rfl) (by simp) ?_
        refine AllReadyH.cons (o := { dst := some 52, op := Op.call { callee := Callee.value (Operand.func 11), args := #[Operand.tmp 45, Operand.tmp 46, Operand.tmp 47, Operand.tmp 51], argTypes := #[23, 31, 32, 3] }, type := 31, pos := _, after := #[{ on := 10, ground := Ground.data }, { on := 11, ground := Ground.data }, { on := 12, ground := Ground.data }, { on := 16, ground := Ground.data }, { on := 8, ground := Ground.chain }], guard := none }) rfl (fun K hK => ?_) AllReadyH.nil
        go_simp
        refine (HB2x.out _ (HBr.out.trans (hHeld.mono HBr.out.size))).mono ?_; rintro e w2 ⟨v4, b4, rfl, hst4, hb⟩; have hHeld := hHeld.trans (hb.mono hHeld.size); have hst3 := Lib.hid (hst3.out.below hb); have hst4 := Lib.hid hst4; clear hb
        go_wp2_with fail
        refine hK.out _ _ ?_ (fun hHeld => ?_)
        · (try dsimp only); first | assumption | exact Below.alloc hHeld hHeld.size _ | exact (Below.refl _ _).drew | exact Below.drew (Below.refl _ _) | exact Below_drewN _ _ _ | exact Below.refl _ _ | (trace_state; fail)
        clear hK K
        try simp only [Act.put, List.setIfInBounds_toArray, List.set_cons_zero, List.set_cons_succ]
        refine wpAnyH_ready (rs := [18]) (by kernel_rfl) (by simp) ?_
        refine AllReadyH.cons (o := { dst := some 53, op := Op.call { callee := Callee.value (Operand.func 9), args := #[Operand.tmp 43, Operand.tmp 52], argTypes := #[31, 31] }, type := 4, pos := _, after := #[{ on := 8, ground := Ground.data }, { on := 17, ground := Ground.data }, { on := 17, ground := Ground.chain }], guard := none }) rfl (fun K hK => ?_) AllReadyH.nil
        go_simp
        refine (HSame.out _ _ _ _ _ _ hst3.out hst4.out).mono ?_; rintro e w3 ⟨rfl, hb⟩; have hHeld := hHeld.trans (hb.mono hHeld.size); clear hb
        go_wp2_with fail
        refine hK.out _ _ ?_ (fun hHeld => ?_)
        · (try dsimp only); first | assumption | exact Below.alloc hHeld hHeld.size _ | exact (Below.refl _ _).drew | exact Below.drew (Below.refl _ _) | exact Below_drewN _ _ _ | exact Below.refl _ _ | (trace_state; fail)
        clear hK K
        try simp only [Act.put, List.setIfInBounds_toArray, List.set_cons_zero, List.set_cons_succ]
        refine wpAnyH_take (i := 19) (oi := { dst := some 54, op := Op.unOp UnOp.not 4 (Operand.tmp 53), type := 4, pos := _, after := #[{ on := 18, ground := Ground.data }], guard := none }) (v := ?_) rfl (by kernel_rfl) (by kernel_rfl) (by kernel_rfl) (fun _ _ _ h => h) (Or.inl ⟨by rfl, ?_⟩) (by assumption) ?_
        rotate_left
        · intro wt hSw; (try dsimp only at hSw); have p1 := cellB hSw p1 yp; have s0 := cellB hSw s0 ys; have s1 := cellB hSw s1 ys; have s2 := cellB hSw s2 ys; have s3 := cellB hSw s3 ys; have i0 := cellB hSw i0 yi; first | (go_simp; done) | (go_simp; with_reducible rfl) | (trace_state; fail)
        try simp only [Act.put, List.setIfInBounds_toArray, List.set_cons_zero, List.set_cons_succ]
        refine wpAnyH_done (by kernel_rfl) ?_ _
        have HW := Lib.hid (hBw.out.trans (hHeld.mono hBw.out.size))
        clear hHeld
        go_wp2_with fail
        go_roundw
        case rel => exact ⟨k + 1, by omega, by omega, by simp, HW⟩
        case measure => first | (simp [intOf]; done) | (simp [intOf]; omega)
      · have qb : ((k : Int) < 3) = False := eq_false (by omega)
        have HB1x := Lib.hid (fun W hb => HB1.out 0 (by unfold I64; omega) W hb)
        have HB2x := Lib.hid (fun W hb => HB2.out 0 (by unfold I64; omega) W hb)
        obtain ⟨m0, m1, m2, m3⟩ := C4.keep HC7.out z7 hBw.out
        have ym : A3.heap.size < wr.heap.size := Nat.lt_of_lt_of_le z7 hBw.out.size
        have HWas := Lib.hid (fun W (hb : Below wr.heap.size wr W) => HSame.out s W v b (.slice sv7 s.vars.length cv7) (.slice sb7 s.blocks.length cb7) (h.below (HBr.out.trans (hb.mono HBr.out.size))) (hst7.out.below (hBw.out.trans (hb.mono hBw.out.size))))
        go_wp2_with fail
        refine wp_region_held_drew (S := (fun w' => Below wr.heap.size wr w')) (by kernel_rfl) ?_ (fun hHeld => ?_)
        · (try dsimp only); first | assumption | exact Below.alloc hHeld hHeld.size _ | exact (Below.refl _ _).drew | exact Below.drew (Below.refl _ _) | exact Below_drewN _ _ _ | exact Below.refl _ _ | (trace_state; fail)
        refine wpAnyH_take (i := 0) (oi := { dst := some 55, op := Op.fieldAddr 27 (Operand.tmp 3) 1, type := 0, pos := _, after := #[], guard := none }) (v := ?_) rfl (by kernel_rfl) (by kernel_rfl) (by kernel_rfl) (fun _ _ _ h => h) (Or.inl ⟨by rfl, ?_⟩) (by assumption) ?_
        rotate_left
        · intro wt hSw; (try dsimp only at hSw); have p1 := cellB hSw p1 yp; have s0 := cellB hSw s0 ys; have s1 := cellB hSw s1 ys; have s2 := cellB hSw s2 ys; have s3 := cellB hSw s3 ys; have m0 := cellB hSw m0 ym; have m1 := cellB hSw m1 ym; have m2 := cellB hSw m2 ym; have m3 := cellB hSw m3 ym; first | (go_simp; done) | (go_simp; with_reducible rfl) | (trace_state; fail)
        try simp only [Act.put, List.setIfInBounds_toArray, List.set_cons_zero, List.set_cons_succ]
        refine wpAnyH_take (i := 1) (oi := { dst := some 56, op := Op.load 23 (Operand.tmp 55), type := 23, pos := _, after := #[{ on := 0, ground := Ground.data }], guard := none }) (v := ?_) rfl (by kernel_rfl) (by kernel_rfl) (by kernel_rfl) (fun _ _ _ h => h) (Or.inl ⟨by rfl, ?_⟩) (by assumption) ?_
        rotate_left
        · intro wt hSw; (try dsimp only at hSw); have p1 := cellB hSw p1 yp; have s0 := cellB hSw s0 ys; have s1 := cellB hSw s1 ys; have s2 := cellB hSw s2 ys; have s3 := cellB hSw s3 ys; have m0 := cellB hSw m0 ym; have m1 := cellB hSw m1 ym; have m2 := cellB hSw m2 ym; have m3 := cellB hSw m3 ym; first | (go_simp; done) | (go_simp; with_reducible rfl) | (trace_state; fail)
        try simp only [Act.put, List.setIfInBounds_toArray, List.set_cons_zero, List.set_cons_succ]
        refine wpAnyH_take (i := 2) (oi := { dst := some 57, op := Op.load 31 (Operand.tmp 4), type := 31, pos := _, after := #[], guard := none }) (v := ?_) rfl (by kernel_rfl) (by kernel_rfl) (by kernel_rfl) (fun _ _ _ h => h) (Or.inl ⟨by rfl, ?_⟩) (by assumption) ?_
        rotate_left
        · intro wt hSw; (try dsimp only at hSw); have p1 := cellB hSw p1 yp; have s0 := cellB hSw s0 ys; have s1 := cellB hSw s1 ys; have s2 := cellB hSw s2 ys; have s3 := cellB hSw s3 ys; have m0 := cellB hSw m0 ym; have m1 := cellB hSw m1 ym; have m2 := cellB hSw m2 ym; have m3 := cellB hSw m3 ym; first | (go_simp; done) | (go_simp; with_reducible rfl) | (trace_state; fail)
        try simp only [Act.put, List.setIfInBounds_toArray, List.set_cons_zero, List.set_cons_succ]
        refine wpAnyH_take (i := 3) (oi := { dst := some 58, op := Op.move (Operand.tmp 2), type := 32, pos := _, after := #[], guard := none }) (v := ?_) rfl (by kernel_rfl) (by kernel_rfl) (by kernel_rfl) (fun _ _ _ h => h) (Or.inl ⟨by rfl, ?_⟩) (by assumption) ?_
        rotate_left
        · intro wt hSw; (try dsimp only at hSw); have p1 := cellB hSw p1 yp; have s0 := cellB hSw s0 ys; have s1 := cellB hSw s1 ys; have s2 := cellB hSw s2 ys; have s3 := cellB hSw s3 ys; have m0 := cellB hSw m0 ym; have m1 := cellB hSw m1 ym; have m2 := cellB hSw m2 ym; have m3 := cellB hSw m3 ym; first | (go_simp; done) | (go_simp; with_reducible rfl) | (trace_state; fail)
        try simp only [Act.put, List.setIfInBounds_toArray, List.set_cons_zero, List.set_cons_succ]
        refine wpAnyH_take (i := 5) (oi := { dst := some 60, op := Op.fieldAddr 27 (Operand.tmp 3) 1, type := 0, pos := _, after := #[], guard := none }) (v := ?_) rfl (by kernel_rfl) (by kernel_rfl) (by kernel_rfl) (fun _ _ _ h => h) (Or.inl ⟨by rfl, ?_⟩) (by assumption) ?_
        rotate_left
        · intro wt hSw; (try dsimp only at hSw); have p1 := cellB hSw p1 yp; have s0 := cellB hSw s0 ys; have s1 := cellB hSw s1 ys; have s2 := cellB hSw s2 ys; have s3 := cellB hSw s3 ys; have m0 := cellB hSw m0 ym; have m1 := cellB hSw m1 ym; have m2 := cellB hSw m2 ym; have m3 := cellB hSw m3 ym; first | (go_simp; done) | (go_simp; with_reducible rfl) | (trace_state; fail)
        try simp only [Act.put, List.setIfInBounds_toArray, List.set_cons_zero, List.set_cons_succ]
        refine wpAnyH_take (i := 6) (oi := { dst := some 61, op := Op.load 23 (Operand.tmp 60), type := 23, pos := _, after := #[{ on := 5, ground := Ground.data }], guard := none }) (v := ?_) rfl (by kernel_rfl) (by kernel_rfl) (by kernel_rfl) (fun _ _ _ h => h) (Or.inl ⟨by rfl, ?_⟩) (by assumption) ?_
        rotate_left
        · intro wt hSw; (try dsimp only at hSw); have p1 := cellB hSw p1 yp; have s0 := cellB hSw s0 ys; have s1 := cellB hSw s1 ys; have s2 := cellB hSw s2 ys; have s3 := cellB hSw s3 ys; have m0 := cellB hSw m0 ym; have m1 := cellB hSw m1 ym; have m2 := cellB hSw m2 ym; have m3 := cellB hSw m3 ym; first | (go_simp; done) | (go_simp; with_reducible rfl) | (trace_state; fail)
        try simp only [Act.put, List.setIfInBounds_toArray, List.set_cons_zero, List.set_cons_succ]
        refine wpAnyH_take (i := 7) (oi := { dst := some 62, op := Op.load 31 (Operand.tmp 4), type := 31, pos := _, after := #[], guard := none }) (v := ?_) rfl (by kernel_rfl) (by kernel_rfl) (by kernel_rfl) (fun _ _ _ h => h) (Or.inl ⟨by rfl, ?_⟩) (by assumption) ?_
        rotate_left
        · intro wt hSw; (try dsimp only at hSw); have p1 := cellB hSw p1 yp; have s0 := cellB hSw s0 ys; have s1 := cellB hSw s1 ys; have s2 := cellB hSw s2 ys; have s3 := cellB hSw s3 ys; have m0 := cellB hSw m0 ym; have m1 := cellB hSw m1 ym; have m2 := cellB hSw m2 ym; have m3 := cellB hSw m3 ym; first | (go_simp; done) | (go_simp; with_reducible rfl) | (trace_state; fail)
        try simp only [Act.put, List.setIfInBounds_toArray, List.set_cons_zero, List.set_cons_succ]
        refine wpAnyH_take (i := 8) (oi := { dst := some 63, op := Op.move (Operand.tmp 2), type := 32, pos := _, after := #[], guard := none }) (v := ?_) rfl (by kernel_rfl) (by kernel_rfl) (by kernel_rfl) (fun _ _ _ h => h) (Or.inl ⟨by rfl, ?_⟩) (by assumption) ?_
        rotate_left
        · intro wt hSw; (try dsimp only at hSw); have p1 := cellB hSw p1 yp; have s0 := cellB hSw s0 ys; have s1 := cellB hSw s1 ys; have s2 := cellB hSw s2 ys; have s3 := cellB hSw s3 ys; have m0 := cellB hSw m0 ym; have m1 := cellB hSw m1 ym; have m2 := cellB hSw m2 ym; have m3 := cellB hSw m3 ym; first | (go_simp; done) | (go_simp; with_reducible rfl) | (trace_state; fail)
        try simp only [Act.put, List.setIfInBounds_toArray, List.set_cons_zero, List.set_cons_succ]
        refine wpAnyH_ready (rs := [4]) (by kernel_rfl) (by simp) ?_
        refine AllReadyH.cons (o := { dst := some 59, op := Op.call { callee := Callee.value (Operand.func 10), args := #[Operand.tmp 56, Operand.tmp 57, Operand.tmp 58, Operand.const (Value.int IntKind.i64 0)], argTypes := #[23, 31, 32, 3] }, type := 31, pos := _, after := #[{ on := 1, ground := Ground.data }, { on := 2, ground := Ground.data }, { on := 3, ground := Ground.data }], guard := none }) rfl (fun K hK => ?_) AllReadyH.nil
        go_simp
        refine (HB1x.out _ (HBr.out.trans (hHeld.mono HBr.out.size))).mono ?_; rintro e w1 ⟨v3, b3, rfl, hst3, hb⟩; have hHeld := hHeld.trans (hb.mono hHeld.size); have hst3 := Lib.hid hst3; clear hb
        go_wp2_with fail
        refine hK.out _ _ ?_ (fun hHeld => ?_)
        · (try dsimp only); first | assumption | exact Below.alloc hHeld hHeld.size _ | exact (Below.refl _ _).drew | exact Below.drew (Below.refl _ _) | exact Below_drewN _ _ _ | exact Below.refl _ _ | (trace_state; fail)
        clear hK K
        try simp only [Act.put, List.setIfInBounds_toArray, List.set_cons_zero, List.set_cons_succ]
        refine wpAnyH_ready (rs := [9]) (by kernel_rfl) (by simp) ?_
        refine AllReadyH.cons (o := { dst := some 64, op := Op.call { callee := Callee.value (Operand.func 11), args := #[Operand.tmp 61, Operand.tmp 62, Operand.tmp 63, Operand.const (Value.int IntKind.i64 0)], argTypes := #[23, 31, 32, 3] }, type := 31, pos := _, after := #[{ on := 6, ground := Ground.data }, { on := 7, ground := Ground.data }, { on := 8, ground := Ground.data }, { on := 4, ground := Ground.chain }], guard := none }) rfl (fun K hK => ?_) AllReadyH.nil
        go_simp
        refine (HB2x.out _ (HBr.out.trans (hHeld.mono HBr.out.size))).mono ?_; rintro e w2 ⟨v4, b4, rfl, hst4, hb⟩; have hHeld := hHeld.trans (hb.mono hHeld.size); have hst3 := Lib.hid (hst3.out.below hb); have hst4 := Lib.hid hst4; clear hb
        go_wp2_with fail
        refine hK.out _ _ ?_ (fun hHeld => ?_)
        · (try dsimp only); first | assumption | exact Below.alloc hHeld hHeld.size _ | exact (Below.refl _ _).drew | exact Below.drew (Below.refl _ _) | exact Below_drewN _ _ _ | exact Below.refl _ _ | (trace_state; fail)
        clear hK K
        try simp only [Act.put, List.setIfInBounds_toArray, List.set_cons_zero, List.set_cons_succ]
        refine wpAnyH_ready (rs := [10]) (by kernel_rfl) (by simp) ?_
        refine AllReadyH.cons (o := { dst := some 65, op := Op.call { callee := Callee.value (Operand.func 9), args := #[Operand.tmp 59, Operand.tmp 64], argTypes := #[31, 31] }, type := 4, pos := _, after := #[{ on := 4, ground := Ground.data }, { on := 9, ground := Ground.data }, { on := 9, ground := Ground.chain }], guard := none }) rfl (fun K hK => ?_) AllReadyH.nil
        go_simp
        refine (HSame.out _ _ _ _ _ _ hst3.out hst4.out).mono ?_; rintro e w3 ⟨rfl, hb⟩; have hHeld := hHeld.trans (hb.mono hHeld.size); clear hb
        go_wp2_with fail
        refine hK.out _ _ ?_ (fun hHeld => ?_)
        · (try dsimp only); first | assumption | exact Below.alloc hHeld hHeld.size _ | exact (Below.refl _ _).drew | exact Below.drew (Below.refl _ _) | exact Below_drewN _ _ _ | exact Below.refl _ _ | (trace_state; fail)
        clear hK K
        try simp only [Act.put, List.setIfInBounds_toArray, List.set_cons_zero, List.set_cons_succ]
        refine wpAnyH_take (i := 11) (oi := { dst := some 66, op := Op.move (Operand.tmp 65), type := 4, pos := _, after := #[{ on := 10, ground := Ground.data }, { on := 10, ground := Ground.chain }], guard := none }) (v := ?_) rfl (by kernel_rfl) (by kernel_rfl) (by kernel_rfl) (fun _ _ _ h => h) (Or.inl ⟨by rfl, ?_⟩) (by assumption) ?_
        rotate_left
        · intro wt hSw; (try dsimp only at hSw); have p1 := cellB hSw p1 yp; have s0 := cellB hSw s0 ys; have s1 := cellB hSw s1 ys; have s2 := cellB hSw s2 ys; have s3 := cellB hSw s3 ys; have m0 := cellB hSw m0 ym; have m1 := cellB hSw m1 ym; have m2 := cellB hSw m2 ym; have m3 := cellB hSw m3 ym; first | (go_simp; done) | (go_simp; with_reducible rfl) | (trace_state; fail)
        try simp only [Act.put, List.setIfInBounds_toArray, List.set_cons_zero, List.set_cons_succ]
        refine wpAnyH_take (i := 12) (oi := { dst := some 67, op := Op.load 31 (Operand.tmp 4), type := 31, pos := _, after := #[{ on := 11, ground := Ground.guard }], guard := some (11, true) }) (v := ?_) rfl (by kernel_rfl) (by kernel_rfl) (by kernel_rfl) (fun _ _ _ h => h) (Or.inl ⟨by rfl, ?_⟩) (by assumption) ?_
        rotate_left
        · intro wt hSw; (try dsimp only at hSw); have p1 := cellB hSw p1 yp; have s0 := cellB hSw s0 ys; have s1 := cellB hSw s1 ys; have s2 := cellB hSw s2 ys; have s3 := cellB hSw s3 ys; have m0 := cellB hSw m0 ym; have m1 := cellB hSw m1 ym; have m2 := cellB hSw m2 ym; have m3 := cellB hSw m3 ym; first | (go_simp; done) | (go_simp; with_reducible rfl) | (trace_state; fail)
        try simp only [Act.put, List.setIfInBounds_toArray, List.set_cons_zero, List.set_cons_succ]
        refine wpAnyH_take (i := 13) (oi := { dst := some 68, op := Op.load 31 (Operand.tmp 7), type := 31, pos := _, after := #[{ on := 11, ground := Ground.guard }], guard := some (11, true) }) (v := ?_) rfl (by kernel_rfl) (by kernel_rfl) (by kernel_rfl) (fun _ _ _ h => h) (Or.inl ⟨by rfl, ?_⟩) (by assumption) ?_
        rotate_left
        · intro wt hSw; (try dsimp only at hSw); have p1 := cellB hSw p1 yp; have s0 := cellB hSw s0 ys; have s1 := cellB hSw s1 ys; have s2 := cellB hSw s2 ys; have s3 := cellB hSw s3 ys; have m0 := cellB hSw m0 ym; have m1 := cellB hSw m1 ym; have m2 := cellB hSw m2 ym; have m3 := cellB hSw m3 ym; first | (go_simp; done) | (go_simp; with_reducible rfl) | (trace_state; fail)
        try simp only [Act.put, List.setIfInBounds_toArray, List.set_cons_zero, List.set_cons_succ]
        refine wpAnyH_ready (rs := [14]) (by kernel_rfl) (by simp) ?_
        refine AllReadyH.cons (o := { dst := some 69, op := Op.call { callee := Callee.value (Operand.func 9), args := #[Operand.tmp 67, Operand.tmp 68], argTypes := #[31, 31] }, type := 4, pos := _, after := #[{ on := 12, ground := Ground.data }, { on := 13, ground := Ground.data }, { on := 11, ground := Ground.chain }, { on := 11, ground := Ground.guard }], guard := some (11, true) }) rfl (fun K hK => ?_) AllReadyH.nil
        go_simp
        refine (HWas.out _ hHeld).mono ?_; rintro e w4 ⟨rfl, hb⟩; have hHeld := hHeld.trans (hb.mono hHeld.size); clear hb
        go_wp2_with fail
        refine hK.out _ _ ?_ (fun hHeld => ?_)
        · (try dsimp only); first | assumption | exact Below.alloc hHeld hHeld.size _ | exact (Below.refl _ _).drew | exact Below.drew (Below.refl _ _) | exact Below_drewN _ _ _ | exact Below.refl _ _ | (trace_state; fail)
        clear hK K
        try simp only [Act.put, List.setIfInBounds_toArray, List.set_cons_zero, List.set_cons_succ]
        refine wpAnyH_take (i := 15) (oi := { dst := some 70, op := Op.pick (Operand.tmp 66) (Operand.tmp 69) (Operand.const (Value.bool false)), type := 4, pos := _, after := #[{ on := 11, ground := Ground.data }, { on := 14, ground := Ground.data }], guard := none }) (v := ?_) rfl (by kernel_rfl) (by kernel_rfl) (by kernel_rfl) (fun _ _ _ h => h) (Or.inl ⟨by rfl, ?_⟩) (by assumption) ?_
        rotate_left
        · intro wt hSw; (try dsimp only at hSw); have p1 := cellB hSw p1 yp; have s0 := cellB hSw s0 ys; have s1 := cellB hSw s1 ys; have s2 := cellB hSw s2 ys; have s3 := cellB hSw s3 ys; have m0 := cellB hSw m0 ym; have m1 := cellB hSw m1 ym; have m2 := cellB hSw m2 ym; have m3 := cellB hSw m3 ym; first | (go_simp; done) | (go_simp; with_reducible rfl) | (trace_state; fail)
        try simp only [Act.put, List.setIfInBounds_toArray, List.set_cons_zero, List.set_cons_succ]
        refine wpAnyH_take (i := 16) (oi := { dst := some 71, op := Op.move (Operand.tmp 70), type := 4, pos := _, after := #[{ on := 15, ground := Ground.data }, { on := 14, ground := Ground.chain }], guard := none }) (v := ?_) rfl (by kernel_rfl) (by kernel_rfl) (by kernel_rfl) (fun _ _ _ h => h) (Or.inl ⟨by rfl, ?_⟩) (by assumption) ?_
        rotate_left
        · intro wt hSw; (try dsimp only at hSw); have p1 := cellB hSw p1 yp; have s0 := cellB hSw s0 ys; have s1 := cellB hSw s1 ys; have s2 := cellB hSw s2 ys; have s3 := cellB hSw s3 ys; have m0 := cellB hSw m0 ym; have m1 := cellB hSw m1 ym; have m2 := cellB hSw m2 ym; have m3 := cellB hSw m3 ym; first | (go_simp; done) | (go_simp; with_reducible rfl) | (trace_state; fail)
        try simp only [Act.put, List.setIfInBounds_toArray, List.set_cons_zero, List.set_cons_succ]
        refine wpAnyH_ready (rs := [17]) (by kernel_rfl) (by simp) ?_
        refine AllReadyH.cons (o := { dst := some 72, op := Op.call { callee := Callee.value (Operand.func 7), args := #[], argTypes := #[] }, type := 4, pos := _, after := #[{ on := 16, ground := Ground.chain }, { on := 16, ground := Ground.guard }], guard := some (16, true) }) rfl (fun K hK => ?_) AllReadyH.nil
        go_simp
        refine (hAw _).mono ?_; rintro e w6 ⟨rfl, hb⟩; have hHeld := hHeld.trans (hb.mono hHeld.size); clear hb
        go_wp2_with fail
        refine hK.out _ _ ?_ (fun hHeld => ?_)
        · (try dsimp only); first | assumption | exact Below.alloc hHeld hHeld.size _ | exact (Below.refl _ _).drew | exact Below.drew (Below.refl _ _) | exact Below_drewN _ _ _ | exact Below.refl _ _ | (trace_state; fail)
        clear hK K
        try simp only [Act.put, List.setIfInBounds_toArray, List.set_cons_zero, List.set_cons_succ]
        refine wpAnyH_take (i := 18) (oi := { dst := some 73, op := Op.pick (Operand.tmp 71) (Operand.tmp 72) (Operand.const (Value.bool false)), type := 4, pos := _, after := #[{ on := 16, ground := Ground.data }, { on := 17, ground := Ground.data }], guard := none }) (v := ?_) rfl (by kernel_rfl) (by kernel_rfl) (by kernel_rfl) (fun _ _ _ h => h) (Or.inl ⟨by rfl, ?_⟩) (by assumption) ?_
        rotate_left
        · intro wt hSw; (try dsimp only at hSw); have p1 := cellB hSw p1 yp; have s0 := cellB hSw s0 ys; have s1 := cellB hSw s1 ys; have s2 := cellB hSw s2 ys; have s3 := cellB hSw s3 ys; have m0 := cellB hSw m0 ym; have m1 := cellB hSw m1 ym; have m2 := cellB hSw m2 ym; have m3 := cellB hSw m3 ym; first | (go_simp; done) | (go_simp; with_reducible rfl) | (trace_state; fail)
        try simp only [Act.put, List.setIfInBounds_toArray, List.set_cons_zero, List.set_cons_succ]
        refine wpAnyH_take (i := 19) (oi := { dst := some 6, op := Op.assign (Operand.tmp 73), type := 4, pos := _, after := #[{ on := 18, ground := Ground.data }, { on := 17, ground := Ground.chain }, { on := 0, ground := Ground.phase }, { on := 1, ground := Ground.phase }, { on := 2, ground := Ground.phase }, { on := 3, ground := Ground.phase }, { on := 4, ground := Ground.phase }, { on := 5, ground := Ground.phase }, { on := 6, ground := Ground.phase }, { on := 7, ground := Ground.phase }, { on := 8, ground := Ground.phase }, { on := 9, ground := Ground.phase }, { on := 10, ground := Ground.phase }, { on := 11, ground := Ground.phase }, { on := 12, ground := Ground.phase }, { on := 13, ground := Ground.phase }, { on := 14, ground := Ground.phase }, { on := 15, ground := Ground.phase }, { on := 16, ground := Ground.phase }, { on := 17, ground := Ground.phase }, { on := 18, ground := Ground.phase }], guard := none }) (v := ?_) rfl (by kernel_rfl) (by kernel_rfl) (by kernel_rfl) (fun _ _ _ h => h) (Or.inl ⟨by rfl, ?_⟩) (by assumption) ?_
        rotate_left
        · intro wt hSw; (try dsimp only at hSw); have p1 := cellB hSw p1 yp; have s0 := cellB hSw s0 ys; have s1 := cellB hSw s1 ys; have s2 := cellB hSw s2 ys; have s3 := cellB hSw s3 ys; have m0 := cellB hSw m0 ym; have m1 := cellB hSw m1 ym; have m2 := cellB hSw m2 ym; have m3 := cellB hSw m3 ym; first | (go_simp; done) | (go_simp; with_reducible rfl) | (trace_state; fail)
        try simp only [Act.put, List.setIfInBounds_toArray, List.set_cons_zero, List.set_cons_succ]
        refine wpAnyH_done (by kernel_rfl) ?_ _
        go_wp2_with fail
        go_ret
        exact ⟨rfl, HBr.out.trans (hHeld.mono HBr.out.size)⟩
    · have qa : ((k : Int) < (NI : Int)) = False := eq_false (by omega)
      have HB1x := Lib.hid (fun W hb => HB1.out 0 (by unfold I64; omega) W hb)
      have HB2x := Lib.hid (fun W hb => HB2.out 0 (by unfold I64; omega) W hb)
      obtain ⟨m0, m1, m2, m3⟩ := C4.keep HC7.out z7 hBw.out
      have ym : A3.heap.size < wr.heap.size := Nat.lt_of_lt_of_le z7 hBw.out.size
      have HWas := Lib.hid (fun W (hb : Below wr.heap.size wr W) => HSame.out s W v b (.slice sv7 s.vars.length cv7) (.slice sb7 s.blocks.length cb7) (h.below (HBr.out.trans (hb.mono HBr.out.size))) (hst7.out.below (hBw.out.trans (hb.mono hBw.out.size))))
      go_wp2_with fail
      refine wp_region_held_drew (S := (fun w' => Below wr.heap.size wr w')) (by kernel_rfl) ?_ (fun hHeld => ?_)
      · (try dsimp only); first | assumption | exact Below.alloc hHeld hHeld.size _ | exact (Below.refl _ _).drew | exact Below.drew (Below.refl _ _) | exact Below_drewN _ _ _ | exact Below.refl _ _ | (trace_state; fail)
      refine wpAnyH_take (i := 0) (oi := { dst := some 55, op := Op.fieldAddr 27 (Operand.tmp 3) 1, type := 0, pos := _, after := #[], guard := none }) (v := ?_) rfl (by kernel_rfl) (by kernel_rfl) (by kernel_rfl) (fun _ _ _ h => h) (Or.inl ⟨by rfl, ?_⟩) (by assumption) ?_
      rotate_left
      · intro wt hSw; (try dsimp only at hSw); have p1 := cellB hSw p1 yp; have s0 := cellB hSw s0 ys; have s1 := cellB hSw s1 ys; have s2 := cellB hSw s2 ys; have s3 := cellB hSw s3 ys; have m0 := cellB hSw m0 ym; have m1 := cellB hSw m1 ym; have m2 := cellB hSw m2 ym; have m3 := cellB hSw m3 ym; first | (go_simp; done) | (go_simp; with_reducible rfl) | (trace_state; fail)
      try simp only [Act.put, List.setIfInBounds_toArray, List.set_cons_zero, List.set_cons_succ]
      refine wpAnyH_take (i := 1) (oi := { dst := some 56, op := Op.load 23 (Operand.tmp 55), type := 23, pos := _, after := #[{ on := 0, ground := Ground.data }], guard := none }) (v := ?_) rfl (by kernel_rfl) (by kernel_rfl) (by kernel_rfl) (fun _ _ _ h => h) (Or.inl ⟨by rfl, ?_⟩) (by assumption) ?_
      rotate_left
      · intro wt hSw; (try dsimp only at hSw); have p1 := cellB hSw p1 yp; have s0 := cellB hSw s0 ys; have s1 := cellB hSw s1 ys; have s2 := cellB hSw s2 ys; have s3 := cellB hSw s3 ys; have m0 := cellB hSw m0 ym; have m1 := cellB hSw m1 ym; have m2 := cellB hSw m2 ym; have m3 := cellB hSw m3 ym; first | (go_simp; done) | (go_simp; with_reducible rfl) | (trace_state; fail)
      try simp only [Act.put, List.setIfInBounds_toArray, List.set_cons_zero, List.set_cons_succ]
      refine wpAnyH_take (i := 2) (oi := { dst := some 57, op := Op.load 31 (Operand.tmp 4), type := 31, pos := _, after := #[], guard := none }) (v := ?_) rfl (by kernel_rfl) (by kernel_rfl) (by kernel_rfl) (fun _ _ _ h => h) (Or.inl ⟨by rfl, ?_⟩) (by assumption) ?_
      rotate_left
      · intro wt hSw; (try dsimp only at hSw); have p1 := cellB hSw p1 yp; have s0 := cellB hSw s0 ys; have s1 := cellB hSw s1 ys; have s2 := cellB hSw s2 ys; have s3 := cellB hSw s3 ys; have m0 := cellB hSw m0 ym; have m1 := cellB hSw m1 ym; have m2 := cellB hSw m2 ym; have m3 := cellB hSw m3 ym; first | (go_simp; done) | (go_simp; with_reducible rfl) | (trace_state; fail)
      try simp only [Act.put, List.setIfInBounds_toArray, List.set_cons_zero, List.set_cons_succ]
      refine wpAnyH_take (i := 3) (oi := { dst := some 58, op := Op.move (Operand.tmp 2), type := 32, pos := _, after := #[], guard := none }) (v := ?_) rfl (by kernel_rfl) (by kernel_rfl) (by kernel_rfl) (fun _ _ _ h => h) (Or.inl ⟨by rfl, ?_⟩) (by assumption) ?_
      rotate_left
      · intro wt hSw; (try dsimp only at hSw); have p1 := cellB hSw p1 yp; have s0 := cellB hSw s0 ys; have s1 := cellB hSw s1 ys; have s2 := cellB hSw s2 ys; have s3 := cellB hSw s3 ys; have m0 := cellB hSw m0 ym; have m1 := cellB hSw m1 ym; have m2 := cellB hSw m2 ym; have m3 := cellB hSw m3 ym; first | (go_simp; done) | (go_simp; with_reducible rfl) | (trace_state; fail)
      try simp only [Act.put, List.setIfInBounds_toArray, List.set_cons_zero, List.set_cons_succ]
      refine wpAnyH_take (i := 5) (oi := { dst := some 60, op := Op.fieldAddr 27 (Operand.tmp 3) 1, type := 0, pos := _, after := #[], guard := none }) (v := ?_) rfl (by kernel_rfl) (by kernel_rfl) (by kernel_rfl) (fun _ _ _ h => h) (Or.inl ⟨by rfl, ?_⟩) (by assumption) ?_
      rotate_left
      · intro wt hSw; (try dsimp only at hSw); have p1 := cellB hSw p1 yp; have s0 := cellB hSw s0 ys; have s1 := cellB hSw s1 ys; have s2 := cellB hSw s2 ys; have s3 := cellB hSw s3 ys; have m0 := cellB hSw m0 ym; have m1 := cellB hSw m1 ym; have m2 := cellB hSw m2 ym; have m3 := cellB hSw m3 ym; first | (go_simp; done) | (go_simp; with_reducible rfl) | (trace_state; fail)
      try simp only [Act.put, List.setIfInBounds_toArray, List.set_cons_zero, List.set_cons_succ]
      refine wpAnyH_take (i := 6) (oi := { dst := some 61, op := Op.load 23 (Operand.tmp 60), type := 23, pos := _, after := #[{ on := 5, ground := Ground.data }], guard := none }) (v := ?_) rfl (by kernel_rfl) (by kernel_rfl) (by kernel_rfl) (fun _ _ _ h => h) (Or.inl ⟨by rfl, ?_⟩) (by assumption) ?_
      rotate_left
      · intro wt hSw; (try dsimp only at hSw); have p1 := cellB hSw p1 yp; have s0 := cellB hSw s0 ys; have s1 := cellB hSw s1 ys; have s2 := cellB hSw s2 ys; have s3 := cellB hSw s3 ys; have m0 := cellB hSw m0 ym; have m1 := cellB hSw m1 ym; have m2 := cellB hSw m2 ym; have m3 := cellB hSw m3 ym; first | (go_simp; done) | (go_simp; with_reducible rfl) | (trace_state; fail)
      try simp only [Act.put, List.setIfInBounds_toArray, List.set_cons_zero, List.set_cons_succ]
      refine wpAnyH_take (i := 7) (oi := { dst := some 62, op := Op.load 31 (Operand.tmp 4), type := 31, pos := _, after := #[], guard := none }) (v := ?_) rfl (by kernel_rfl) (by kernel_rfl) (by kernel_rfl) (fun _ _ _ h => h) (Or.inl ⟨by rfl, ?_⟩) (by assumption) ?_
      rotate_left
      · intro wt hSw; (try dsimp only at hSw); have p1 := cellB hSw p1 yp; have s0 := cellB hSw s0 ys; have s1 := cellB hSw s1 ys; have s2 := cellB hSw s2 ys; have s3 := cellB hSw s3 ys; have m0 := cellB hSw m0 ym; have m1 := cellB hSw m1 ym; have m2 := cellB hSw m2 ym; have m3 := cellB hSw m3 ym; first | (go_simp; done) | (go_simp; with_reducible rfl) | (trace_state; fail)
      try simp only [Act.put, List.setIfInBounds_toArray, List.set_cons_zero, List.set_cons_succ]
      refine wpAnyH_take (i := 8) (oi := { dst := some 63, op := Op.move (Operand.tmp 2), type := 32, pos := _, after := #[], guard := none }) (v := ?_) rfl (by kernel_rfl) (by kernel_rfl) (by kernel_rfl) (fun _ _ _ h => h) (Or.inl ⟨by rfl, ?_⟩) (by assumption) ?_
      rotate_left
      · intro wt hSw; (try dsimp only at hSw); have p1 := cellB hSw p1 yp; have s0 := cellB hSw s0 ys; have s1 := cellB hSw s1 ys; have s2 := cellB hSw s2 ys; have s3 := cellB hSw s3 ys; have m0 := cellB hSw m0 ym; have m1 := cellB hSw m1 ym; have m2 := cellB hSw m2 ym; have m3 := cellB hSw m3 ym; first | (go_simp; done) | (go_simp; with_reducible rfl) | (trace_state; fail)
      try simp only [Act.put, List.setIfInBounds_toArray, List.set_cons_zero, List.set_cons_succ]
      refine wpAnyH_ready (rs := [4]) (by kernel_rfl) (by simp) ?_
      refine AllReadyH.cons (o := { dst := some 59, op := Op.call { callee := Callee.value (Operand.func 10), args := #[Operand.tmp 56, Operand.tmp 57, Operand.tmp 58, Operand.const (Value.int IntKind.i64 0)], argTypes := #[23, 31, 32, 3] }, type := 31, pos := _, after := #[{ on := 1, ground := Ground.data }, { on := 2, ground := Ground.data }, { on := 3, ground := Ground.data }], guard := none }) rfl (fun K hK => ?_) AllReadyH.nil
      go_simp
      refine (HB1x.out _ (HBr.out.trans (hHeld.mono HBr.out.size))).mono ?_; rintro e w1 ⟨v3, b3, rfl, hst3, hb⟩; have hHeld := hHeld.trans (hb.mono hHeld.size); have hst3 := Lib.hid hst3; clear hb
      go_wp2_with fail
      refine hK.out _ _ ?_ (fun hHeld => ?_)
      · (try dsimp only); first | assumption | exact Below.alloc hHeld hHeld.size _ | exact (Below.refl _ _).drew | exact Below.drew (Below.refl _ _) | exact Below_drewN _ _ _ | exact Below.refl _ _ | (trace_state; fail)
      clear hK K
      try simp only [Act.put, List.setIfInBounds_toArray, List.set_cons_zero, List.set_cons_succ]
      refine wpAnyH_ready (rs := [9]) (by kernel_rfl) (by simp) ?_
      refine AllReadyH.cons (o := { dst := some 64, op := Op.call { callee := Callee.value (Operand.func 11), args := #[Operand.tmp 61, Operand.tmp 62, Operand.tmp 63, Operand.const (Value.int IntKind.i64 0)], argTypes := #[23, 31, 32, 3] }, type := 31, pos := _, after := #[{ on := 6, ground := Ground.data }, { on := 7, ground := Ground.data }, { on := 8, ground := Ground.data }, { on := 4, ground := Ground.chain }], guard := none }) rfl (fun K hK => ?_) AllReadyH.nil
      go_simp
      refine (HB2x.out _ (HBr.out.trans (hHeld.mono HBr.out.size))).mono ?_; rintro e w2 ⟨v4, b4, rfl, hst4, hb⟩; have hHeld := hHeld.trans (hb.mono hHeld.size); have hst3 := Lib.hid (hst3.out.below hb); have hst4 := Lib.hid hst4; clear hb
      go_wp2_with fail
      refine hK.out _ _ ?_ (fun hHeld => ?_)
      · (try dsimp only); first | assumption | exact Below.alloc hHeld hHeld.size _ | exact (Below.refl _ _).drew | exact Below.drew (Below.refl _ _) | exact Below_drewN _ _ _ | exact Below.refl _ _ | (trace_state; fail)
      clear hK K
      try simp only [Act.put, List.setIfInBounds_toArray, List.set_cons_zero, List.set_cons_succ]
      refine wpAnyH_ready (rs := [10]) (by kernel_rfl) (by simp) ?_
      refine AllReadyH.cons (o := { dst := some 65, op := Op.call { callee := Callee.value (Operand.func 9), args := #[Operand.tmp 59, Operand.tmp 64], argTypes := #[31, 31] }, type := 4, pos := _, after := #[{ on := 4, ground := Ground.data }, { on := 9, ground := Ground.data }, { on := 9, ground := Ground.chain }], guard := none }) rfl (fun K hK => ?_) AllReadyH.nil
      go_simp
      refine (HSame.out _ _ _ _ _ _ hst3.out hst4.out).mono ?_; rintro e w3 ⟨rfl, hb⟩; have hHeld := hHeld.trans (hb.mono hHeld.size); clear hb
      go_wp2_with fail
      refine hK.out _ _ ?_ (fun hHeld => ?_)
      · (try dsimp only); first | assumption | exact Below.alloc hHeld hHeld.size _ | exact (Below.refl _ _).drew | exact Below.drew (Below.refl _ _) | exact Below_drewN _ _ _ | exact Below.refl _ _ | (trace_state; fail)
      clear hK K
      try simp only [Act.put, List.setIfInBounds_toArray, List.set_cons_zero, List.set_cons_succ]
      refine wpAnyH_take (i := 11) (oi := { dst := some 66, op := Op.move (Operand.tmp 65), type := 4, pos := _, after := #[{ on := 10, ground := Ground.data }, { on := 10, ground := Ground.chain }], guard := none }) (v := ?_) rfl (by kernel_rfl) (by kernel_rfl) (by kernel_rfl) (fun _ _ _ h => h) (Or.inl ⟨by rfl, ?_⟩) (by assumption) ?_
      rotate_left
      · intro wt hSw; (try dsimp only at hSw); have p1 := cellB hSw p1 yp; have s0 := cellB hSw s0 ys; have s1 := cellB hSw s1 ys; have s2 := cellB hSw s2 ys; have s3 := cellB hSw s3 ys; have m0 := cellB hSw m0 ym; have m1 := cellB hSw m1 ym; have m2 := cellB hSw m2 ym; have m3 := cellB hSw m3 ym; first | (go_simp; done) | (go_simp; with_reducible rfl) | (trace_state; fail)
      try simp only [Act.put, List.setIfInBounds_toArray, List.set_cons_zero, List.set_cons_succ]
      refine wpAnyH_take (i := 12) (oi := { dst := some 67, op := Op.load 31 (Operand.tmp 4), type := 31, pos := _, after := #[{ on := 11, ground := Ground.guard }], guard := some (11, true) }) (v := ?_) rfl (by kernel_rfl) (by kernel_rfl) (by kernel_rfl) (fun _ _ _ h => h) (Or.inl ⟨by rfl, ?_⟩) (by assumption) ?_
      rotate_left
      · intro wt hSw; (try dsimp only at hSw); have p1 := cellB hSw p1 yp; have s0 := cellB hSw s0 ys; have s1 := cellB hSw s1 ys; have s2 := cellB hSw s2 ys; have s3 := cellB hSw s3 ys; have m0 := cellB hSw m0 ym; have m1 := cellB hSw m1 ym; have m2 := cellB hSw m2 ym; have m3 := cellB hSw m3 ym; first | (go_simp; done) | (go_simp; with_reducible rfl) | (trace_state; fail)
      try simp only [Act.put, List.setIfInBounds_toArray, List.set_cons_zero, List.set_cons_succ]
      refine wpAnyH_take (i := 13) (oi := { dst := some 68, op := Op.load 31 (Operand.tmp 7), type := 31, pos := _, after := #[{ on := 11, ground := Ground.guard }], guard := some (11, true) }) (v := ?_) rfl (by kernel_rfl) (by kernel_rfl) (by kernel_rfl) (fun _ _ _ h => h) (Or.inl ⟨by rfl, ?_⟩) (by assumption) ?_
      rotate_left
      · intro wt hSw; (try dsimp only at hSw); have p1 := cellB hSw p1 yp; have s0 := cellB hSw s0 ys; have s1 := cellB hSw s1 ys; have s2 := cellB hSw s2 ys; have s3 := cellB hSw s3 ys; have m0 := cellB hSw m0 ym; have m1 := cellB hSw m1 ym; have m2 := cellB hSw m2 ym; have m3 := cellB hSw m3 ym; first | (go_simp; done) | (go_simp; with_reducible rfl) | (trace_state; fail)
      try simp only [Act.put, List.setIfInBounds_toArray, List.set_cons_zero, List.set_cons_succ]
      refine wpAnyH_ready (rs := [14]) (by kernel_rfl) (by simp) ?_
      refine AllReadyH.cons (o := { dst := some 69, op := Op.call { callee := Callee.value (Operand.func 9), args := #[Operand.tmp 67, Operand.tmp 68], argTypes := #[31, 31] }, type := 4, pos := _, after := #[{ on := 12, ground := Ground.data }, { on := 13, ground := Ground.data }, { on := 11, ground := Ground.chain }, { on := 11, ground := Ground.guard }], guard := some (11, true) }) rfl (fun K hK => ?_) AllReadyH.nil
      go_simp
      refine (HWas.out _ hHeld).mono ?_; rintro e w4 ⟨rfl, hb⟩; have hHeld := hHeld.trans (hb.mono hHeld.size); clear hb
      go_wp2_with fail
      refine hK.out _ _ ?_ (fun hHeld => ?_)
      · (try dsimp only); first | assumption | exact Below.alloc hHeld hHeld.size _ | exact (Below.refl _ _).drew | exact Below.drew (Below.refl _ _) | exact Below_drewN _ _ _ | exact Below.refl _ _ | (trace_state; fail)
      clear hK K
      try simp only [Act.put, List.setIfInBounds_toArray, List.set_cons_zero, List.set_cons_succ]
      refine wpAnyH_take (i := 15) (oi := { dst := some 70, op := Op.pick (Operand.tmp 66) (Operand.tmp 69) (Operand.const (Value.bool false)), type := 4, pos := _, after := #[{ on := 11, ground := Ground.data }, { on := 14, ground := Ground.data }], guard := none }) (v := ?_) rfl (by kernel_rfl) (by kernel_rfl) (by kernel_rfl) (fun _ _ _ h => h) (Or.inl ⟨by rfl, ?_⟩) (by assumption) ?_
      rotate_left
      · intro wt hSw; (try dsimp only at hSw); have p1 := cellB hSw p1 yp; have s0 := cellB hSw s0 ys; have s1 := cellB hSw s1 ys; have s2 := cellB hSw s2 ys; have s3 := cellB hSw s3 ys; have m0 := cellB hSw m0 ym; have m1 := cellB hSw m1 ym; have m2 := cellB hSw m2 ym; have m3 := cellB hSw m3 ym; first | (go_simp; done) | (go_simp; with_reducible rfl) | (trace_state; fail)
      try simp only [Act.put, List.setIfInBounds_toArray, List.set_cons_zero, List.set_cons_succ]
      refine wpAnyH_take (i := 16) (oi := { dst := some 71, op := Op.move (Operand.tmp 70), type := 4, pos := _, after := #[{ on := 15, ground := Ground.data }, { on := 14, ground := Ground.chain }], guard := none }) (v := ?_) rfl (by kernel_rfl) (by kernel_rfl) (by kernel_rfl) (fun _ _ _ h => h) (Or.inl ⟨by rfl, ?_⟩) (by assumption) ?_
      rotate_left
      · intro wt hSw; (try dsimp only at hSw); have p1 := cellB hSw p1 yp; have s0 := cellB hSw s0 ys; have s1 := cellB hSw s1 ys; have s2 := cellB hSw s2 ys; have s3 := cellB hSw s3 ys; have m0 := cellB hSw m0 ym; have m1 := cellB hSw m1 ym; have m2 := cellB hSw m2 ym; have m3 := cellB hSw m3 ym; first | (go_simp; done) | (go_simp; with_reducible rfl) | (trace_state; fail)
      try simp only [Act.put, List.setIfInBounds_toArray, List.set_cons_zero, List.set_cons_succ]
      refine wpAnyH_ready (rs := [17]) (by kernel_rfl) (by simp) ?_
      refine AllReadyH.cons (o := { dst := some 72, op := Op.call { callee := Callee.value (Operand.func 7), args := #[], argTypes := #[] }, type := 4, pos := _, after := #[{ on := 16, ground := Ground.chain }, { on := 16, ground := Ground.guard }], guard := some (16, true) }) rfl (fun K hK => ?_) AllReadyH.nil
      go_simp
      refine (hAw _).mono ?_; rintro e w6 ⟨rfl, hb⟩; have hHeld := hHeld.trans (hb.mono hHeld.size); clear hb
      go_wp2_with fail
      refine hK.out _ _ ?_ (fun hHeld => ?_)
      · (try dsimp only); first | assumption | exact Below.alloc hHeld hHeld.size _ | exact (Below.refl _ _).drew | exact Below.drew (Below.refl _ _) | exact Below_drewN _ _ _ | exact Below.refl _ _ | (trace_state; fail)
      clear hK K
      try simp only [Act.put, List.setIfInBounds_toArray, List.set_cons_zero, List.set_cons_succ]
      refine wpAnyH_take (i := 18) (oi := { dst := some 73, op := Op.pick (Operand.tmp 71) (Operand.tmp 72) (Operand.const (Value.bool false)), type := 4, pos := _, after := #[{ on := 16, ground := Ground.data }, { on := 17, ground := Ground.data }], guard := none }) (v := ?_) rfl (by kernel_rfl) (by kernel_rfl) (by kernel_rfl) (fun _ _ _ h => h) (Or.inl ⟨by rfl, ?_⟩) (by assumption) ?_
      rotate_left
      · intro wt hSw; (try dsimp only at hSw); have p1 := cellB hSw p1 yp; have s0 := cellB hSw s0 ys; have s1 := cellB hSw s1 ys; have s2 := cellB hSw s2 ys; have s3 := cellB hSw s3 ys; have m0 := cellB hSw m0 ym; have m1 := cellB hSw m1 ym; have m2 := cellB hSw m2 ym; have m3 := cellB hSw m3 ym; first | (go_simp; done) | (go_simp; with_reducible rfl) | (trace_state; fail)
      try simp only [Act.put, List.setIfInBounds_toArray, List.set_cons_zero, List.set_cons_succ]
      refine wpAnyH_take (i := 19) (oi := { dst := some 6, op := Op.assign (Operand.tmp 73), type := 4, pos := _, after := #[{ on := 18, ground := Ground.data }, { on := 17, ground := Ground.chain }, { on := 0, ground := Ground.phase }, { on := 1, ground := Ground.phase }, { on := 2, ground := Ground.phase }, { on := 3, ground := Ground.phase }, { on := 4, ground := Ground.phase }, { on := 5, ground := Ground.phase }, { on := 6, ground := Ground.phase }, { on := 7, ground := Ground.phase }, { on := 8, ground := Ground.phase }, { on := 9, ground := Ground.phase }, { on := 10, ground := Ground.phase }, { on := 11, ground := Ground.phase }, { on := 12, ground := Ground.phase }, { on := 13, ground := Ground.phase }, { on := 14, ground := Ground.phase }, { on := 15, ground := Ground.phase }, { on := 16, ground := Ground.phase }, { on := 17, ground := Ground.phase }, { on := 18, ground := Ground.phase }], guard := none }) (v := ?_) rfl (by kernel_rfl) (by kernel_rfl) (by kernel_rfl) (fun _ _ _ h => h) (Or.inl ⟨by rfl, ?_⟩) (by assumption) ?_
      rotate_left
      · intro wt hSw; (try dsimp only at hSw); have p1 := cellB hSw p1 yp; have s0 := cellB hSw s0 ys; have s1 := cellB hSw s1 ys; have s2 := cellB hSw s2 ys; have s3 := cellB hSw s3 ys; have m0 := cellB hSw m0 ym; have m1 := cellB hSw m1 ym; have m2 := cellB hSw m2 ym; have m3 := cellB hSw m3 ym; first | (go_simp; done) | (go_simp; with_reducible rfl) | (trace_state; fail)
      try simp only [Act.put, List.setIfInBounds_toArray, List.set_cons_zero, List.set_cons_succ]
      refine wpAnyH_done (by kernel_rfl) ?_ _
      go_wp2_with fail
      go_ret
      exact ⟨rfl, HBr.out.trans (hHeld.mono HBr.out.size)⟩
end Go.Proofs.Ytpnnmhcemecjfaa
