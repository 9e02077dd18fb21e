/- Layer 24: the walk of CycleEnds. -/
import Derived.Test.YtpnnmhcemecjfaaCyAwake
import Derived.Test.YtpnnmhcemecjfaaStSameQ
import Derived.Test.YtpnnmhcemecjfaaFewP
import Derived.Test.YtpnnmhcemecjfaaLawTwentythree
namespace Go.Proofs.Ytpnnmhcemecjfaa
open Go.RowKit
set_option linter.unusedSimpArgs false
set_option linter.unusedVariables false
set_option maxHeartbeats 8000000 in
theorem cycleEnds_walk (pc pv pb pu : Value) (p : Pr) (v b : Value) (s : St) (v2 b2 : Value) (t : St) (f : Int) (w : World) (hp : PrAt w pc pv pb pu p) (h : StAt w v b s) (g : StAt w v2 b2 t) (hf : I64 f) :
    Calls Try.prog 4 #[.agg #[pc, pv, pb, pu], .agg #[v, b, .int .i64 s.now, .int .i64 s.fault, v2, b2, .int .i64 t.now, .int .i64 t.fault], .int .i64 f] w fun e w' => e = .returned (.bool true) ∧ Below w.heap.size w w' := by
  have cp := @cell_past
  have hAw := law24_awake
  have hS1 := Lib.hid (fun W (hb : Below w.heap.size w W) => law23_Short v b s W (h.below hb))
  have hS2 := Lib.hid (fun W (hb : Below w.heap.size w W) => law23_Short v2 b2 t W (g.below hb))
  have hF := Lib.hid (fun W (hb : Below w.heap.size w W) => law16_Few pc pv pb pu p W (hp.below hb))
  obtain ⟨W0, hW0⟩ : ∃ W0, W0 = (w.alloc (.cells #[pc, pv, pb, pu] 27)).alloc (.cells #[v, b, .int .i64 s.now, .int .i64 s.fault, v2, b2, .int .i64 t.now, .int .i64 t.fault] 40) := ⟨_, rfl⟩
  have hBW0 : Below w.heap.size w W0 := by rw [hW0]; exact by (repeat' (first | (with_reducible exact Below.refl _ _) | (with_reducible assumption) | (with_reducible refine below_drewN ?_ _) | (with_reducible refine Below.alloc ?_ ?_ _) | (with_reducible refine Below.drew ?_) | (with_reducible refine Below.setCell ?_ ?_ _) | go_size))
  obtain ⟨k1, k2, z2, _⟩ := boxed2 w [pc, pv, pb, pu] [v, b, .int .i64 s.now, .int .i64 s.fault, v2, b2, .int .i64 t.now, .int .i64 t.fault] 27 40 (W' := W0) (by rw [hW0]; exact Below.refl _ _)
  have K1 := Lib.hid k1
  have K2 := Lib.hid k2
  have z1 : w.heap.size < W0.heap.size := by omega
  have HW0 := Lib.hid hW0
  have HB0 := Lib.hid hBW0
  have HIo := Lib.hid (row_ints_all h.vs)
  clear hW0 k1 k2 hBW0
  cases hfp : fewP p
  · rw [hfp] at hF
    go_enter Try.func4, Try.ntmps4
    go_wp2_with fail
    refine (hF.out _ (by (repeat' (first | (with_reducible exact Below.refl _ _) | (with_reducible assumption) | (with_reducible refine below_drewN ?_ _) | (with_reducible refine Below.alloc ?_ ?_ _) | (with_reducible refine Below.drew ?_) | (with_reducible refine Below.setCell ?_ ?_ _) | go_size)))).mono ?_; rintro e A1 ⟨rfl, hb1⟩
    rw [← HW0.out] at hb1
    go_wp2_with fail
    refine (hAw _).mono ?_; rintro e A2 ⟨rfl, hb2⟩
    go_wp2_with fail
    go_ret
    exact ⟨rfl, HB0.out.trans ((hb1.trans (hb2.mono hb1.size)).mono HB0.out.size)⟩
  rw [hfp] at hF
  cases hs1 : shortS s
  · rw [hs1] at hS1
    go_enter Try.func4, Try.ntmps4
    go_wp2_with fail
    refine (hF.out _ (by (repeat' (first | (with_reducible exact Below.refl _ _) | (with_reducible assumption) | (with_reducible refine below_drewN ?_ _) | (with_reducible refine Below.alloc ?_ ?_ _) | (with_reducible refine Below.drew ?_) | (with_reducible refine Below.setCell ?_ ?_ _) | go_size)))).mono ?_; rintro e A1 ⟨rfl, hb1⟩
    rw [← HW0.out] at hb1
    have kk := K2.out.keep z2 hb1
    have e0 := kk 0 _ rfl
    have e1 := kk 1 _ rfl
    have e2 := kk 2 _ rfl
    have e3 := kk 3 _ rfl
    clear kk
    go_wp2_with fail
    refine (hS1.out _ (HB0.out.trans (hb1.mono HB0.out.size))).mono ?_; rintro e A2 ⟨rfl, hb2⟩
    have hb2 := hb1.trans (hb2.mono hb1.size)
    go_wp2_with fail
    refine (hAw _).mono ?_; rintro e A3 ⟨rfl, hb3⟩
    have hb3 := hb2.trans (hb3.mono hb2.size)
    go_wp2_with fail
    go_ret
    exact ⟨rfl, HB0.out.trans (hb3.mono HB0.out.size)⟩
  rw [hs1] at hS1
  cases hs2 : shortS t
  · rw [hs2] at hS2
    go_enter Try.func4, Try.ntmps4
    go_wp2_with fail
    refine (hF.out _ (by (repeat' (first | (with_reducible exact Below.refl _ _) | (with_reducible assumption) | (with_reducible refine below_drewN ?_ _) | (with_reducible refine Below.alloc ?_ ?_ _) | (with_reducible refine Below.drew ?_) | (with_reducible refine Below.setCell ?_ ?_ _) | go_size)))).mono ?_; rintro e A1 ⟨rfl, hb1⟩
    rw [← HW0.out] at hb1
    have kk := K2.out.keep z2 hb1
    have e0 := kk 0 _ rfl
    have e1 := kk 1 _ rfl
    have e2 := kk 2 _ rfl
    have e3 := kk 3 _ rfl
    clear kk
    go_wp2_with fail
    refine (hS1.out _ (HB0.out.trans (hb1.mono HB0.out.size))).mono ?_; rintro e A2 ⟨rfl, hb2⟩
    have hb2 := hb1.trans (hb2.mono hb1.size)
    clear e0 e1 e2 e3
    have kk := K2.out.keep z2 hb2
    have e4 := kk 4 _ rfl
    have e5 := kk 5 _ rfl
    have e6 := kk 6 _ rfl
    have e7 := kk 7 _ rfl
    clear kk
    go_wp2_with fail
    refine (hS2.out _ (HB0.out.trans (hb2.mono HB0.out.size))).mono ?_; rintro e A3 ⟨rfl, hb3⟩
    have hb3 := hb2.trans (hb3.mono hb2.size)
    go_wp2_with fail
    refine (hAw _).mono ?_; rintro e A4 ⟨rfl, hb4⟩
    have hb4 := hb3.trans (hb4.mono hb3.size)
    go_wp2_with fail
    go_ret
    exact ⟨rfl, HB0.out.trans (hb4.mono HB0.out.size)⟩
  rw [hs2] at hS2
  obtain ⟨⟨_, hL, _, _⟩, _⟩ : (p.consts.length ≤ 60 ∧ p.vars.length ≤ 70 ∧ p.blocks.length ≤ 40 ∧ p.units.length ≤ 10) ∧ (∀ x ∈ p.vars, x.name.length ≤ 300) ∧ (∀ x ∈ p.blocks, x.name.length ≤ 300) ∧ ∀ x ∈ p.units, fewU x = true := of_decide_eq_true hfp
  have hE1 := Lib.hid (fun W (hb : Below w.heap.size w W) => cycle_End pv v b v2 b2 p.vars s t f W (hp.vs.below varR_stable hb) (h.below hb) (g.below hb) hs1 hs2 hL hf)
  have hE2 := Lib.hid (fun W (hb : Below w.heap.size w W) => ref24_End pv v b v2 b2 p.vars s t f W (hp.vs.below varR_stable hb) (h.below hb) (g.below hb) hs1 hs2 hL hf)
  have HO1 := Lib.hid (fun W (hb : Below w.heap.size w W) => cycle_OffO pv v b p.vars s W (hp.vs.below varR_stable hb) (h.below hb) hs1 hL)
  have HO2 := Lib.hid (fun W (hb : Below w.heap.size w W) => ref24_OffO pv v b p.vars s W (hp.vs.below varR_stable hb) (h.below hb) hs1 hL)
  have HOI : ∀ z ∈ offV p.vars s, I64 z := fun z hz => by rw [(List.mem_replicate.1 hz).2]; unfold I64; omega
  have HOI := Lib.hid HOI
  go_enter Try.func4, Try.ntmps4
  go_wp2_with fail
  refine (hF.out _ (by (repeat' (first | (with_reducible exact Below.refl _ _) | (with_reducible assumption) | (with_reducible refine below_drewN ?_ _) | (with_reducible refine Below.alloc ?_ ?_ _) | (with_reducible refine Below.drew ?_) | (with_reducible refine Below.setCell ?_ ?_ _) | go_size)))).mono ?_; rintro e A1 ⟨rfl, hb1⟩
  rw [← HW0.out] at hb1
  have kk := K2.out.keep z2 hb1
  have e0 := kk 0 _ rfl
  have e1 := kk 1 _ rfl
  have e2 := kk 2 _ rfl
  have e3 := kk 3 _ rfl
  clear kk
  go_wp2_with fail
  refine (hS1.out _ (HB0.out.trans (hb1.mono HB0.out.size))).mono ?_; rintro e A2 ⟨rfl, hb2⟩
  have hb2 := hb1.trans (hb2.mono hb1.size)
  clear e0 e1 e2 e3
  have kk := K2.out.keep z2 hb2
  have e4 := kk 4 _ rfl
  have e5 := kk 5 _ rfl
  have e6 := kk 6 _ rfl
  have e7 := kk 7 _ rfl
  clear kk
  go_wp2_with fail
  refine (hS2.out _ (HB0.out.trans (hb2.mono HB0.out.size))).mono ?_; rintro e A3 ⟨rfl, hb3⟩
  have hb3 := hb2.trans (hb3.mono hb2.size)
  clear e4 e5 e6 e7
  have kk := K2.out.keep z2 hb3
  have e0 := kk 0 _ rfl
  have e1 := kk 1 _ rfl
  have e2 := kk 2 _ rfl
  have e3 := kk 3 _ rfl
  have e4 := kk 4 _ rfl
  have e5 := kk 5 _ rfl
  have e6 := kk 6 _ rfl
  have e7 := kk 7 _ rfl
  have p1 := K1.out.keep z1 hb3 1 _ rfl
  clear kk
  go_wp2_with fail
  refine (hE1.out _ (HB0.out.trans (hb3.mono HB0.out.size))).mono ?_; rintro e A4 ⟨v3, b3, r3, rfl, hst3, hr3, hb4⟩
  obtain ⟨sv3, cv3, rfl⟩ := row_get hst3.vs
  obtain ⟨sb3, cb3, rfl⟩ := row_get hst3.bs
  have hb4 := hb3.trans (hb4.mono hb3.size)
  clear e0 e1 e2 e3 e4 e5 e6 e7 p1
  have kk := K2.out.keep z2 hb4
  have e0 := kk 0 _ rfl
  have e1 := kk 1 _ rfl
  have e2 := kk 2 _ rfl
  have e3 := kk 3 _ rfl
  have e4 := kk 4 _ rfl
  have e5 := kk 5 _ rfl
  have e6 := kk 6 _ rfl
  have e7 := kk 7 _ rfl
  have p1 := K1.out.keep z1 hb4 1 _ rfl
  have yq1 : w.heap.size < A4.heap.size := Nat.lt_of_lt_of_le z1 hb4.size
  have yq2 : w.heap.size + 1 < A4.heap.size := Nat.lt_of_lt_of_le z2 hb4.size
  clear kk
  go_wp2_with fail
  have hb5 := hb4.trans ((show Below A4.heap.size A4 (A4.alloc (.cells #[.slice sv3 (endS s t f).vars.length cv3, .slice sb3 (endS s t f).blocks.length cb3, .int .i64 (endS s t f).now, .int .i64 (endS s t f).fault] 31)) by (repeat' (first | (with_reducible exact Below.refl _ _) | (with_reducible assumption) | (with_reducible refine below_drewN ?_ _) | (with_reducible refine Below.alloc ?_ ?_ _) | (with_reducible refine Below.drew ?_) | (with_reducible refine Below.setCell ?_ ?_ _) | go_size))).mono hb4.size)
  refine (hE2.out _ (HB0.out.trans (hb5.mono HB0.out.size))).mono ?_; rintro e A5 ⟨v4, b4, r4, rfl, hst4, hr4, hb6⟩
  obtain ⟨sv4, cv4, rfl⟩ := row_get hst4.vs
  obtain ⟨sb4, cb4, rfl⟩ := row_get hst4.bs
  have hst3 := Lib.hid (hst3.below ((show Below A4.heap.size A4 (A4.alloc (.cells #[.slice sv3 (endS s t f).vars.length cv3, .slice sb3 (endS s t f).blocks.length cb3, .int .i64 (endS s t f).now, .int .i64 (endS s t f).fault] 31)) by (repeat' (first | (with_reducible exact Below.refl _ _) | (with_reducible assumption) | (with_reducible refine below_drewN ?_ _) | (with_reducible refine Below.alloc ?_ ?_ _) | (with_reducible refine Below.drew ?_) | (with_reducible refine Below.setCell ?_ ?_ _) | go_size))).trans (hb6.mono (by simp))))
  have hr3 := Lib.hid (hr3.below intR_stable ((show Below A4.heap.size A4 (A4.alloc (.cells #[.slice sv3 (endS s t f).vars.length cv3, .slice sb3 (endS s t f).blocks.length cb3, .int .i64 (endS s t f).now, .int .i64 (endS s t f).fault] 31)) by (repeat' (first | (with_reducible exact Below.refl _ _) | (with_reducible assumption) | (with_reducible refine below_drewN ?_ _) | (with_reducible refine Below.alloc ?_ ?_ _) | (with_reducible refine Below.drew ?_) | (with_reducible refine Below.setCell ?_ ?_ _) | go_size))).trans (hb6.mono (by simp))))
  have hst4 := Lib.hid hst4
  have hr4 := Lib.hid hr4
  have hc4 := C4.new A4 (.slice sv3 (endS s t f).vars.length cv3) (.slice sb3 (endS s t f).blocks.length cb3) (.int .i64 (endS s t f).now) (.int .i64 (endS s t f).fault) 31 (W' := A5) (hb6.mono (by simp))
  have hb6 := hb5.trans (hb6.mono hb5.size)
  clear e0 e1 e2 e3 e4 e5 e6 e7 p1
  have y3 : A4.heap.size < A5.heap.size := World.block_lt_of_cell? _ _ hc4.1
  obtain ⟨f0, f1, f2, f3⟩ := hc4
  have hb7 := hb6.trans ((show Below A5.heap.size A5 (A5.alloc (.cells #[.slice sv4 (endS s t f).vars.length cv4, .slice sb4 (endS s t f).blocks.length cb4, .int .i64 (endS s t f).now, .int .i64 (endS s t f).fault] 31)) by (repeat' (first | (with_reducible exact Below.refl _ _) | (with_reducible assumption) | (with_reducible refine below_drewN ?_ _) | (with_reducible refine Below.alloc ?_ ?_ _) | (with_reducible refine Below.drew ?_) | (with_reducible refine Below.setCell ?_ ?_ _) | go_size))).mono hb6.size)
  have HX5 := Lib.hid (show Below A5.heap.size A5 (A5.alloc (.cells #[.slice sv4 (endS s t f).vars.length cv4, .slice sb4 (endS s t f).blocks.length cb4, .int .i64 (endS s t f).now, .int .i64 (endS s t f).fault] 31)) by (repeat' (first | (with_reducible exact Below.refl _ _) | (with_reducible assumption) | (with_reducible refine below_drewN ?_ _) | (with_reducible refine Below.alloc ?_ ?_ _) | (with_reducible refine Below.drew ?_) | (with_reducible refine Below.setCell ?_ ?_ _) | go_size)))
  have HG5 := Lib.hid (C4.new A5 (.slice sv4 (endS s t f).vars.length cv4) (.slice sb4 (endS s t f).blocks.length cb4) (.int .i64 (endS s t f).now) (.int .i64 (endS s t f).fault) 31 (Below.refl _ _))
  have HF5 := Lib.hid (And.intro f0 (And.intro f1 (And.intro f2 f3)))
  clear f0 f1 f2 f3 hb1 hb2 hb3 hb4 hb5 hb6
  go_wp2_with fail
  obtain ⟨W5, hW5⟩ : ∃ W5, W5 = (A5.alloc (.cells #[.slice sv4 (endS s t f).vars.length cv4, .slice sb4 (endS s t f).blocks.length cb4, .int .i64 (endS s t f).now, .int .i64 (endS s t f).fault] 31)) := ⟨_, rfl⟩
  rw [← hW5] at hb7 HX5 HG5 ⊢
  have z5 : A5.heap.size < W5.heap.size := by rw [hW5]; simp
  clear hW5
  obtain ⟨g0, g1, g2, g3⟩ := HG5.out
  obtain ⟨f0, f1, f2, f3⟩ := C4.keep HF5.out y3 HX5.out
  have y4 : A5.heap.size < W5.heap.size := z5
  have y3 : A4.heap.size < W5.heap.size := by omega
  have kk := K2.out.keep z2 hb7
  have s0 := kk 0 _ rfl
  have s1 := kk 1 _ rfl
  have s2 := kk 2 _ rfl
  have s3 := kk 3 _ rfl
  have p1 := K1.out.keep z1 hb7 1 _ rfl
  have yp : w.heap.size < W5.heap.size := Nat.lt_of_lt_of_le z1 hb7.size
  have ys : w.heap.size + 1 < W5.heap.size := Nat.lt_of_lt_of_le z2 hb7.size
  have HB5 := Lib.hid (HB0.out.trans (hb7.mono HB0.out.size))
  have HSm := Lib.hid (fun W (hb : Below W5.heap.size W5 W) => sameS_self (endS s t f) ▸ ref23_Same _ _ _ _ _ _ W (hst3.out.below (HX5.out.trans (hb.mono HX5.out.size))) (hst4.out.below (HX5.out.trans (hb.mono HX5.out.size))))
  have HI1 := Lib.hid (fun W (hb : Below W5.heap.size W5 W) => ref15_Ints _ _ _ _ W (hr3.out.below intR_stable (HX5.out.trans (hb.mono HX5.out.size))) (hr4.out.below intR_stable (HX5.out.trans (hb.mono HX5.out.size))))
  clear kk
  refine wp_region_held_drew (S := (fun w' => Below W5.heap.size W5 w')) (by kernel_rfl) ?_ (fun hHeld => ?_)
  · (try dsimp only); first | assumption | exact Below.alloc hHeld hHeld.size _ | exact (Below.refl _ _).drew | exact Below.drew (Below.refl _ _) | exact Below_drewN _ _ _ | exact Below.refl _ _ | (trace_state; fail)
  refine wpAnyH_take (i := 0) (oi := { dst := some 49, op := Op.load 31 (Operand.tmp 7), type := 31, pos := _, after := #[], guard := none }) (v := ?_) rfl (by kernel_rfl) (by kernel_rfl) (by kernel_rfl) (fun _ _ _ h => h) (Or.inl ⟨by rfl, ?_⟩) (by assumption) ?_
  rotate_left
  · intro wt hSw; (try dsimp only at hSw); have f0 := cellB hSw f0 y3; have f1 := cellB hSw f1 y3; have f2 := cellB hSw f2 y3; have f3 := cellB hSw f3 y3; have g0 := cellB hSw g0 y4; have g1 := cellB hSw g1 y4; have g2 := cellB hSw g2 y4; have g3 := cellB hSw g3 y4; have p1 := cellB hSw p1 yp; have s0 := cellB hSw s0 ys; have s1 := cellB hSw s1 ys; have s2 := cellB hSw s2 ys; have s3 := cellB hSw s3 ys; first | (go_simp; done) | (go_simp; with_reducible rfl) | (trace_state; fail)
  try simp only [Act.put, List.setIfInBounds_toArray, List.set_cons_zero, List.set_cons_succ]
  refine wpAnyH_take (i := 1) (oi := { dst := some 50, op := Op.load 31 (Operand.tmp 9), type := 31, pos := _, after := #[], guard := none }) (v := ?_) rfl (by kernel_rfl) (by kernel_rfl) (by kernel_rfl) (fun _ _ _ h => h) (Or.inl ⟨by rfl, ?_⟩) (by assumption) ?_
  rotate_left
  · intro wt hSw; (try dsimp only at hSw); have f0 := cellB hSw f0 y3; have f1 := cellB hSw f1 y3; have f2 := cellB hSw f2 y3; have f3 := cellB hSw f3 y3; have g0 := cellB hSw g0 y4; have g1 := cellB hSw g1 y4; have g2 := cellB hSw g2 y4; have g3 := cellB hSw g3 y4; have p1 := cellB hSw p1 yp; have s0 := cellB hSw s0 ys; have s1 := cellB hSw s1 ys; have s2 := cellB hSw s2 ys; have s3 := cellB hSw s3 ys; first | (go_simp; done) | (go_simp; with_reducible rfl) | (trace_state; fail)
  try simp only [Act.put, List.setIfInBounds_toArray, List.set_cons_zero, List.set_cons_succ]
  refine wpAnyH_ready (rs := [2]) (by kernel_rfl) (by simp) ?_
  refine AllReadyH.cons (o := { dst := some 51, op := Op.call { callee := Callee.value (Operand.func 9), args := #[Operand.tmp 49, Operand.tmp 50], argTypes := #[31, 31] }, type := 4, pos := _, after := #[{ on := 0, ground := Ground.data }, { on := 1, ground := Ground.data }], guard := none }) rfl (fun K hK => ?_) AllReadyH.nil
  go_simp
  refine (HSm.out _ hHeld).mono ?_; rintro e w1 ⟨rfl, hb⟩; have hHeld := hHeld.trans (hb.mono hHeld.size); clear hb
  go_wp2_with fail
  refine hK.out _ _ ?_ (fun hHeld => ?_)
  · (try dsimp only); first | assumption | exact Below.alloc hHeld hHeld.size _ | exact (Below.refl _ _).drew | exact Below.drew (Below.refl _ _) | exact Below_drewN _ _ _ | exact Below.refl _ _ | (trace_state; fail)
  clear hK K
  try simp only [Act.put, List.setIfInBounds_toArray, List.set_cons_zero, List.set_cons_succ]
  refine wpAnyH_take (i := 3) (oi := { dst := some 52, op := Op.move (Operand.tmp 51), type := 4, pos := _, after := #[{ on := 2, ground := Ground.data }, { on := 2, ground := Ground.chain }], guard := none }) (v := ?_) rfl (by kernel_rfl) (by kernel_rfl) (by kernel_rfl) (fun _ _ _ h => h) (Or.inl ⟨by rfl, ?_⟩) (by assumption) ?_
  rotate_left
  · intro wt hSw; (try dsimp only at hSw); have f0 := cellB hSw f0 y3; have f1 := cellB hSw f1 y3; have f2 := cellB hSw f2 y3; have f3 := cellB hSw f3 y3; have g0 := cellB hSw g0 y4; have g1 := cellB hSw g1 y4; have g2 := cellB hSw g2 y4; have g3 := cellB hSw g3 y4; have p1 := cellB hSw p1 yp; have s0 := cellB hSw s0 ys; have s1 := cellB hSw s1 ys; have s2 := cellB hSw s2 ys; have s3 := cellB hSw s3 ys; first | (go_simp; done) | (go_simp; with_reducible rfl) | (trace_state; fail)
  try simp only [Act.put, List.setIfInBounds_toArray, List.set_cons_zero, List.set_cons_succ]
  refine wpAnyH_take (i := 4) (oi := { dst := some 53, op := Op.move (Operand.tmp 8), type := 32, pos := _, after := #[{ on := 3, ground := Ground.guard }], guard := some (3, true) }) (v := ?_) rfl (by kernel_rfl) (by kernel_rfl) (by kernel_rfl) (fun _ _ _ h => h) (Or.inl ⟨by rfl, ?_⟩) (by assumption) ?_
  rotate_left
  · intro wt hSw; (try dsimp only at hSw); have f0 := cellB hSw f0 y3; have f1 := cellB hSw f1 y3; have f2 := cellB hSw f2 y3; have f3 := cellB hSw f3 y3; have g0 := cellB hSw g0 y4; have g1 := cellB hSw g1 y4; have g2 := cellB hSw g2 y4; have g3 := cellB hSw g3 y4; have p1 := cellB hSw p1 yp; have s0 := cellB hSw s0 ys; have s1 := cellB hSw s1 ys; have s2 := cellB hSw s2 ys; have s3 := cellB hSw s3 ys; first | (go_simp; done) | (go_simp; with_reducible rfl) | (trace_state; fail)
  try simp only [Act.put, List.setIfInBounds_toArray, List.set_cons_zero, List.set_cons_succ]
  refine wpAnyH_take (i := 5) (oi := { dst := some 54, op := Op.move (Operand.tmp 10), type := 32, pos := _, after := #[{ on := 3, ground := Ground.guard }], guard := some (3, true) }) (v := ?_) rfl (by kernel_rfl) (by kernel_rfl) (by kernel_rfl) (fun _ _ _ h => h) (Or.inl ⟨by rfl, ?_⟩) (by assumption) ?_
  rotate_left
  · intro wt hSw; (try dsimp only at hSw); have f0 := cellB hSw f0 y3; have f1 := cellB hSw f1 y3; have f2 := cellB hSw f2 y3; have f3 := cellB hSw f3 y3; have g0 := cellB hSw g0 y4; have g1 := cellB hSw g1 y4; have g2 := cellB hSw g2 y4; have g3 := cellB hSw g3 y4; have p1 := cellB hSw p1 yp; have s0 := cellB hSw s0 ys; have s1 := cellB hSw s1 ys; have s2 := cellB hSw s2 ys; have s3 := cellB hSw s3 ys; first | (go_simp; done) | (go_simp; with_reducible rfl) | (trace_state; fail)
  try simp only [Act.put, List.setIfInBounds_toArray, List.set_cons_zero, List.set_cons_succ]
  refine wpAnyH_ready (rs := [6]) (by kernel_rfl) (by simp) ?_
  refine AllReadyH.cons (o := { dst := some 55, op := Op.call { callee := Callee.value (Operand.func 14), args := #[Operand.tmp 53, Operand.tmp 54], argTypes := #[32, 32] }, type := 4, pos := _, after := #[{ on := 4, ground := Ground.data }, { on := 5, ground := Ground.data }, { on := 3, ground := Ground.chain }, { on := 3, ground := Ground.guard }], guard := some (3, true) }) rfl (fun K hK => ?_) AllReadyH.nil
  go_simp
  refine (HI1.out _ hHeld).mono ?_; rintro e w2 ⟨rfl, m2, rfl⟩; (first | rw [decide_eq_true rfl] | simp only [decide_true]); have hHeld := hHeld.trans ((Below_drewN w1.heap.size w1 m2).mono hHeld.size)
  go_wp2_with fail
  refine hK.out _ _ ?_ (fun hHeld => ?_)
  · (try dsimp only); first | assumption | exact Below.alloc hHeld hHeld.size _ | exact (Below.refl _ _).drew | exact Below.drew (Below.refl _ _) | exact Below_drewN _ _ _ | exact Below.refl _ _ | (trace_state; fail)
  clear hK K
  try simp only [Act.put, List.setIfInBounds_toArray, List.set_cons_zero, List.set_cons_succ]
  refine wpAnyH_take (i := 7) (oi := { dst := some 56, op := Op.pick (Operand.tmp 52) (Operand.tmp 55) (Operand.const (Value.bool false)), type := 4, pos := _, after := #[{ on := 3, ground := Ground.data }, { on := 6, ground := Ground.data }], guard := none }) (v := ?_) rfl (by kernel_rfl) (by kernel_rfl) (by kernel_rfl) (fun _ _ _ h => h) (Or.inl ⟨by rfl, ?_⟩) (by assumption) ?_
  rotate_left
  · intro wt hSw; (try dsimp only at hSw); have f0 := cellB hSw f0 y3; have f1 := cellB hSw f1 y3; have f2 := cellB hSw f2 y3; have f3 := cellB hSw f3 y3; have g0 := cellB hSw g0 y4; have g1 := cellB hSw g1 y4; have g2 := cellB hSw g2 y4; have g3 := cellB hSw g3 y4; have p1 := cellB hSw p1 yp; have s0 := cellB hSw s0 ys; have s1 := cellB hSw s1 ys; have s2 := cellB hSw s2 ys; have s3 := cellB hSw s3 ys; first | (go_simp; done) | (go_simp; with_reducible rfl) | (trace_state; fail)
  try simp only [Act.put, List.setIfInBounds_toArray, List.set_cons_zero, List.set_cons_succ]
  refine wpAnyH_take (i := 8) (oi := { dst := some 57, op := Op.move (Operand.tmp 56), type := 4, pos := _, after := #[{ on := 7, ground := Ground.data }, { on := 6, ground := Ground.chain }], guard := none }) (v := ?_) rfl (by kernel_rfl) (by kernel_rfl) (by kernel_rfl) (fun _ _ _ h => h) (Or.inl ⟨by rfl, ?_⟩) (by assumption) ?_
  rotate_left
  · intro wt hSw; (try dsimp only at hSw); have f0 := cellB hSw f0 y3; have f1 := cellB hSw f1 y3; have f2 := cellB hSw f2 y3; have f3 := cellB hSw f3 y3; have g0 := cellB hSw g0 y4; have g1 := cellB hSw g1 y4; have g2 := cellB hSw g2 y4; have g3 := cellB hSw g3 y4; have p1 := cellB hSw p1 yp; have s0 := cellB hSw s0 ys; have s1 := cellB hSw s1 ys; have s2 := cellB hSw s2 ys; have s3 := cellB hSw s3 ys; first | (go_simp; done) | (go_simp; with_reducible rfl) | (trace_state; fail)
  try simp only [Act.put, List.setIfInBounds_toArray, List.set_cons_zero, List.set_cons_succ]
  refine wpAnyH_take (i := 9) (oi := { dst := some 58, op := Op.fieldAddr 27 (Operand.tmp 3) 1, type := 0, pos := _, after := #[{ on := 8, ground := Ground.guard }], guard := some (8, true) }) (v := ?_) rfl (by kernel_rfl) (by kernel_rfl) (by kernel_rfl) (fun _ _ _ h => h) (Or.inl ⟨by rfl, ?_⟩) (by assumption) ?_
  rotate_left
  · intro wt hSw; (try dsimp only at hSw); have f0 := cellB hSw f0 y3; have f1 := cellB hSw f1 y3; have f2 := cellB hSw f2 y3; have f3 := cellB hSw f3 y3; have g0 := cellB hSw g0 y4; have g1 := cellB hSw g1 y4; have g2 := cellB hSw g2 y4; have g3 := cellB hSw g3 y4; have p1 := cellB hSw p1 yp; have s0 := cellB hSw s0 ys; have s1 := cellB hSw s1 ys; have s2 := cellB hSw s2 ys; have s3 := cellB hSw s3 ys; first | (go_simp; done) | (go_simp; with_reducible rfl) | (trace_state; fail)
  try simp only [Act.put, List.setIfInBounds_toArray, List.set_cons_zero, List.set_cons_succ]
  refine wpAnyH_take (i := 10) (oi := { dst := some 59, op := Op.load 23 (Operand.tmp 58), type := 23, pos := _, after := #[{ on := 9, ground := Ground.data }, { on := 8, ground := Ground.guard }], guard := some (8, true) }) (v := ?_) rfl (by kernel_rfl) (by kernel_rfl) (by kernel_rfl) (fun _ _ _ h => h) (Or.inl ⟨by rfl, ?_⟩) (by assumption) ?_
  rotate_left
  · intro wt hSw; (try dsimp only at hSw); have f0 := cellB hSw f0 y3; have f1 := cellB hSw f1 y3; have f2 := cellB hSw f2 y3; have f3 := cellB hSw f3 y3; have g0 := cellB hSw g0 y4; have g1 := cellB hSw g1 y4; have g2 := cellB hSw g2 y4; have g3 := cellB hSw g3 y4; have p1 := cellB hSw p1 yp; have s0 := cellB hSw s0 ys; have s1 := cellB hSw s1 ys; have s2 := cellB hSw s2 ys; have s3 := cellB hSw s3 ys; first | (go_simp; done) | (go_simp; with_reducible rfl) | (trace_state; fail)
  try simp only [Act.put, List.setIfInBounds_toArray, List.set_cons_zero, List.set_cons_succ]
  refine wpAnyH_take (i := 11) (oi := { dst := some 60, op := Op.indexAddr 40 (Operand.tmp 4) (Operand.const (Value.int IntKind.i64 0)), type := 0, pos := _, after := #[{ on := 8, ground := Ground.guard }], guard := some (8, true) }) (v := ?_) rfl (by kernel_rfl) (by kernel_rfl) (by kernel_rfl) (fun _ _ _ h => h) (Or.inl ⟨by rfl, ?_⟩) (by assumption) ?_
  rotate_left
  · intro wt hSw; (try dsimp only at hSw); have f0 := cellB hSw f0 y3; have f1 := cellB hSw f1 y3; have f2 := cellB hSw f2 y3; have f3 := cellB hSw f3 y3; have g0 := cellB hSw g0 y4; have g1 := cellB hSw g1 y4; have g2 := cellB hSw g2 y4; have g3 := cellB hSw g3 y4; have p1 := cellB hSw p1 yp; have s0 := cellB hSw s0 ys; have s1 := cellB hSw s1 ys; have s2 := cellB hSw s2 ys; have s3 := cellB hSw s3 ys; first | (go_simp; done) | (go_simp; with_reducible rfl) | (trace_state; fail)
  try simp only [Act.put, List.setIfInBounds_toArray, List.set_cons_zero, List.set_cons_succ]
  refine wpAnyH_take (i := 12) (oi := { dst := some 61, op := Op.load 31 (Operand.tmp 60), type := 31, pos := _, after := #[{ on := 11, ground := Ground.data }, { on := 8, ground := Ground.guard }], guard := some (8, true) }) (v := ?_) rfl (by kernel_rfl) (by kernel_rfl) (by kernel_rfl) (fun _ _ _ h => h) (Or.inl ⟨by rfl, ?_⟩) (by assumption) ?_
  rotate_left
  · intro wt hSw; (try dsimp only at hSw); have f0 := cellB hSw f0 y3; have f1 := cellB hSw f1 y3; have f2 := cellB hSw f2 y3; have f3 := cellB hSw f3 y3; have g0 := cellB hSw g0 y4; have g1 := cellB hSw g1 y4; have g2 := cellB hSw g2 y4; have g3 := cellB hSw g3 y4; have p1 := cellB hSw p1 yp; have s0 := cellB hSw s0 ys; have s1 := cellB hSw s1 ys; have s2 := cellB hSw s2 ys; have s3 := cellB hSw s3 ys; first | (go_simp; done) | (go_simp; with_reducible rfl) | (trace_state; fail)
  try simp only [Act.put, List.setIfInBounds_toArray, List.set_cons_zero, List.set_cons_succ]
  refine wpAnyH_take (i := 14) (oi := { dst := some 63, op := Op.fieldAddr 27 (Operand.tmp 3) 1, type := 0, pos := _, after := #[{ on := 8, ground := Ground.guard }], guard := some (8, true) }) (v := ?_) rfl (by kernel_rfl) (by kernel_rfl) (by kernel_rfl) (fun _ _ _ h => h) (Or.inl ⟨by rfl, ?_⟩) (by assumption) ?_
  rotate_left
  · intro wt hSw; (try dsimp only at hSw); have f0 := cellB hSw f0 y3; have f1 := cellB hSw f1 y3; have f2 := cellB hSw f2 y3; have f3 := cellB hSw f3 y3; have g0 := cellB hSw g0 y4; have g1 := cellB hSw g1 y4; have g2 := cellB hSw g2 y4; have g3 := cellB hSw g3 y4; have p1 := cellB hSw p1 yp; have s0 := cellB hSw s0 ys; have s1 := cellB hSw s1 ys; have s2 := cellB hSw s2 ys; have s3 := cellB hSw s3 ys; first | (go_simp; done) | (go_simp; with_reducible rfl) | (trace_state; fail)
  try simp only [Act.put, List.setIfInBounds_toArray, List.set_cons_zero, List.set_cons_succ]
  refine wpAnyH_take (i := 15) (oi := { dst := some 64, op := Op.load 23 (Operand.tmp 63), type := 23, pos := _, after := #[{ on := 14, ground := Ground.data }, { on := 8, ground := Ground.guard }], guard := some (8, true) }) (v := ?_) rfl (by kernel_rfl) (by kernel_rfl) (by kernel_rfl) (fun _ _ _ h => h) (Or.inl ⟨by rfl, ?_⟩) (by assumption) ?_
  rotate_left
  · intro wt hSw; (try dsimp only at hSw); have f0 := cellB hSw f0 y3; have f1 := cellB hSw f1 y3; have f2 := cellB hSw f2 y3; have f3 := cellB hSw f3 y3; have g0 := cellB hSw g0 y4; have g1 := cellB hSw g1 y4; have g2 := cellB hSw g2 y4; have g3 := cellB hSw g3 y4; have p1 := cellB hSw p1 yp; have s0 := cellB hSw s0 ys; have s1 := cellB hSw s1 ys; have s2 := cellB hSw s2 ys; have s3 := cellB hSw s3 ys; first | (go_simp; done) | (go_simp; with_reducible rfl) | (trace_state; fail)
  try simp only [Act.put, List.setIfInBounds_toArray, List.set_cons_zero, List.set_cons_succ]
  refine wpAnyH_take (i := 16) (oi := { dst := some 65, op := Op.indexAddr 40 (Operand.tmp 4) (Operand.const (Value.int IntKind.i64 0)), type := 0, pos := _, after := #[{ on := 8, ground := Ground.guard }], guard := some (8, true) }) (v := ?_) rfl (by kernel_rfl) (by kernel_rfl) (by kernel_rfl) (fun _ _ _ h => h) (Or.inl ⟨by rfl, ?_⟩) (by assumption) ?_
  rotate_left
  · intro wt hSw; (try dsimp only at hSw); have f0 := cellB hSw f0 y3; have f1 := cellB hSw f1 y3; have f2 := cellB hSw f2 y3; have f3 := cellB hSw f3 y3; have g0 := cellB hSw g0 y4; have g1 := cellB hSw g1 y4; have g2 := cellB hSw g2 y4; have g3 := cellB hSw g3 y4; have p1 := cellB hSw p1 yp; have s0 := cellB hSw s0 ys; have s1 := cellB hSw s1 ys; have s2 := cellB hSw s2 ys; have s3 := cellB hSw s3 ys; first | (go_simp; done) | (go_simp; with_reducible rfl) | (trace_state; fail)
  try simp only [Act.put, List.setIfInBounds_toArray, List.set_cons_zero, List.set_cons_succ]
  refine wpAnyH_take (i := 17) (oi := { dst := some 66, op := Op.load 31 (Operand.tmp 65), type := 31, pos := _, after := #[{ on := 16, ground := Ground.data }, { on := 8, ground := Ground.guard }], guard := some (8, true) }) (v := ?_) rfl (by kernel_rfl) (by kernel_rfl) (by kernel_rfl) (fun _ _ _ h => h) (Or.inl ⟨by rfl, ?_⟩) (by assumption) ?_
  rotate_left
  · intro wt hSw; (try dsimp only at hSw); have f0 := cellB hSw f0 y3; have f1 := cellB hSw f1 y3; have f2 := cellB hSw f2 y3; have f3 := cellB hSw f3 y3; have g0 := cellB hSw g0 y4; have g1 := cellB hSw g1 y4; have g2 := cellB hSw g2 y4; have g3 := cellB hSw g3 y4; have p1 := cellB hSw p1 yp; have s0 := cellB hSw s0 ys; have s1 := cellB hSw s1 ys; have s2 := cellB hSw s2 ys; have s3 := cellB hSw s3 ys; first | (go_simp; done) | (go_simp; with_reducible rfl) | (trace_state; fail)
  try simp only [Act.put, List.setIfInBounds_toArray, List.set_cons_zero, List.set_cons_succ]
  refine wpAnyH_ready (rs := [13]) (by kernel_rfl) (by simp) ?_
  refine AllReadyH.cons (o := { dst := some 62, op := Op.call { callee := Callee.value (Operand.func 15), args := #[Operand.tmp 59, Operand.tmp 61], argTypes := #[23, 31] }, type := 32, pos := _, after := #[{ on := 10, ground := Ground.data }, { on := 12, ground := Ground.data }, { on := 8, ground := Ground.chain }, { on := 8, ground := Ground.guard }], guard := some (8, true) }) rfl (fun K hK => ?_) AllReadyH.nil
  go_simp
  refine (HO1.out _ (HB5.out.trans (hHeld.mono HB5.out.size))).mono ?_; rintro e w3 ⟨r1, rfl, hr1, hb⟩; have hHeld := hHeld.trans (hb.mono hHeld.size); have hr1 := row_of_owns hr1 HOI.out; clear hb
  go_wp2_with fail
  refine hK.out _ _ ?_ (fun hHeld => ?_)
  · (try dsimp only); first | assumption | exact Below.alloc hHeld hHeld.size _ | exact (Below.refl _ _).drew | exact Below.drew (Below.refl _ _) | exact Below_drewN _ _ _ | exact Below.refl _ _ | (trace_state; fail)
  clear hK K
  try simp only [Act.put, List.setIfInBounds_toArray, List.set_cons_zero, List.set_cons_succ]
  refine wpAnyH_ready (rs := [18]) (by kernel_rfl) (by simp) ?_
  refine AllReadyH.cons (o := { dst := some 67, op := Op.call { callee := Callee.value (Operand.func 16), args := #[Operand.tmp 64, Operand.tmp 66], argTypes := #[23, 31] }, type := 32, pos := _, after := #[{ on := 15, ground := Ground.data }, { on := 17, ground := Ground.data }, { on := 13, ground := Ground.chain }, { on := 8, ground := Ground.guard }], guard := some (8, true) }) rfl (fun K hK => ?_) AllReadyH.nil
  go_simp
  refine (HO2.out _ (HB5.out.trans (hHeld.mono HB5.out.size))).mono ?_; rintro e w4 ⟨r2, rfl, hr2, hb⟩; have hr1 := hr1.below intR_stable hb; have hr2 := row_of_owns hr2 HOI.out; have hHeld := hHeld.trans (hb.mono hHeld.size); clear hb
  go_wp2_with fail
  refine hK.out _ _ ?_ (fun hHeld => ?_)
  · (try dsimp only); first | assumption | exact Below.alloc hHeld hHeld.size _ | exact (Below.refl _ _).drew | exact Below.drew (Below.refl _ _) | exact Below_drewN _ _ _ | exact Below.refl _ _ | (trace_state; fail)
  clear hK K
  try simp only [Act.put, List.setIfInBounds_toArray, List.set_cons_zero, List.set_cons_succ]
  refine wpAnyH_ready (rs := [19]) (by kernel_rfl) (by simp) ?_
  refine AllReadyH.cons (o := { dst := some 68, op := Op.call { callee := Callee.value (Operand.func 14), args := #[Operand.tmp 62, Operand.tmp 67], argTypes := #[32, 32] }, type := 4, pos := _, after := #[{ on := 13, ground := Ground.data }, { on := 18, ground := Ground.data }, { on := 18, ground := Ground.chain }, { on := 8, ground := Ground.guard }], guard := some (8, true) }) rfl (fun K hK => ?_) AllReadyH.nil
  go_simp
  refine (ref15_Ints _ _ _ _ _ hr1 hr2).mono ?_; rintro e w5 ⟨rfl, m5, rfl⟩; (first | rw [decide_eq_true rfl] | simp only [decide_true]); have hHeld := hHeld.trans ((Below_drewN w4.heap.size w4 m5).mono hHeld.size)
  go_wp2_with fail
  refine hK.out _ _ ?_ (fun hHeld => ?_)
  · (try dsimp only); first | assumption | exact Below.alloc hHeld hHeld.size _ | exact (Below.refl _ _).drew | exact Below.drew (Below.refl _ _) | exact Below_drewN _ _ _ | exact Below.refl _ _ | (trace_state; fail)
  clear hK K
  try simp only [Act.put, List.setIfInBounds_toArray, List.set_cons_zero, List.set_cons_succ]
  refine wpAnyH_take (i := 20) (oi := { dst := some 69, op := Op.pick (Operand.tmp 57) (Operand.tmp 68) (Operand.const (Value.bool false)), type := 4, pos := _, after := #[{ on := 8, ground := Ground.data }, { on := 19, ground := Ground.data }], guard := none }) (v := ?_) rfl (by kernel_rfl) (by kernel_rfl) (by kernel_rfl) (fun _ _ _ h => h) (Or.inl ⟨by rfl, ?_⟩) (by assumption) ?_
  rotate_left
  · intro wt hSw; (try dsimp only at hSw); have f0 := cellB hSw f0 y3; have f1 := cellB hSw f1 y3; have f2 := cellB hSw f2 y3; have f3 := cellB hSw f3 y3; have g0 := cellB hSw g0 y4; have g1 := cellB hSw g1 y4; have g2 := cellB hSw g2 y4; have g3 := cellB hSw g3 y4; have p1 := cellB hSw p1 yp; have s0 := cellB hSw s0 ys; have s1 := cellB hSw s1 ys; have s2 := cellB hSw s2 ys; have s3 := cellB hSw s3 ys; first | (go_simp; done) | (go_simp; with_reducible rfl) | (trace_state; fail)
  try simp only [Act.put, List.setIfInBounds_toArray, List.set_cons_zero, List.set_cons_succ]
  refine wpAnyH_take (i := 21) (oi := { dst := some 70, op := Op.move (Operand.tmp 69), type := 4, pos := _, after := #[{ on := 20, ground := Ground.data }, { on := 19, ground := Ground.chain }], guard := none }) (v := ?_) rfl (by kernel_rfl) (by kernel_rfl) (by kernel_rfl) (fun _ _ _ h => h) (Or.inl ⟨by rfl, ?_⟩) (by assumption) ?_
  rotate_left
  · intro wt hSw; (try dsimp only at hSw); have f0 := cellB hSw f0 y3; have f1 := cellB hSw f1 y3; have f2 := cellB hSw f2 y3; have f3 := cellB hSw f3 y3; have g0 := cellB hSw g0 y4; have g1 := cellB hSw g1 y4; have g2 := cellB hSw g2 y4; have g3 := cellB hSw g3 y4; have p1 := cellB hSw p1 yp; have s0 := cellB hSw s0 ys; have s1 := cellB hSw s1 ys; have s2 := cellB hSw s2 ys; have s3 := cellB hSw s3 ys; first | (go_simp; done) | (go_simp; with_reducible rfl) | (trace_state; fail)
  try simp only [Act.put, List.setIfInBounds_toArray, List.set_cons_zero, List.set_cons_succ]
  refine wpAnyH_ready (rs := [22]) (by kernel_rfl) (by simp) ?_
  refine AllReadyH.cons (o := { dst := some 71, op := Op.call { callee := Callee.value (Operand.func 7), args := #[], argTypes := #[] }, type := 4, pos := _, after := #[{ on := 21, ground := Ground.chain }, { on := 21, ground := Ground.guard }], guard := some (21, true) }) rfl (fun K hK => ?_) AllReadyH.nil
  go_simp
  refine (hAw _).mono ?_; rintro e w6 ⟨rfl, hb⟩; have hHeld := hHeld.trans (hb.mono hHeld.size); clear hb
  go_wp2_with fail
  refine hK.out _ _ ?_ (fun hHeld => ?_)
  · (try dsimp only); first | assumption | exact Below.alloc hHeld hHeld.size _ | exact (Below.refl _ _).drew | exact Below.drew (Below.refl _ _) | exact Below_drewN _ _ _ | exact Below.refl _ _ | (trace_state; fail)
  clear hK K
  try simp only [Act.put, List.setIfInBounds_toArray, List.set_cons_zero, List.set_cons_succ]
  refine wpAnyH_take (i := 23) (oi := { dst := some 72, op := Op.pick (Operand.tmp 70) (Operand.tmp 71) (Operand.const (Value.bool false)), type := 4, pos := _, after := #[{ on := 21, ground := Ground.data }, { on := 22, ground := Ground.data }], guard := none }) (v := ?_) rfl (by kernel_rfl) (by kernel_rfl) (by kernel_rfl) (fun _ _ _ h => h) (Or.inl ⟨by rfl, ?_⟩) (by assumption) ?_
  rotate_left
  · intro wt hSw; (try dsimp only at hSw); have f0 := cellB hSw f0 y3; have f1 := cellB hSw f1 y3; have f2 := cellB hSw f2 y3; have f3 := cellB hSw f3 y3; have g0 := cellB hSw g0 y4; have g1 := cellB hSw g1 y4; have g2 := cellB hSw g2 y4; have g3 := cellB hSw g3 y4; have p1 := cellB hSw p1 yp; have s0 := cellB hSw s0 ys; have s1 := cellB hSw s1 ys; have s2 := cellB hSw s2 ys; have s3 := cellB hSw s3 ys; first | (go_simp; done) | (go_simp; with_reducible rfl) | (trace_state; fail)
  try simp only [Act.put, List.setIfInBounds_toArray, List.set_cons_zero, List.set_cons_succ]
  refine wpAnyH_take (i := 24) (oi := { dst := some 6, op := Op.assign (Operand.tmp 72), type := 4, pos := _, after := #[{ on := 23, ground := Ground.data }, { on := 22, ground := Ground.chain }, { on := 0, ground := Ground.phase }, { on := 1, ground := Ground.phase }, { on := 2, ground := Ground.phase }, { on := 3, ground := Ground.phase }, { on := 4, ground := Ground.phase }, { on := 5, ground := Ground.phase }, { on := 6, ground := Ground.phase }, { on := 7, ground := Ground.phase }, { on := 8, ground := Ground.phase }, { on := 9, ground := Ground.phase }, { on := 10, ground := Ground.phase }, { on := 11, ground := Ground.phase }, { on := 12, ground := Ground.phase }, { on := 13, ground := Ground.phase }, { on := 14, ground := Ground.phase }, { on := 15, ground := Ground.phase }, { on := 16, ground := Ground.phase }, { on := 17, ground := Ground.phase }, { on := 18, ground := Ground.phase }, { on := 19, ground := Ground.phase }, { on := 20, ground := Ground.phase }, { on := 21, ground := Ground.phase }, { on := 22, ground := Ground.phase }, { on := 23, ground := Ground.phase }], guard := none }) (v := ?_) rfl (by kernel_rfl) (by kernel_rfl) (by kernel_rfl) (fun _ _ _ h => h) (Or.inl ⟨by rfl, ?_⟩) (by assumption) ?_
  rotate_left
  · intro wt hSw; (try dsimp only at hSw); have f0 := cellB hSw f0 y3; have f1 := cellB hSw f1 y3; have f2 := cellB hSw f2 y3; have f3 := cellB hSw f3 y3; have g0 := cellB hSw g0 y4; have g1 := cellB hSw g1 y4; have g2 := cellB hSw g2 y4; have g3 := cellB hSw g3 y4; have p1 := cellB hSw p1 yp; have s0 := cellB hSw s0 ys; have s1 := cellB hSw s1 ys; have s2 := cellB hSw s2 ys; have s3 := cellB hSw s3 ys; first | (go_simp; done) | (go_simp; with_reducible rfl) | (trace_state; fail)
  try simp only [Act.put, List.setIfInBounds_toArray, List.set_cons_zero, List.set_cons_succ]
  refine wpAnyH_done (by kernel_rfl) ?_ _
  go_wp2_with fail
  go_ret
  exact ⟨rfl, HB5.out.trans (hHeld.mono HB5.out.size)⟩
end Go.Proofs.Ytpnnmhcemecjfaa
