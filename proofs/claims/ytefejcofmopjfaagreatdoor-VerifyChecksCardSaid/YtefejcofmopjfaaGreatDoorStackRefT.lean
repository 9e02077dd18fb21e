/- Layer 19: what an instruction takes, and leaves, by the answer. -/
import Derived.Test.YtefejcofmopjfaaGreatDoorStackBlk
import Derived.Test.YtefejcofmopjfaaGreatDoorRefsRef
namespace Go.Proofs.YtefejcofmopjfaaGreatDoor
open Go.RowKit
set_option linter.unusedSimpArgs false
set_option linter.unusedVariables false
theorem tyV_at {k b : Int} (h0 : 0 ≤ b) (h : b < ((bF k).length : Int)) : (tyV k)[b.toNat]? = some (.int .i64 (fldT k b)) := by
  have hb : b.toNat < (bF k).length := by omega
  unfold tyV fldT
  rw [if_neg (by omega)]
  simp [List.getD, hb]
theorem bI_le (k : Int) : bI k ≤ ((bF k).length : Int) := by
  unfold bI bF
  repeat' split
  all_goals first | decide | omega
set_option maxRecDepth 100000 in
set_option maxHeartbeats 8000000 in
theorem ref19_Takes (pc pv pb pu : Value) (p : Pr) (u o a b : Int) (w : World) (h : PrAt w pc pv pb pu p) (hf : fewP p = true) (h1 : oneP p u o a b = 0) (hia : I64 a) (hib : I64 b) :
    Calls Tryz.prog 42 #[.agg #[pc, pv, pb, pu], .int .i64 u, .agg #[.int .i64 o, .int .i64 a, .int .i64 b]] w fun e w' => ∃ r, e = .returned r ∧ RowR 1 intR w' r (takesL p (unAt p u) o a b) ∧ Below w.heap.size w w' := by
  have cp := @cell_past
  obtain ⟨⟨f0, f1, f2, f3⟩, _, _, f4⟩ := fewP_is hf
  obtain ⟨hu, ho, ha, hb0, hty, hth⟩ := oneP_parts h1
  have HTy := Lib.hid hty
  clear h1 hty
  have hcs := h.cs
  have hv := h.vs
  have hbk := h.bs
  have hun := h.us
  obtain ⟨s0, t0, rfl⟩ := row_get h.cs
  obtain ⟨s1, t1, rfl⟩ := row_get h.vs
  obtain ⟨s2, t2, rfl⟩ := row_get h.bs
  obtain ⟨s3, t3, rfl⟩ := row_get h.us
  clear h
  obtain ⟨i, rfl⟩ := Int.eq_ofNat_of_zero_le hu.1
  obtain ⟨ka, rfl⟩ := Int.eq_ofNat_of_zero_le ha
  obtain ⟨x, hx⟩ := get_some (L := p.units) (n := i) (by omega)
  have hux : unAt p i = x := by unfold unAt; simp [List.getD, hx]
  rw [hux] at hth ⊢
  have hxf := f4 x (List.mem_of_getElem? hx)
  have HTh := Lib.hid hth
  have HX := Lib.hid hx
  have HIA := Lib.hid hia
  have HIB := Lib.hid hib
  have r0 : ((i : Int) < (p.units.length : Int)) = True := eq_true hu.2
  clear hth hux hx hia hib
  by_cases dd : o = 0 ∨ o = 1 ∨ o = 2 ∨ o = 4 ∨ o = 30 ∨ o = 34 ∨ o = 36 ∨ o = 37
  · have hs : takesL p x o ka b = [] := by rcases dd with rfl | rfl | rfl | rfl | rfl | rfl | rfl | rfl <;> rfl
    rw [hs]
    rcases dd with rfl | rfl | rfl | rfl | rfl | rfl | rfl | rfl
    all_goals
      clear hcs hv hbk hun f4 hxf hs
      generalize p.consts.length = n0 at *
      generalize p.vars.length = n1 at *
      generalize p.blocks.length = n2 at *
      generalize p.units.length = n3 at *
      go_enter Tryz.func42, Tryz.ntmps42
      go_wp2_with fail
      go_returns
      exact ⟨_, rfl, row_none, by (repeat' (first | (with_reducible exact Below.refl _ _) | (with_reducible assumption) | (with_reducible refine below_drewN ?_ _) | (with_reducible refine Below.alloc ?_ ?_ _) | (with_reducible refine Below.drew ?_) | (with_reducible refine Below.setCell ?_ ?_ _) | go_size))⟩
  have dn0 := dd
  clear dd
  by_cases dd : o = 6 ∨ o = 32
  · have hs : takesL p x o ka b = [2] := by rcases dd with rfl | rfl <;> rfl
    rw [hs]
    rcases dd with rfl | rfl
    all_goals
      clear hcs hv hbk hun f4 hxf hs
      generalize p.consts.length = n0 at *
      generalize p.vars.length = n1 at *
      generalize p.blocks.length = n2 at *
      generalize p.units.length = n3 at *
      go_enter Tryz.func42, Tryz.ntmps42
      go_wp2_with fail
      go_returns
      exact ⟨_, rfl, row_cells1 (by first | (go_cell; done) | (simp [go_sem]; done)) I64_2, by (repeat' (first | (with_reducible exact Below.refl _ _) | (with_reducible assumption) | (with_reducible refine below_drewN ?_ _) | (with_reducible refine Below.alloc ?_ ?_ _) | (with_reducible refine Below.drew ?_) | (with_reducible refine Below.setCell ?_ ?_ _) | go_size))⟩
  have dn6 := dd
  clear dd
  by_cases dd : o = 13 ∨ o = 17 ∨ o = 26
  · have hs : takesL p x o ka b = [(ka : Int)] := by rcases dd with rfl | rfl | rfl <;> rfl
    rw [hs]
    rcases dd with rfl | rfl | rfl
    all_goals
      clear hcs hv hbk hun f4 hxf hs
      generalize p.consts.length = n0 at *
      generalize p.vars.length = n1 at *
      generalize p.blocks.length = n2 at *
      generalize p.units.length = n3 at *
      go_enter Tryz.func42, Tryz.ntmps42
      go_wp2_with fail
      go_returns
      exact ⟨_, rfl, row_cells1 (by first | (go_cell; done) | (simp [go_sem]; done)) HIA.out, by (repeat' (first | (with_reducible exact Below.refl _ _) | (with_reducible assumption) | (with_reducible refine below_drewN ?_ _) | (with_reducible refine Below.alloc ?_ ?_ _) | (with_reducible refine Below.drew ?_) | (with_reducible refine Below.setCell ?_ ?_ _) | go_size))⟩
  have dn13 := dd
  clear dd
  by_cases dd : o = 18 ∨ o = 19
  · have hs : takesL p x o ka b = [(ka : Int), 2] := by rcases dd with rfl | rfl <;> rfl
    rw [hs]
    rcases dd with rfl | rfl
    all_goals
      clear hcs hv hbk hun f4 hxf hs
      generalize p.consts.length = n0 at *
      generalize p.vars.length = n1 at *
      generalize p.blocks.length = n2 at *
      generalize p.units.length = n3 at *
      go_enter Tryz.func42, Tryz.ntmps42
      go_wp2_with fail
      go_returns
      exact ⟨_, rfl, row_cells2 (by first | (go_cell; done) | (simp [go_sem]; done)) (by first | (go_cell; done) | (simp [go_sem]; done)) HIA.out I64_2, by (repeat' (first | (with_reducible exact Below.refl _ _) | (with_reducible assumption) | (with_reducible refine below_drewN ?_ _) | (with_reducible refine Below.alloc ?_ ?_ _) | (with_reducible refine Below.drew ?_) | (with_reducible refine Below.setCell ?_ ?_ _) | go_size))⟩
  have dn18 := dd
  clear dd
  by_cases dd : o = 27 ∨ o = 28
  · have hs : takesL p x o ka b = [0] := by rcases dd with rfl | rfl <;> rfl
    rw [hs]
    rcases dd with rfl | rfl
    all_goals
      clear hcs hv hbk hun f4 hxf hs
      generalize p.consts.length = n0 at *
      generalize p.vars.length = n1 at *
      generalize p.blocks.length = n2 at *
      generalize p.units.length = n3 at *
      go_enter Tryz.func42, Tryz.ntmps42
      go_wp2_with fail
      go_returns
      exact ⟨_, rfl, row_cells1 (by first | (go_cell; done) | (simp [go_sem]; done)) I64_0, by (repeat' (first | (with_reducible exact Below.refl _ _) | (with_reducible assumption) | (with_reducible refine below_drewN ?_ _) | (with_reducible refine Below.alloc ?_ ?_ _) | (with_reducible refine Below.drew ?_) | (with_reducible refine Below.setCell ?_ ?_ _) | go_size))⟩
  have dn27 := dd
  clear dd
  by_cases dd : o = 29
  · have hs : takesL p x o ka b = [0, 0] := by subst dd; rfl
    rw [hs]
    subst dd
    all_goals
      clear hcs hv hbk hun f4 hxf hs
      generalize p.consts.length = n0 at *
      generalize p.vars.length = n1 at *
      generalize p.blocks.length = n2 at *
      generalize p.units.length = n3 at *
      go_enter Tryz.func42, Tryz.ntmps42
      go_wp2_with fail
      go_returns
      exact ⟨_, rfl, row_cells2 (by first | (go_cell; done) | (simp [go_sem]; done)) (by first | (go_cell; done) | (simp [go_sem]; done)) I64_0 I64_0, by (repeat' (first | (with_reducible exact Below.refl _ _) | (with_reducible assumption) | (with_reducible refine below_drewN ?_ _) | (with_reducible refine Below.alloc ?_ ?_ _) | (with_reducible refine Below.drew ?_) | (with_reducible refine Below.setCell ?_ ?_ _) | go_size))⟩
  have dn29 := dd
  clear dd
  by_cases dd : o = 31
  · have hs : takesL p x o ka b = [1] := by subst dd; rfl
    rw [hs]
    subst dd
    all_goals
      clear hcs hv hbk hun f4 hxf hs
      generalize p.consts.length = n0 at *
      generalize p.vars.length = n1 at *
      generalize p.blocks.length = n2 at *
      generalize p.units.length = n3 at *
      go_enter Tryz.func42, Tryz.ntmps42
      go_wp2_with fail
      go_returns
      exact ⟨_, rfl, row_cells1 (by first | (go_cell; done) | (simp [go_sem]; done)) I64_1, by (repeat' (first | (with_reducible exact Below.refl _ _) | (with_reducible assumption) | (with_reducible refine below_drewN ?_ _) | (with_reducible refine Below.alloc ?_ ?_ _) | (with_reducible refine Below.drew ?_) | (with_reducible refine Below.setCell ?_ ?_ _) | go_size))⟩
  have dn31 := dd
  clear dd
  by_cases dv : o = 3 ∨ o = 7
  · have h2 : oA o = 2 := by rcases dv with rfl | rfl <;> decide
    have g1 : ka < p.vars.length := by have := HTh.out; rw [thereP_2 h2] at this; have := (of_decide_eq_true this).1; omega
    obtain ⟨y, hy⟩ := get_some g1
    have hcy : tAt p ka = y.t := by unfold tAt; simp [List.getD, hy]
    obtain ⟨bb, off, rfl, hbw, hc⟩ := var_at hv (k := ka) g1
    obtain ⟨_, cc, _, _, _, _, hyI, _⟩ := hc ka y hy
    have r1 : ((ka : Int) < (p.vars.length : Int)) = True := eq_true (by omega)
    have HyI := Lib.hid hyI
    rcases dv with rfl | rfl
    · rw [show takesL p x 3 ka b = [tAt p ka] from rfl, hcy]
      generalize y.t = yv at *
      clear hc hy hcy hcs hv hbk hun g1 hyI f4 hxf h2
      generalize p.consts.length = n0 at *
      generalize p.vars.length = n1 at *
      generalize p.blocks.length = n2 at *
      generalize p.units.length = n3 at *
      go_enter Tryz.func42, Tryz.ntmps42
      go_wp2_with fail
      go_returns
      exact ⟨_, rfl, row_cells1 (by first | (go_cell; done) | (simp [go_sem]; done)) HyI.out, by (repeat' (first | (with_reducible exact Below.refl _ _) | (with_reducible assumption) | (with_reducible refine below_drewN ?_ _) | (with_reducible refine Below.alloc ?_ ?_ _) | (with_reducible refine Below.drew ?_) | (with_reducible refine Below.setCell ?_ ?_ _) | go_size))⟩
    · rw [show takesL p x 7 ka b = [2, tAt p ka] from rfl, hcy]
      generalize y.t = yv at *
      clear hc hy hcy hcs hv hbk hun g1 hyI f4 hxf h2
      generalize p.consts.length = n0 at *
      generalize p.vars.length = n1 at *
      generalize p.blocks.length = n2 at *
      generalize p.units.length = n3 at *
      go_enter Tryz.func42, Tryz.ntmps42
      go_wp2_with fail
      go_returns
      exact ⟨_, rfl, row_cells2 (by first | (go_cell; done) | (simp [go_sem]; done)) (by first | (go_cell; done) | (simp [go_sem]; done)) I64_2 HyI.out, by (repeat' (first | (with_reducible exact Below.refl _ _) | (with_reducible assumption) | (with_reducible refine below_drewN ?_ _) | (with_reducible refine Below.alloc ?_ ?_ _) | (with_reducible refine Below.drew ?_) | (with_reducible refine Below.setCell ?_ ?_ _) | go_size))⟩
  by_cases ds : o = 5
  · subst ds
    rw [show takesL p x 5 ka b = [slotAt x ka] from rfl]
    have g1 : (ka : Int) < slotsN x := by have := HTh.out; rw [thereP_3 (by decide)] at this; exact of_decide_eq_true this
    obtain ⟨b3, off3, rfl, hbw3, hc3⟩ := unit_at hun (k := i) (lt_of_get HX.out)
    obtain ⟨u1, u3, u4, c0, cc1, cc2, c3, c4, hU⟩ := hc3 i x HX.out
    obtain ⟨su1, cu1, rfl⟩ := row_get hU.ps
    obtain ⟨su3, cu3, rfl⟩ := row_get hU.ls
    obtain ⟨su4, cu4, rfl⟩ := row_get hU.cs
    have HS := Lib.hid (fun W (hb : Below w.heap.size w W) => ref15_Slots _ _ _ x W (hU.below hb) hxf)
    have HyI := Lib.hid (slotAt_I64 hU ka)
    have hsl := slotsL_len x
    have hget : (slotsL x)[ka]? = some (slotAt x ka) := by
      obtain ⟨z, hz⟩ := get_some (L := slotsL x) (n := ka) (by omega)
      rw [hz]; unfold slotAt; simp [List.getD, hz]
    have Hget := Lib.hid hget
    have hslN := Lib.hid hsl
    have hsnb : slotsN x ≤ 2000 := by rw [← hsl]; obtain ⟨_, j1, j2, _⟩ := fewU_is hxf; unfold slotsL; simp; split <;> simp <;> omega
    generalize slotAt x ka = sv at *
    generalize slotsN x = sn at *
    have r1 : ((ka : Int) < (sn : Int)) = True := eq_true g1
    generalize x.params.length = np at *
    generalize x.locals.length = nlc at *
    generalize x.code.length = ncd at *
    generalize (⟨x.name.toArray⟩ : ByteArray) = nm at *
    generalize x.result = rs at *
    clear hc3 hun hcs hv hbk hU hsl hget f4 hxf
    generalize p.consts.length = n0 at *
    generalize p.vars.length = n1 at *
    generalize p.blocks.length = n2 at *
    generalize p.units.length = n3 at *
    go_enter Tryz.func42, Tryz.ntmps42
    go_wp2_with fail
    go_region_with (first | (go_at_call 63; refine (HS.out _ (by first | assumption | (repeat' (first | (with_reducible exact Below.refl _ _) | (with_reducible assumption) | (with_reducible refine below_drewN ?_ _) | (with_reducible refine Below.alloc ?_ ?_ _) | (with_reducible refine Below.drew ?_) | (with_reducible refine Below.setCell ?_ ?_ _) | go_size)))).mono ?_; rintro e w1 ⟨r, rfl, hr, hb⟩; have hB : Below w.heap.size w w1 := Below.trans (by (repeat' (first | (with_reducible exact Below.refl _ _) | (with_reducible assumption) | (with_reducible refine below_drewN ?_ _) | (with_reducible refine Below.alloc ?_ ?_ _) | (with_reducible refine Below.drew ?_) | (with_reducible refine Below.setCell ?_ ?_ _) | go_size))) (hb.mono (by first | omega | (simp <;> omega))); obtain ⟨hc, hf⟩ := bcell hb; have hlt := blt hb; have hz := hb.size; (try simp only [World.size_alloc, World.size_drew, World.size_setCell, World.heap_drewN] at hz hc hf hlt); obtain ⟨ra, rc, rfl⟩ := row_get hr; rw [hslN.out] at hr ⊢; obtain ⟨b4, off4, rfl, hb4, hc4⟩ := ints_at hr (lt_of_get Hget.out); have hcell := (hc4 ka sv Hget.out).1; clear hr hb hc4))
    all_goals
      go_wp2_with fail
      go_returns
      exact ⟨_, rfl, row_cells1 (by first | (go_cell; done) | (simp [go_sem]; done)) HyI.out, by first | (repeat' (first | (with_reducible exact Below.refl _ _) | (with_reducible assumption) | (with_reducible refine below_drewN ?_ _) | (with_reducible refine Below.alloc ?_ ?_ _) | (with_reducible refine Below.drew ?_) | (with_reducible refine Below.setCell ?_ ?_ _) | go_size)) | (refine hB.trans ?_; exact (show Below w1.heap.size w1 _ by (repeat' (first | (with_reducible exact Below.refl _ _) | (with_reducible assumption) | (with_reducible refine below_drewN ?_ _) | (with_reducible refine Below.alloc ?_ ?_ _) | (with_reducible refine Below.drew ?_) | (with_reducible refine Below.setCell ?_ ?_ _) | go_size))).mono hB.size)⟩
  by_cases d35 : o = 35
  · subst d35
    have g1 : (ka : Int) < p.blocks.length ∧ b < reachN 35 (kindAt p ka) := by have := HTh.out; rw [thereP_8 (by decide)] at this; have := of_decide_eq_true this; exact ⟨this.1, this.2 (by decide)⟩
    obtain ⟨y, hy⟩ := get_some (L := p.blocks) (n := ka) (by omega)
    have hky : kindAt p ka = y.kind := by unfold kindAt; simp [List.getD, hy]
    rw [hky] at g1
    obtain ⟨b2, off2, rfl, hbw2, hc2⟩ := blk_at hbk (k := ka) (lt_of_get hy)
    obtain ⟨_, cc, _, _⟩ := hc2 ka y hy
    rw [show takesL p x 35 ka b = [fldT (kindAt p ka) b] from rfl, hky]
    have r1 : ((ka : Int) < (p.blocks.length : Int)) = True := eq_true g1.1
    generalize y.kind = kk at *
    have g2 : b < ((bF kk).length : Int) := by have h3 : reachN 35 kk = bI kk := if_pos rfl; rw [h3] at g1; have := bI_le kk; omega
    have hk : 1 ≤ kk ∧ kk ≤ 8 := by
      by_cases hk : 1 ≤ kk ∧ kk ≤ 8
      · exact hk
      · rw [bF_no hk] at g2; simp at g2; omega
    have HF := Lib.hid (fun W => ref11_Fields kk hk W)
    have Hty := Lib.hid (tyV_at hb0 g2)
    have HyI := Lib.hid (fldT_I64 kk b)
    obtain ⟨kb, rfl⟩ := Int.eq_ofNat_of_zero_le hb0
    simp only [Int.toNat_natCast] at Hty
    have r2 : ((kb : Int) < ((bF kk).length : Int)) = True := eq_true g2
    have hblen : (bF kk).length ≤ 8 := by unfold bF; repeat' split
                                          all_goals decide
    generalize fldT kk (kb : Int) = ft at *
    generalize (bF kk).length = fl at *
    generalize bI kk = il at *
    generalize nmV kk = nmv at *
    have hty' := Hty.out
    generalize tyV kk = tyv at *
    clear hc2 hy hky hcs hv hbk hun g1 g2 hk hb0 f4 hxf
    generalize p.consts.length = n0 at *
    generalize p.vars.length = n1 at *
    generalize p.blocks.length = n2 at *
    generalize p.units.length = n3 at *
    go_enter Tryz.func42, Tryz.ntmps42
    go_wp2_with fail
    refine (HF.out _).mono ?_; rintro e w2 ⟨rfl, rfl⟩
    go_wp2_with fail
    go_returns
    exact ⟨_, rfl, row_cells1 (by first | (go_cell; done) | (simp [go_sem]; done)) HyI.out, by (repeat' (first | (with_reducible exact Below.refl _ _) | (with_reducible assumption) | (with_reducible refine below_drewN ?_ _) | (with_reducible refine Below.alloc ?_ ?_ _) | (with_reducible refine Below.drew ?_) | (with_reducible refine Below.setCell ?_ ?_ _) | go_size))⟩
  by_cases d33 : o = 33
  · subst d33
    have g1 : ka < p.units.length := by have := HTh.out; rw [thereP_7 (show oA 33 = 7 by decide)] at this; have := (of_decide_eq_true this).2; omega
    obtain ⟨y, hy⟩ := get_some g1
    have huy : unAt p ka = y := by unfold unAt; simp [List.getD, hy]
    have r1 : ((ka : Int) < (p.units.length : Int)) = True := eq_true (by omega)
    obtain ⟨b3, off3, rfl, hbw3, hc3⟩ := unit_at hun (k := ka) g1
    obtain ⟨u1, u3, u4, c0, cc1, cc2, c3, c4, hU⟩ := hc3 ka y hy
    rw [show takesL p x 33 ka b = (unAt p ka).params from rfl, huy]
    have HP := Lib.hid hU.ps
    obtain ⟨su1, cu1, rfl⟩ := row_get hU.ps
    generalize y.params.length = np at *
    clear hc3 hcs hv hbk hun g1 f4 hxf hU hy huy
    generalize p.consts.length = n0 at *
    generalize p.vars.length = n1 at *
    generalize p.blocks.length = n2 at *
    generalize p.units.length = n3 at *
    go_enter Tryz.func42, Tryz.ntmps42
    go_wp2_with fail
    go_returns
    exact ⟨_, rfl, HP.out.below intR_stable (by (repeat' (first | (with_reducible exact Below.refl _ _) | (with_reducible assumption) | (with_reducible refine below_drewN ?_ _) | (with_reducible refine Below.alloc ?_ ?_ _) | (with_reducible refine Below.drew ?_) | (with_reducible refine Below.setCell ?_ ?_ _) | go_size))), by (repeat' (first | (with_reducible exact Below.refl _ _) | (with_reducible assumption) | (with_reducible refine below_drewN ?_ _) | (with_reducible refine Below.alloc ?_ ?_ _) | (with_reducible refine Below.drew ?_) | (with_reducible refine Below.setCell ?_ ?_ _) | go_size))⟩
  have dm : 8 ≤ o ∧ o ≤ 25 ∧ o ≠ 13 ∧ o ≠ 17 ∧ o ≠ 18 ∧ o ≠ 19 := by omega
  have hs : takesL p x o ka b = [(ka : Int), ka] := by
    have hbn : aBinary o = true := by unfold aBinary; apply decide_eq_true; omega
    unfold takesL tkT
    rw [if_neg (by omega), if_neg (by omega), if_pos (by omega), if_neg (by omega), if_neg (by omega), if_neg (by rw [hbn]; decide)]
  rw [hs]
  have r8 : (8 ≤ o) = True := eq_true dm.1
  have r9 : (o ≤ 25) = True := eq_true dm.2.1
  have v3 : (o == 3) = false := beq_eq_false_iff_ne.2 (by omega)
  have v5 : (o == 5) = false := beq_eq_false_iff_ne.2 (by omega)
  have v6 : (o == 6) = false := beq_eq_false_iff_ne.2 (by omega)
  have v32 : (o == 32) = false := beq_eq_false_iff_ne.2 (by omega)
  have v7 : (o == 7) = false := beq_eq_false_iff_ne.2 (by omega)
  have v13 : (o == 13) = false := beq_eq_false_iff_ne.2 (by omega)
  have v17 : (o == 17) = false := beq_eq_false_iff_ne.2 (by omega)
  have v26 : (o == 26) = false := beq_eq_false_iff_ne.2 (by omega)
  have v18 : (o == 18) = false := beq_eq_false_iff_ne.2 (by omega)
  have v19 : (o == 19) = false := beq_eq_false_iff_ne.2 (by omega)
  have v27 : (o == 27) = false := beq_eq_false_iff_ne.2 (by omega)
  have v28 : (o == 28) = false := beq_eq_false_iff_ne.2 (by omega)
  have v29 : (o == 29) = false := beq_eq_false_iff_ne.2 (by omega)
  have v31 : (o == 31) = false := beq_eq_false_iff_ne.2 (by omega)
  have v33 : (o == 33) = false := beq_eq_false_iff_ne.2 (by omega)
  have v35 : (o == 35) = false := beq_eq_false_iff_ne.2 (by omega)
  clear hcs hv hbk hun f4 hxf hs dm ho dn0 dn6 dn13 dn18 dn27 dn29 dn31 dv ds d35 d33
  generalize p.consts.length = n0 at *
  generalize p.vars.length = n1 at *
  generalize p.blocks.length = n2 at *
  generalize p.units.length = n3 at *
  go_enter Tryz.func42, Tryz.ntmps42
  go_wp2_with fail
  go_returns
  exact ⟨_, rfl, row_cells2 (by first | (go_cell; done) | (simp [go_sem]; done)) (by first | (go_cell; done) | (simp [go_sem]; done)) HIA.out HIA.out, by (repeat' (first | (with_reducible exact Below.refl _ _) | (with_reducible assumption) | (with_reducible refine below_drewN ?_ _) | (with_reducible refine Below.alloc ?_ ?_ _) | (with_reducible refine Below.drew ?_) | (with_reducible refine Below.setCell ?_ ?_ _) | go_size))⟩
end Go.Proofs.YtefejcofmopjfaaGreatDoor
