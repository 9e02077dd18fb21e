/- Layer 19: what an instruction leaves, by the answer. -/
import Derived.Test.YtjkblhopdjgkiaaDoorStackRefT
namespace Go.Proofs.YtjkblhopdjgkiaaDoor
open Go.RowKit
set_option linter.unusedSimpArgs false
set_option linter.unusedVariables false
set_option maxRecDepth 100000 in
set_option maxHeartbeats 8000000 in
theorem ref19_Leaves (pc pv pb pu : Value) (p : Pr) (u o a b : Int) (w : World) (h : PrAt w pc pv pb pu p) (hf : fewP p = true) (h1 : oneP p u o a b = 0) (hia : I64 a) (hib : I64 b) :
    Calls Tryd.prog 12 #[.agg #[pc, pv, pb, pu], .int .i64 u, .agg #[.int .i64 o, .int .i64 a, .int .i64 b]] w fun e w' => ∃ r, e = .returned r ∧ RowR 1 intR w' r (leavesL p (unAt p u) o a b) ∧ Below w.heap.size w w' := by
  have cp := @cell_past
  obtain ⟨⟨f0, f1, f2, f3⟩, _, _, f4⟩ := fewP_is hf
  obtain ⟨hu, ho, ha, hb0, hty, hth⟩ := oneP_parts h1
  have HTy := Lib.hid hty
  clear h1 hty
  have hcs := h.cs
  have hv := h.vs
  have hbk := h.bs
  have hun := h.us
  obtain ⟨s0, t0, rfl⟩ := row_get h.cs
  obtain ⟨s1, t1, rfl⟩ := row_get h.vs
  obtain ⟨s2, t2, rfl⟩ := row_get h.bs
  obtain ⟨s3, t3, rfl⟩ := row_get h.us
  clear h
  obtain ⟨i, rfl⟩ := Int.eq_ofNat_of_zero_le hu.1
  obtain ⟨ka, rfl⟩ := Int.eq_ofNat_of_zero_le ha
  obtain ⟨x, hx⟩ := get_some (L := p.units) (n := i) (by omega)
  have hux : unAt p i = x := by unfold unAt; simp [List.getD, hx]
  rw [hux] at hth ⊢
  have hxf := f4 x (List.mem_of_getElem? hx)
  have HTh := Lib.hid hth
  have HX := Lib.hid hx
  have HIA := Lib.hid hia
  have HIB := Lib.hid hib
  have r0 : ((i : Int) < (p.units.length : Int)) = True := eq_true hu.2
  clear hth hux hx hia hib
  by_cases dd : o = 0 ∨ o = 3 ∨ o = 5 ∨ o = 7 ∨ o = 28 ∨ o = 30 ∨ o = 31 ∨ o = 32 ∨ o = 34 ∨ o = 35 ∨ o = 36
  · have hs : leavesL p x o ka b = [] := by rcases dd with rfl | rfl | rfl | rfl | rfl | rfl | rfl | rfl | rfl | rfl | rfl <;> rfl
    rw [hs]
    rcases dd with rfl | rfl | rfl | rfl | rfl | rfl | rfl | rfl | rfl | rfl | rfl
    all_goals
      clear hcs hv hbk hun f4 hxf hs
      generalize p.consts.length = n0 at *
      generalize p.vars.length = n1 at *
      generalize p.blocks.length = n2 at *
      generalize p.units.length = n3 at *
      go_enter Tryd.func12, Tryd.ntmps12
      go_wp2_with fail
      go_returns
      exact ⟨_, rfl, row_none, by (repeat' (first | (with_reducible exact Below.refl _ _) | (with_reducible assumption) | (with_reducible refine below_drewN ?_ _) | (with_reducible refine Below.alloc ?_ ?_ _) | (with_reducible refine Below.drew ?_) | (with_reducible refine Below.setCell ?_ ?_ _) | go_size))⟩
  have dn0 := dd
  clear dd
  by_cases dd : o = 26
  · have hs : leavesL p x o ka b = [b] := by subst dd; rfl
    rw [hs]
    subst dd
    all_goals
      clear hcs hv hbk hun f4 hxf hs
      generalize p.consts.length = n0 at *
      generalize p.vars.length = n1 at *
      generalize p.blocks.length = n2 at *
      generalize p.units.length = n3 at *
      go_enter Tryd.func12, Tryd.ntmps12
      go_wp2_with fail
      go_returns
      exact ⟨_, rfl, row_cells1 (by first | (go_cell; done) | (simp [go_sem]; done)) HIB.out, by (repeat' (first | (with_reducible exact Below.refl _ _) | (with_reducible assumption) | (with_reducible refine below_drewN ?_ _) | (with_reducible refine Below.alloc ?_ ?_ _) | (with_reducible refine Below.drew ?_) | (with_reducible refine Below.setCell ?_ ?_ _) | go_size))⟩
  have dn26 := dd
  clear dd
  by_cases dd : o = 27 ∨ o = 29
  · have hs : leavesL p x o ka b = [0, 0] := by rcases dd with rfl | rfl <;> rfl
    rw [hs]
    rcases dd with rfl | rfl
    all_goals
      clear hcs hv hbk hun f4 hxf hs
      generalize p.consts.length = n0 at *
      generalize p.vars.length = n1 at *
      generalize p.blocks.length = n2 at *
      generalize p.units.length = n3 at *
      go_enter Tryd.func12, Tryd.ntmps12
      go_wp2_with fail
      go_returns
      exact ⟨_, rfl, row_cells2 (by first | (go_cell; done) | (simp [go_sem]; done)) (by first | (go_cell; done) | (simp [go_sem]; done)) I64_0 I64_0, by (repeat' (first | (with_reducible exact Below.refl _ _) | (with_reducible assumption) | (with_reducible refine below_drewN ?_ _) | (with_reducible refine Below.alloc ?_ ?_ _) | (with_reducible refine Below.drew ?_) | (with_reducible refine Below.setCell ?_ ?_ _) | go_size))⟩
  have dn27 := dd
  clear dd
  by_cases d1 : o = 1
  · subst d1
    have g1 : ka < p.consts.length := by have := HTh.out; rw [thereP_1 (show oA 1 = 1 by decide)] at this; have := of_decide_eq_true this; omega
    obtain ⟨y, hy⟩ := get_some g1
    have hcy : cAt p ka = y.1 := by unfold cAt; simp [List.getD, hy]
    rw [show leavesL p x 1 ka b = [cAt p ka] from rfl, hcy]
    obtain ⟨bb, off, rfl, hbw, hc⟩ := const_at hcs (k := ka) g1
    obtain ⟨cc, _, hyI, _⟩ := hc ka y hy
    have r1 : ((ka : Int) < (p.consts.length : Int)) = True := eq_true (by omega)
    have HyI := Lib.hid hyI
    generalize y.1 = yv at *
    clear hc hy hcy hcs hv hbk hun g1 hyI f4 hxf
    generalize p.consts.length = n0 at *
    generalize p.vars.length = n1 at *
    generalize p.blocks.length = n2 at *
    generalize p.units.length = n3 at *
    go_enter Tryd.func12, Tryd.ntmps12
    go_wp2_with fail
    go_returns
    exact ⟨_, rfl, row_cells1 (by first | (go_cell; done) | (simp [go_sem]; done)) HyI.out, by (repeat' (first | (with_reducible exact Below.refl _ _) | (with_reducible assumption) | (with_reducible refine below_drewN ?_ _) | (with_reducible refine Below.alloc ?_ ?_ _) | (with_reducible refine Below.drew ?_) | (with_reducible refine Below.setCell ?_ ?_ _) | go_size))⟩
  by_cases dv : o = 2 ∨ o = 6
  · have h2 : oA o = 2 := by rcases dv with rfl | rfl <;> decide
    have g1 : ka < p.vars.length := by have := HTh.out; rw [thereP_2 h2] at this; have := (of_decide_eq_true this).1; omega
    obtain ⟨y, hy⟩ := get_some g1
    have hcy : tAt p ka = y.t := by unfold tAt; simp [List.getD, hy]
    obtain ⟨bb, off, rfl, hbw, hc⟩ := var_at hv (k := ka) g1
    obtain ⟨_, cc, _, _, _, _, hyI, _⟩ := hc ka y hy
    have r1 : ((ka : Int) < (p.vars.length : Int)) = True := eq_true (by omega)
    have HyI := Lib.hid hyI
    have hs : leavesL p x o ka b = [tAt p ka] := by rcases dv with rfl | rfl <;> rfl
    rw [hs, hcy]
    generalize y.t = yv at *
    clear hc hy hcy hcs hv hbk hun g1 hyI f4 hxf h2 hs
    rcases dv with rfl | rfl
    all_goals
      generalize p.consts.length = n0 at *
      generalize p.vars.length = n1 at *
      generalize p.blocks.length = n2 at *
      generalize p.units.length = n3 at *
      go_enter Tryd.func12, Tryd.ntmps12
      go_wp2_with fail
      go_returns
      exact ⟨_, rfl, row_cells1 (by first | (go_cell; done) | (simp [go_sem]; done)) HyI.out, by (repeat' (first | (with_reducible exact Below.refl _ _) | (with_reducible assumption) | (with_reducible refine below_drewN ?_ _) | (with_reducible refine Below.alloc ?_ ?_ _) | (with_reducible refine Below.drew ?_) | (with_reducible refine Below.setCell ?_ ?_ _) | go_size))⟩
  by_cases ds : o = 4
  · subst ds
    rw [show leavesL p x 4 ka b = [slotAt x ka] from rfl]
    have g1 : (ka : Int) < slotsN x := by have := HTh.out; rw [thereP_3 (by decide)] at this; exact of_decide_eq_true this
    obtain ⟨b3, off3, rfl, hbw3, hc3⟩ := unit_at hun (k := i) (lt_of_get HX.out)
    obtain ⟨u1, u3, u4, c0, cc1, cc2, c3, c4, hU⟩ := hc3 i x HX.out
    obtain ⟨su1, cu1, rfl⟩ := row_get hU.ps
    obtain ⟨su3, cu3, rfl⟩ := row_get hU.ls
    obtain ⟨su4, cu4, rfl⟩ := row_get hU.cs
    have HS := Lib.hid (fun W (hb : Below w.heap.size w W) => ref15_Slots _ _ _ x W (hU.below hb) hxf)
    have HyI := Lib.hid (slotAt_I64 hU ka)
    have hsl := slotsL_len x
    have hget : (slotsL x)[ka]? = some (slotAt x ka) := by
      obtain ⟨z, hz⟩ := get_some (L := slotsL x) (n := ka) (by omega)
      rw [hz]; unfold slotAt; simp [List.getD, hz]
    have Hget := Lib.hid hget
    have hslN := Lib.hid hsl
    have hsnb : slotsN x ≤ 2000 := by rw [← hsl]; obtain ⟨_, j1, j2, _⟩ := fewU_is hxf; unfold slotsL; simp; split <;> simp <;> omega
    generalize slotAt x ka = sv at *
    generalize slotsN x = sn at *
    have r1 : ((ka : Int) < (sn : Int)) = True := eq_true g1
    generalize x.params.length = np at *
    generalize x.locals.length = nlc at *
    generalize x.code.length = ncd at *
    generalize (⟨x.name.toArray⟩ : ByteArray) = nm at *
    generalize x.result = rs at *
    clear hc3 hun hcs hv hbk hU hsl hget f4 hxf
    generalize p.consts.length = n0 at *
    generalize p.vars.length = n1 at *
    generalize p.blocks.length = n2 at *
    generalize p.units.length = n3 at *
    go_enter Tryd.func12, Tryd.ntmps12
    go_wp2_with fail
    go_region_with (first | (go_at_call 19; refine (HS.out _ (by first | assumption | (repeat' (first | (with_reducible exact Below.refl _ _) | (with_reducible assumption) | (with_reducible refine below_drewN ?_ _) | (with_reducible refine Below.alloc ?_ ?_ _) | (with_reducible refine Below.drew ?_) | (with_reducible refine Below.setCell ?_ ?_ _) | go_size)))).mono ?_; rintro e w1 ⟨r, rfl, hr, hb⟩; have hB : Below w.heap.size w w1 := Below.trans (by (repeat' (first | (with_reducible exact Below.refl _ _) | (with_reducible assumption) | (with_reducible refine below_drewN ?_ _) | (with_reducible refine Below.alloc ?_ ?_ _) | (with_reducible refine Below.drew ?_) | (with_reducible refine Below.setCell ?_ ?_ _) | go_size))) (hb.mono (by first | omega | (simp <;> omega))); obtain ⟨hc, hf⟩ := bcell hb; have hlt := blt hb; have hz := hb.size; (try simp only [World.size_alloc, World.size_drew, World.size_setCell, World.heap_drewN] at hz hc hf hlt); obtain ⟨ra, rc, rfl⟩ := row_get hr; rw [hslN.out] at hr ⊢; obtain ⟨b4, off4, rfl, hb4, hc4⟩ := ints_at hr (lt_of_get Hget.out); have hcell := (hc4 ka sv Hget.out).1; clear hr hb hc4))
    all_goals
      go_wp2_with fail
      go_returns
      exact ⟨_, rfl, row_cells1 (by first | (go_cell; done) | (simp [go_sem]; done)) HyI.out, by first | (repeat' (first | (with_reducible exact Below.refl _ _) | (with_reducible assumption) | (with_reducible refine below_drewN ?_ _) | (with_reducible refine Below.alloc ?_ ?_ _) | (with_reducible refine Below.drew ?_) | (with_reducible refine Below.setCell ?_ ?_ _) | go_size)) | (refine hB.trans ?_; exact (show Below w1.heap.size w1 _ by (repeat' (first | (with_reducible exact Below.refl _ _) | (with_reducible assumption) | (with_reducible refine below_drewN ?_ _) | (with_reducible refine Below.alloc ?_ ?_ _) | (with_reducible refine Below.drew ?_) | (with_reducible refine Below.setCell ?_ ?_ _) | go_size))).mono hB.size)⟩
  by_cases d37 : o = 37
  · subst d37
    have g1 : (ka : Int) < p.blocks.length ∧ b < reachN 37 (kindAt p ka) := by have := HTh.out; rw [thereP_8 (by decide)] at this; have := of_decide_eq_true this; exact ⟨this.1, this.2 (by decide)⟩
    obtain ⟨y, hy⟩ := get_some (L := p.blocks) (n := ka) (by omega)
    have hky : kindAt p ka = y.kind := by unfold kindAt; simp [List.getD, hy]
    rw [hky] at g1
    obtain ⟨b2, off2, rfl, hbw2, hc2⟩ := blk_at hbk (k := ka) (lt_of_get hy)
    obtain ⟨_, cc, _, _⟩ := hc2 ka y hy
    rw [show leavesL p x 37 ka b = [fldT (kindAt p ka) b] from rfl, hky]
    have r1 : ((ka : Int) < (p.blocks.length : Int)) = True := eq_true g1.1
    generalize y.kind = kk at *
    have g2 : b < ((bF kk).length : Int) := by have h3 : reachN 37 kk = ((bF kk).length : Int) := if_neg (by decide); rw [h3] at g1; omega
    have hk : 1 ≤ kk ∧ kk ≤ 8 := by
      by_cases hk : 1 ≤ kk ∧ kk ≤ 8
      · exact hk
      · rw [bF_no hk] at g2; simp at g2; omega
    have HF := Lib.hid (fun W => ref11_Fields kk hk W)
    have Hty := Lib.hid (tyV_at hb0 g2)
    have HyI := Lib.hid (fldT_I64 kk b)
    obtain ⟨kb, rfl⟩ := Int.eq_ofNat_of_zero_le hb0
    simp only [Int.toNat_natCast] at Hty
    have r2 : ((kb : Int) < ((bF kk).length : Int)) = True := eq_true g2
    have hblen : (bF kk).length ≤ 8 := by unfold bF; repeat' split
                                          all_goals decide
    generalize fldT kk (kb : Int) = ft at *
    generalize (bF kk).length = fl at *
    generalize bI kk = il at *
    generalize nmV kk = nmv at *
    have hty' := Hty.out
    generalize tyV kk = tyv at *
    clear hc2 hy hky hcs hv hbk hun g1 g2 hk hb0 f4 hxf
    generalize p.consts.length = n0 at *
    generalize p.vars.length = n1 at *
    generalize p.blocks.length = n2 at *
    generalize p.units.length = n3 at *
    go_enter Tryd.func12, Tryd.ntmps12
    go_wp2_with fail
    refine (HF.out _).mono ?_; rintro e w2 ⟨rfl, rfl⟩
    go_wp2_with fail
    go_returns
    exact ⟨_, rfl, row_cells1 (by first | (go_cell; done) | (simp [go_sem]; done)) HyI.out, by (repeat' (first | (with_reducible exact Below.refl _ _) | (with_reducible assumption) | (with_reducible refine below_drewN ?_ _) | (with_reducible refine Below.alloc ?_ ?_ _) | (with_reducible refine Below.drew ?_) | (with_reducible refine Below.setCell ?_ ?_ _) | go_size))⟩
  by_cases d33 : o = 33
  · subst d33
    have g1 : ka < p.units.length := by have := HTh.out; rw [thereP_7 (show oA 33 = 7 by decide)] at this; have := (of_decide_eq_true this).2; omega
    obtain ⟨y, hy⟩ := get_some g1
    have huy : unAt p ka = y := by unfold unAt; simp [List.getD, hy]
    have r1 : ((ka : Int) < (p.units.length : Int)) = True := eq_true (by omega)
    obtain ⟨b3, off3, rfl, hbw3, hc3⟩ := unit_at hun (k := ka) g1
    obtain ⟨u1, u3, u4, c0, cc1, cc2, c3, c4, hU⟩ := hc3 ka y hy
    rw [show leavesL p x 33 ka b = if (unAt p ka).result = 0 then [] else [(unAt p ka).result] from rfl, huy]
    have HrI := Lib.hid hU.r64
    generalize y.result = rs at *
    clear hc3 hcs hv hbk hun g1 f4 hxf hU hy huy
    generalize p.consts.length = n0 at *
    generalize p.vars.length = n1 at *
    generalize p.blocks.length = n2 at *
    generalize p.units.length = n3 at *
    by_cases h0 : rs = 0
    · rw [if_pos h0]
      have q0 : (rs != 0) = false := by simp [h0]
      clear h0
      go_enter Tryd.func12, Tryd.ntmps12
      go_wp2_with fail
      go_returns
      exact ⟨_, rfl, row_none, by (repeat' (first | (with_reducible exact Below.refl _ _) | (with_reducible assumption) | (with_reducible refine below_drewN ?_ _) | (with_reducible refine Below.alloc ?_ ?_ _) | (with_reducible refine Below.drew ?_) | (with_reducible refine Below.setCell ?_ ?_ _) | go_size))⟩
    · rw [if_neg h0]
      have q0 : (rs != 0) = true := by simpa using h0
      clear h0
      go_enter Tryd.func12, Tryd.ntmps12
      go_wp2_with fail
      go_returns
      exact ⟨_, rfl, row_cells1 (by first | (go_cell; done) | (simp [go_sem]; done)) HrI.out, by (repeat' (first | (with_reducible exact Below.refl _ _) | (with_reducible assumption) | (with_reducible refine below_drewN ?_ _) | (with_reducible refine Below.alloc ?_ ?_ _) | (with_reducible refine Below.drew ?_) | (with_reducible refine Below.setCell ?_ ?_ _) | go_size))⟩
  have dm : 8 ≤ o ∧ o ≤ 25 := by omega
  have hg : aGoes o ka = true := by rw [← typedP_m (b := b) dm]; exact HTy.out
  have har : o < 20 → aResult o ka = (ka : Int) := fun h20 => by unfold aResult; rw [if_pos hg, if_neg (by omega)]
  have hs : leavesL p x o ka b = [aResult o ka] := by
    unfold leavesL lvT
    rw [if_neg (by omega), if_neg (by omega), if_neg (by omega), if_pos (by omega), if_neg (by omega)]
    by_cases h1 : o = 18 ∨ o = 19
    · rw [if_pos h1, har (by omega)]
    · rw [if_neg h1]
      by_cases h2 : aBinary o = false
      · rw [if_pos h2, har (by have h3 : ¬ (8 ≤ o ∧ o ≤ 25 ∧ o ≠ 13 ∧ o ≠ 17) := of_decide_eq_false h2; omega)]
      · rw [if_neg h2]
  rw [hs]
  have HRs := Lib.hid (fun W => ref07_Result o ka W)
  have HRI := Lib.hid (aResult_I64 (o := o) HIA.out)
  generalize aResult o (ka : Int) = rs at *
  have r8 : (8 ≤ o) = True := eq_true dm.1
  have r9 : (o ≤ 25) = True := eq_true dm.2
  have v1 : (o == 1) = false := beq_eq_false_iff_ne.2 (by omega)
  have v2 : (o == 2) = false := beq_eq_false_iff_ne.2 (by omega)
  have v6 : (o == 6) = false := beq_eq_false_iff_ne.2 (by omega)
  have v4 : (o == 4) = false := beq_eq_false_iff_ne.2 (by omega)
  have v26 : (o == 26) = false := beq_eq_false_iff_ne.2 (by omega)
  have v27 : (o == 27) = false := beq_eq_false_iff_ne.2 (by omega)
  have v29 : (o == 29) = false := beq_eq_false_iff_ne.2 (by omega)
  have v33 : (o == 33) = false := beq_eq_false_iff_ne.2 (by omega)
  have v37 : (o == 37) = false := beq_eq_false_iff_ne.2 (by omega)
  clear hcs hv hbk hun f4 hxf hs dm ho dn0 dn26 dn27 dv ds d37 d33 d1 hg har
  generalize p.consts.length = n0 at *
  generalize p.vars.length = n1 at *
  generalize p.blocks.length = n2 at *
  generalize p.units.length = n3 at *
  go_enter Tryd.func12, Tryd.ntmps12
  go_wp2_with fail
  refine (HRs.out _).mono ?_; rintro e w' ⟨rfl, rfl⟩
  go_wp2_with fail
  go_returns
  exact ⟨_, rfl, row_cells1 (by first | (go_cell; done) | (simp [go_sem]; done)) HRI.out, by (repeat' (first | (with_reducible exact Below.refl _ _) | (with_reducible assumption) | (with_reducible refine below_drewN ?_ _) | (with_reducible refine Below.alloc ?_ ?_ _) | (with_reducible refine Below.drew ?_) | (with_reducible refine Below.setCell ?_ ?_ _) | go_size))⟩
end Go.Proofs.YtjkblhopdjgkiaaDoor
