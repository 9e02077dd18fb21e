/- Layer 24: a scan's beginning, by the answer. -/
import Derived.Test.YtpnnmhcemecjfaaCyBegin
import Derived.Deep.CutRange
namespace Go.Proofs.Ytpnnmhcemecjfaa
open Go.RowKit
set_option linter.unusedSimpArgs false
set_option linter.unusedVariables false
theorem setS_setS (s : St) (n m : Nat) (x y : Int) : setS (setS s n m x) n m y = setS s n m y := by
  unfold setS
  simp only
  by_cases h : n < s.vars.length
  · simp [List.getD, h]
  · rw [List.set_eq_of_length_le (by rw [List.length_set]; omega), List.set_eq_of_length_le (by omega), List.set_eq_of_length_le (by omega)]
theorem kWrap_zero (t : Int) : kWrap t 0 = 0 := by
  by_cases h : 1 ≤ t ∧ t ≤ 6
  · obtain rfl | rfl | rfl | rfl | rfl | rfl : t = 1 ∨ t = 2 ∨ t = 3 ∨ t = 4 ∨ t = 5 ∨ t = 6 := by omega
    · rfl
    · rw [kWrap_2]; rfl
    · rw [kWrap_3]; rfl
    · rw [kWrap_4]; rfl
    · rw [kWrap_5]; rfl
    · rfl
  · exact kWrap_no h
set_option maxRecDepth 100000 in
set_option maxHeartbeats 4000000 in
theorem ref24_Begin (vv v b iv : Value) (L : List Vr) (s : St) (ins : List Int) (dt : Int) (w : World) (hvv : RowR 5 varR w vv L) (h : StAt w v b s) (hsh : shortS s = true) (hri : RowR 1 intR w iv ins) (hL : L.length ≤ 70) (hlen : ins.length ≤ 300) (hdt : I64 dt) :
    Calls Try.prog 11 #[vv, .agg #[v, b, .int .i64 s.now, .int .i64 s.fault], iv, .int .i64 dt] w fun e w' => ∃ v' b' : Value, e = .returned (.agg #[v', b', .int .i64 (laterF s.now dt), .int .i64 s.fault]) ∧ StAt w' v' b' (begS L ins s dt) ∧ Below w.heap.size w w' := by
  obtain ⟨s1, s2, s3⟩ : s.vars.length ≤ 100 ∧ s.blocks.length ≤ 100 ∧ ∀ l ∈ s.vars, l.length ≤ 100 := of_decide_eq_true hsh
  have cp := @cell_past
  have hC := Lib.hid (fun W (hb : Below w.heap.size w W) => ref23_CloneO v b s W (h.below hb) hsh)
  have hI := Lib.hid (row_ints hri)
  have hInt := Lib.hid (row_ints_all h.vs)
  have hLens := Lib.hid (inst_lens h.bs)
  have hv := h.vs
  obtain ⟨s0, hs0⟩ : ∃ s0, s0 = { s with now := laterF s.now dt } := ⟨_, rfl⟩
  have Hs0 := Lib.hid hs0
  have HS0 := Lib.hid (show begS L ins s dt = (begF L ins s0 L.length).1 from by rw [hs0]; rfl)
  have HV0 := Lib.hid (show s0.vars = s.vars from by rw [hs0])
  have H64 := Lib.hid (show I64 s0.now ∧ I64 s0.fault from by rw [hs0]; exact ⟨laterF_i64 h.n64, h.f64⟩)
  have HNUM := Lib.hid (begF_num (vs := L) (ins := ins) (s := s0) (by rw [HV0.out]; exact s3))
  clear hs0
  have hn64 := h.n64
  unfold I64 at hn64
  have hdt' := hdt
  unfold I64 at hdt'
  obtain ⟨si, ci, rfl⟩ := row_get hri
  obtain ⟨N, hN⟩ : ∃ N, L.length = N := ⟨_, rfl⟩
  obtain ⟨NI, hNI⟩ : ∃ N, ins.length = N := ⟨_, rfl⟩
  have HN := Lib.hid hN
  have HNI := Lib.hid hNI
  obtain ⟨sv, cv, rfl⟩ := row_get hvv
  obtain ⟨sa, ca, rfl⟩ := row_get h.vs
  obtain ⟨sb, cb, rfl⟩ := row_get h.bs
  rw [hN] at hL hvv ⊢
  rw [hNI] at hri ⊢
  generalize hSL : s.vars.length = M at *
  have HSL := Lib.hid hSL
  generalize hBL : s.blocks.length = BL at *
  have HBL := Lib.hid hBL
  clear hN hNI hSL hBL
  obtain ⟨d1, hd1⟩ : ∃ d1, d1 = (if dt < 0 then 0 else dt) := ⟨_, rfl⟩
  obtain ⟨d2, hd2⟩ : ∃ d2, d2 = (if 1099511627776 < d1 then 1099511627776 else d1) := ⟨_, rfl⟩
  have hlt : laterF s.now dt = if 1099511627776 - d2 < s.now then 1099511627776 else s.now + d2 := by
    rw [hd2, hd1]; unfold laterF; by_cases h1 : dt < 0
    · simp [h1]
    · simp [h1]
  have hd1b : 0 ≤ d1 ∧ d1 ≤ 9223372036854775807 := by rw [hd1]; split <;> omega
  have hd2b : 0 ≤ d2 ∧ d2 ≤ 1099511627776 := by rw [hd2]; split <;> omega
  have Hd1 := Lib.hid hd1
  have Hd2 := Lib.hid hd2
  have HLT := Lib.hid hlt
  generalize laterF s.now dt = lt at *
  clear hd1 hd2 hlt
  go_enter Try.func11, Try.ntmps11
  go_wp2_with fail
  refine (hC.out _ (by (repeat' (first | (with_reducible exact Below.refl _ _) | (with_reducible assumption) | (with_reducible refine more_below ?_ ?_ _ _) | (with_reducible refine below_drewN ?_ _) | (with_reducible refine Below.alloc ?_ ?_ _) | (with_reducible refine Below.drew ?_) | (with_reducible refine Below.setCell ?_ ?_ _) | (simp only [World.size_alloc, World.size_setCell, World.size_drew, more_size, World.heap_drewN]; omega) | go_size)))).mono ?_; rintro e W1 ⟨v', b', U, B, C, D, rfl, ⟨hOB, hOC, hOD, hO1, hO2, hO3⟩, _, hb1⟩
  obtain ⟨Wb, hWb⟩ : ∃ Wb, Wb = ((w.alloc (.cells #[.slice sa M ca, .slice sb BL cb, .int .i64 s.now, .int .i64 s.fault] 31)).alloc (.cells #[.slice none 0 0, .slice none 0 0, .int .i64 0, .int .i64 0] 31)) := ⟨_, rfl⟩
  rw [← hWb] at hb1 hOB hOC hOD
  have zb : Wb.heap.size = w.heap.size + 1 + 1 := by rw [hWb]; simp
  have hwb : Below w.heap.size w Wb := by rw [hWb]; exact by (repeat' (first | (with_reducible exact Below.refl _ _) | (with_reducible assumption) | (with_reducible refine more_below ?_ ?_ _ _) | (with_reducible refine below_drewN ?_ _) | (with_reducible refine Below.alloc ?_ ?_ _) | (with_reducible refine Below.drew ?_) | (with_reducible refine Below.setCell ?_ ?_ _) | (simp only [World.size_alloc, World.size_setCell, World.size_drew, more_size, World.heap_drewN]; omega) | go_size))
  have gs1 : C4 Wb w.heap.size (.slice sa M ca) (.slice sb BL cb) (.int .i64 s.now) (.int .i64 s.fault) := by
    have := C4.new w (.slice sa M ca) (.slice sb BL cb) (.int .i64 s.now) (.int .i64 s.fault) 31 (W' := Wb) (by rw [hWb]; exact by (repeat' (first | (with_reducible exact Below.refl _ _) | (with_reducible assumption) | (with_reducible refine more_below ?_ ?_ _ _) | (with_reducible refine below_drewN ?_ _) | (with_reducible refine Below.alloc ?_ ?_ _) | (with_reducible refine Below.drew ?_) | (with_reducible refine Below.setCell ?_ ?_ _) | (simp only [World.size_alloc, World.size_setCell, World.size_drew, more_size, World.heap_drewN]; omega) | go_size)))
    exact this
  have HWb := Lib.hid hWb
  have HWL := Lib.hid hwb
  have GS := Lib.hid gs1
  have ho1 := hO1
  obtain ⟨av, cO, rfl⟩ := owns_form ho1
  have ho3 := hO3
  obtain ⟨ab, cbb, rfl⟩ := owns_form ho3
  have hO := Lib.hid (show OwnS Wb.heap.size W1 _ _ s0 U from ⟨by rw [HV0.out, HSL.out]; exact own_low hO1 hOB, by rw [HV0.out]; exact rows_low hO2 hOC, by rw [Hs0.out]; show W1.ownsRow _ _ _ _ s.blocks.length _; rw [HBL.out]; exact own_low hO3 hOD, by rw [HV0.out]; exact hInt.out, by rw [Hs0.out]; exact hLens.out, H64.out.1, H64.out.2, by rw [HV0.out, HSL.out]; exact s1⟩)
  have z1 : Wb.heap.size ≤ W1.heap.size := hb1.size
  have HB1 := Lib.hid hb1
  clear hWb gs1 hb1 hO1 hO2 hO3 hOB hOC hOD hwb ho1 ho3
  rw [zb] at hO z1
  go_upto_if 16 with fail
  go_cut [3] from 13 (fun s3 wx => s3 = .int .i64 d1 ∧ wx = W1.alloc (.cells #[.slice av M cO, .slice ab BL cbb, .int .i64 s.now, .int .i64 s.fault] 31))
  case first =>
    by_cases p1 : dt < 0
    · have e := Hd1.out
      rw [if_pos p1] at e
      have E := Lib.hid e
      clear e
      go_wp2_with fail
      go_meet
      case rel => exact ⟨by rw [E.out], rfl⟩
    · have e := Hd1.out
      rw [if_neg p1] at e
      have E := Lib.hid e
      clear e
      go_wp2_with fail
      go_meet
      case rel => exact ⟨by rw [E.out], rfl⟩
  case rest =>
    obtain ⟨rfl, rfl⟩ := hcut
    go_upto_if 18 with fail
    go_cut [3] from 13 (fun s3 wx => s3 = .int .i64 d2 ∧ wx = W1.alloc (.cells #[.slice av M cO, .slice ab BL cbb, .int .i64 s.now, .int .i64 s.fault] 31))
    case first =>
      by_cases p1 : 1099511627776 < d1
      · have e := Hd2.out
        rw [if_pos p1] at e
        have E := Lib.hid e
        clear e
        go_wp2_with fail
        go_meet
        case rel => exact ⟨by rw [E.out], rfl⟩
      · have e := Hd2.out
        rw [if_neg p1] at e
        have E := Lib.hid e
        clear e
        go_wp2_with fail
        go_meet
        case rel => exact ⟨by rw [E.out], rfl⟩
    case rest =>
      obtain ⟨rfl, rfl⟩ := hcut
      go_upto_if 23 with fail
      go_cut [] from 13 (fun wx => wx = W1.alloc (.cells #[.slice av M cO, .slice ab BL cbb, .int .i64 lt, .int .i64 s.fault] 31))
      case first =>
        by_cases p1 : 1099511627776 - d2 < s.now
        · have e := HLT.out
          rw [if_pos p1] at e
          have E := Lib.hid e
          clear e
          go_wp2_with fail
          go_meet
          case rel => rw [E.out]
        · have e := HLT.out
          rw [if_neg p1] at e
          have E := Lib.hid e
          clear e
          go_wp2_with fail
          go_meet
          case rel => rw [E.out]
      case rest =>
        obtain rfl := hcut
        clear HLT Hd1 Hd2 hd1b hd2b
        have zz : w.heap.size < W1.heap.size := by omega
        go_wp2_with fail
        go_loopw [10, 11] (fun nv jj wr => ∃ (k n : Nat) (G : World), k ≤ N ∧ n = (begF L ins s0 k).2 ∧ nv = .int .i64 n ∧ jj = .int .i64 k ∧ G.heap.size = W1.heap.size ∧ Hid (Mid (w.heap.size + 1 + 1) Wb G wr (.slice av M cO) (.slice ab BL cbb) (begF L ins s0 k).1 U (.int .i64 lt) (.int .i64 s.fault))) (fun _ jj _ => N - (intOf jj).toNat)
        case atStart =>
          have hW2 : Below W1.heap.size W1 (W1.alloc (.cells #[.slice av M cO, .slice ab BL cbb, .int .i64 lt, .int .i64 s.fault] 31)) := by (repeat' (first | (with_reducible exact Below.refl _ _) | (with_reducible assumption) | (with_reducible refine below_drewN ?_ _) | (with_reducible refine Below.alloc ?_ ?_ _) | (with_reducible refine Below.drew ?_) | (with_reducible refine Below.setCell ?_ ?_ _) | go_size))
          refine ⟨0, 0, W1, by omega, rfl, rfl, rfl, rfl, Lib.hid ⟨hO.out, hW2, ?_, ?_⟩⟩
          · exact (zb ▸ HB1.out).trans (hW2.mono z1)
          · exact C4.new W1 _ _ _ _ _ (by (repeat' (first | (with_reducible exact Below.refl _ _) | (with_reducible assumption) | (with_reducible refine below_drewN ?_ _) | (with_reducible refine Below.alloc ?_ ?_ _) | (with_reducible refine Below.drew ?_) | (with_reducible refine Below.setCell ?_ ?_ _) | go_size)))
        case round =>
          obtain ⟨k, n, G, hk, hn, rfl, rfl, hGs, hM'⟩ := hrel
          have Hn := Lib.hid hn
          have hnum := HNUM.out k
          rw [← hn] at hnum
          clear hn
          have z9 := hM'.out.lt
          rw [hGs] at z9
          have hBG : w.heap.size + 1 + 1 ≤ G.heap.size := by omega
          have hB0 : Below w.heap.size w wr := HWL.out.trans (hM'.out.low.mono (by omega))
          have y0 := (hM'.out.low.cell (p := ⟨w.heap.size, 0, none⟩) (by show w.heap.size < _; omega)).trans GS.out.1
          have zw : w.heap.size < wr.heap.size := by omega
          obtain ⟨a0, a1, a2, a3⟩ := hM'.out.c9
          rw [hGs] at a0 a1 a2 a3
          by_cases hlt : k < N
          · have qn : ((k : Int) < (N : Int)) = True := eq_true (by omega)
            by_cases hkm : k < M
            · have qm : ((k : Int) < (M : Int)) = True := eq_true (by omega)
              obtain ⟨x, hx⟩ := get_some (L := L) (n := k) (by rw [HN.out]; exact hlt)
              obtain ⟨bb, off, rfl, hbw, hc⟩ := var_at hvv (k := k) (lt_of_get hx)
              obtain ⟨_, c1', _, c3', _, _⟩ := hc k x hx
              have HC := Lib.hid (fun W (hW : Below w.heap.size w W) => And.intro ((hW.cell (p := ⟨bb, off + k * 5 + 1, none⟩) hbw).trans c1') ((hW.cell (p := ⟨bb, off + k * 5 + 3, none⟩) hbw).trans c3'))
              have HX := Lib.hid hx
              clear hc hx c1' c3'
              obtain ⟨l, hl⟩ := get_some (L := s.vars) (n := k) (by rw [HSL.out]; exact hkm)
              obtain ⟨b2, off2, rfl, hbw2, hd⟩ := rows_at hv (k := k) (lt_of_get hl)
              obtain ⟨u, d0', hu⟩ := hd k l hl
              obtain ⟨su, cu, rfl⟩ := row_get hu
              have hl100 := s3 l (List.mem_of_getElem? hl)
              obtain ⟨m, hm⟩ : ∃ m, l.length = m := ⟨_, rfl⟩
              rw [hm] at d0' hl100
              have HD := Lib.hid (fun W (hW : Below w.heap.size w W) => (hW.cell (p := ⟨b2, off2 + k, none⟩) hbw2).trans d0')
              have Hl := Lib.hid hl
              have Hm := Lib.hid hm
              clear hd d0' hu hl hm
              by_cases ha : x.area = 1
              · have qa : (x.area == 1) = true := by simpa using ha
                have HY := Lib.hid (begF_yes (ins := ins) (s := s0) HX.out (by rw [HV0.out]; exact Hl.out) ha)
                rw [Hm.out, ← Hn.out] at HY
                obtain ⟨lk, hlk, hll⟩ := len_row (begF_len L ins s0 k) (by rw [HV0.out]; exact Hl.out)
                rw [Hm.out] at hll
                have HLK := Lib.hid hlk
                have HLL := Lib.hid hll
                clear ha hlk hll
                go_wp2_with fail
                go_loopw [10, 12] (fun nv ji wr2 => ∃ (q p : Nat) (G2 : World), q ≤ m ∧ p = n + q ∧ nv = .int .i64 p ∧ ji = .int .i64 q ∧ G2.heap.size = W1.heap.size ∧ Hid (Mid (w.heap.size + 1 + 1) Wb G2 wr2 (.slice av M cO) (.slice ab BL cbb) (fillTo (begF L ins s0 k).1 k x.t ins n q) U (.int .i64 lt) (.int .i64 s.fault))) (fun _ ji _ => m - (intOf ji).toNat)
                case atStart => exact ⟨0, n, G, by omega, by omega, rfl, rfl, hGs, hM'⟩
                case round =>
                  clear hM' hB0 y0 zw a0 a1 a2 a3 z9 hGs hBG
                  obtain ⟨q, p, G2, hq, hp, rfl, rfl, hGs, hM2⟩ := hrel
                  have hp7 : p ≤ 7100 := by omega
                  have Hp := Lib.hid hp
                  clear hp
                  have z9 := hM2.out.lt
                  rw [hGs] at z9
                  have hB0 : Below w.heap.size w wr := HWL.out.trans (hM2.out.low.mono (by omega))
                  have y0 := (hM2.out.low.cell (p := ⟨w.heap.size, 0, none⟩) (by show w.heap.size < _; omega)).trans GS.out.1
                  have zw : w.heap.size < wr.heap.size := by omega
                  obtain ⟨a0, a1, a2, a3⟩ := hM2.out.c9
                  rw [hGs] at a0 a1 a2 a3
                  have d0 := HD.out _ hB0
                  obtain ⟨c1, c3⟩ := HC.out _ hB0
                  by_cases hqm : q < m
                  · have qq : ((q : Int) < (m : Int)) = True := eq_true (by omega)
                    obtain ⟨lq, hlq, hlql⟩ := len_row (fillTo_len (begF L ins s0 k).1 k x.t ins n q) HLK.out
                    rw [HLL.out] at hlql
                    obtain ⟨g, bi, cap, q1, q2, q3, q4, q5, q6, q7, hbn, q8, q9, G3, q10, q11⟩ := hM2.out.at (by omega) hlq (m := q) (by omega) (x := 0) (by unfold I64; omega)
                    obtain rfl := q1
                    rw [hlql] at q4
                    have HM3 := Lib.hid q11
                    have HLQ := Lib.hid hlq
                    have HLQL := Lib.hid hlql
                    clear q11 hlq hlql
                    by_cases hpn : p < NI
                    · have qp : ((p : Int) < (NI : Int)) = True := eq_true (by omega)
                      obtain ⟨z, hz⟩ := get_some (L := ins) (n := p) (by rw [HNI.out]; exact hpn)
                      have Hz := Lib.hid hz
                      obtain ⟨b3, off3, rfl, hbw3, hg⟩ := ints_at hri (k := p) (lt_of_get hz)
                      obtain ⟨f0, _⟩ := hg p z hz
                      have f0 := (hB0.cell (p := ⟨b3, off3 + p, none⟩) hbw3).trans f0
                      have hz64 := Lib.hid (hI.out z (List.mem_of_getElem? hz))
                      have e0 : (wr.setCell ⟨bi, q, none⟩ (.int .i64 0)).cell? ⟨W1.heap.size, 0, none⟩ = some (.slice (some ⟨g, 0, none⟩) M cO) := (cell_set_ne (by omega)).trans a0
                      have e1 : (wr.setCell ⟨bi, q, none⟩ (.int .i64 0)).cell? ⟨g, k, none⟩ = some (.slice (some ⟨bi, 0, none⟩) m cap) := (cell_set_ne hbn).trans q4
                      have e2 : (wr.setCell ⟨bi, q, none⟩ (.int .i64 0)).cell? ⟨bb, off + k * 5 + 1, none⟩ = some (.int .i64 x.t) := (cell_set_ne (by omega)).trans c1
                      have e3 : (wr.setCell ⟨bi, q, none⟩ (.int .i64 0)).cell? ⟨b3, off3 + p, none⟩ = some (.int .i64 z) := (cell_set_ne (by omega)).trans f0
                      have e4 : (wr.setCell ⟨bi, q, none⟩ (.int .i64 0)).cell? ⟨bi, q, none⟩ = some (.int .i64 0) := World.cell?_setCell_same' _ _ _ (by rw [q8]; rfl)
                      have e5 : (wr.setCell ⟨bi, q, none⟩ (.int .i64 0)).frozen? ⟨bi, q, none⟩ = false := by simpa using q9
                      have hHS := Lib.hid (And.intro e0 (And.intro e1 (And.intro e2 e3)))
                      obtain ⟨lq2, hlq2, hlql2⟩ := len_row (setS_len (fillTo (begF L ins s0 k).1 k x.t ins n q) k q 0) HLQ.out
                      rw [HLQL.out] at hlql2
                      obtain ⟨g', bi', cap', k1, _, _, k4, _, _, _, _, _, _, G4, k11, k12⟩ := HM3.out.at (by omega) hlq2 (m := q) (by omega) (x := kWrap x.t z) (kWrap_i64 hz64.out)
                      obtain rfl : g = g' := by simpa using k1
                      rw [e1, hlql2] at k4
                      obtain ⟨rfl, rfl⟩ : bi = bi' ∧ cap = cap' := by simpa using k4
                      rw [setS_setS] at k12
                      have HE := Lib.hid (show fillTo (begF L ins s0 k).1 k x.t ins n (q + 1) = setS (fillTo (begF L ins s0 k).1 k x.t ins n q) k q (kWrap x.t z) by
                        show setS _ k q (kWrap x.t (inAt ins (n + q))) = _
                        rw [← Hp.out, inAt_lt Hz.out])
                      have HM4 := Lib.hid k12
                      have HG4 := Lib.hid k11
                      clear hg hz f0 k1 k4 k12 k11 hlq2 hlql2
                      obtain ⟨W2, hW2⟩ : ∃ W2, W2 = wr.setCell ⟨bi, q, none⟩ (.int .i64 0) := ⟨_, rfl⟩
                      rw [← hW2] at e0 e1 e2 e3 e4 e5 hHS HM4
                      have HW2 := Lib.hid hW2
                      clear hW2
                      go_wp2_with fail
                      rw [← HW2.out]
                      clear e0 e1 e2 e3 a0 a1 a2 a3 y0 d0 c1 c3 q4 q8 q9 qn qm qa qq qp q2 q3 q5 q6
                      refine wp_region_held_drew (S := (fun w' => w'.cell? ⟨W1.heap.size, 0, none⟩ = some (.slice (some ⟨g, 0, none⟩) M cO) ∧ w'.cell? ⟨g, k, none⟩ = some (.slice (some ⟨bi, 0, none⟩) m cap) ∧ w'.cell? ⟨bb, off + k * 5 + 1, none⟩ = some (.int .i64 x.t) ∧ w'.cell? ⟨b3, off3 + p, none⟩ = some (.int .i64 z))) (by kernel_rfl) ?_ (fun hHeld => ?_)
                      · (try dsimp only); first | exact hHS.out | (trace_state; fail)
                      refine wpAnyH_take (i := 0) (oi := { dst := some 72, op := Op.fieldAddr 31 (Operand.tmp 9) 0, type := 0, pos := _, after := #[], guard := none }) (v := ?_) rfl (by kernel_rfl) (by kernel_rfl) (by kernel_rfl) (fun _ _ _ h => h) (Or.inl ⟨by rfl, ?_⟩) (by assumption) ?_
                      rotate_left
                      · intro wt hSw; (try dsimp only at hSw); obtain ⟨t0, t1, t2, t3⟩ := hSw; first | (go_simp; done) | (go_simp; with_reducible rfl) | (trace_state; fail)
                      try simp only [Act.put, List.setIfInBounds_toArray, List.set_cons_zero, List.set_cons_succ]
                      refine wpAnyH_take (i := 1) (oi := { dst := some 73, op := Op.load 28 (Operand.tmp 72), type := 28, pos := _, after := #[{ on := 0, ground := Ground.data }], guard := none }) (v := ?_) rfl (by kernel_rfl) (by kernel_rfl) (by kernel_rfl) (fun _ _ _ h => h) (Or.inl ⟨by rfl, ?_⟩) (by assumption) ?_
                      rotate_left
                      · intro wt hSw; (try dsimp only at hSw); obtain ⟨t0, t1, t2, t3⟩ := hSw; first | (go_simp; done) | (go_simp; with_reducible rfl) | (trace_state; fail)
                      try simp only [Act.put, List.setIfInBounds_toArray, List.set_cons_zero, List.set_cons_succ]
                      refine wpAnyH_take (i := 2) (oi := { dst := some 74, op := Op.move (Operand.tmp 11), type := 3, pos := _, after := #[], guard := none }) (v := ?_) rfl (by kernel_rfl) (by kernel_rfl) (by kernel_rfl) (fun _ _ _ h => h) (Or.inl ⟨by rfl, ?_⟩) (by assumption) ?_
                      rotate_left
                      · intro wt hSw; (try dsimp only at hSw); obtain ⟨t0, t1, t2, t3⟩ := hSw; first | (go_simp; done) | (go_simp; with_reducible rfl) | (trace_state; fail)
                      try simp only [Act.put, List.setIfInBounds_toArray, List.set_cons_zero, List.set_cons_succ]
                      refine wpAnyH_take (i := 3) (oi := { dst := some 75, op := Op.indexAddr 28 (Operand.tmp 73) (Operand.tmp 74), type := 0, pos := _, after := #[{ on := 1, ground := Ground.data }, { on := 2, ground := Ground.data }], guard := none }) (v := ?_) rfl (by kernel_rfl) (by kernel_rfl) (by kernel_rfl) (fun _ _ _ h => h) (Or.inl ⟨by rfl, ?_⟩) (by assumption) ?_
                      rotate_left
                      · intro wt hSw; (try dsimp only at hSw); obtain ⟨t0, t1, t2, t3⟩ := hSw; first | (go_simp; done) | (go_simp; with_reducible rfl) | (trace_state; fail)
                      try simp only [Act.put, List.setIfInBounds_toArray, List.set_cons_zero, List.set_cons_succ]
                      refine wpAnyH_take (i := 4) (oi := { dst := some 76, op := Op.load 32 (Operand.tmp 75), type := 32, pos := _, after := #[{ on := 3, ground := Ground.data }], guard := none }) (v := ?_) rfl (by kernel_rfl) (by kernel_rfl) (by kernel_rfl) (fun _ _ _ h => h) (Or.inl ⟨by rfl, ?_⟩) (by assumption) ?_
                      rotate_left
                      · intro wt hSw; (try dsimp only at hSw); obtain ⟨t0, t1, t2, t3⟩ := hSw; first | (go_simp; done) | (go_simp; with_reducible rfl) | (trace_state; fail)
                      try simp only [Act.put, List.setIfInBounds_toArray, List.set_cons_zero, List.set_cons_succ]
                      refine wpAnyH_take (i := 5) (oi := { dst := some 77, op := Op.move (Operand.tmp 12), type := 3, pos := _, after := #[], guard := none }) (v := ?_) rfl (by kernel_rfl) (by kernel_rfl) (by kernel_rfl) (fun _ _ _ h => h) (Or.inl ⟨by rfl, ?_⟩) (by assumption) ?_
                      rotate_left
                      · intro wt hSw; (try dsimp only at hSw); obtain ⟨t0, t1, t2, t3⟩ := hSw; first | (go_simp; done) | (go_simp; with_reducible rfl) | (trace_state; fail)
                      try simp only [Act.put, List.setIfInBounds_toArray, List.set_cons_zero, List.set_cons_succ]
                      refine wpAnyH_take (i := 6) (oi := { dst := some 78, op := Op.move (Operand.tmp 0), type := 23, pos := _, after := #[], guard := none }) (v := ?_) rfl (by kernel_rfl) (by kernel_rfl) (by kernel_rfl) (fun _ _ _ h => h) (Or.inl ⟨by rfl, ?_⟩) (by assumption) ?_
                      rotate_left
                      · intro wt hSw; (try dsimp only at hSw); obtain ⟨t0, t1, t2, t3⟩ := hSw; first | (go_simp; done) | (go_simp; with_reducible rfl) | (trace_state; fail)
                      try simp only [Act.put, List.setIfInBounds_toArray, List.set_cons_zero, List.set_cons_succ]
                      refine wpAnyH_take (i := 7) (oi := { dst := some 79, op := Op.move (Operand.tmp 11), type := 3, pos := _, after := #[], guard := none }) (v := ?_) rfl (by kernel_rfl) (by kernel_rfl) (by kernel_rfl) (fun _ _ _ h => h) (Or.inl ⟨by rfl, ?_⟩) (by assumption) ?_
                      rotate_left
                      · intro wt hSw; (try dsimp only at hSw); obtain ⟨t0, t1, t2, t3⟩ := hSw; first | (go_simp; done) | (go_simp; with_reducible rfl) | (trace_state; fail)
                      try simp only [Act.put, List.setIfInBounds_toArray, List.set_cons_zero, List.set_cons_succ]
                      refine wpAnyH_take (i := 8) (oi := { dst := some 80, op := Op.indexAddr 23 (Operand.tmp 78) (Operand.tmp 79), type := 0, pos := _, after := #[{ on := 6, ground := Ground.data }, { on := 7, ground := Ground.data }], guard := none }) (v := ?_) rfl (by kernel_rfl) (by kernel_rfl) (by kernel_rfl) (fun _ _ _ h => h) (Or.inl ⟨by rfl, ?_⟩) (by assumption) ?_
                      rotate_left
                      · intro wt hSw; (try dsimp only at hSw); obtain ⟨t0, t1, t2, t3⟩ := hSw; first | (go_simp; done) | (go_simp; with_reducible rfl) | (trace_state; fail)
                      try simp only [Act.put, List.setIfInBounds_toArray, List.set_cons_zero, List.set_cons_succ]
                      refine wpAnyH_take (i := 9) (oi := { dst := some 81, op := Op.fieldAddr 47 (Operand.tmp 80) 1, type := 0, pos := _, after := #[{ on := 8, ground := Ground.data }], guard := none }) (v := ?_) rfl (by kernel_rfl) (by kernel_rfl) (by kernel_rfl) (fun _ _ _ h => h) (Or.inl ⟨by rfl, ?_⟩) (by assumption) ?_
                      rotate_left
                      · intro wt hSw; (try dsimp only at hSw); obtain ⟨t0, t1, t2, t3⟩ := hSw; first | (go_simp; done) | (go_simp; with_reducible rfl) | (trace_state; fail)
                      try simp only [Act.put, List.setIfInBounds_toArray, List.set_cons_zero, List.set_cons_succ]
                      refine wpAnyH_take (i := 10) (oi := { dst := some 82, op := Op.load 3 (Operand.tmp 81), type := 3, pos := _, after := #[{ on := 9, ground := Ground.data }], guard := none }) (v := ?_) rfl (by kernel_rfl) (by kernel_rfl) (by kernel_rfl) (fun _ _ _ h => h) (Or.inl ⟨by rfl, ?_⟩) (by assumption) ?_
                      rotate_left
                      · intro wt hSw; (try dsimp only at hSw); obtain ⟨t0, t1, t2, t3⟩ := hSw; first | (go_simp; done) | (go_simp; with_reducible rfl) | (trace_state; fail)
                      try simp only [Act.put, List.setIfInBounds_toArray, List.set_cons_zero, List.set_cons_succ]
                      refine wpAnyH_take (i := 11) (oi := { dst := some 83, op := Op.move (Operand.tmp 2), type := 32, pos := _, after := #[], guard := none }) (v := ?_) rfl (by kernel_rfl) (by kernel_rfl) (by kernel_rfl) (fun _ _ _ h => h) (Or.inl ⟨by rfl, ?_⟩) (by assumption) ?_
                      rotate_left
                      · intro wt hSw; (try dsimp only at hSw); obtain ⟨t0, t1, t2, t3⟩ := hSw; first | (go_simp; done) | (go_simp; with_reducible rfl) | (trace_state; fail)
                      try simp only [Act.put, List.setIfInBounds_toArray, List.set_cons_zero, List.set_cons_succ]
                      refine wpAnyH_take (i := 12) (oi := { dst := some 84, op := Op.move (Operand.tmp 10), type := 3, pos := _, after := #[], guard := none }) (v := ?_) rfl (by kernel_rfl) (by kernel_rfl) (by kernel_rfl) (fun _ _ _ h => h) (Or.inl ⟨by rfl, ?_⟩) (by assumption) ?_
                      rotate_left
                      · intro wt hSw; (try dsimp only at hSw); obtain ⟨t0, t1, t2, t3⟩ := hSw; first | (go_simp; done) | (go_simp; with_reducible rfl) | (trace_state; fail)
                      try simp only [Act.put, List.setIfInBounds_toArray, List.set_cons_zero, List.set_cons_succ]
                      refine wpAnyH_take (i := 13) (oi := { dst := some 85, op := Op.indexAddr 32 (Operand.tmp 83) (Operand.tmp 84), type := 0, pos := _, after := #[{ on := 11, ground := Ground.data }, { on := 12, ground := Ground.data }], guard := none }) (v := ?_) rfl (by kernel_rfl) (by kernel_rfl) (by kernel_rfl) (fun _ _ _ h => h) (Or.inl ⟨by rfl, ?_⟩) (by assumption) ?_
                      rotate_left
                      · intro wt hSw; (try dsimp only at hSw); obtain ⟨t0, t1, t2, t3⟩ := hSw; first | (go_simp; done) | (go_simp; with_reducible rfl) | (trace_state; fail)
                      try simp only [Act.put, List.setIfInBounds_toArray, List.set_cons_zero, List.set_cons_succ]
                      refine wpAnyH_take (i := 14) (oi := { dst := some 86, op := Op.load 3 (Operand.tmp 85), type := 3, pos := _, after := #[{ on := 13, ground := Ground.data }], guard := none }) (v := ?_) rfl (by kernel_rfl) (by kernel_rfl) (by kernel_rfl) (fun _ _ _ h => h) (Or.inl ⟨by rfl, ?_⟩) (by assumption) ?_
                      rotate_left
                      · intro wt hSw; (try dsimp only at hSw); obtain ⟨t0, t1, t2, t3⟩ := hSw; first | (go_simp; done) | (go_simp; with_reducible rfl) | (trace_state; fail)
                      try simp only [Act.put, List.setIfInBounds_toArray, List.set_cons_zero, List.set_cons_succ]
                      refine wpAnyH_ready (rs := [15]) (by kernel_rfl) (by simp) ?_
                      refine AllReadyH.cons (o := { dst := some 87, op := Op.call { callee := Callee.value (Operand.func 22), args := #[Operand.tmp 82, Operand.tmp 86], argTypes := #[3, 3] }, type := 3, pos := _, after := #[{ on := 10, ground := Ground.data }, { on := 14, ground := Ground.data }], guard := none }) rfl (fun K hK => ?_) AllReadyH.nil
                      go_simp
                      refine (ref01_Wrap _ _ hz64.out _).mono ?_; rintro e w4 ⟨rfl, rfl⟩
                      go_wp2_with fail
                      refine hK.out _ _ ?_ (fun hHeld => ?_)
                      · (try dsimp only); first | exact hHS.out | (trace_state; fail)
                      clear hK K
                      try simp only [Act.put, List.setIfInBounds_toArray, List.set_cons_zero, List.set_cons_succ]
                      refine wpAnyH_take (i := 16) (oi := { dst := some 88, op := Op.indexAddr 32 (Operand.tmp 76) (Operand.tmp 77), type := 0, pos := _, after := #[{ on := 4, ground := Ground.data }, { on := 5, ground := Ground.data }, { on := 0, ground := Ground.phase }, { on := 1, ground := Ground.phase }, { on := 2, ground := Ground.phase }, { on := 3, ground := Ground.phase }, { on := 4, ground := Ground.phase }, { on := 5, ground := Ground.phase }, { on := 6, ground := Ground.phase }, { on := 7, ground := Ground.phase }, { on := 8, ground := Ground.phase }, { on := 9, ground := Ground.phase }, { on := 10, ground := Ground.phase }, { on := 11, ground := Ground.phase }, { on := 12, ground := Ground.phase }, { on := 13, ground := Ground.phase }, { on := 14, ground := Ground.phase }, { on := 15, ground := Ground.phase }], guard := none }) (v := ?_) rfl (by kernel_rfl) (by kernel_rfl) (by kernel_rfl) (fun _ _ _ h => h) (Or.inl ⟨by rfl, ?_⟩) (by assumption) ?_
                      rotate_left
                      · intro wt hSw; (try dsimp only at hSw); obtain ⟨t0, t1, t2, t3⟩ := hSw; first | (go_simp; done) | (go_simp; with_reducible rfl) | (trace_state; fail)
                      try simp only [Act.put, List.setIfInBounds_toArray, List.set_cons_zero, List.set_cons_succ]
                      refine wpAnyH_ready (rs := [17]) (by kernel_rfl) (by simp) ?_
                      refine AllReadyH.cons (o := { dst := none, op := Op.store 3 (Operand.tmp 88) (Operand.tmp 87), type := 0, pos := _, after := #[{ on := 16, ground := Ground.data }, { on := 15, ground := Ground.data }, { on := 15, ground := Ground.chain }, { on := 0, ground := Ground.phase }, { on := 1, ground := Ground.phase }, { on := 2, ground := Ground.phase }, { on := 3, ground := Ground.phase }, { on := 4, ground := Ground.phase }, { on := 5, ground := Ground.phase }, { on := 6, ground := Ground.phase }, { on := 7, ground := Ground.phase }, { on := 8, ground := Ground.phase }, { on := 9, ground := Ground.phase }, { on := 10, ground := Ground.phase }, { on := 11, ground := Ground.phase }, { on := 12, ground := Ground.phase }, { on := 13, ground := Ground.phase }, { on := 14, ground := Ground.phase }, { on := 15, ground := Ground.phase }], guard := none }) rfl (fun K hK => ?_) AllReadyH.nil
                      go_simp
                      refine hK.out _ _ ?_ (fun hHeld => ?_)
                      · (try dsimp only); exact ⟨(cell_set_ne (by omega)).trans hHS.out.1, (cell_set_ne hbn).trans hHS.out.2.1, (cell_set_ne (by omega)).trans hHS.out.2.2.1, (cell_set_ne (by omega)).trans hHS.out.2.2.2⟩
                      clear hK K
                      try simp only [Act.put, List.setIfInBounds_toArray, List.set_cons_zero, List.set_cons_succ]
                      refine wpAnyH_done (by kernel_rfl) ?_ _
                      go_wp2_with fail
                      go_roundw
                      case rel => exact ⟨q + 1, p + 1, G4, by omega, by rw [Hp.out]; omega, by simp, by simp, HG4.out.trans (q10.trans hGs), Lib.hid (by rw [HE.out]; exact HM4.out.step (by have h1 := HM4.out.lt; have h2 := HG4.out; omega) (Below.refl _ _).drew)⟩
                      case measure => first | (simp [intOf]; done) | (simp [intOf]; omega)
                    · have qp : ((p : Int) < (NI : Int)) = False := eq_false (by omega)
                      have HE := Lib.hid (show fillTo (begF L ins s0 k).1 k x.t ins n (q + 1) = setS (fillTo (begF L ins s0 k).1 k x.t ins n q) k q 0 by
                        show setS _ k q (kWrap x.t (inAt ins (n + q))) = _
                        rw [← Hp.out, inAt_past (by rw [HNI.out]; omega), kWrap_zero])
                      go_wp2_with fail
                      go_roundw
                      case rel => exact ⟨q + 1, p + 1, G3, by omega, by rw [Hp.out]; omega, by simp, by simp, q10.trans hGs, Lib.hid (by rw [HE.out]; exact HM3.out)⟩
                      case measure => first | (simp [intOf]; done) | (simp [intOf]; omega)
                  · obtain rfl : q = m := by omega
                    have qq : ((q : Int) < (q : Int)) = False := eq_false (by omega)
                    go_wp2_with fail
                    go_roundw
                    case rel => exact ⟨k + 1, p, G2, by omega, by rw [HY.out]; exact Hp.out, rfl, by simp, hGs, Lib.hid (by rw [HY.out]; exact hM2.out)⟩
                    case measure => first | (simp [intOf]; done) | (simp [intOf]; omega)
              · have qa : (x.area == 1) = false := by simpa using ha
                have HP := Lib.hid (begF_no (ins := ins) (s := s0) HX.out ha)
                have d0 := HD.out _ hB0
                obtain ⟨c1, c3⟩ := HC.out _ hB0
                clear ha
                go_wp2_with fail
                go_loopw [10, 12] (fun nv ji wi => nv = .int .i64 n ∧ ji = .int .i64 0 ∧ wi = wr) (fun _ ji _ => 0)
                case atStart => exact ⟨rfl, rfl, rfl⟩
                case round =>
                  obtain ⟨rfl, rfl, rfl⟩ := hrel
                  by_cases h0 : 0 < m
                  · have q0 : ((0 : Int) < (m : Int)) = True := eq_true (by omega)
                    go_wp2_with fail
                    go_roundw
                    case rel => exact ⟨k + 1, n, G, by omega, by rw [HP.out]; exact Hn.out, rfl, by simp, hGs, Lib.hid (by rw [HP.out]; exact hM'.out)⟩
                    case measure => first | (simp [intOf]; done) | (simp [intOf]; omega)
                  · have q0 : ((0 : Int) < (m : Int)) = False := eq_false (by omega)
                    go_wp2_with fail
                    go_roundw
                    case rel => exact ⟨k + 1, n, G, by omega, by rw [HP.out]; exact Hn.out, rfl, by simp, hGs, Lib.hid (by rw [HP.out]; exact hM'.out)⟩
                    case measure => first | (simp [intOf]; done) | (simp [intOf]; omega)
            · have qm : ((k : Int) < (M : Int)) = False := eq_false (by omega)
              have HE := Lib.hid (begF_stop (vs := L) (ins := ins) (s := s0) (i := k) (by rw [HV0.out, HSL.out]; omega) N (by omega))
              have hfin := Lib.hid (hM'.out.own.below hM'.out.ext)
              obtain ⟨l9, d9, hw9⟩ := more_of (show Below Wb.heap.size Wb wr by rw [zb]; exact hM'.out.low)
              rw [HWb.out] at hw9
              have mc := @more_cell
              have mf := @more_frozen
              have ms := @more_set
              clear hM' hB0 z9 zw
              subst hw9
              go_wp2_with fail
              refine bodyPost_ret (by simp [results, Try.results11, go_sem, more_cell, more_size, more_frozen]; try rfl) rfl ?_
              refine ⟨_, _, rfl, ?st, by (repeat' (first | (with_reducible exact Below.refl _ _) | (with_reducible assumption) | (with_reducible refine more_below ?_ ?_ _ _) | (with_reducible refine below_drewN ?_ _) | (with_reducible refine Below.alloc ?_ ?_ _) | (with_reducible refine Below.drew ?_) | (with_reducible refine Below.setCell ?_ ?_ _) | (simp only [World.size_alloc, World.size_setCell, World.size_drew, more_size, World.heap_drewN]; omega) | go_size))⟩
              case st =>
                rw [HS0.out, HN.out, HE.out]
                exact (hfin.out.congr (more_congr (by simp) (by simp))).st
          · obtain rfl : k = N := by omega
            have qn : ((k : Int) < (k : Int)) = False := eq_false (by omega)
            have hfin := Lib.hid (hM'.out.own.below hM'.out.ext)
            obtain ⟨l9, d9, hw9⟩ := more_of (show Below Wb.heap.size Wb wr by rw [zb]; exact hM'.out.low)
            rw [HWb.out] at hw9
            have mc := @more_cell
            have mf := @more_frozen
            have ms := @more_set
            clear hM' hB0 z9 zw
            subst hw9
            go_wp2_with fail
            refine bodyPost_ret (by simp [results, Try.results11, go_sem, more_cell, more_size, more_frozen]; try rfl) rfl ?_
            refine ⟨_, _, rfl, ?st, by (repeat' (first | (with_reducible exact Below.refl _ _) | (with_reducible assumption) | (with_reducible refine more_below ?_ ?_ _ _) | (with_reducible refine below_drewN ?_ _) | (with_reducible refine Below.alloc ?_ ?_ _) | (with_reducible refine Below.drew ?_) | (with_reducible refine Below.setCell ?_ ?_ _) | (simp only [World.size_alloc, World.size_setCell, World.size_drew, more_size, World.heap_drewN]; omega) | go_size))⟩
            case st =>
              rw [HS0.out, HN.out]
              exact (hfin.out.congr (more_congr (by simp) (by simp))).st
end Go.Proofs.Ytpnnmhcemecjfaa
