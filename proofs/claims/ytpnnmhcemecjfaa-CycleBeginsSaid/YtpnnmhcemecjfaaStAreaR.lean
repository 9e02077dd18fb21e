/- Layer 23: the values of an area, by the answer. -/
import Derived.Test.YtpnnmhcemecjfaaStArea
namespace Go.Proofs.Ytpnnmhcemecjfaa
open Go.RowKit
set_option linter.unusedSimpArgs false
set_option linter.unusedVariables false
set_option maxHeartbeats 4000000 in
theorem ref23_AreaO (vv v b : Value) (L : List Vr) (s : St) (ar : Int) (w : World) (hvv : RowR 5 varR w vv L) (h : StAt w v b s) (hsh : shortS s = true) (hL : L.length ≤ 70) :
    Calls Try.prog 24 #[vv, .agg #[v, b, .int .i64 s.now, .int .i64 s.fault], .int .i64 ar] w fun e w' => ∃ r : Value, e = .returned r ∧ w'.ownsRow w.heap.size 3 1 r (areaF L s.vars ar).length (iV (areaF L s.vars ar)) ∧ Below w.heap.size w w' := by
  obtain ⟨s1, s2, s3⟩ : s.vars.length ≤ 100 ∧ s.blocks.length ≤ 100 ∧ ∀ l ∈ s.vars, l.length ≤ 100 := of_decide_eq_true hsh
  obtain ⟨i, hi, hz, hsize, hby⟩ : ∃ i, Try.prog.info? 3 = some i ∧ i.zero = some (.int .i64 0) ∧ i.size = 1 ∧ i.bytes = 8 := ⟨(Try.prog.info? 3).get!, by kernel_rfl, by kernel_rfl, by kernel_rfl, by kernel_rfl⟩
  have hv := h.vs
  have hints := row_ints_all hv
  obtain ⟨sv, cv, rfl⟩ := row_get hvv
  obtain ⟨sa, ca, rfl⟩ := row_get h.vs
  obtain ⟨sb, cb, rfl⟩ := row_get h.bs
  clear h
  generalize hR : s.vars = R at *
  obtain ⟨N, hN⟩ : ∃ N, L.length = N := ⟨_, rfl⟩
  obtain ⟨M, hM⟩ : ∃ N, R.length = N := ⟨_, rfl⟩
  generalize s.blocks.length = NB at *
  have HN := Lib.hid (show L.length = N ∧ R.length = M from ⟨hN, hM⟩)
  have HB := Lib.hid (fun k => areaF_len (vs := L.take k) (a := ar) s3)
  have HI := Lib.hid (areaF_ints (vs := L) (a := ar) hints)
  rw [hN] at hvv hL ⊢
  rw [hM] at hv s1 ⊢
  clear hN hM hR hints
  have cp := @cell_past
  go_enter Try.func24, Try.ntmps24
  go_wp2_with fail
  go_loopw [7, 8] (fun o jj wr => ∃ (k : Nat), k ≤ N ∧ jj = .int .i64 k ∧ Hid (wr.ownsRow (w.heap.size + 1) 3 1 o (areaF (L.take k) R ar).length (iV (areaF (L.take k) R ar))) ∧ Hid (Below (w.heap.size + 1) (w.alloc (.cells #[.slice sa M ca, .slice sb NB cb, .int .i64 s.now, .int .i64 s.fault] 31)) wr)) (fun _ jj _ => N - (intOf jj).toNat)
  case atStart => exact ⟨0, by omega, rfl, Lib.hid (by simp [areaF_nil, iV]; exact World.ownsRow_nil _ _ _ _), Lib.hid (Below.refl _ _)⟩
  case round =>
    obtain ⟨k, hk, rfl, hO, hBw⟩ := hrel
    have z0 : w.heap.size < wr.heap.size := by have := hBw.out.size; simp at this; omega
    have hB0 : Below w.heap.size w wr := Below.trans (by (repeat' (first | (with_reducible exact Below.refl _ _) | (with_reducible assumption) | (with_reducible refine below_drewN ?_ _) | (with_reducible refine Below.alloc ?_ ?_ _) | (with_reducible refine Below.drew ?_) | (with_reducible refine Below.setCell ?_ ?_ _) | go_size))) (hBw.out.mono (by omega))
    obtain ⟨e0, e1, e2, e3⟩ := C4.new w _ _ _ _ _ hBw.out
    by_cases hlt : k < N
    · by_cases hkm : k < M
      · obtain ⟨x, hx⟩ := get_some (L := L) (n := k) (by have := HN.out.1; omega)
        obtain ⟨bb, off, rfl, hbw, hc⟩ := var_at hvv (k := k) (lt_of_get hx)
        obtain ⟨_, _, _, c3', _, _⟩ := hc k x hx
        have HC := Lib.hid (fun W (hW : Below w.heap.size w W) => (hW.cell (p := ⟨bb, off + k * 5 + 3, none⟩) hbw).trans c3')
        have HX := Lib.hid hx
        obtain ⟨lr, hr⟩ := get_some (L := R) (n := k) (by have := HN.out.2; omega)
        obtain ⟨b2, off2, rfl, hbw2, hd⟩ := rows_at hv (k := k) (lt_of_get hr)
        obtain ⟨u, d0', hu⟩ := hd k lr hr
        have hlr := s3 lr (List.mem_of_getElem? hr)
        have hul := hu.len
        obtain ⟨su, cu, rfl⟩ := row_get hu
        have HD := Lib.hid (fun W (hW : Below w.heap.size w W) => (hW.cell (p := ⟨b2, off2 + k, none⟩) hbw2).trans d0')
        have Hu := Lib.hid hu
        have hsn := Lib.hid (areaF_snoc (a := ar) hx hr)
        have hbz1 : (areaF (L.take k) R ar).length ≤ 7000 := by
          have : (L.take k).length ≤ 70 := by have := HN.out.1; simp; omega
          have := HB.out k
          omega
        obtain ⟨m, hm⟩ : ∃ m, lr.length = m := ⟨_, rfl⟩
        have Hm := Lib.hid hm
        rw [hm] at hlr HD hul
        clear hc c3' hd d0' hx hr hu
        generalize areaF (L.take k) R ar = AF at *
        by_cases ha : x.area = ar
        · have qa : (x.area == ar) = true := by simpa using ha
          rw [if_pos ha] at hsn
          go_wp2_with fail
          go_loopw [7, 9] (fun oi ji wr => ∃ (q : Nat), q ≤ m ∧ ji = .int .i64 q ∧ Hid (wr.ownsRow (w.heap.size + 1) 3 1 oi (AF.length + q) (iV (AF ++ lr.take q))) ∧ Hid (Below (w.heap.size + 1) (w.alloc (.cells #[.slice (some ⟨b2, off2, none⟩) M ca, .slice sb NB cb, .int .i64 s.now, .int .i64 s.fault] 31)) wr)) (fun _ ji _ => m - (intOf ji).toNat)
          case atStart => exact ⟨0, by omega, rfl, Lib.hid (by simpa using hO.out), hBw⟩
          case round =>
            clear hO hBw z0 hB0 e0 e1 e2 e3
            obtain ⟨q, hq, rfl, hO, hBw⟩ := hrel
            have z0 : w.heap.size < wr.heap.size := by have := hBw.out.size; simp at this; omega
            have hB0 : Below w.heap.size w wr := Below.trans (by (repeat' (first | (with_reducible exact Below.refl _ _) | (with_reducible assumption) | (with_reducible refine below_drewN ?_ _) | (with_reducible refine Below.alloc ?_ ?_ _) | (with_reducible refine Below.drew ?_) | (with_reducible refine Below.setCell ?_ ?_ _) | go_size))) (hBw.out.mono (by omega))
            obtain ⟨e0, e1, e2, e3⟩ := C4.new w _ _ _ _ _ hBw.out
            have d0 := HD.out _ hB0
            have c3 := HC.out _ hB0
            by_cases hqm : q < m
            · obtain ⟨z, hzq⟩ := get_some (L := lr) (n := q) (by have := Hm.out; omega)
              have Hqi := Lib.hid (row_ints Hu.out z (List.mem_of_getElem? hzq))
              obtain ⟨b3, off3, rfl, hbw3, hg⟩ := ints_at Hu.out (k := q) (lt_of_get hzq)
              obtain ⟨g0, _⟩ := hg q z hzq
              have g0 := (hB0.cell (p := ⟨b3, off3 + q, none⟩) hbw3).trans g0
              have hts := Lib.hid (take_snoc hzq)
              clear hg hzq
              have Hown := Lib.hid (fun W (hW : Below wr.heap.size wr W) => owns_below hO.out hW)
              clear ha
              generalize hna : AF.length = na at *
              have Hna := Lib.hid hna
              clear hna
              go_wp2_with (first | (at_builtin; go_loud (refine wpList_append_src rfl (.tmp 42) (.tmp 51) 32 rfl (w.heap.size + 1) 3 i (.int .i64 0) 1 8 Try.underlying32 hi hz hsize hby rfl (by omega) _ (na + q) _ rfl (Hown.out _ (by (repeat' (first | (with_reducible exact Below.refl _ _) | (with_reducible assumption) | (with_reducible refine below_drewN ?_ _) | (with_reducible refine Below.alloc ?_ ?_ _) | (with_reducible refine Below.drew ?_) | (with_reducible refine Below.setCell ?_ ?_ _) | go_size)))) _ 1 [.int .i64 z] rfl (src_new _ _ _) rfl (by intro u hu; simp at hu; rw [hu]; rfl) (by unfold maxLen; omega) (by omega) (by simp; omega) ?_; intro v2 w2 hO2 hG2; have hB2 := Lib.hid (grown3 (Below.trans hBw.out (show Below (w.heap.size + 1) wr (wr.alloc _) from (show Below wr.heap.size wr _ by (repeat' (first | (with_reducible exact Below.refl _ _) | (with_reducible assumption) | (with_reducible refine below_drewN ?_ _) | (with_reducible refine Below.alloc ?_ ?_ _) | (with_reducible refine Below.drew ?_) | (with_reducible refine Below.setCell ?_ ?_ _) | go_size))).mono (by omega))) (by simp; omega) (Hown.out _ (by (repeat' (first | (with_reducible exact Below.refl _ _) | (with_reducible assumption) | (with_reducible refine below_drewN ?_ _) | (with_reducible refine Below.alloc ?_ ?_ _) | (with_reducible refine Below.drew ?_) | (with_reducible refine Below.setCell ?_ ?_ _) | go_size)))) hG2); have HO2 := Lib.hid hO2; clear hO2 hG2)) | fail)
              go_roundw
              case rel => exact ⟨q + 1, by omega, by simp, Lib.hid (own_eq2 HO2.out (by omega) (by simp [hts.out, iV])), hB2⟩
              case measure => first | (simp [intOf]; done) | (simp [intOf]; omega)
            · obtain rfl : q = m := by omega
              have hO2 := Lib.hid (show wr.ownsRow (w.heap.size + 1) 3 1 _ (AF ++ lr).length (iV (AF ++ lr)) from own_eq2 hO.out (by rw [List.length_append, Hm.out]) (by rw [List.take_of_length_le (by have := Hm.out; omega)]))
              clear hO ha
              go_wp2_with fail
              go_roundw
              case rel => exact ⟨k + 1, by omega, by simp, Lib.hid (by rw [hsn.out]; exact hO2.out), hBw⟩
              case measure => first | (simp [intOf]; done) | (simp [intOf]; omega)
        · have qa : (x.area == ar) = false := by simpa using ha
          rw [if_neg ha, List.append_nil] at hsn
          have d0 := HD.out _ hB0
          have c3 := HC.out _ hB0
          go_wp2_with fail
          go_loopw [7, 9] (fun oi ji wi => ji = .int .i64 0 ∧ wi = wr ∧ Hid (wr.ownsRow (w.heap.size + 1) 3 1 oi AF.length (iV AF))) (fun _ ji _ => 0)
          case atStart => exact ⟨rfl, rfl, hO⟩
          case round =>
            obtain ⟨rfl, rfl, hO⟩ := hrel
            by_cases h0 : 0 < m
            · have q0 : ((0 : Int) < (m : Int)) = True := eq_true (by omega)
              clear ha
              go_wp2_with fail
              go_roundw
              case rel => exact ⟨k + 1, by omega, by simp, Lib.hid (by rw [hsn.out]; exact hO.out), hBw⟩
              case measure => first | (simp [intOf]; done) | (simp [intOf]; omega)
            · have q0 : ((0 : Int) < (m : Int)) = False := eq_false (by omega)
              clear ha
              go_wp2_with fail
              go_roundw
              case rel => exact ⟨k + 1, by omega, by simp, Lib.hid (by rw [hsn.out]; exact hO.out), hBw⟩
              case measure => first | (simp [intOf]; done) | (simp [intOf]; omega)
      · have qm : ((k : Int) < (M : Int)) = False := eq_false (by omega)
        have hrow := Lib.hid (show wr.ownsRow w.heap.size 3 1 _ (areaF L R ar).length (iV (areaF L R ar)) by
          have h1 := hO.out
          rw [areaF_past (k := k) (by have := HN.out.2; omega)] at h1
          exact own_low h1 (by omega))
        go_wp2_with fail
        go_returns
        exact ⟨_, rfl, hrow.out, hB0⟩
    · obtain rfl : k = N := by omega
      have hrow := Lib.hid (show wr.ownsRow w.heap.size 3 1 _ (areaF L R ar).length (iV (areaF L R ar)) by
        have h1 := hO.out
        rw [List.take_of_length_le (by have := HN.out.1; omega)] at h1
        exact own_low h1 (by omega))
      go_wp2_with fail
      go_returns
      exact ⟨_, rfl, hrow.out, hB0⟩
theorem ref23_Area (vv v b : Value) (L : List Vr) (s : St) (ar : Int) (w : World) (hvv : RowR 5 varR w vv L) (h : StAt w v b s) (hsh : shortS s = true) (hL : L.length ≤ 70) :
    Calls Try.prog 24 #[vv, .agg #[v, b, .int .i64 s.now, .int .i64 s.fault], .int .i64 ar] w fun e w' => ∃ r : Value, e = .returned r ∧ RowR 1 intR w' r (areaF L s.vars ar) ∧ Below w.heap.size w w' := by
  obtain ⟨s1, s2, s3⟩ : s.vars.length ≤ 100 ∧ s.blocks.length ≤ 100 ∧ ∀ l ∈ s.vars, l.length ≤ 100 := of_decide_eq_true hsh
  have HI := areaF_ints (vs := L) (a := ar) (row_ints_all h.vs)
  refine (ref23_AreaO vv v b L s ar w hvv h hsh hL).mono ?_
  rintro e w' ⟨r, he, hr, hb⟩
  exact ⟨r, he, row_of_owns hr HI, hb⟩
end Go.Proofs.Ytpnnmhcemecjfaa
