/- Layer 23: the values of an area. -/
import Derived.Test.YthanmbfelihkfaaStRefClone
import Derived.Test.YthanmbfelihkfaaPgm
import Derived.Test.YthanmbfelihkfaaOwnLow
namespace Go.Proofs.Ythanmbfelihkfaa
open Go.RowKit
set_option linter.unusedSimpArgs false
set_option linter.unusedVariables false
def areaF : List Vr → List (List Int) → Int → List Int
  | v :: vs, r :: rs, a => (if v.area = a then r else []) ++ areaF vs rs a
  | _, _, _ => []
theorem areaF_nil (rows : List (List Int)) (a : Int) : areaF [] rows a = [] := by cases rows <;> rfl
theorem areaF_none (vs : List Vr) (a : Int) : areaF vs [] a = [] := by cases vs <;> rfl
theorem areaF_snoc {vs : List Vr} {rows : List (List Int)} {a : Int} : ∀ {k : Nat} {v : Vr} {r : List Int}, vs[k]? = some v → rows[k]? = some r → areaF (vs.take (k + 1)) rows a = areaF (vs.take k) rows a ++ (if v.area = a then r else []) := by
  induction vs generalizing rows with
  | nil => intro k v r h; simp at h
  | cons x t ih =>
    intro k v r hv hr
    cases rows with
    | nil => simp at hr
    | cons y u =>
      cases k with
      | zero =>
        obtain rfl : x = v := by simpa using hv
        obtain rfl : y = r := by simpa using hr
        simp [areaF, areaF_nil]
      | succ k =>
        have := ih (rows := u) (k := k) (v := v) (r := r) (by simpa using hv) (by simpa using hr)
        simp only [List.take_succ_cons, areaF] at this ⊢
        rw [this, List.append_assoc]
theorem areaF_past {vs : List Vr} {rows : List (List Int)} {a : Int} : ∀ {k : Nat}, rows.length ≤ k → areaF (vs.take k) rows a = areaF vs rows a := by
  induction vs generalizing rows with
  | nil => intro k h; simp
  | cons x t ih =>
    intro k h
    cases rows with
    | nil => rw [areaF_none, areaF_none]
    | cons y u =>
      cases k with
      | zero => simp at h
      | succ k =>
        simp only [List.take_succ_cons, areaF]
        rw [ih (rows := u) (k := k) (by simpa using h)]
theorem areaF_len {vs : List Vr} {rows : List (List Int)} {a : Int} (h : ∀ l ∈ rows, l.length ≤ 100) : (areaF vs rows a).length ≤ vs.length * 100 := by
  induction vs generalizing rows with
  | nil => rw [areaF_nil]; simp
  | cons x t ih =>
    cases rows with
    | nil => rw [areaF_none]; simp
    | cons y u =>
      have h1 := ih (rows := u) (fun l hl => h l (by simp [hl]))
      have h2 := h y (by simp)
      simp only [areaF, List.length_append, List.length_cons]
      split <;> simp <;> omega
theorem areaF_ints {vs : List Vr} {rows : List (List Int)} {a : Int} (h : ∀ l ∈ rows, ∀ z ∈ l, I64 z) : ∀ z ∈ areaF vs rows a, I64 z := by
  induction vs generalizing rows with
  | nil => rw [areaF_nil]; intro z hz; simp at hz
  | cons x t ih =>
    cases rows with
    | nil => rw [areaF_none]; intro z hz; simp at hz
    | cons y u =>
      intro z hz
      simp only [areaF, List.mem_append] at hz
      rcases hz with hz | hz
      · by_cases hx : x.area = a
        · rw [if_pos hx] at hz; exact h y (by simp) z hz
        · rw [if_neg hx] at hz; simp at hz
      · exact ih (rows := u) (fun l hl => h l (by simp [hl])) z hz
set_option maxHeartbeats 4000000 in
theorem state_AreaO (vv v b : Value) (L : List Vr) (s : St) (ar : Int) (w : World) (hvv : RowR 5 varR w vv L) (h : StAt w v b s) (hsh : shortS s = true) (hL : L.length ≤ 70) :
    Calls Try.prog 19 #[vv, .agg #[v, b, .int .i64 s.now, .int .i64 s.fault], .int .i64 ar] w fun e w' => ∃ r : Value, e = .returned r ∧ w'.ownsRow w.heap.size 3 1 r (areaF L s.vars ar).length (iV (areaF L s.vars ar)) ∧ Below w.heap.size w w' := by
  obtain ⟨s1, s2, s3⟩ : s.vars.length ≤ 100 ∧ s.blocks.length ≤ 100 ∧ ∀ l ∈ s.vars, l.length ≤ 100 := of_decide_eq_true hsh
  obtain ⟨i, hi, hz, hsize, hby⟩ : ∃ i, Try.prog.info? 3 = some i ∧ i.zero = some (.int .i64 0) ∧ i.size = 1 ∧ i.bytes = 8 := ⟨(Try.prog.info? 3).get!, by kernel_rfl, by kernel_rfl, by kernel_rfl, by kernel_rfl⟩
  have hv := h.vs
  have hints := row_ints_all hv
  obtain ⟨sv, cv, rfl⟩ := row_get hvv
  obtain ⟨sa, ca, rfl⟩ := row_get h.vs
  obtain ⟨sb, cb, rfl⟩ := row_get h.bs
  clear h
  generalize hR : s.vars = R at *
  obtain ⟨N, hN⟩ : ∃ N, L.length = N := ⟨_, rfl⟩
  obtain ⟨M, hM⟩ : ∃ N, R.length = N := ⟨_, rfl⟩
  generalize s.blocks.length = NB at *
  have HN := Lib.hid (show L.length = N ∧ R.length = M from ⟨hN, hM⟩)
  have HB := Lib.hid (fun k => areaF_len (vs := L.take k) (a := ar) s3)
  have HI := Lib.hid (areaF_ints (vs := L) (a := ar) hints)
  rw [hN] at hvv hL ⊢
  rw [hM] at hv s1 ⊢
  clear hN hM hR hints
  have cp := @cell_past
  go_enter Try.func19, Try.ntmps19
  go_wp2_with fail
  go_loopw [7, 12] (fun o jj wr => ∃ (k : Nat), k ≤ N ∧ jj = .int .i64 k ∧ Hid (wr.ownsRow (w.heap.size + 1) 3 1 o (areaF (L.take k) R ar).length (iV (areaF (L.take k) R ar))) ∧ Hid (Below (w.heap.size + 1) (w.alloc (.cells #[.slice sa M ca, .slice sb NB cb, .int .i64 s.now, .int .i64 s.fault] 31)) wr)) (fun _ jj _ => N - (intOf jj).toNat)
  case atStart => exact ⟨0, by omega, rfl, Lib.hid (by simp [areaF_nil, iV]; exact World.ownsRow_nil _ _ _ _), Lib.hid (Below.refl _ _)⟩
  case round =>
    obtain ⟨k, hk, rfl, hO, hBw⟩ := hrel
    have z0 : w.heap.size < wr.heap.size := by have := hBw.out.size; simp at this; omega
    have hB0 : Below w.heap.size w wr := Below.trans (by (repeat' (first | (with_reducible exact Below.refl _ _) | (with_reducible assumption) | (with_reducible refine below_drewN ?_ _) | (with_reducible refine Below.alloc ?_ ?_ _) | (with_reducible refine Below.drew ?_) | (with_reducible refine Below.setCell ?_ ?_ _) | go_size))) (hBw.out.mono (by omega))
    obtain ⟨e0, e1, e2, e3⟩ := C4.new w _ _ _ _ _ hBw.out
    by_cases hlt : k < N
    · obtain ⟨x, hx⟩ := get_some (L := L) (n := k) (by have := HN.out.1; omega)
      obtain ⟨bb, off, rfl, hbw, hc⟩ := var_at hvv (k := k) (lt_of_get hx)
      obtain ⟨c0, c1, c2, c3, c4, _⟩ := hc k x hx
      have c0 := (hB0.cell (p := ⟨bb, off + k * 5, none⟩) hbw).trans c0
      have c1 := (hB0.cell (p := ⟨bb, off + k * 5 + 1, none⟩) hbw).trans c1
      have c2 := (hB0.cell (p := ⟨bb, off + k * 5 + 2, none⟩) hbw).trans c2
      have c3 := (hB0.cell (p := ⟨bb, off + k * 5 + 3, none⟩) hbw).trans c3
      have c4 := (hB0.cell (p := ⟨bb, off + k * 5 + 4, none⟩) hbw).trans c4
      have HX := Lib.hid hx
      clear hc hx
      generalize (⟨x.name.toArray⟩ : ByteArray) = nm at *
      by_cases ha : x.area = ar
      · have qa : (x.area == ar) = true := by simpa using ha
        by_cases hkm : k < M
        · have qm : ((k : Int) < (M : Int)) = True := eq_true (by omega)
          obtain ⟨lr, hr⟩ := get_some (L := R) (n := k) (by have := HN.out.2; omega)
          obtain ⟨b2, off2, rfl, hbw2, hd⟩ := rows_at hv (k := k) (lt_of_get hr)
          obtain ⟨u, d0, hu⟩ := hd k lr hr
          have d0 := (hB0.cell (p := ⟨b2, off2 + k, none⟩) hbw2).trans d0
          have hlr := s3 lr (List.mem_of_getElem? hr)
          have hb2r : b2 < wr.heap.size := Nat.lt_of_lt_of_le hbw2 hB0.size
          have hsn := Lib.hid (areaF_snoc (a := ar) HX.out hr)
          rw [if_pos ha] at hsn
          have hsrc := (src_ints hu).below hB0
          obtain ⟨su, cu, rfl⟩ := row_get hu
          obtain ⟨m, hm⟩ : ∃ m, lr.length = m := ⟨_, rfl⟩
          have Hm := Lib.hid hm
          rw [hm] at hsrc hlr d0
          have Hsrc := Lib.hid (fun W (hW : Below wr.heap.size wr W) => hsrc.below hW)
          have Hown := Lib.hid (fun W (hW : Below wr.heap.size wr W) => owns_below hO.out hW)
          have hbz := HB.out k
          have hbz1 : (areaF (L.take k) R ar).length ≤ 7000 := by
            have : (L.take k).length ≤ 70 := by have := HN.out.1; simp; omega
            omega
          clear hd hr hu hsrc hm ha hbz
          generalize hAF : areaF (L.take k) R ar = AF at *
          have HAF := Lib.hid hAF
          clear hAF
          generalize hna : AF.length = na at *
          have Hna := Lib.hid hna
          clear hna
          go_wp2_with (first | (at_builtin; go_loud (refine wpList_append_src rfl (.tmp 28) (.tmp 33) 45 rfl (w.heap.size + 1) 3 i (.int .i64 0) 1 8 Try.underlying45 hi hz hsize hby rfl (by omega) _ na (iV AF) rfl (Hown.out _ (by (repeat' (first | (with_reducible exact Below.refl _ _) | (with_reducible assumption) | (with_reducible refine below_drewN ?_ _) | (with_reducible refine Below.alloc ?_ ?_ _) | (with_reducible refine Below.drew ?_) | (with_reducible refine Below.setCell ?_ ?_ _) | go_size)))) _ m (iV lr) rfl (Hsrc.out _ (by (repeat' (first | (with_reducible exact Below.refl _ _) | (with_reducible assumption) | (with_reducible refine below_drewN ?_ _) | (with_reducible refine Below.alloc ?_ ?_ _) | (with_reducible refine Below.drew ?_) | (with_reducible refine Below.setCell ?_ ?_ _) | go_size)))) (by rw [iV_len, Hm.out]; omega) (iV_one lr) (by unfold maxLen; omega) (by omega) (by simp; omega) ?_; intro v2 w2 hO2 hG2; have hB2 := Lib.hid (grown3 (Below.trans hBw.out (show Below (w.heap.size + 1) wr (wr.alloc _) from (show Below wr.heap.size wr _ by (repeat' (first | (with_reducible exact Below.refl _ _) | (with_reducible assumption) | (with_reducible refine below_drewN ?_ _) | (with_reducible refine Below.alloc ?_ ?_ _) | (with_reducible refine Below.drew ?_) | (with_reducible refine Below.setCell ?_ ?_ _) | go_size))).mono (by omega))) (by simp; omega) (Hown.out _ (by (repeat' (first | (with_reducible exact Below.refl _ _) | (with_reducible assumption) | (with_reducible refine below_drewN ?_ _) | (with_reducible refine Below.alloc ?_ ?_ _) | (with_reducible refine Below.drew ?_) | (with_reducible refine Below.setCell ?_ ?_ _) | go_size)))) hG2); have HO2 := Lib.hid hO2; clear hO2 hG2)) | fail)
          go_roundw
          case rel => exact ⟨k + 1, by omega, by simp, Lib.hid (by rw [hsn.out]; exact own_eq2 HO2.out (by simp [Hm.out, Hna.out]) (by rw [iV_app])), hB2⟩
          case measure => first | (simp [intOf]; done) | (simp [intOf]; omega)
        · have qm : ((k : Int) < (M : Int)) = False := eq_false (by omega)
          have hsn := Lib.hid (show areaF (L.take (k + 1)) R ar = areaF (L.take k) R ar by rw [areaF_past (k := k + 1) (by have := HN.out.2; omega), areaF_past (k := k) (by have := HN.out.2; omega)])
          have Hown := Lib.hid (fun W (hW : Below wr.heap.size wr W) => owns_below hO.out hW)
          clear ha
          go_wp2_with fail
          go_roundw
          case rel => exact ⟨k + 1, by omega, by simp, Lib.hid (by rw [hsn.out]; exact Hown.out _ (by (repeat' (first | (with_reducible exact Below.refl _ _) | (with_reducible assumption) | (with_reducible refine below_drewN ?_ _) | (with_reducible refine Below.alloc ?_ ?_ _) | (with_reducible refine Below.drew ?_) | (with_reducible refine Below.setCell ?_ ?_ _) | go_size)))), Lib.hid (Below.trans hBw.out ((show Below wr.heap.size wr _ by (repeat' (first | (with_reducible exact Below.refl _ _) | (with_reducible assumption) | (with_reducible refine below_drewN ?_ _) | (with_reducible refine Below.alloc ?_ ?_ _) | (with_reducible refine Below.drew ?_) | (with_reducible refine Below.setCell ?_ ?_ _) | go_size))).mono (by omega)))⟩
          case measure => first | (simp [intOf]; done) | (simp [intOf]; omega)
      · have qa : (x.area == ar) = false := by simpa using ha
        have hsn := Lib.hid (show areaF (L.take (k + 1)) R ar = areaF (L.take k) R ar by
          by_cases hkm : k < M
          · obtain ⟨lr, hr⟩ := get_some (L := R) (n := k) (by have := HN.out.2; omega)
            rw [areaF_snoc HX.out hr, if_neg ha, List.append_nil]
          · rw [areaF_past (k := k + 1) (by have := HN.out.2; omega), areaF_past (k := k) (by have := HN.out.2; omega)])
        have Hown := Lib.hid (fun W (hW : Below wr.heap.size wr W) => owns_below hO.out hW)
        clear ha
        go_wp2_with fail
        go_roundw
        case rel => exact ⟨k + 1, by omega, by simp, Lib.hid (by rw [hsn.out]; exact Hown.out _ (by (repeat' (first | (with_reducible exact Below.refl _ _) | (with_reducible assumption) | (with_reducible refine below_drewN ?_ _) | (with_reducible refine Below.alloc ?_ ?_ _) | (with_reducible refine Below.drew ?_) | (with_reducible refine Below.setCell ?_ ?_ _) | go_size)))), Lib.hid (Below.trans hBw.out ((show Below wr.heap.size wr _ by (repeat' (first | (with_reducible exact Below.refl _ _) | (with_reducible assumption) | (with_reducible refine below_drewN ?_ _) | (with_reducible refine Below.alloc ?_ ?_ _) | (with_reducible refine Below.drew ?_) | (with_reducible refine Below.setCell ?_ ?_ _) | go_size))).mono (by omega)))⟩
        case measure => first | (simp [intOf]; done) | (simp [intOf]; omega)
    · obtain rfl : k = N := by omega
      have hrow := Lib.hid (show wr.ownsRow w.heap.size 3 1 _ (areaF L R ar).length (iV (areaF L R ar)) by
        have h1 := hO.out
        rw [List.take_of_length_le (by have := HN.out.1; omega)] at h1
        exact own_low h1 (by omega))
      obtain ⟨ao, co, rfl⟩ := owns_form hO.out
      go_wp2_with fail
      go_returns
      exact ⟨_, rfl, hrow.out, hB0⟩
theorem state_Area (vv v b : Value) (L : List Vr) (s : St) (ar : Int) (w : World) (hvv : RowR 5 varR w vv L) (h : StAt w v b s) (hsh : shortS s = true) (hL : L.length ≤ 70) :
    Calls Try.prog 19 #[vv, .agg #[v, b, .int .i64 s.now, .int .i64 s.fault], .int .i64 ar] w fun e w' => ∃ r : Value, e = .returned r ∧ RowR 1 intR w' r (areaF L s.vars ar) ∧ Below w.heap.size w w' := by
  obtain ⟨s1, s2, s3⟩ : s.vars.length ≤ 100 ∧ s.blocks.length ≤ 100 ∧ ∀ l ∈ s.vars, l.length ≤ 100 := of_decide_eq_true hsh
  have HI := areaF_ints (vs := L) (a := ar) (row_ints_all h.vs)
  refine (state_AreaO vv v b L s ar w hvv h hsh hL).mono ?_
  rintro e w' ⟨r, he, hr, hb⟩
  exact ⟨r, he, row_of_owns hr HI, hb⟩
end Go.Proofs.Ythanmbfelihkfaa
