/- Layer 14: a variable's row, and a table of variables as bytes. -/
import Derived.Test.YtdpcfcflcfjmjaaTabPutW
import Derived.Test.YtdpcfcflcfjmjaaTabPutX
namespace Go.Proofs.Ytdpcfcflcfjmjaa
open Go.RowKit
set_option linter.unusedSimpArgs false
set_option linter.unusedVariables false
theorem tab_PutVar (x : Vr) (w : World) (hs : x.name.length ≤ 1000000) (w1 : I64 x.t) (w2 : I64 x.n) (w3 : I64 x.area) :
    Calls Try.prog 36 #[.agg #[.string ⟨x.name.toArray⟩, .int .i64 x.t, .int .i64 x.n, .int .i64 x.area, .int .i64 x.init]] w fun e w' => ∃ r, e = .returned (.tuple #[r, .bool (varOk x)]) ∧ (x.name.length ≤ 255 → w'.ownsRow (w.heap.size + 1) 5 1 r (varL x).length (bytesV (varL x))) ∧ Below w.heap.size w w' := by
  obtain ⟨i, hi, hz, hsize, hby⟩ : ∃ i, Try.prog.info? 5 = some i ∧ i.zero = some (.int .u8 0) ∧ i.size = 1 ∧ i.bytes = 1 := ⟨(Try.prog.info? 5).get!, by kernel_rfl, by kernel_rfl, by kernel_rfl, by kernel_rfl⟩
  have hsz : (⟨x.name.toArray⟩ : ByteArray).size = x.name.length := by simp [ByteArray.size]
  go_enter Try.func36, Try.ntmps36
  go_wp2
  obtain ⟨W0, hW0⟩ : ∃ W0, W0 = w.alloc (.cells #[.string ⟨x.name.toArray⟩, .int .i64 x.t, .int .i64 x.n, .int .i64 x.area, .int .i64 x.init] 34) := ⟨_, rfl⟩
  have bx := Boxed.new w [.string ⟨x.name.toArray⟩, .int .i64 x.t, .int .i64 x.n, .int .i64 x.area, .int .i64 x.init] 34 (Below.refl _ _)
  have C0 := bx 0 _ rfl
  have C1 := bx 1 _ rfl
  have C2 := bx 2 _ rfl
  have C3 := bx 3 _ rfl
  have C4 := bx 4 _ rfl
  clear bx
  rw [← hW0] at C0 C1 C2 C3 C4
  have hz0 : w.heap.size < W0.heap.size := by rw [hW0]; simp
  have hz1 : W0.heap.size = w.heap.size + 1 := by rw [hW0]; simp
  rw [← hW0]
  obtain ⟨T, hT⟩ : ∃ T, T = [UInt8.ofNat (cut255 ⟨x.name.toArray⟩).size] ++ (cut255 ⟨x.name.toArray⟩).data.toList := ⟨_, rfl⟩
  obtain ⟨M, hM⟩ : ∃ M, M = 1 + (cut255 ⟨x.name.toArray⟩).size := ⟨_, rfl⟩
  have hM1 : M ≤ 1000 := by
    rw [hM]; unfold cut255
    split
    · simp; omega
    · rename_i h; rw [hsz] at h ⊢; omega
  have hTM : T.length = M := by rw [hT, hM]; simp; omega
  have HTX := Lib.hid (fun W : World => (octet_Text (.slice none 0 0) [] ⟨x.name.toArray⟩ W (Or.inl ⟨none, 0, rfl, rfl, fun _ => rfl⟩) (by simp)).mono (R' := fun e w' => ∃ r, e = .returned r ∧ w'.ownsRow W.heap.size 5 1 r M (bytesV T) ∧ Below W.heap.size W w') (by rintro e w' ⟨r, h1, h2, h3⟩; exact ⟨r, h1, by rw [hT, hM]; simpa using h2, h3⟩))
  have HVL := Lib.hid (fun h : x.name.length ≤ 255 => (show T ++ [byteO x.t, byteO x.n, byteO x.area] ++ putL 8 x.init = varL x by
    rw [hT]; unfold varL cut255; rw [hsz, if_neg (by omega), hsz]; simp))
  clear hT hM
  refine Code.wp_mono ?_ (putVar_r1 W0 w.heap.size x i hi hz hsize hby w1 w2 w3 C0 C1 C2 C3 C4 hz0 M T hM1 HTX _ _ _ _ _ _ _ _ _ _ _ _ _ _ _ _ _ _ _ _ _ _ _ _ _ _ _ _ _ _ _ _ _ _)
  rintro e bb v ⟨rfl, u4, u5, u6, u7, u8, u9, u10, u11, u12, u13, u14, u15, u16, rfl, hH, g12⟩
  have hHs := hH.size
  have hl : (T ++ [byteO x.t, byteO x.n, byteO x.area]).length = M + 3 := by rw [List.length_append, hTM]; rfl
  have g12 : v.ownsRow W0.heap.size 5 1 u4 (T ++ [byteO x.t, byteO x.n, byteO x.area]).length (bytesV (T ++ [byteO x.t, byteO x.n, byteO x.area])) := by rw [hl]; simpa [bytesV] using g12
  have D0 := cellB hH C0 hz0
  have D1 := cellB hH C1 hz0
  have D2 := cellB hH C2 hz0
  have D3 := cellB hH C3 hz0
  have D4 := cellB hH C4 hz0
  have HB := Lib.hid (show Below w.heap.size w W0 by rw [hW0]; exact (Below.refl _ _).alloc (Nat.le_refl _) _)
  generalize hl2 : T ++ [byteO x.t, byteO x.n, byteO x.area] = T2 at *
  clear hW0 HTX C0 C1 C2 C3 C4
  by_cases h255 : x.name.length ≤ 255
  · have hok : varOk x = (fitB x.t && (fitB x.n && fitB x.area)) := by unfold varOk; rw [decide_eq_true h255]; rfl
    go_wp2
    refine Code.wp_mono ?_ (putVar_r2 v w.heap.size x i hi hz hsize hby w1 w2 w3 D0 D1 D2 D3 D4 (by omega) u4 T2 (by omega) _ g12 (eq_true (by omega)) _ _ _ _ _ _ _ _ _ _ _ _ _ _ _ _ _ _ _ _ _ _ _ _ _ _ _ _ _ _ _ _ _)
    rintro e bb v' ⟨rfl, u2, u3, u17, u18, u19, u20, u21, u22, u23, u24, u25, u26, u27, u28, u29, u30, u31, u32, u33, u34, rfl, hH2, g18, rfl⟩
    go_wp2_with fail
    go_returns
    refine ⟨_, by rw [hok]; rfl, fun _ => ?_, HB.out.trans ((hH.trans (hH2.mono hHs)).mono (by omega))⟩
    have hv := HVL.out h255
    rw [← hv, List.length_append, putL_len, ← hz1]
    exact own_low g18 hHs
  · have hok : varOk x = false := by unfold varOk; rw [decide_eq_false h255]; rfl
    go_wp2
    refine Code.wp_mono ?_ (putVar_r2n v w.heap.size x i hi hz hsize hby w1 w2 w3 D0 D1 D2 D3 D4 (by omega) u4 T2 (by omega) _ g12 (eq_false (by omega)) _ _ _ _ _ _ _ _ _ _ _ _ _ _ _ _ _ _ _ _ _ _ _ _ _ _ _ _ _ _ _ _ _)
    rintro e bb v' ⟨rfl, u2, u3, u17, u18, u19, u20, u21, u22, u23, u24, u25, u26, u27, u28, u29, u30, u31, u32, u33, u34, rfl, hH2, g18, rfl⟩
    go_wp2_with fail
    go_returns
    exact ⟨_, by rw [hok]; rfl, fun h => absurd h h255, HB.out.trans ((hH.trans (hH2.mono hHs)).mono (by omega))⟩
set_option maxHeartbeats 4000000 in
theorem tab_put_vars (v : Value) (L : List Vr) (w : World) (hv : RowR 5 varR w v L) (hn : ∀ x ∈ L, x.name.length ≤ 1000000) (hlen : L.length ≤ 64) :
    Calls Try.prog 35 #[v, .int .i64 64, .func (.func 36) #[] #[]] w fun e w' => ∃ r, e = .returned (.tuple #[r, .bool (L.all varOk)]) ∧ (L.all varOk = true → w'.ownsRow w.heap.size 5 1 r (2 + (varsL L).length) (bytesV (putL 2 L.length ++ varsL L))) ∧ (L.all varOk = false → r = .slice none 0 0) ∧ Below w.heap.size w w' := by
  obtain ⟨i, hi, hz, hsize, hby⟩ : ∃ i, Try.prog.info? 5 = some i ∧ i.zero = some (.int .u8 0) ∧ i.size = 1 ∧ i.bytes = 1 := ⟨(Try.prog.info? 5).get!, by kernel_rfl, by kernel_rfl, by kernel_rfl, by kernel_rfl⟩
  obtain ⟨sa, ca, rfl⟩ := row_get hv
  have HY := Lib.hid (show L.take L.length = L from List.take_length)
  have cp := @cell_past
  obtain ⟨n, hN⟩ : ∃ n, L.length = n := ⟨_, rfl⟩
  rw [hN] at hv hlen HY ⊢
  have q0 : (64 < (n : Int)) = False := eq_false (by omega)
  go_enter Try.func35, Try.ntmps35
  go_wp2_with fail
  refine (octet_Put (.slice none 0 0) [] 2 (n : Int) _ (Or.inl ⟨none, 0, rfl, rfl, fun _ => rfl⟩) (by simp)).mono ?_; rintro e w1 ⟨r1, rfl, hO1, hb1⟩
  have hO1 : w1.ownsRow w.heap.size 5 1 r1 2 (bytesV (putL 2 n)) := hO1
  go_wp2_with fail
  go_loopw [8, 22] (fun o j wr => ∃ k : Nat, k ≤ n ∧ j = .int .i64 k ∧ Hid ((L.take k).all varOk = true) ∧ Hid (wr.ownsRow w.heap.size 5 1 o (2 + (varsL (L.take k)).length) (bytesV (putL 2 n ++ varsL (L.take k)))) ∧ Below w.heap.size w wr) (fun _ j _ => n - (intOf j).toNat)
  case atStart => exact ⟨0, by omega, rfl, Lib.hid (by simp), Lib.hid (by simpa [varsL] using hO1), hb1⟩
  case round =>
    obtain ⟨k, hk, rfl, hall, hO, hB⟩ := hrel
    have hz' := hB.size
    by_cases hlt : k < n
    · obtain ⟨x, hx⟩ : ∃ x, L[k]? = some x := get_some (by omega)
      obtain ⟨b, off, rfl, hbw, hc⟩ := var_at hv (k := k) (by omega)
      obtain ⟨c0, c1, c2, c3, c4, _, w1, w2, w3, _⟩ := hc k x hx
      have c0 := (hB.cell (p := ⟨b, off + k * 5, none⟩) hbw).trans c0
      have c1 := (hB.cell (p := ⟨b, off + k * 5 + 1, none⟩) hbw).trans c1
      have c2 := (hB.cell (p := ⟨b, off + k * 5 + 2, none⟩) hbw).trans c2
      have c3 := (hB.cell (p := ⟨b, off + k * 5 + 3, none⟩) hbw).trans c3
      have c4 := (hB.cell (p := ⟨b, off + k * 5 + 4, none⟩) hbw).trans c4
      clear hc
      have hn1 := hn x (List.mem_of_getElem? hx)
      have hts := Lib.hid (take_snoc hx)
      have hmem := Lib.hid (List.mem_of_getElem? hx)
      have hno := Lib.hid (fun h : varOk x = false => (show L.all varOk = false from List.all_eq_false.2 ⟨x, hmem.out, by simp [h]⟩))
      have hlb := Lib.hid (fun h : varOk x = true => (show x.name.length ≤ 255 by unfold varOk at h; simp at h; exact h.1))
      have hbl : (varsL (L.take k)).length ≤ 1000000 := by have := varsL_len (L.take k) hall.out; rw [List.length_take] at this; omega
      have HE := Lib.hid (tab_PutVar x (wr.alloc (.cells #[.string ⟨x.name.toArray⟩, .int .i64 x.t, .int .i64 x.n, .int .i64 x.area, .int .i64 x.init] 34)) hn1 w1 w2 w3)
      have hz2 : (wr.alloc (.cells #[.string ⟨x.name.toArray⟩, .int .i64 x.t, .int .i64 x.n, .int .i64 x.area, .int .i64 x.init] 34)).heap.size = wr.heap.size + 1 := by simp
      clear hx hmem hn1 hn
      cases hr : varOk x
      · have hA := Lib.hid (hno.out hr)
        rw [hr] at HE
        clear hno hlb hr
        go_wp2_with fail
        refine HE.out.mono ?_; rintro e w2 ⟨r2, rfl, hr2, hb2⟩
        have hB2 : Below w.heap.size w w2 := (hB.alloc hz' _).trans (hb2.mono (by rw [hz2]; omega))
        clear hr2
        go_wp2_with fail
        go_returns
        exact ⟨_, by rw [hA.out]; rfl, fun h => (by rw [hA.out] at h; cases h), fun _ => rfl, hB2⟩
      · have hl255 := hlb.out hr
        rw [hr] at HE
        go_wp2_with fail
        refine HE.out.mono ?_; rintro e w2 ⟨r2, rfl, hr2, hb2⟩
        have hO2 := Lib.hid (hr2 hl255)
        have hB2 : Below w.heap.size w w2 := (hB.alloc hz' _).trans (hb2.mono (by rw [hz2]; omega))
        have hbn : Below wr.heap.size wr w2 := ((Below.refl _ _).alloc (Nat.le_refl _) _).trans (hb2.mono (by rw [hz2]; omega))
        have hO3 := Lib.hid (owns_below hO.out hbn)
        have hz3 := hB2.size
        have hl257 := varL_len x
        go_wp2_with (first | (at_builtin; go_loud (refine wpList_append_src rfl (.tmp 34) (.tmp 35) 23 rfl w.heap.size 5 i (.int .u8 0) 1 1 Try.underlying23 hi hz hsize hby rfl (by omega) _ (2 + (varsL (L.take k)).length) _ rfl hO3.out _ (varL x).length _ rfl (src_own hO2.out) (by simp [bytesV]) (bytesV_one _) (by unfold maxLen; omega) (by omega) hz3 ?_; intro v3 w3 hO4 hG3; have hB3 := Lib.hid (grown3 hB2 hz3 hO3.out hG3); have HO4 := Lib.hid hO4; clear hO4 hG3)) | fail)
        go_roundw
        case rel => exact ⟨k + 1, by omega, by simp, Lib.hid (by rw [hts.out, List.all_append, hall.out]; simp [hr]), Lib.hid (own_eq2 HO4.out (by rw [hts.out, varsL_snoc, List.length_append]; omega) (by rw [hts.out, varsL_snoc]; simp [bytesV])), hB3.out⟩
        case measure => first | (simp [intOf]; done) | (simp [intOf]; omega)
    · obtain rfl : k = n := by omega
      have hA := Lib.hid (show L.all varOk = true by have := hall.out; rwa [HY.out] at this)
      go_wp2_with fail
      go_returns
      exact ⟨_, by rw [hA.out]; rfl, fun _ => (by have := hO.out; rwa [HY.out] at this), fun h => (by rw [hA.out] at h; cases h), hB⟩
theorem tab_putV_long (v : Value) (L : List Vr) (w : World) (hv : RowR 5 varR w v L) (hlen : 64 < L.length) :
    Calls Try.prog 35 #[v, .int .i64 64, .func (.func 36) #[] #[]] w fun e w' => e = .returned (.tuple #[.slice none 0 0, .bool false]) ∧ Below w.heap.size w w' := by
  have hl := hv.len
  obtain ⟨sa, ca, rfl⟩ := row_get hv
  obtain ⟨n, hN⟩ : ∃ n, L.length = n := ⟨_, rfl⟩
  rw [hN] at hv hlen hl ⊢
  have q0 : (64 < (n : Int)) = True := eq_true (by omega)
  go_enter Try.func35, Try.ntmps35
  go_wp2_with fail
  go_returns
  exact ⟨rfl, by (repeat' (first | (with_reducible exact Below.refl _ _) | (with_reducible assumption) | (with_reducible refine below_drewN ?_ _) | (with_reducible refine Below.alloc ?_ ?_ _) | (with_reducible refine Below.drew ?_) | (with_reducible refine Below.setCell ?_ ?_ _) | go_size))⟩
/-- what PutBlocks tells -/
def PutsV (w : World) (L : List Vr) (e : Ending) (w' : World) : Prop :=
  ∃ r, e = .returned (.tuple #[r, .bool (okVs L)]) ∧ (okVs L = true → w'.ownsRow w.heap.size 5 1 r (2 + (varsL L).length) (bytesV (putL 2 L.length ++ varsL L))) ∧ (okVs L = false → r = .slice none 0 0) ∧ Below w.heap.size w w'
theorem tab_putV_any (v : Value) (L : List Vr) (w : World) (hv : RowR 5 varR w v L) (hn : ∀ x ∈ L, x.name.length ≤ 1000000) :
    Calls Try.prog 35 #[v, .int .i64 64, .func (.func 36) #[] #[]] w (PutsV w L) := by
  by_cases h : L.length ≤ 64
  · have ho : okVs L = L.all varOk := by unfold okVs; rw [decide_eq_true h]; rfl
    refine (tab_put_vars v L w hv hn h).mono ?_
    rintro e w' ⟨r, rfl, h1, h2, h3⟩
    exact ⟨r, by rw [ho], by rw [ho]; exact h1, by rw [ho]; exact h2, h3⟩
  · have ho : okVs L = false := by unfold okVs; rw [decide_eq_false h]; rfl
    refine (tab_putV_long v L w hv (by omega)).mono ?_
    rintro e w' ⟨rfl, h3⟩
    exact ⟨_, by rw [ho], fun h => (by rw [ho] at h; cases h), fun _ => rfl, h3⟩
theorem tab_PutVars (v : Value) (L : List Vr) (w : World) (hv : RowR 5 varR w v L) (hn : ∀ x ∈ L, x.name.length ≤ 1000000) :
    Calls Try.prog 12 #[v] w (PutsV w L) := by
  have HP := Lib.hid (tab_putV_any v L w hv hn)
  obtain ⟨sa, ca, rfl⟩ := row_get hv
  clear hv
  go_enter Try.func12, Try.ntmps12
  go_wp2_with fail
  refine HP.out.mono ?_; rintro e w1 ⟨r, rfl, h1, h2, h3⟩
  have H1 := Lib.hid h1
  have H2 := Lib.hid h2
  clear h1 h2 HP
  go_wp2_with fail
  go_returns
  exact ⟨r, rfl, H1.out, H2.out, h3⟩
end Go.Proofs.Ytdpcfcflcfjmjaa
