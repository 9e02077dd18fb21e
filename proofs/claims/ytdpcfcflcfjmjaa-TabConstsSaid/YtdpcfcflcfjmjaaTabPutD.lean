/- Layer 14: a table of constants as bytes. -/
import Derived.Test.YtdpcfcflcfjmjaaTabPutC
namespace Go.Proofs.Ytdpcfcflcfjmjaa
open Go.RowKit
set_option linter.unusedSimpArgs false
set_option linter.unusedVariables false
set_option maxHeartbeats 4000000 in
theorem tab_put_consts (v : Value) (L : List (Int × Int)) (w : World) (hv : RowR 2 constR w v L) (hlen : L.length ≤ 1024) :
    Calls Try.prog 22 #[v, .int .i64 1024, .func (.func 23) #[] #[]] w fun e w' => ∃ r, e = .returned (.tuple #[r, .bool (L.all cstOk)]) ∧ (L.all cstOk = true → w'.ownsRow w.heap.size 5 1 r (2 + (cstsL L).length) (bytesV (putL 2 L.length ++ cstsL L))) ∧ (L.all cstOk = false → r = .slice none 0 0) ∧ Below w.heap.size w w' := by
  obtain ⟨i, hi, hz, hsize, hby⟩ : ∃ i, Try.prog.info? 5 = some i ∧ i.zero = some (.int .u8 0) ∧ i.size = 1 ∧ i.bytes = 1 := ⟨(Try.prog.info? 5).get!, by kernel_rfl, by kernel_rfl, by kernel_rfl, by kernel_rfl⟩
  obtain ⟨sa, ca, rfl⟩ := row_get hv
  have HY := Lib.hid (show L.take L.length = L from List.take_length)
  have cp := @cell_past
  obtain ⟨n, hN⟩ : ∃ n, L.length = n := ⟨_, rfl⟩
  rw [hN] at hv hlen HY ⊢
  have q0 : (1024 < (n : Int)) = False := eq_false (by omega)
  go_enter Try.func22, Try.ntmps22
  go_wp2_with fail
  refine (octet_Put (.slice none 0 0) [] 2 (n : Int) _ (Or.inl ⟨none, 0, rfl, rfl, fun _ => rfl⟩) (by simp)).mono ?_; rintro e w1 ⟨r1, rfl, hO1, hb1⟩
  have hO1 : w1.ownsRow w.heap.size 5 1 r1 2 (bytesV (putL 2 n)) := hO1
  go_wp2_with fail
  go_loopw [8, 22] (fun o j wr => ∃ k : Nat, k ≤ n ∧ j = .int .i64 k ∧ Hid ((L.take k).all cstOk = true) ∧ Hid (wr.ownsRow w.heap.size 5 1 o (2 + (cstsL (L.take k)).length) (bytesV (putL 2 n ++ cstsL (L.take k)))) ∧ Below w.heap.size w wr) (fun _ j _ => n - (intOf j).toNat)
  case atStart => exact ⟨0, by omega, rfl, Lib.hid (by simp), Lib.hid (by simpa [cstsL] using hO1), hb1⟩
  case round =>
    obtain ⟨k, hk, rfl, hall, hO, hB⟩ := hrel
    have hz' := hB.size
    by_cases hlt : k < n
    · obtain ⟨x, hx⟩ : ∃ x, L[k]? = some x := get_some (by omega)
      obtain ⟨b, off, rfl, hbw, hc⟩ := const_at hv (k := k) (by omega)
      obtain ⟨c0, c1, c2, c3⟩ := hc k x hx
      have c0 := (hB.cell (p := ⟨b, off + k * 2, none⟩) hbw).trans c0
      have c1 := (hB.cell (p := ⟨b, off + k * 2 + 1, none⟩) hbw).trans c1
      clear hc
      have hts := Lib.hid (take_snoc hx)
      have hmem := Lib.hid (List.mem_of_getElem? hx)
      have hno := Lib.hid (fun h : cstOk x = false => (show L.all cstOk = false from List.all_eq_false.2 ⟨x, hmem.out, by simp [h]⟩))
      have hbl : (cstsL (L.take k)).length ≤ 1000000 := by have := cstsL_len (L.take k); rw [List.length_take] at this; omega
      have HE := Lib.hid (tab_PutConst x (wr.alloc (.cells #[.int .i64 x.1, .int .i64 x.2] 50)) c2)
      have hz2 : (wr.alloc (.cells #[.int .i64 x.1, .int .i64 x.2] 50)).heap.size = wr.heap.size + 1 := by simp
      clear hx hmem
      cases hr : cstOk x
      · have hA := Lib.hid (hno.out hr)
        rw [hr] at HE
        clear hno hr
        go_wp2_with fail
        refine HE.out.mono ?_; rintro e w2 ⟨r2, rfl, hr2, hb2⟩
        have hB2 : Below w.heap.size w w2 := (hB.alloc hz' _).trans (hb2.mono (by rw [hz2]; omega))
        clear hr2
        go_wp2_with fail
        go_returns
        exact ⟨_, by rw [hA.out]; rfl, fun h => (by rw [hA.out] at h; cases h), fun _ => rfl, hB2⟩
      · rw [hr] at HE
        go_wp2_with fail
        refine HE.out.mono ?_; rintro e w2 ⟨r2, rfl, hr2, hb2⟩
        have hO2 := Lib.hid hr2
        have hB2 : Below w.heap.size w w2 := (hB.alloc hz' _).trans (hb2.mono (by rw [hz2]; omega))
        have hbn : Below wr.heap.size wr w2 := ((Below.refl _ _).alloc (Nat.le_refl _) _).trans (hb2.mono (by rw [hz2]; omega))
        have hO3 := Lib.hid (owns_below hO.out hbn)
        have hz3 := hB2.size
        have hl257 := cstL_len x
        go_wp2_with (first | (at_builtin; go_loud (refine wpList_append_src rfl (.tmp 34) (.tmp 35) 23 rfl w.heap.size 5 i (.int .u8 0) 1 1 Try.underlying23 hi hz hsize hby rfl (by omega) _ (2 + (cstsL (L.take k)).length) _ rfl hO3.out _ 9 _ rfl (src_own hO2.out) (by rw [bytesV_len, cstL_len]) (bytesV_one _) (by unfold maxLen; omega) (by omega) hz3 ?_; intro v3 w3 hO4 hG3; have hB3 := Lib.hid (grown3 hB2 hz3 hO3.out hG3); have HO4 := Lib.hid hO4; clear hO4 hG3)) | fail)
        go_roundw
        case rel => exact ⟨k + 1, by omega, by simp, Lib.hid (by rw [hts.out, List.all_append, hall.out]; simp [hr]), Lib.hid (own_eq2 HO4.out (by rw [hts.out, cstsL_snoc, List.length_append, cstL_len]; omega) (by rw [hts.out, cstsL_snoc]; simp [bytesV])), hB3.out⟩
        case measure => first | (simp [intOf]; done) | (simp [intOf]; omega)
    · obtain rfl : k = n := by omega
      have hA := Lib.hid (show L.all cstOk = true by have := hall.out; rwa [HY.out] at this)
      go_wp2_with fail
      go_returns
      exact ⟨_, by rw [hA.out]; rfl, fun _ => (by have := hO.out; rwa [HY.out] at this), fun h => (by rw [hA.out] at h; cases h), hB⟩
theorem tab_putC_long (v : Value) (L : List (Int × Int)) (w : World) (hv : RowR 2 constR w v L) (hlen : 1024 < L.length) :
    Calls Try.prog 22 #[v, .int .i64 1024, .func (.func 23) #[] #[]] w fun e w' => e = .returned (.tuple #[.slice none 0 0, .bool false]) ∧ Below w.heap.size w w' := by
  have hl := hv.len
  obtain ⟨sa, ca, rfl⟩ := row_get hv
  obtain ⟨n, hN⟩ : ∃ n, L.length = n := ⟨_, rfl⟩
  rw [hN] at hv hlen hl ⊢
  have q0 : (1024 < (n : Int)) = True := eq_true (by omega)
  go_enter Try.func22, Try.ntmps22
  go_wp2_with fail
  go_returns
  exact ⟨rfl, by (repeat' (first | (with_reducible exact Below.refl _ _) | (with_reducible assumption) | (with_reducible refine below_drewN ?_ _) | (with_reducible refine Below.alloc ?_ ?_ _) | (with_reducible refine Below.drew ?_) | (with_reducible refine Below.setCell ?_ ?_ _) | go_size))⟩
/-- what PutBlocks tells -/
def PutsC (w : World) (L : List (Int × Int)) (e : Ending) (w' : World) : Prop :=
  ∃ r, e = .returned (.tuple #[r, .bool (okCs L)]) ∧ (okCs L = true → w'.ownsRow w.heap.size 5 1 r (2 + (cstsL L).length) (bytesV (putL 2 L.length ++ cstsL L))) ∧ (okCs L = false → r = .slice none 0 0) ∧ Below w.heap.size w w'
theorem tab_putC_any (v : Value) (L : List (Int × Int)) (w : World) (hv : RowR 2 constR w v L) :
    Calls Try.prog 22 #[v, .int .i64 1024, .func (.func 23) #[] #[]] w (PutsC w L) := by
  by_cases h : L.length ≤ 1024
  · have ho : okCs L = L.all cstOk := by unfold okCs; rw [decide_eq_true h]; rfl
    refine (tab_put_consts v L w hv h).mono ?_
    rintro e w' ⟨r, rfl, h1, h2, h3⟩
    exact ⟨r, by rw [ho], by rw [ho]; exact h1, by rw [ho]; exact h2, h3⟩
  · have ho : okCs L = false := by unfold okCs; rw [decide_eq_false h]; rfl
    refine (tab_putC_long v L w hv (by omega)).mono ?_
    rintro e w' ⟨rfl, h3⟩
    exact ⟨_, by rw [ho], fun h => (by rw [ho] at h; cases h), fun _ => rfl, h3⟩
theorem tab_PutConsts (v : Value) (L : List (Int × Int)) (w : World) (hv : RowR 2 constR w v L) :
    Calls Try.prog 7 #[v] w (PutsC w L) := by
  have HP := Lib.hid (tab_putC_any v L w hv)
  obtain ⟨sa, ca, rfl⟩ := row_get hv
  clear hv
  go_enter Try.func7, Try.ntmps7
  go_wp2_with fail
  refine HP.out.mono ?_; rintro e w1 ⟨r, rfl, h1, h2, h3⟩
  have H1 := Lib.hid h1
  have H2 := Lib.hid h2
  clear h1 h2 HP
  go_wp2_with fail
  go_returns
  exact ⟨r, rfl, H1.out, H2.out, h3⟩
end Go.Proofs.Ytdpcfcflcfjmjaa
