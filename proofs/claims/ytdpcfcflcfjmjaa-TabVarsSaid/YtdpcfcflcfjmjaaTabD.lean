/- Layer 14: a table of blocks as bytes: the loop. -/
import Derived.Test.YtdpcfcflcfjmjaaTabC
namespace Go.Proofs.Ytdpcfcflcfjmjaa
open Go.RowKit
set_option linter.unusedSimpArgs false
set_option linter.unusedVariables false
def okBs (L : List Bk) : Bool := decide (L.length ≤ 32) && L.all blkOk
theorem blksL_len : ∀ L : List Bk, L.all blkOk = true → (blksL L).length ≤ 257 * L.length
  | [], _ => by simp [blksL]
  | x :: t, h => by
    have h' := h
    rw [List.all_cons, Bool.and_eq_true] at h'
    have h1 := blkL_len (x := x) (by have := h'.1; unfold blkOk at this; simp at this; exact this.1)
    have h2 := blksL_len t h'.2
    have e : blksL (x :: t) = blkL x ++ blksL t := by simp [blksL]
    rw [e, List.length_append, List.length_cons]; omega
set_option maxHeartbeats 4000000 in
theorem tab_put_blocks (v : Value) (L : List Bk) (w : World) (hv : RowR 2 blkR w v L) (hn : ∀ x ∈ L, x.name.length ≤ 1000000) (hlen : L.length ≤ 32) :
    Calls Try.prog 43 #[v, .int .i64 32, .func (.func 44) #[] #[]] w fun e w' => ∃ r, e = .returned (.tuple #[r, .bool (L.all blkOk)]) ∧ (L.all blkOk = true → w'.ownsRow w.heap.size 5 1 r (2 + (blksL L).length) (bytesV (putL 2 L.length ++ blksL L))) ∧ (L.all blkOk = false → r = .slice none 0 0) ∧ Below w.heap.size w w' := by
  obtain ⟨i, hi, hz, hsize, hby⟩ : ∃ i, Try.prog.info? 5 = some i ∧ i.zero = some (.int .u8 0) ∧ i.size = 1 ∧ i.bytes = 1 := ⟨(Try.prog.info? 5).get!, by kernel_rfl, by kernel_rfl, by kernel_rfl, by kernel_rfl⟩
  obtain ⟨sa, ca, rfl⟩ := row_get hv
  have HY := Lib.hid (show L.take L.length = L from List.take_length)
  have cp := @cell_past
  obtain ⟨n, hN⟩ : ∃ n, L.length = n := ⟨_, rfl⟩
  rw [hN] at hv hlen HY ⊢
  have q0 : (32 < (n : Int)) = False := eq_false (by omega)
  go_enter Try.func43, Try.ntmps43
  go_wp2_with fail
  refine (octet_Put (.slice none 0 0) [] 2 (n : Int) _ (Or.inl ⟨none, 0, rfl, rfl, fun _ => rfl⟩) (by simp)).mono ?_; rintro e w1 ⟨r1, rfl, hO1, hb1⟩
  have hO1 : w1.ownsRow w.heap.size 5 1 r1 2 (bytesV (putL 2 n)) := hO1
  go_wp2_with fail
  go_loopw [8, 22] (fun o j wr => ∃ k : Nat, k ≤ n ∧ j = .int .i64 k ∧ Hid ((L.take k).all blkOk = true) ∧ Hid (wr.ownsRow w.heap.size 5 1 o (2 + (blksL (L.take k)).length) (bytesV (putL 2 n ++ blksL (L.take k)))) ∧ Below w.heap.size w wr) (fun _ j _ => n - (intOf j).toNat)
  case atStart => exact ⟨0, by omega, rfl, Lib.hid (by simp), Lib.hid (by simpa [blksL] using hO1), hb1⟩
  case round =>
    obtain ⟨k, hk, rfl, hall, hO, hB⟩ := hrel
    have hz' := hB.size
    by_cases hlt : k < n
    · obtain ⟨x, hx⟩ : ∃ x, L[k]? = some x := get_some (by omega)
      obtain ⟨b, off, rfl, hbw, hc⟩ := blk_at hv (k := k) (by omega)
      obtain ⟨c0, c1, c2, c3⟩ := hc k x hx
      have c0 := (hB.cell (p := ⟨b, off + k * 2, none⟩) hbw).trans c0
      have c1 := (hB.cell (p := ⟨b, off + k * 2 + 1, none⟩) hbw).trans c1
      clear hc
      have hn1 := hn x (List.mem_of_getElem? hx)
      have hts := Lib.hid (take_snoc hx)
      have hmem := Lib.hid (List.mem_of_getElem? hx)
      have hno := Lib.hid (fun h : blkOk x = false => (show L.all blkOk = false from List.all_eq_false.2 ⟨x, hmem.out, by simp [h]⟩))
      have hlb := Lib.hid (fun h : blkOk x = true => (show x.name.length ≤ 255 by unfold blkOk at h; simp at h; exact h.1))
      have hbl : (blksL (L.take k)).length ≤ 1000000 := by have := blksL_len (L.take k) hall.out; rw [List.length_take] at this; omega
      have HE := Lib.hid (tab_PutBlock_any x (wr.alloc (.cells #[.string ⟨x.name.toArray⟩, .int .i64 x.kind] 42)) hn1 c3)
      have hz2 : (wr.alloc (.cells #[.string ⟨x.name.toArray⟩, .int .i64 x.kind] 42)).heap.size = wr.heap.size + 1 := by simp
      clear hx hmem hn1 hn
      cases hr : blkOk x
      · have hA := Lib.hid (hno.out hr)
        rw [hr] at HE
        clear hno hlb hr
        go_wp2_with fail
        refine HE.out.mono ?_; rintro e w2 ⟨r2, rfl, hr2, hb2⟩
        have hB2 : Below w.heap.size w w2 := (hB.alloc hz' _).trans (hb2.mono (by rw [hz2]; omega))
        clear hr2
        go_wp2_with fail
        go_returns
        exact ⟨_, by rw [hA.out]; rfl, fun h => (by rw [hA.out] at h; cases h), fun _ => rfl, hB2⟩
      · have hl255 := hlb.out hr
        rw [hr] at HE
        go_wp2_with fail
        refine HE.out.mono ?_; rintro e w2 ⟨r2, rfl, hr2, hb2⟩
        have hO2 := Lib.hid (hr2 hl255)
        have hB2 : Below w.heap.size w w2 := (hB.alloc hz' _).trans (hb2.mono (by rw [hz2]; omega))
        have hbn : Below wr.heap.size wr w2 := ((Below.refl _ _).alloc (Nat.le_refl _) _).trans (hb2.mono (by rw [hz2]; omega))
        have hO3 := Lib.hid (owns_below hO.out hbn)
        have hz3 := hB2.size
        have hl257 := blkL_len hl255
        go_wp2_with (first | (at_builtin; go_loud (refine wpList_append_src rfl (.tmp 34) (.tmp 35) 23 rfl w.heap.size 5 i (.int .u8 0) 1 1 Try.underlying23 hi hz hsize hby rfl (by omega) _ (2 + (blksL (L.take k)).length) _ rfl hO3.out _ (blkL x).length _ rfl (src_own hO2.out) (by simp [bytesV]) (bytesV_one _) (by unfold maxLen; omega) (by omega) hz3 ?_; intro v3 w3 hO4 hG3; have hB3 := Lib.hid (grown3 hB2 hz3 hO3.out hG3); have HO4 := Lib.hid hO4; clear hO4 hG3)) | fail)
        go_roundw
        case rel => exact ⟨k + 1, by omega, by simp, Lib.hid (by rw [hts.out, List.all_append, hall.out]; simp [hr]), Lib.hid (own_eq2 HO4.out (by rw [hts.out, blksL_snoc, List.length_append]; omega) (by rw [hts.out, blksL_snoc]; simp [bytesV])), hB3.out⟩
        case measure => first | (simp [intOf]; done) | (simp [intOf]; omega)
    · obtain rfl : k = n := by omega
      have hA := Lib.hid (show L.all blkOk = true by have := hall.out; rwa [HY.out] at this)
      go_wp2_with fail
      go_returns
      exact ⟨_, by rw [hA.out]; rfl, fun _ => (by have := hO.out; rwa [HY.out] at this), fun h => (by rw [hA.out] at h; cases h), hB⟩
end Go.Proofs.Ytdpcfcflcfjmjaa
