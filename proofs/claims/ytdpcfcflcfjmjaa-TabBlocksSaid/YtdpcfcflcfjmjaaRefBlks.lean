/- Layer 14: the reference's table of blocks as bytes. -/
import Derived.Test.YtdpcfcflcfjmjaaRefBlkR
namespace Go.Proofs.Ytdpcfcflcfjmjaa
open Go.RowKit
set_option linter.unusedSimpArgs false
set_option linter.unusedVariables false
set_option maxHeartbeats 4000000 in
theorem ref14_Blocks_in (v : Value) (L : List Bk) (w : World) (hv : RowR 2 blkR w v L) (hn : ∀ x ∈ L, x.name.length ≤ 1000000) (hlen : L.length ≤ 32) :
    Calls Try.prog 18 #[v] w (PutsB w L) := by
  obtain ⟨i, hi, hz, hsize, hby⟩ : ∃ i, Try.prog.info? 5 = some i ∧ i.zero = some (.int .u8 0) ∧ i.size = 1 ∧ i.bytes = 1 := ⟨(Try.prog.info? 5).get!, by kernel_rfl, by kernel_rfl, by kernel_rfl, by kernel_rfl⟩
  have ho : okBs L = L.all blkOk := by unfold okBs; rw [decide_eq_true hlen]; rfl
  unfold PutsB
  rw [ho]
  obtain ⟨sa, ca, rfl⟩ := row_get hv
  have HY := Lib.hid (show L.take L.length = L from List.take_length)
  obtain ⟨n, hN⟩ : ∃ n, L.length = n := ⟨_, rfl⟩
  rw [hN] at hv hlen HY ⊢
  have q0 : (32 < (n : Int)) = False := eq_false (by omega)
  go_enter Try.func18, Try.ntmps18
  go_wp2_with fail
  refine (ref03_Put (.slice none 0 0) [] 2 (n : Int) _ (Or.inl ⟨none, 0, rfl, rfl, fun _ => rfl⟩) (by simp)).mono ?_; rintro e w1 ⟨r1, rfl, hO1, hb1⟩
  have hO1 : w1.ownsRow w.heap.size 5 1 r1 2 (bytesV (putL 2 n)) := hO1
  go_wp2_with fail
  go_loopw [4, 5] (fun o j wr => ∃ k : Nat, k ≤ n ∧ j = .int .i64 k ∧ Hid ((L.take k).all blkOk = true) ∧ Hid (wr.ownsRow w.heap.size 5 1 o (2 + (blksL (L.take k)).length) (bytesV (putL 2 n ++ blksL (L.take k)))) ∧ Below w.heap.size w wr) (fun _ j _ => n - (intOf j).toNat)
  case atStart => exact ⟨0, by omega, rfl, Lib.hid (by simp), Lib.hid (by simpa [blksL] using hO1), hb1⟩
  case round =>
    obtain ⟨k, hk, rfl, hall, hO, hB⟩ := hrel
    have hz' := hB.size
    by_cases hlt : k < n
    · obtain ⟨x, hx⟩ : ∃ x, L[k]? = some x := get_some (by omega)
      obtain ⟨bk, off, rfl, hbw, hc⟩ := blk_at hv (k := k) (by omega)
      obtain ⟨c0, c1, c2, c3⟩ := hc k x hx
      have c0 := (hB.cell (p := ⟨bk, off + k * 2, none⟩) hbw).trans c0
      have c1 := (hB.cell (p := ⟨bk, off + k * 2 + 1, none⟩) hbw).trans c1
      clear hc
      have hn1 := hn x (List.mem_of_getElem? hx)
      have hts := Lib.hid (take_snoc hx)
      have hmem := Lib.hid (List.mem_of_getElem? hx)
      have hno := Lib.hid (fun h : blkOk x = false => (show L.all blkOk = false from List.all_eq_false.2 ⟨x, hmem.out, by simp [h]⟩))
      have hbl : (blksL (L.take k)).length ≤ 1000000 := by have := blksL_len (L.take k) hall.out; rw [List.length_take] at this; omega
      have hsz : (⟨x.name.toArray⟩ : ByteArray).size = x.name.length := by simp [ByteArray.size]
      have hbw2 : bk < wr.heap.size := by omega
      clear hx hmem hn
      by_cases hl255 : x.name.length ≤ 255
      · have q1 : (255 < (x.name.length : Int)) = False := eq_false (by omega)
        cases hf : fitB x.kind
        · have hA := Lib.hid (hno.out (show blkOk x = false by unfold blkOk; rw [hf]; simp))
          have HS := Lib.hid (fun W => ref14_small x.kind W)
          rw [hf] at HS
          go_wp2_with fail
          refine (HS.out _).mono ?_; rintro e w' ⟨rfl, rfl⟩
          go_wp2_with fail
          go_returns
          exact ⟨_, by rw [hA.out]; rfl, fun h => (by rw [hA.out] at h; cases h), fun _ => rfl, hB⟩
        · have HS := Lib.hid (fun W => ref14_small x.kind W)
          rw [hf] at HS
          have hok := Lib.hid (show blkOk x = true by unfold blkOk; rw [hf, decide_eq_true hl255]; rfl)
          go_wp2_with fail
          refine (HS.out _).mono ?_; rintro e w' ⟨rfl, rfl⟩
          go_wp2
          obtain ⟨r0, hr0⟩ : ∃ r0 : Value, r0 = u4 := ⟨_, rfl⟩
          subst hr0
          obtain ⟨l, hl⟩ : ∃ l, putL 2 (n : Int) ++ blksL (L.take k) = l := ⟨_, rfl⟩
          have hll : l.length = 2 + (blksL (L.take k)).length := by rw [← hl, List.length_append, putL_len]
          rw [hl, ← hll] at hO
          obtain ⟨T, hT⟩ : ∃ T, T = l ++ [UInt8.ofNat (cut255 ⟨x.name.toArray⟩).size] ++ (cut255 ⟨x.name.toArray⟩).data.toList := ⟨_, rfl⟩
          obtain ⟨M, hM⟩ : ∃ M, M = l.length + 1 + (cut255 ⟨x.name.toArray⟩).size := ⟨_, rfl⟩
          have hM1 : M ≤ 2000000 := by rw [hM]; unfold cut255; rw [if_neg (by omega), hsz]; omega
          have HTX := Lib.hid (fun W (hW : Below wr.heap.size wr W) => (ref03_Text r0 l ⟨x.name.toArray⟩ W (RowAt.owns (owns_below hO.out hW) (fun i hi => byteV_at hi)) (by omega)).mono (R' := fun e w' => ∃ r, e = .returned r ∧ w'.ownsRow W.heap.size 5 1 r M (bytesV T) ∧ Below W.heap.size W w') (by rintro e w' ⟨r, h1, h2, h3⟩; exact ⟨r, h1, by rw [hT, hM]; exact h2, h3⟩))
          have HD := Lib.hid (show T ++ [byteO x.kind] = l ++ blkL x ∧ M + 1 = l.length + (blkL x).length by rw [hT, hM]; unfold blkL blkB; simp; omega)
          have HL2 := Lib.hid (And.intro hl hll)
          clear hT hM hl hll HS
          refine Code.wp_mono ?_ (refBlks_r9 L i wr n ca bk off k x r0 M T l hi hz hsize hby c0 c1 hbw2 HTX hlt hlen hM1 _ _ _ _ _ _ _ _ _ _ _ _ _ _ _ _ _ _ _ _ _ _ _ _ _ _ _ _ _ _ _ _ _ _ _ _ _ _ _ _ _ _ _ _ _ _ _)
          rintro e b v ⟨rfl, u4, u34, u35, u36, u37, u38, u39, u40, u41, u42, u43, u44, u45, u46, u47, u48, rfl, hHeld, g15⟩
          go_wp2_with fail
          go_roundw
          case rel => exact ⟨k + 1, by omega, by simp, Lib.hid (by rw [hts.out, List.all_append, hall.out]; simp [hok.out]), Lib.hid (own_eq2 (own_low g15 hz') (by rw [hts.out, blksL_snoc, List.length_append, HD.out.2, HL2.out.2]; omega) (by rw [hts.out, blksL_snoc, ← List.append_assoc, HL2.out.1, ← HD.out.1, ← byteO_val]; simp [bytesV])), hB.trans (hHeld.mono hz')⟩
          case measure => first | (simp [intOf]; done) | (simp [intOf]; omega)
      · have q1 : (255 < (x.name.length : Int)) = True := eq_true (by omega)
        have hA := Lib.hid (hno.out (show blkOk x = false by unfold blkOk; rw [decide_eq_false hl255]; rfl))
        go_wp2_with fail
        go_returns
        exact ⟨_, by rw [hA.out]; rfl, fun h => (by rw [hA.out] at h; cases h), fun _ => rfl, hB⟩
    · obtain rfl : k = n := by omega
      have hA := Lib.hid (show L.all blkOk = true by have := hall.out; rwa [HY.out] at this)
      go_wp2_with fail
      go_returns
      exact ⟨_, by rw [hA.out]; rfl, fun _ => (by have := hO.out; rwa [HY.out] at this), fun h => (by rw [hA.out] at h; cases h), hB⟩
end Go.Proofs.Ytdpcfcflcfjmjaa
