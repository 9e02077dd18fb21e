/- Layer 14: the walk of TabBlocks. -/
import Derived.Test.YtdpcfcflcfjmjaaRefBlksW
import Derived.Test.YtdpcfcflcfjmjaaRefSame
import Derived.Test.YtdpcfcflcfjmjaaLawFourteenA
namespace Go.Proofs.Ytdpcfcflcfjmjaa
open Go.RowKit
set_option linter.unusedSimpArgs false
set_option linter.unusedVariables false
def putBs (L : List Bk) : List UInt8 := if okBs L = true then putL 2 L.length ++ blksL L else []
def getBs (L : List UInt8) : List Bk × Int := getR (rBlk L) 32 L
theorem puts_row {w : World} {L : List Bk} {e : Ending} {w' : World} (h : PutsB w L e w') : ∃ r, e = .returned (.tuple #[r, .bool (okBs L)]) ∧ RowAt w' r (putBs L).length (byteV (putBs L)) ∧ Below w.heap.size w w' := by
  obtain ⟨r, h1, h2, h3, h4⟩ := h
  refine ⟨r, h1, ?_, h4⟩
  unfold putBs
  cases hok : okBs L
  · rw [if_neg (by simp), h3 hok]
    exact Or.inl ⟨none, 0, rfl, rfl, fun _ => rfl⟩
  · rw [if_pos rfl]
    have hl : (putL 2 L.length ++ blksL L).length = 2 + (blksL L).length := by rw [List.length_append, putL_len]
    rw [hl]
    exact RowAt.owns (h2 hok) (fun i hi => byteV_at (by rw [hl]; exact hi))
theorem gets_good (L : List UInt8) (hL : L.length ≤ 1000000) : ∀ x ∈ (getBs L).1, goodB x := by
  intro x hx
  by_cases h : (getBs L).2 = 0
  · obtain ⟨c, n, l, n', h1, h2, h3, h4, h5⟩ := getR_cases h
    have h6 : (getBs L).1 = l := by unfold getBs; rw [h5]
    obtain ⟨hz, hn, _⟩ := num2 h1 rfl
    have := (readsB.rows L (by omega) c.toNat n false (by omega)).2.2.2
    rw [h3] at this
    rw [h6] at hx
    exact this x hx
  · exfalso
    have : (getBs L).1 = [] := by
      unfold getBs getR at h ⊢
      split
      · rfl
      · split
        · rfl
        · split
          · rfl
          · split
            · rfl
            · rename_i h1 h2 h3 h4
              rw [if_neg h1, if_neg h2, if_neg h3, if_neg h4] at h
              exact absurd rfl h
    rw [this] at hx
    cases hx
theorem gets_row {w : World} {L : List UInt8} {e : Ending} {w' : World} (hL : L.length ≤ 1000000) (h : GetsB w L e w') : ∃ r, e = .returned (.tuple #[r, .int .i64 (getBs L).2]) ∧ RowR 2 blkR w' r (getBs L).1 ∧ Below w.heap.size w w' := by
  obtain ⟨r, h1, h2, h3⟩ := h
  exact ⟨r, h1, blks_owned h2 (fun x hx => ⟨by have := (gets_good L hL x hx).1; unfold sz; omega, (gets_good L hL x hx).2⟩), h3⟩
theorem blks_good {w : World} {v : Value} {L : List Bk} (h : RowR 2 blkR w v L) : ∀ x ∈ L, I64 x.kind := by
  intro x hx
  obtain ⟨k, hk, rfl⟩ := List.getElem_of_mem hx
  obtain ⟨a, cap, rfl⟩ := row_get h
  obtain ⟨b, off, _, _, hc⟩ := blk_at h hk
  exact (hc k L[k] (by simp [hk])).2.2.2
theorem law_back {L : List Bk} (hg : ∀ x ∈ L, goodB x) (h : okBs L = true) : getBs (putBs L) = (L, 0) := by
  have h' := h
  unfold okBs at h'
  rw [Bool.and_eq_true] at h'
  have hl : L.length ≤ 32 := of_decide_eq_true h'.1
  have ha := List.all_eq_true.1 h'.2
  unfold getBs
  exact readsB.get_back 32 L _ (by unfold putBs; rw [if_pos h]; rfl) hl (by omega) (fun x hx => ⟨ha x hx, hg x hx⟩)
theorem law_forth {B : List UInt8} (hB : B.length ≤ 1000000) (h : (getBs B).2 = 0) : okBs (getBs B).1 = true ∧ putBs (getBs B).1 = B := by
  obtain ⟨h1, h2, h3⟩ := readsB.get_forth 32 B (by omega) h
  have hok : okBs (getBs B).1 = true := by
    unfold okBs
    rw [Bool.and_eq_true]
    exact ⟨decide_eq_true h1, List.all_eq_true.2 h2⟩
  refine ⟨hok, ?_⟩
  unfold putBs
  rw [if_pos hok]
  exact h3
set_option maxHeartbeats 4000000 in
theorem tabBlocks_walk (lv : Value) (L : List Bk) (bv : Value) (B : List UInt8) (w : World) (hl : RowR 2 blkR w lv L) (hb : RowAt w bv B.length (byteV B)) :
    Calls Try.prog 5 #[lv, bv] w fun e w' => e = .returned (.bool true) ∧ Below w.heap.size w w' := by
  have hll := hl.len
  have hbl := hb.le
  have HL := Lib.hid (fun W (hW : Below w.heap.size w W) => hl.below blkR_stable hW)
  have HB := Lib.hid (fun W (hW : Below w.heap.size w W) => hb.below hW)
  have HG := Lib.hid (blks_good hl)
  obtain ⟨sa, sc, rfl⟩ := row_get hl
  obtain ⟨ba, bc, rfl⟩ := row_form hb
  have HN := Lib.hid (show L.length = L.length from rfl)
  obtain ⟨n, hN⟩ : ∃ n, L.length = n := ⟨_, rfl⟩
  obtain ⟨m, hM⟩ : ∃ m, B.length = m := ⟨_, rfl⟩
  rw [hN] at hl hll HL
  rw [hM] at hb hbl HB
  rw [hN, hM]
  by_cases h1 : n ≤ 40
  · by_cases h2 : m ≤ 500
    · have q1 : (40 < (n : Int)) = False := eq_false (by omega)
      have q2 : (500 < (m : Int)) = False := eq_false (by omega)
      clear hb
      go_enter Try.func5, Try.ntmps5
      go_wp2_with fail
      go_loopw [5] (fun j wr => ∃ k d : Nat, k ≤ n ∧ j = .int .i64 k ∧ Hid (∀ i x, i < k → L[i]? = some x → x.name.length ≤ 300) ∧ wr = w.drewN d) (fun j _ => n - (intOf j).toNat)
      case atStart => exact ⟨0, 0, by omega, rfl, Lib.hid (fun i x h => by omega), rfl⟩
      case round =>
        obtain ⟨k, d, hk, rfl, hall, rfl⟩ := hrel
        by_cases hlt : k < n
        · obtain ⟨x, hx⟩ : ∃ x, L[k]? = some x := get_some (by omega)
          obtain ⟨b, off, rfl, hbw, hc⟩ := blk_at hl (k := k) (by omega)
          obtain ⟨c0, _, hs, _⟩ := hc k x hx
          have hsz : (⟨x.name.toArray⟩ : ByteArray).size = x.name.length := by simp [ByteArray.size]
          unfold sz at hs
          clear hc
          by_cases h3 : x.name.length ≤ 300
          · have q3 : (300 < (x.name.length : Int)) = False := eq_false (by omega)
            have hnx := Lib.hid (show ∀ i y, i < k + 1 → L[i]? = some y → y.name.length ≤ 300 from fun i y hi hy => by
              by_cases hik : i < k
              · exact hall.out i y hik hy
              · obtain rfl : i = k := by omega
                rw [hx] at hy
                obtain rfl := Option.some.inj hy
                exact h3)
            clear hx
            go_wp2_with fail
            go_roundw
            case rel => exact ⟨k + 1, _, by omega, by simp, hnx, rfl⟩
            case measure => first | (simp [intOf]; done) | (simp [intOf]; omega)
          · have q3 : (300 < (x.name.length : Int)) = True := eq_true (by omega)
            clear hx
            go_wp2_with fail
            refine (law14_awake _).mono ?_; rintro e w1 ⟨rfl, hb⟩
            have hB1 : Below w.heap.size w w1 := (Below_drewN w.heap.size w d).trans hb
            go_wp2_with fail
            go_ret
            exact ⟨rfl, hB1⟩
        · obtain rfl : k = n := by omega
          have hnames : ∀ x ∈ L, x.name.length ≤ 300 := fun x hx => by
            obtain ⟨i, hi, rfl⟩ := List.getElem_of_mem hx
            exact hall.out i _ (by omega) (by simp)
          have hgood : ∀ x ∈ L, goodB x := fun x hx => ⟨by have := hnames x hx; omega, HG.out x hx⟩
          have hB0 : Below w.heap.size w (w.drewN d) := Below_drewN _ _ _
          have HP := Lib.hid (fun W (hW : Below w.heap.size w W) => (tab_PutBlocks _ L W (HL.out W hW) (fun x hx => (hgood x hx).1)).mono (fun _ _ h => puts_row h))
          have HQ := Lib.hid (fun W (hW : Below w.heap.size w W) => (ref14_Blocks _ L W (HL.out W hW) (fun x hx => (hgood x hx).1)).mono (fun _ _ h => puts_row h))
          have HR := Lib.hid (fun W (hW : Below w.heap.size w W) => (tab_GetBlocks _ B W (by rw [hM]; exact HB.out W hW) (by omega)).mono (fun _ _ h => gets_row (by omega) h))
          have HS := Lib.hid (fun W (hW : Below w.heap.size w W) => (ref14_GetBlocks _ B W (by rw [hM]; exact HB.out W hW) (by omega)).mono (fun _ _ h => gets_row (by omega) h))
          have hpl : (putBs L).length ≤ 1000000 := by
            unfold putBs
            split
            · rename_i hok
              unfold okBs at hok
              rw [Bool.and_eq_true] at hok
              have h5 := blksL_len L hok.2
              rw [List.length_append, putL_len]; omega
            · simp
          have HT := Lib.hid (fun W r (hr : RowAt W r (putBs L).length (byteV (putBs L))) => (tab_GetBlocks r (putBs L) W hr hpl).mono (fun _ _ h => gets_row hpl h))
          have HU := Lib.hid (fun W r (hr : RowR 2 blkR W r (getBs B).1) => (tab_PutBlocks r (getBs B).1 W hr (fun x hx => (gets_good B (by omega) x hx).1)).mono (fun _ _ h => puts_row h))
          have hF1 := fun h => law_back hgood h
          have hF2 := fun h => law_forth (B := B) (by omega) h
          have HSm := Lib.hid (fun A W u v hu hv => ref14_SameBlocks u v A W hu hv)
          obtain ⟨PB, hPB⟩ : ∃ PB, putBs L = PB := ⟨_, rfl⟩
          obtain ⟨ok, hok⟩ : ∃ ok, okBs L = ok := ⟨_, rfl⟩
          obtain ⟨GB, hGB⟩ : ∃ GB, getBs B = GB := ⟨_, rfl⟩
          rw [hPB] at HP HQ HT hF1
          rw [hok] at HP HQ hF1
          rw [hGB] at HR HS HU hF2
          obtain ⟨GP, hGP⟩ : ∃ GP, getBs PB = GP := ⟨_, rfl⟩
          rw [hGP] at HT hF1
          obtain ⟨R3, ge⟩ := GB
          obtain ⟨R5, gx⟩ := GP
          dsimp only at HR HS HU HT hF1 hF2
          obtain ⟨P6, hP6⟩ : ∃ P6, putBs R3 = P6 := ⟨_, rfl⟩
          obtain ⟨ok6, hok6⟩ : ∃ ok6, okBs R3 = ok6 := ⟨_, rfl⟩
          rw [hP6, hok6] at HU hF2
          have HF1 := Lib.hid hF1
          have HF2 := Lib.hid hF2
          have HMB := Lib.hid hM
          clear hF1 hF2 hPB hok hGB hGP hP6 hok6 hgood hnames hpl hall HG hN hM
          go_wp2_with fail
          refine (HP.out _ hB0).mono ?_; rintro e w1 ⟨r1, rfl, hr1, hb1⟩
          have hB1 := hB0.trans (hb1.mono hB0.size)
          have Hr1 := Lib.hid hr1
          clear hr1 hb1 HP
          go_wp2_with fail
          refine (HQ.out _ hB1).mono ?_; rintro e w2 ⟨r2, rfl, hr2, hb2⟩
          have hB2 := hB1.trans (hb2.mono hB1.size)
          have Hr1 := Lib.hid (Hr1.out.below hb2)
          have Hr2 := Lib.hid hr2
          clear hr2 hb2 HQ
          go_wp2_with fail
          refine (HR.out _ hB2).mono ?_; rintro e w3 ⟨r3, rfl, hr3, hb3⟩
          have hB3 := hB2.trans (hb3.mono hB2.size)
          have Hr1 := Lib.hid (Hr1.out.below hb3)
          have Hr2 := Lib.hid (Hr2.out.below hb3)
          have Hr3 := Lib.hid hr3
          clear hr3 hb3 HR
          go_wp2_with fail
          refine (HS.out _ hB3).mono ?_; rintro e w4 ⟨r4, rfl, hr4, hb4⟩
          have hB4 := hB3.trans (hb4.mono hB3.size)
          have Hr1 := Lib.hid (Hr1.out.below hb4)
          have Hr2 := Lib.hid (Hr2.out.below hb4)
          have Hr3 := Lib.hid (Hr3.out.below blkR_stable hb4)
          have Hr4 := Lib.hid hr4
          have hc1 := conv_row (P := Try.prog) (src := 23) (dst := 9) (e := 5) Try.underlying23 Try.underlying5 Try.underlying9 Hr1.out
          have hc2 := conv_row (P := Try.prog) (src := 23) (dst := 9) (e := 5) Try.underlying23 Try.underlying5 Try.underlying9 Hr2.out
          clear hr4 hb4 HS
          go_wp2_with fail
          refine (HSm.out R3 _ _ _ Hr3.out Hr4.out).mono ?_; rintro e w4' ⟨rfl, d4, rfl⟩
          have hB5 : Below w.heap.size w (w4.drewN d4) := below_drewN hB4 d4
          clear hc1 hc2
          go_wp2_with fail
          refine (HT.out _ _ (show RowAt (w4.drewN d4) r1 PB.length (byteV PB) from Hr1.out.below (Below_drewN _ _ _))).mono ?_; rintro e w5 ⟨r5, rfl, hr5, hb5⟩
          have hB6 := hB5.trans (hb5.mono hB5.size)
          have Hr3 := Lib.hid ((Hr3.out.below blkR_stable (Below_drewN _ _ d4)).below blkR_stable hb5)
          have Hr5 := Lib.hid hr5
          clear hr5 hb5 HT
          go_wp2_with fail
          refine (HU.out _ _ Hr3.out).mono ?_; rintro e w6 ⟨r6, rfl, hr6, hb6⟩
          have hB7 := hB6.trans (hb6.mono hB6.size)
          have Hr5 := Lib.hid (Hr5.out.below blkR_stable hb6)
          have hrb := HB.out _ hB7
          have HLw := Lib.hid (HL.out _ hB7)
          have Hr6 := Lib.hid hr6
          have Hrb := Lib.hid (show RowAt w6 (.slice ba m bc) B.length (byteV B) by rw [HMB.out]; exact hrb)
          have hc6 := conv_row (P := Try.prog) (src := 23) (dst := 9) (e := 5) Try.underlying23 Try.underlying5 Try.underlying9 Hr6.out
          have hcb := conv_row (P := Try.prog) (src := 23) (dst := 9) (e := 5) Try.underlying23 Try.underlying5 Try.underlying9 Hrb.out
          clear hr6 hb6 HU hrb
          cases ok
          · by_cases hge : ge = 0
            · obtain ⟨rfl, rfl⟩ := HF2.out hge
              subst hge
              go_wp2_with fail
              refine (law14_awake _).mono ?_; rintro e w7 ⟨rfl, hb7⟩
              go_wp2_with fail
              go_ret
              exact ⟨rfl, hB7.trans (hb7.mono hB7.size)⟩
            · go_wp2_with fail
              refine (law14_awake _).mono ?_; rintro e w7 ⟨rfl, hb7⟩
              go_wp2_with fail
              go_ret
              exact ⟨rfl, hB7.trans (hb7.mono hB7.size)⟩
          · obtain ⟨hgx1, hgx2⟩ := Prod.mk.inj (HF1.out rfl)
            subst hgx1 hgx2
            have hcm : ∀ mm, (w6.drewN mm).heap.size = w6.heap.size := fun _ => rfl
            have hc6' := fun mm => conv_row (P := Try.prog) (src := 23) (dst := 9) (e := 5) Try.underlying23 Try.underlying5 Try.underlying9 (w := w6.drewN mm) (Hr6.out.below (Below_drewN _ _ mm))
            have hcb' := fun mm => conv_row (P := Try.prog) (src := 23) (dst := 9) (e := 5) Try.underlying23 Try.underlying5 Try.underlying9 (w := w6.drewN mm) (Hrb.out.below (Below_drewN _ _ mm))
            clear hc6 hcb
            by_cases hge : ge = 0
            · obtain ⟨rfl, rfl⟩ := HF2.out hge
              subst hge
              go_wp2_with fail
              refine (HSm.out _ _ _ _ Hr5.out HLw.out).mono ?_; rintro e w6' ⟨rfl, d6, rfl⟩
              have hB8 : Below w.heap.size w (w6.drewN d6) := below_drewN hB7 d6
              go_wp2_with fail
              refine (law14_awake _).mono ?_; rintro e w7 ⟨rfl, hb7⟩
              go_wp2_with fail
              go_ret
              exact ⟨rfl, hB8.trans (hb7.mono hB8.size)⟩
            · go_wp2_with fail
              refine (HSm.out _ _ _ _ Hr5.out HLw.out).mono ?_; rintro e w6' ⟨rfl, d6, rfl⟩
              have hB8 : Below w.heap.size w (w6.drewN d6) := below_drewN hB7 d6
              go_wp2_with fail
              refine (law14_awake _).mono ?_; rintro e w7 ⟨rfl, hb7⟩
              go_wp2_with fail
              go_ret
              exact ⟨rfl, hB8.trans (hb7.mono hB8.size)⟩
    · have q1 : (40 < (n : Int)) = False := eq_false (by omega)
      have q2 : (500 < (m : Int)) = True := eq_true (by omega)
      clear hl hb
      go_enter Try.func5, Try.ntmps5
      go_wp2_with fail
      refine (law14_awake _).mono ?_; rintro e w1 ⟨rfl, hb⟩
      go_wp2_with fail
      go_ret
      exact ⟨rfl, hb⟩
  · have q1 : (40 < (n : Int)) = True := eq_true (by omega)
    clear hl hb
    go_enter Try.func5, Try.ntmps5
    go_wp2_with fail
    refine (law14_awake _).mono ?_; rintro e w1 ⟨rfl, hb⟩
    go_wp2_with fail
    go_ret
    exact ⟨rfl, hb⟩
end Go.Proofs.Ytdpcfcflcfjmjaa
