/- Layer 14: the walk of TabConsts. -/
import Derived.Test.YtdpcfcflcfjmjaaRefCsts
import Derived.Test.YtdpcfcflcfjmjaaRefGetC
import Derived.Test.YtdpcfcflcfjmjaaLawFourteenA
namespace Go.Proofs.Ytdpcfcflcfjmjaa
open Go.RowKit
set_option linter.unusedSimpArgs false
set_option linter.unusedVariables false
def putCs (L : List (Int × Int)) : List UInt8 := if okCs L = true then putL 2 L.length ++ cstsL L else []
def getCs (L : List UInt8) : List (Int × Int) × Int := getR (rCst L) 1024 L
theorem putsC_row {w : World} {L : List (Int × Int)} {e : Ending} {w' : World} (h : PutsC w L e w') : ∃ r, e = .returned (.tuple #[r, .bool (okCs L)]) ∧ RowAt w' r (putCs L).length (byteV (putCs L)) ∧ Below w.heap.size w w' := by
  obtain ⟨r, h1, h2, h3, h4⟩ := h
  refine ⟨r, h1, ?_, h4⟩
  unfold putCs
  cases hok : okCs L
  · rw [if_neg (by simp), h3 hok]
    exact Or.inl ⟨none, 0, rfl, rfl, fun _ => rfl⟩
  · rw [if_pos rfl]
    have hl : (putL 2 L.length ++ cstsL L).length = 2 + (cstsL L).length := by rw [List.length_append, putL_len]
    rw [hl]
    exact RowAt.owns (h2 hok) (fun i hi => byteV_at (by rw [hl]; exact hi))
theorem getsC_good (L : List UInt8) (hL : L.length ≤ 1000000) : ∀ x ∈ (getCs L).1, goodC x := by
  intro x hx
  by_cases h : (getCs L).2 = 0
  · obtain ⟨c, n, l, n', h1, h2, h3, h4, h5⟩ := getR_cases h
    have h6 : (getCs L).1 = l := by unfold getCs; rw [h5]
    obtain ⟨hz, hn, _⟩ := num2 h1 rfl
    have := (readsC.rows L (by omega) c.toNat n false (by omega)).2.2.2
    rw [h3] at this
    rw [h6] at hx
    exact this x hx
  · exfalso
    have : (getCs L).1 = [] := by
      unfold getCs getR at h ⊢
      split
      · rfl
      · split
        · rfl
        · split
          · rfl
          · split
            · rfl
            · rename_i h1 h2 h3 h4
              rw [if_neg h1, if_neg h2, if_neg h3, if_neg h4] at h
              exact absurd rfl h
    rw [this] at hx
    cases hx
theorem getsC_row {w : World} {L : List UInt8} {e : Ending} {w' : World} (hL : L.length ≤ 1000000) (h : GetsC w L e w') : ∃ r, e = .returned (.tuple #[r, .int .i64 (getCs L).2]) ∧ RowR 2 constR w' r (getCs L).1 ∧ Below w.heap.size w w' := by
  obtain ⟨r, h1, h2, h3⟩ := h
  exact ⟨r, h1, csts_owned h2 (getsC_good L hL), h3⟩
theorem csts_good {w : World} {v : Value} {L : List (Int × Int)} (h : RowR 2 constR w v L) : ∀ x ∈ L, goodC x := by
  intro x hx
  obtain ⟨k, hk, rfl⟩ := List.getElem_of_mem hx
  obtain ⟨a, cap, rfl⟩ := row_get h
  obtain ⟨b, off, _, _, hc⟩ := const_at h hk
  exact (hc k L[k] (by simp [hk])).2.2
theorem lawC_back {L : List (Int × Int)} (hg : ∀ x ∈ L, goodC x) (h : okCs L = true) : getCs (putCs L) = (L, 0) := by
  have h' := h
  unfold okCs at h'
  rw [Bool.and_eq_true] at h'
  have hl : L.length ≤ 1024 := of_decide_eq_true h'.1
  have ha := List.all_eq_true.1 h'.2
  unfold getCs
  exact readsC.get_back 1024 L _ (by unfold putCs; rw [if_pos h]; rfl) hl (by omega) (fun x hx => ⟨ha x hx, hg x hx⟩)
theorem lawC_forth {B : List UInt8} (hB : B.length ≤ 1000000) (h : (getCs B).2 = 0) : okCs (getCs B).1 = true ∧ putCs (getCs B).1 = B := by
  obtain ⟨h1, h2, h3⟩ := readsC.get_forth 1024 B (by omega) h
  have hok : okCs (getCs B).1 = true := by
    unfold okCs
    rw [Bool.and_eq_true]
    exact ⟨decide_eq_true h1, List.all_eq_true.2 h2⟩
  refine ⟨hok, ?_⟩
  unfold putCs
  rw [if_pos hok]
  exact h3
set_option maxHeartbeats 4000000 in
theorem tabConsts_walk (lv : Value) (L : List (Int × Int)) (bv : Value) (B : List UInt8) (w : World) (hl : RowR 2 constR w lv L) (hb : RowAt w bv B.length (byteV B)) :
    Calls Try.prog 3 #[lv, bv] w fun e w' => e = .returned (.bool true) ∧ Below w.heap.size w w' := by
  have hll := hl.len
  have hbl := hb.le
  have HL := Lib.hid (fun W (hW : Below w.heap.size w W) => hl.below constR_stable hW)
  have HB := Lib.hid (fun W (hW : Below w.heap.size w W) => hb.below hW)
  have HG := Lib.hid (csts_good hl)
  obtain ⟨sa, sc, rfl⟩ := row_get hl
  obtain ⟨ba, bc, rfl⟩ := row_form hb
  have HN := Lib.hid (show L.length = L.length from rfl)
  obtain ⟨n, hN⟩ : ∃ n, L.length = n := ⟨_, rfl⟩
  obtain ⟨m, hM⟩ : ∃ m, B.length = m := ⟨_, rfl⟩
  rw [hN] at hl hll HL
  rw [hM] at hb hbl HB
  rw [hN, hM]
  by_cases h1 : n ≤ 1100
  · by_cases h2 : m ≤ 500
    · have q1 : (1100 < (n : Int)) = False := eq_false (by omega)
      have q2 : (500 < (m : Int)) = False := eq_false (by omega)
      clear hb
      have hgood : ∀ x ∈ L, goodC x := HG.out
      have hB0 : Below w.heap.size w w := Below.refl _ _
      have HP := Lib.hid (fun W (hW : Below w.heap.size w W) => (tab_PutConsts _ L W (HL.out W hW)).mono (fun _ _ h => putsC_row h))
      have HQ := Lib.hid (fun W (hW : Below w.heap.size w W) => (ref14_Consts _ L W (HL.out W hW)).mono (fun _ _ h => putsC_row h))
      have HR := Lib.hid (fun W (hW : Below w.heap.size w W) => (tab_GetConsts _ B W (by rw [hM]; exact HB.out W hW) (by omega)).mono (fun _ _ h => getsC_row (by omega) h))
      have HS := Lib.hid (fun W (hW : Below w.heap.size w W) => (ref14_GetConsts _ B W (by rw [hM]; exact HB.out W hW) (by omega)).mono (fun _ _ h => getsC_row (by omega) h))
      have hpl : (putCs L).length ≤ 1000000 := by
        unfold putCs
        split
        · rename_i hok
          unfold okCs at hok
          rw [Bool.and_eq_true] at hok
          have h5 := cstsL_len L
          have h6 : L.length ≤ 1024 := of_decide_eq_true hok.1
          rw [List.length_append, putL_len]; omega
        · simp
      have HT := Lib.hid (fun W r (hr : RowAt W r (putCs L).length (byteV (putCs L))) => (tab_GetConsts r (putCs L) W hr hpl).mono (fun _ _ h => getsC_row hpl h))
      have HU := Lib.hid (fun W r (hr : RowR 2 constR W r (getCs B).1) => (tab_PutConsts r (getCs B).1 W hr).mono (fun _ _ h => putsC_row h))
      have hF1 := fun h => lawC_back hgood h
      have hF2 := fun h => lawC_forth (B := B) (by omega) h
      have HSm := Lib.hid (fun A W u v hu hv => ref14_SameConsts u v A W hu hv)
      obtain ⟨PB, hPB⟩ : ∃ PB, putCs L = PB := ⟨_, rfl⟩
      obtain ⟨ok, hok⟩ : ∃ ok, okCs L = ok := ⟨_, rfl⟩
      obtain ⟨GB, hGB⟩ : ∃ GB, getCs B = GB := ⟨_, rfl⟩
      rw [hPB] at HP HQ HT hF1
      rw [hok] at HP HQ hF1
      rw [hGB] at HR HS HU hF2
      obtain ⟨GP, hGP⟩ : ∃ GP, getCs PB = GP := ⟨_, rfl⟩
      rw [hGP] at HT hF1
      obtain ⟨R3, ge⟩ := GB
      obtain ⟨R5, gx⟩ := GP
      dsimp only at HR HS HU HT hF1 hF2
      obtain ⟨P6, hP6⟩ : ∃ P6, putCs R3 = P6 := ⟨_, rfl⟩
      obtain ⟨ok6, hok6⟩ : ∃ ok6, okCs R3 = ok6 := ⟨_, rfl⟩
      rw [hP6, hok6] at HU hF2
      have HF1 := Lib.hid hF1
      have HF2 := Lib.hid hF2
      have HMB := Lib.hid hM
      clear hF1 hF2 hPB hok hGB hGP hP6 hok6 hgood hpl HG hN hM hl
      go_enter Try.func3, Try.ntmps3
      go_wp2_with fail
      refine (HP.out _ hB0).mono ?_; rintro e w1 ⟨r1, rfl, hr1, hb1⟩
      have hB1 := hB0.trans (hb1.mono hB0.size)
      have Hr1 := Lib.hid hr1
      clear hr1 hb1 HP
      go_wp2_with fail
      refine (HQ.out _ hB1).mono ?_; rintro e w2 ⟨r2, rfl, hr2, hb2⟩
      have hB2 := hB1.trans (hb2.mono hB1.size)
      have Hr1 := Lib.hid (Hr1.out.below hb2)
      have Hr2 := Lib.hid hr2
      clear hr2 hb2 HQ
      go_wp2_with fail
      refine (HR.out _ hB2).mono ?_; rintro e w3 ⟨r3, rfl, hr3, hb3⟩
      have hB3 := hB2.trans (hb3.mono hB2.size)
      have Hr1 := Lib.hid (Hr1.out.below hb3)
      have Hr2 := Lib.hid (Hr2.out.below hb3)
      have Hr3 := Lib.hid hr3
      clear hr3 hb3 HR
      go_wp2_with fail
      refine (HS.out _ hB3).mono ?_; rintro e w4 ⟨r4, rfl, hr4, hb4⟩
      have hB4 := hB3.trans (hb4.mono hB3.size)
      have Hr1 := Lib.hid (Hr1.out.below hb4)
      have Hr2 := Lib.hid (Hr2.out.below hb4)
      have Hr3 := Lib.hid (Hr3.out.below constR_stable hb4)
      have Hr4 := Lib.hid hr4
      have hc1 := conv_row (P := Try.prog) (src := 23) (dst := 9) (e := 5) Try.underlying23 Try.underlying5 Try.underlying9 Hr1.out
      have hc2 := conv_row (P := Try.prog) (src := 23) (dst := 9) (e := 5) Try.underlying23 Try.underlying5 Try.underlying9 Hr2.out
      clear hr4 hb4 HS
      go_wp2_with fail
      refine (HSm.out R3 _ _ _ Hr3.out Hr4.out).mono ?_; rintro e w4' ⟨rfl, d4, rfl⟩
      have hB5 : Below w.heap.size w (w4.drewN d4) := below_drewN hB4 d4
      clear hc1 hc2
      go_wp2_with fail
      refine (HT.out _ _ (show RowAt (w4.drewN d4) r1 PB.length (byteV PB) from Hr1.out.below (Below_drewN _ _ _))).mono ?_; rintro e w5 ⟨r5, rfl, hr5, hb5⟩
      have hB6 := hB5.trans (hb5.mono hB5.size)
      have Hr3 := Lib.hid ((Hr3.out.below constR_stable (Below_drewN _ _ d4)).below constR_stable hb5)
      have Hr5 := Lib.hid hr5
      clear hr5 hb5 HT
      go_wp2_with fail
      refine (HU.out _ _ Hr3.out).mono ?_; rintro e w6 ⟨r6, rfl, hr6, hb6⟩
      have hB7 := hB6.trans (hb6.mono hB6.size)
      have Hr5 := Lib.hid (Hr5.out.below constR_stable hb6)
      have hrb := HB.out _ hB7
      have HLw := Lib.hid (HL.out _ hB7)
      have Hr6 := Lib.hid hr6
      have Hrb := Lib.hid (show RowAt w6 (.slice ba m bc) B.length (byteV B) by rw [HMB.out]; exact hrb)
      have hc6 := conv_row (P := Try.prog) (src := 23) (dst := 9) (e := 5) Try.underlying23 Try.underlying5 Try.underlying9 Hr6.out
      have hcb := conv_row (P := Try.prog) (src := 23) (dst := 9) (e := 5) Try.underlying23 Try.underlying5 Try.underlying9 Hrb.out
      clear hr6 hb6 HU hrb
      cases ok
      · by_cases hge : ge = 0
        · obtain ⟨rfl, rfl⟩ := HF2.out hge
          subst hge
          go_wp2_with fail
          refine (law14_awake _).mono ?_; rintro e w7 ⟨rfl, hb7⟩
          go_wp2_with fail
          go_ret
          exact ⟨rfl, hB7.trans (hb7.mono hB7.size)⟩
        · go_wp2_with fail
          refine (law14_awake _).mono ?_; rintro e w7 ⟨rfl, hb7⟩
          go_wp2_with fail
          go_ret
          exact ⟨rfl, hB7.trans (hb7.mono hB7.size)⟩
      · obtain ⟨hgx1, hgx2⟩ := Prod.mk.inj (HF1.out rfl)
        subst hgx1 hgx2
        have hcm : ∀ mm, (w6.drewN mm).heap.size = w6.heap.size := fun _ => rfl
        have hc6' := fun mm => conv_row (P := Try.prog) (src := 23) (dst := 9) (e := 5) Try.underlying23 Try.underlying5 Try.underlying9 (w := w6.drewN mm) (Hr6.out.below (Below_drewN _ _ mm))
        have hcb' := fun mm => conv_row (P := Try.prog) (src := 23) (dst := 9) (e := 5) Try.underlying23 Try.underlying5 Try.underlying9 (w := w6.drewN mm) (Hrb.out.below (Below_drewN _ _ mm))
        clear hc6 hcb
        by_cases hge : ge = 0
        · obtain ⟨rfl, rfl⟩ := HF2.out hge
          subst hge
          go_wp2_with fail
          refine (HSm.out _ _ _ _ Hr5.out HLw.out).mono ?_; rintro e w6' ⟨rfl, d6, rfl⟩
          have hB8 : Below w.heap.size w (w6.drewN d6) := below_drewN hB7 d6
          go_wp2_with fail
          refine (law14_awake _).mono ?_; rintro e w7 ⟨rfl, hb7⟩
          go_wp2_with fail
          go_ret
          exact ⟨rfl, hB8.trans (hb7.mono hB8.size)⟩
        · go_wp2_with fail
          refine (HSm.out _ _ _ _ Hr5.out HLw.out).mono ?_; rintro e w6' ⟨rfl, d6, rfl⟩
          have hB8 : Below w.heap.size w (w6.drewN d6) := below_drewN hB7 d6
          go_wp2_with fail
          refine (law14_awake _).mono ?_; rintro e w7 ⟨rfl, hb7⟩
          go_wp2_with fail
          go_ret
          exact ⟨rfl, hB8.trans (hb7.mono hB8.size)⟩
    · have q1 : (1100 < (n : Int)) = False := eq_false (by omega)
      have q2 : (500 < (m : Int)) = True := eq_true (by omega)
      clear hl hb
      go_enter Try.func3, Try.ntmps3
      go_wp2_with fail
      refine (law14_awake _).mono ?_; rintro e w1 ⟨rfl, hb⟩
      go_wp2_with fail
      go_ret
      exact ⟨rfl, hb⟩
  · have q1 : (1100 < (n : Int)) = True := eq_true (by omega)
    clear hl hb
    go_enter Try.func3, Try.ntmps3
    go_wp2_with fail
    refine (law14_awake _).mono ?_; rintro e w1 ⟨rfl, hb⟩
    go_wp2_with fail
    go_ret
    exact ⟨rfl, hb⟩
end Go.Proofs.Ytdpcfcflcfjmjaa
