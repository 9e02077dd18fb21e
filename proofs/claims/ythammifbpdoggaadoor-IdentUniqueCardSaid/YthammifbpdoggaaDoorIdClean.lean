/- Layer 5: the name that is made of a text. -/
import Derived.Test.YthammifbpdoggaaDoorIdRight
import Derived.Test.YthammifbpdoggaaDoorHeldMore
import Derived.Lib.ConvBytes
namespace Go.Proofs.YthammifbpdoggaaDoor
open Go.RowKit
set_option linter.unusedSimpArgs false
set_option linter.unusedVariables false
theorem conv_bytes {P : Program} {src dst e : TypeId} (hs : P.underlying src = some .string) (hd : P.underlying dst = some (.slice e)) (he : P.underlying e = some (.int .u8)) (l : List UInt8) (w : World) :
    ∃ cap W1, (convert src dst (.string ⟨l.toArray⟩)).run P w = .ok (.slice (some ⟨w.heap.size, 0, none⟩) l.length cap) W1 ∧
      (∀ j, j < l.length → W1.cell? ⟨w.heap.size, j, none⟩ = some (byteV l j)) ∧ (∀ j, j < l.length → W1.frozen? ⟨w.heap.size, j, none⟩ = false) ∧ Below w.heap.size w W1 := by
  have h := Lib.run_convert_string_bytes w src dst e ⟨l.toArray⟩ hs hd he
  refine ⟨_, _, h, ?_, ?_, ?_⟩
  · intro j hj
    exact Lib.bytesWorld_cell w e ⟨l.toArray⟩ j hj
  · intro j hj
    simp [World.frozen?, Lib.bytesWorld_at_new, Lib.bytesCells]
    omega
  · exact ⟨rfl, rfl, rfl, by rw [Lib.bytesWorld_size]; omega, fun k hk => Lib.bytesWorld_at_old w e _ k hk⟩
def cleanV (l : List UInt8) (k j : Nat) : Value := .int .u8 (((if j < k then cleanC (l.getD j 0) else l.getD j 0)).toNat : Int)
theorem cleanV_at (l : List UInt8) (k : Nat) : cleanV l k k = .int .u8 ((l.getD k 0).toNat : Int) := by unfold cleanV; rw [if_neg (by omega)]
theorem cleanV_same {l : List UInt8} {k j : Nat} (h : j ≠ k) : cleanV l (k + 1) j = cleanV l k j := by
  unfold cleanV
  by_cases hj : j < k
  · rw [if_pos hj, if_pos (by omega)]
  · rw [if_neg hj, if_neg (by omega)]
theorem cleanV_new (l : List UInt8) (k : Nat) : cleanV l (k + 1) k = .int .u8 ((cleanC (l.getD k 0)).toNat : Int) := by unfold cleanV; rw [if_pos (by omega)]
theorem cleanC_upper {c : UInt8} (h : upperC c = true) : (cleanC c).toNat = c.toNat + 32 := by unfold cleanC; rw [if_pos h]; exact (upper_sign c h).2
theorem upper_small {c : UInt8} (h : upperC c = true) : 65 ≤ c.toNat ∧ c.toNat ≤ 90 := of_decide_eq_true h
/-- the bytes are right when the store is done -/
theorem clean_step {W : World} {B n k : Nat} {l : List UInt8} (hk : k < n) (hc : ∀ j, j < n → W.cell? ⟨B, j, none⟩ = some (cleanV l k j)) {v : Value} (hv : v = .int .u8 ((cleanC (l.getD k 0)).toNat : Int)) :
    ∀ j, j < n → (W.setCell ⟨B, k, none⟩ v).cell? ⟨B, j, none⟩ = some (cleanV l (k + 1) j) := by
  intro j hj
  by_cases h : j = k
  · subst h
    rw [World.cell?_setCell_same _ _ _ (hc j hj), hv, cleanV_new]
  · rw [World.cell?_setCell_other _ _ _ _ (fun e => h (by injection e with _ e _; exact e.symm)), hc j hj, cleanV_same h]
theorem clean_keep {W : World} {B n k : Nat} {l : List UInt8} (hc : ∀ j, j < n → W.cell? ⟨B, j, none⟩ = some (cleanV l k j)) (hv : cleanC (l.getD k 0) = l.getD k 0) :
    ∀ j, j < n → W.cell? ⟨B, j, none⟩ = some (cleanV l (k + 1) j) := by
  intro j hj
  by_cases h : j = k
  · subst h
    rw [hc j hj, cleanV_new, hv, cleanV_at]
  · rw [hc j hj, cleanV_same h]
theorem clean_end {P : Program} {src dst e : TypeId} (hs : P.underlying src = some (.slice e)) (he : P.underlying e = some (.int .u8)) (hd : P.underlying dst = some .string) {W : World} {B n cap : Nat} {l : List UInt8} (hn : n ≤ l.length) (hc : ∀ j, j < n → W.cell? ⟨B, j, none⟩ = some (cleanV l n j)) :
    (convert src dst (.slice (some ⟨B, 0, none⟩) n cap)).run P W = .ok (.string ⟨((l.take n).map cleanC).toArray⟩) W := by
  have hl : ((l.take n).map cleanC).length = n := by simp; omega
  have := run_convert_bytes_back (P := P) W src dst e ⟨B, 0, none⟩ cap ((l.take n).map cleanC) hs he hd (fun j hj => by
    have hj' : j < n := by omega
    have h := hc j hj'
    have e1 : cleanV l n j = .int .u8 ((((l.take n).map cleanC)[j]).toNat : Int) := by
      unfold cleanV
      rw [if_pos hj']
      simp [List.getD, show j < l.length by omega]
    rw [e1] at h
    unfold Addr.add
    by_cases h0 : j = 0
    · subst h0; simpa using h
    · simpa [h0] using h)
  rw [hl] at this
  exact this
set_option maxHeartbeats 4000000 in
theorem ident_Clean (l : List UInt8) (w : World) (hT : IdTab w) (hl : l.length ≤ 1000000) : Calls Tryd.prog 7 #[.string ⟨l.toArray⟩] w fun e w' => e = .returned (.string ⟨(cleanL l).toArray⟩) ∧ Below w.heap.size w w' := by
  have HR := ident_Right l w hT hl
  clear hT
  cases hr : rightB l
  · rw [hr] at HR
    have hC := Lib.hid (show cleanL l = [118, 95] ++ (l.take 12).map cleanC by unfold cleanL; rw [hr]; rfl)
    clear hr
    have HE := Lib.hid (fun (W : World) (n cap : Nat) hn hc => clean_end (P := Tryd.prog) Tryd.underlying28 Tryd.underlying5 Tryd.underlying9 (W := W) (B := w.heap.size) (n := n) (cap := cap) (l := l) hn hc)
    have key : ∃ n, n ≤ l.length ∧ n ≤ 12 ∧ l.take 12 = l.take n ∧ ((12 ≤ l.length ∧ n = 12) ∨ (¬ 12 ≤ l.length ∧ n = l.length)) := by
      by_cases h12 : 12 ≤ l.length
      · exact ⟨12, h12, by omega, rfl, Or.inl ⟨h12, rfl⟩⟩
      · exact ⟨l.length, Nat.le_refl _, by omega, by rw [List.take_length, List.take_of_length_le (by omega)], Or.inr ⟨h12, rfl⟩⟩
    obtain ⟨n, hn1, hn2, hn3, hn⟩ := key
    obtain ⟨cap, W1, hconv, hcell, hfrz, hB⟩ := conv_bytes (P := Tryd.prog) Tryd.underlying9 Tryd.underlying28 Tryd.underlying5 (l.take n) w
    rw [show (l.take n).length = n by simp; omega] at hconv hcell hfrz
    have hconv : (convert 9 28 (.string ((⟨l.toArray⟩ : ByteArray).extract 0 n))).run Tryd.prog w = .ok (.slice (some ⟨w.heap.size, 0, none⟩) n cap) W1 := by
      rw [bytes_cut, List.drop_zero]; exact hconv
    have HC := Lib.hid (show ∀ j, j < n → W1.cell? ⟨w.heap.size, j, none⟩ = some (cleanV l 0 j) from fun j hj => by
      rw [hcell j hj]; unfold cleanV byteV; rw [if_neg (by omega)]; simp [List.getD, hj])
    have HF := Lib.hid hfrz
    have HB := Lib.hid hB
    have HN := Lib.hid (show (l.take 12).map cleanC = (l.take n).map cleanC by rw [hn3])
    have HN1 := Lib.hid hn1
    clear hcell hfrz hB hn3
    rcases hn with ⟨h12, hn⟩ | ⟨h12, hn⟩
    · have HX := Lib.hid (show cleanL l = [118, 95] ++ List.take 12 (List.map cleanC l) by rw [hC.out, List.map_take])
      have q1 : (12 ≤ (l.length : Int)) = True := eq_true (by omega)
      have q1' : (12 ≤ l.length) = True := eq_true h12
      have q2 : ((l.length : Int) < 12) = False := eq_false (by omega)
      have q2' : (l.length < 12) = False := eq_false (by omega)
      subst hn
      clear hn1 hn2 h12
      go_enter Tryd.func7, Tryd.ntmps7
      go_wp2_with fail
      refine HR.mono ?_; rintro e w2 ⟨rfl, rfl⟩
      go_wp2_with fail
      --LOOPA
      go_loopw [17] (fun jj wr => ∃ k : Nat, k ≤ 12 ∧ jj = .int .i64 k ∧ Hid (∀ j, j < 12 → wr.cell? ⟨w2.heap.size, j, none⟩ = some (cleanV l k j)) ∧ Hid (∀ j, j < 12 → wr.frozen? ⟨w2.heap.size, j, none⟩ = false) ∧ Hid (Below w2.heap.size w2 wr)) (fun jj _ => 12 - (intOf jj).toNat)
      case atStart => exact ⟨0, by omega, rfl, HC, HF, HB⟩
      case round =>
        obtain ⟨k, hk, rfl, hC1, hF1, hB1⟩ := hrel
        by_cases hlt : k < 12
        · have qk : ((k : Int) < 12) = True := eq_true (by omega)
          have qk' : (k < 12) = True := eq_true hlt
          have HLT := Lib.hid hlt
          have hc := hC1.out k hlt
          have hfz := hF1.out k hlt
          rw [cleanV_at] at hc
          obtain ⟨c, hcc⟩ : ∃ c, l.getD k 0 = c := ⟨_, rfl⟩
          have HCC := Lib.hid hcc
          rw [hcc] at hc
          clear hcc hlt
          by_cases hu : upperC c = true
          · have hv := Lib.hid (cleanC_upper hu)
            obtain ⟨u1, u2⟩ := upper_small hu
            have r1 : (65 ≤ (c.toNat : Int)) = True := eq_true (by omega)
            have r1' : (65 ≤ c.toNat) = True := eq_true u1
            have r2 : ((c.toNat : Int) ≤ 90) = True := eq_true (by omega)
            have r2' : (c.toNat ≤ 90) = True := eq_true u2
            have U1 := Lib.hid u1
            have U2 := Lib.hid u2
            clear hu u1 u2
            obtain ⟨n, hn⟩ : ∃ n, c.toNat = n := ⟨_, rfl⟩
            have HNn := Lib.hid hn
            rw [hn] at hc r1 r1' r2 r2' U1 U2
            clear hn
            go_wp2_with fail
            go_roundw
            case rel =>
              refine ⟨k + 1, by have := HLT.out; omega, by simp, Lib.hid (clean_step HLT.out hC1.out ?_), Lib.hid (fun j hj => (World.frozen?_setCell _ _ _ _).trans (hF1.out j hj)), Lib.hid (hB1.out.setCell (Nat.le_refl _) _)⟩
              rw [HCC.out, hv.out, HNn.out]
              have h1 := U1.out
              have h2 := U2.out
              first | rfl | (congr 1; omega) | (congr 1; simp; omega)
            case measure => have := HLT.out; first | (simp [intOf]; done) | (simp [intOf]; omega)
          · have hu2 : c.toNat < 65 ∨ ¬ c.toNat < 65 ∧ 90 < c.toNat := by
              have h3 : ¬ (65 ≤ c.toNat ∧ c.toNat ≤ 90) := fun h => hu (decide_eq_true h)
              omega
            have hsc := ident_small c
            have hdc := ident_digit c
            have HV := Lib.hid (fun (h : signC c = true) => show cleanC (l.getD k 0) = l.getD k 0 by rw [HCC.out]; unfold cleanC; rw [if_neg hu, if_pos h])
            have HV2 := Lib.hid (fun (h1 : smallC c = false) (h2 : digitC c = false) => show Value.int .u8 95 = .int .u8 ((cleanC (l.getD k 0)).toNat : Int) by
              rw [HCC.out]
              unfold cleanC
              rw [if_neg hu]
              by_cases h : signC c = true
              · rw [if_pos h]
                have := n95 h h1 h2
                simp at this
                rw [this]
              · rw [if_neg h]; rfl)
            have hr12 : ((65 ≤ (c.toNat : Int)) = False ∧ (65 ≤ c.toNat) = False) ∨ ((65 ≤ (c.toNat : Int)) = True ∧ (65 ≤ c.toNat) = True ∧ ((c.toNat : Int) ≤ 90) = False ∧ (c.toNat ≤ 90) = False) := by
              rcases hu2 with h | ⟨h, h'⟩
              · exact Or.inl ⟨eq_false (by omega), eq_false (by omega)⟩
              · exact Or.inr ⟨eq_true (by omega), eq_true (by omega), eq_false (by omega), eq_false (by omega)⟩
            clear hu hu2
            cases g1 : smallC c
            · rw [g1] at hsc
              cases g2 : digitC c
              · rw [g2] at hdc
                have HW := Lib.hid (HV2.out g1 g2)
                clear g1 g2 HV HV2
                generalize c.toNat = n at *
                rcases hr12 with ⟨r1, r1'⟩ | ⟨r1, r1', r2, r2'⟩
                all_goals
                  go_wp2_with fail
                  refine (hsc _).mono ?_; rintro e w3 ⟨rfl, rfl⟩
                  go_wp2_with fail
                  refine (hdc _).mono ?_; rintro e w4 ⟨rfl, rfl⟩
                  go_wp2_with fail
                  go_roundw
                  case rel => exact ⟨k + 1, by have := HLT.out; omega, by simp, Lib.hid (clean_step HLT.out hC1.out HW.out), Lib.hid (fun j hj => (World.frozen?_setCell _ _ _ _).trans (hF1.out j hj)), Lib.hid (hB1.out.setCell (Nat.le_refl _) _)⟩
                  case measure => have := HLT.out; first | (simp [intOf]; done) | (simp [intOf]; omega)
              · rw [g2] at hdc
                have HW := Lib.hid (HV.out (by unfold signC; rw [g1, g2]; rfl))
                clear g1 g2 HV HV2
                generalize c.toNat = n at *
                rcases hr12 with ⟨r1, r1'⟩ | ⟨r1, r1', r2, r2'⟩
                all_goals
                  go_wp2_with fail
                  refine (hsc _).mono ?_; rintro e w3 ⟨rfl, rfl⟩
                  go_wp2_with fail
                  refine (hdc _).mono ?_; rintro e w4 ⟨rfl, rfl⟩
                  go_wp2_with fail
                  go_roundw
                  case rel => exact ⟨k + 1, by have := HLT.out; omega, by simp, Lib.hid (clean_keep hC1.out HW.out), hF1, hB1⟩
                  case measure => have := HLT.out; first | (simp [intOf]; done) | (simp [intOf]; omega)
            · rw [g1] at hsc
              have HW := Lib.hid (HV.out (by unfold signC; rw [g1]; rfl))
              clear g1 HV HV2 hdc
              generalize c.toNat = n at *
              rcases hr12 with ⟨r1, r1'⟩ | ⟨r1, r1', r2, r2'⟩
              all_goals
                go_wp2_with fail
                refine (hsc _).mono ?_; rintro e w3 ⟨rfl, rfl⟩
                go_wp2_with fail
                go_roundw
                case rel => exact ⟨k + 1, by have := HLT.out; omega, by simp, Lib.hid (clean_keep hC1.out HW.out), hF1, hB1⟩
                case measure => have := HLT.out; first | (simp [intOf]; done) | (simp [intOf]; omega)
        · have hk2 : k = 12 := by omega
          have qk : ((k : Int) < 12) = False := eq_false (by omega)
          have qk' : (k < 12) = False := eq_false hlt
          have hbk := HE.out wr 12 cap HN1.out (by rw [hk2] at hC1; exact hC1.out)
          have hsum : (9223372036854775807 < 2 + (List.map cleanC (List.take 12 l)).length) = False := eq_false (by simp; omega)
          have hsum' : (9223372036854775807 < 2 + min 12 l.length) = False := eq_false (by omega)
          have hq := Lib.hid (show (⟨(cleanL l).toArray⟩ : ByteArray) = ⟨#[118, 95]⟩ ++ ⟨(List.take 12 (List.map cleanC l)).toArray⟩ by rw [HX.out]; exact (ByteArray.mk_append_mk ..).symm)
          go_wp2_with fail
          go_returns
          exact ⟨by rw [hq.out]; rfl, hB1.out⟩
      --END
    · have HX := Lib.hid (show cleanL l = [118, 95] ++ List.map cleanC l by rw [hC.out, List.take_of_length_le (by omega)])
      have q1 : (12 ≤ (l.length : Int)) = False := eq_false (by omega)
      have q1' : (12 ≤ l.length) = False := eq_false h12
      have q2 : ((l.length : Int) < 12) = True := eq_true (by omega)
      have q2' : (l.length < 12) = True := eq_true (by omega)
      subst hn
      clear hn1 hn2 h12
      go_enter Tryd.func7, Tryd.ntmps7
      go_wp2_with fail
      refine HR.mono ?_; rintro e w2 ⟨rfl, rfl⟩
      go_wp2_with fail
      --LOOPB
      go_loopw [17] (fun jj wr => ∃ k : Nat, k ≤ l.length ∧ jj = .int .i64 k ∧ Hid (∀ j, j < l.length → wr.cell? ⟨w2.heap.size, j, none⟩ = some (cleanV l k j)) ∧ Hid (∀ j, j < l.length → wr.frozen? ⟨w2.heap.size, j, none⟩ = false) ∧ Hid (Below w2.heap.size w2 wr)) (fun jj _ => l.length - (intOf jj).toNat)
      case atStart => exact ⟨0, by omega, rfl, HC, HF, HB⟩
      case round =>
        obtain ⟨k, hk, rfl, hC1, hF1, hB1⟩ := hrel
        by_cases hlt : k < l.length
        · have qk : ((k : Int) < (l.length : Int)) = True := eq_true (by omega)
          have qk' : (k < l.length) = True := eq_true hlt
          have HLT := Lib.hid hlt
          have hc := hC1.out k hlt
          have hfz := hF1.out k hlt
          rw [cleanV_at] at hc
          obtain ⟨c, hcc⟩ : ∃ c, l.getD k 0 = c := ⟨_, rfl⟩
          have HCC := Lib.hid hcc
          rw [hcc] at hc
          clear hcc hlt
          by_cases hu : upperC c = true
          · have hv := Lib.hid (cleanC_upper hu)
            obtain ⟨u1, u2⟩ := upper_small hu
            have r1 : (65 ≤ (c.toNat : Int)) = True := eq_true (by omega)
            have r1' : (65 ≤ c.toNat) = True := eq_true u1
            have r2 : ((c.toNat : Int) ≤ 90) = True := eq_true (by omega)
            have r2' : (c.toNat ≤ 90) = True := eq_true u2
            have U1 := Lib.hid u1
            have U2 := Lib.hid u2
            clear hu u1 u2
            obtain ⟨n, hn⟩ : ∃ n, c.toNat = n := ⟨_, rfl⟩
            have HNn := Lib.hid hn
            rw [hn] at hc r1 r1' r2 r2' U1 U2
            clear hn
            go_wp2_with fail
            go_roundw
            case rel =>
              refine ⟨k + 1, by have := HLT.out; omega, by simp, Lib.hid (clean_step HLT.out hC1.out ?_), Lib.hid (fun j hj => (World.frozen?_setCell _ _ _ _).trans (hF1.out j hj)), Lib.hid (hB1.out.setCell (Nat.le_refl _) _)⟩
              rw [HCC.out, hv.out, HNn.out]
              have h1 := U1.out
              have h2 := U2.out
              first | rfl | (congr 1; omega) | (congr 1; simp; omega)
            case measure => have := HLT.out; first | (simp [intOf]; done) | (simp [intOf]; omega)
          · have hu2 : c.toNat < 65 ∨ ¬ c.toNat < 65 ∧ 90 < c.toNat := by
              have h3 : ¬ (65 ≤ c.toNat ∧ c.toNat ≤ 90) := fun h => hu (decide_eq_true h)
              omega
            have hsc := ident_small c
            have hdc := ident_digit c
            have HV := Lib.hid (fun (h : signC c = true) => show cleanC (l.getD k 0) = l.getD k 0 by rw [HCC.out]; unfold cleanC; rw [if_neg hu, if_pos h])
            have HV2 := Lib.hid (fun (h1 : smallC c = false) (h2 : digitC c = false) => show Value.int .u8 95 = .int .u8 ((cleanC (l.getD k 0)).toNat : Int) by
              rw [HCC.out]
              unfold cleanC
              rw [if_neg hu]
              by_cases h : signC c = true
              · rw [if_pos h]
                have := n95 h h1 h2
                simp at this
                rw [this]
              · rw [if_neg h]; rfl)
            have hr12 : ((65 ≤ (c.toNat : Int)) = False ∧ (65 ≤ c.toNat) = False) ∨ ((65 ≤ (c.toNat : Int)) = True ∧ (65 ≤ c.toNat) = True ∧ ((c.toNat : Int) ≤ 90) = False ∧ (c.toNat ≤ 90) = False) := by
              rcases hu2 with h | ⟨h, h'⟩
              · exact Or.inl ⟨eq_false (by omega), eq_false (by omega)⟩
              · exact Or.inr ⟨eq_true (by omega), eq_true (by omega), eq_false (by omega), eq_false (by omega)⟩
            clear hu hu2
            cases g1 : smallC c
            · rw [g1] at hsc
              cases g2 : digitC c
              · rw [g2] at hdc
                have HW := Lib.hid (HV2.out g1 g2)
                clear g1 g2 HV HV2
                generalize c.toNat = n at *
                rcases hr12 with ⟨r1, r1'⟩ | ⟨r1, r1', r2, r2'⟩
                all_goals
                  go_wp2_with fail
                  refine (hsc _).mono ?_; rintro e w3 ⟨rfl, rfl⟩
                  go_wp2_with fail
                  refine (hdc _).mono ?_; rintro e w4 ⟨rfl, rfl⟩
                  go_wp2_with fail
                  go_roundw
                  case rel => exact ⟨k + 1, by have := HLT.out; omega, by simp, Lib.hid (clean_step HLT.out hC1.out HW.out), Lib.hid (fun j hj => (World.frozen?_setCell _ _ _ _).trans (hF1.out j hj)), Lib.hid (hB1.out.setCell (Nat.le_refl _) _)⟩
                  case measure => have := HLT.out; first | (simp [intOf]; done) | (simp [intOf]; omega)
              · rw [g2] at hdc
                have HW := Lib.hid (HV.out (by unfold signC; rw [g1, g2]; rfl))
                clear g1 g2 HV HV2
                generalize c.toNat = n at *
                rcases hr12 with ⟨r1, r1'⟩ | ⟨r1, r1', r2, r2'⟩
                all_goals
                  go_wp2_with fail
                  refine (hsc _).mono ?_; rintro e w3 ⟨rfl, rfl⟩
                  go_wp2_with fail
                  refine (hdc _).mono ?_; rintro e w4 ⟨rfl, rfl⟩
                  go_wp2_with fail
                  go_roundw
                  case rel => exact ⟨k + 1, by have := HLT.out; omega, by simp, Lib.hid (clean_keep hC1.out HW.out), hF1, hB1⟩
                  case measure => have := HLT.out; first | (simp [intOf]; done) | (simp [intOf]; omega)
            · rw [g1] at hsc
              have HW := Lib.hid (HV.out (by unfold signC; rw [g1]; rfl))
              clear g1 HV HV2 hdc
              generalize c.toNat = n at *
              rcases hr12 with ⟨r1, r1'⟩ | ⟨r1, r1', r2, r2'⟩
              all_goals
                go_wp2_with fail
                refine (hsc _).mono ?_; rintro e w3 ⟨rfl, rfl⟩
                go_wp2_with fail
                go_roundw
                case rel => exact ⟨k + 1, by have := HLT.out; omega, by simp, Lib.hid (clean_keep hC1.out HW.out), hF1, hB1⟩
                case measure => have := HLT.out; first | (simp [intOf]; done) | (simp [intOf]; omega)
        · have hk2 : k = l.length := by omega
          have qk : ((k : Int) < (l.length : Int)) = False := eq_false (by omega)
          have qk' : (k < l.length) = False := eq_false hlt
          have hbk := HE.out wr l.length cap HN1.out (by rw [hk2] at hC1; exact hC1.out)
          have hsum : (9223372036854775807 < 2 + (List.map cleanC (List.take l.length l)).length) = False := eq_false (by simp; omega)
          have hsum' : (9223372036854775807 < 2 + min l.length l.length) = False := eq_false (by omega)
          have hq := Lib.hid (show (⟨(cleanL l).toArray⟩ : ByteArray) = ⟨#[118, 95]⟩ ++ ⟨(List.map cleanC l).toArray⟩ by rw [HX.out]; exact (ByteArray.mk_append_mk ..).symm)
          go_wp2_with fail
          go_returns
          exact ⟨by rw [hq.out]; rfl, hB1.out⟩
      --END
  · rw [hr] at HR
    have hC := Lib.hid (show cleanL l = l by unfold cleanL; rw [hr]; rfl)
    clear hr
    go_enter Tryd.func7, Tryd.ntmps7
    go_wp2_with fail
    refine HR.mono ?_; rintro e w2 ⟨rfl, rfl⟩
    go_wp2_with fail
    go_returns
    exact ⟨by rw [hC.out]; rfl, Below.refl _ _⟩
end Go.Proofs.YthammifbpdoggaaDoor
