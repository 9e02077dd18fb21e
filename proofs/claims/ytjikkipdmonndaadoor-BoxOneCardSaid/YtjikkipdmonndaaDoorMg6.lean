/- Merged texts: BoxSec, UnPutR, BoxUnits, BoxEnc, BoxAwake, BoxWhole, BoxOne, LawBoxOne, LaidFlat, LawThirteenFacts, RepOpen, OpenUnit, OpenPr. -/
import Derived.Test.YtjikkipdmonndaaDoorMg5
import Derived.Test.YtjikkipdmonndaaDoorMg0
import Derived.Test.YtjikkipdmonndaaDoorMg1
import Derived.LoopTactic
import Derived.Deep.QuietTactic
import Derived.Test.YtjikkipdmonndaaDoorLaid
import Derived.Test.YtjikkipdmonndaaDoorBase
import Derived.Deep.Slices
import Derived.ChangeSame
/- Layer 16: a section's bytes, by both. -/
namespace Go.Proofs.YtjikkipdmonndaaDoor
open Go.RowKit
set_option linter.unusedSimpArgs false
set_option linter.unusedVariables false
theorem bytes_at {w : World} {B : Nat} {e : TypeId} {r : Value} {n : Nat} {l : List UInt8} (h : w.ownsRow B e 1 r n (bytesV l)) : RowAt w r l.length (byteV l) := by
  have hn : l.length = n := by have := h.1; simpa [bytesV] using this
  subst hn
  exact RowAt.owns h (fun i hi => byteV_at hi)
theorem own_bytes {w : World} {B : Nat} {e : TypeId} {r : Value} {n : Nat} {l m : List UInt8} (h : w.ownsRow B e 1 r n (bytesV l)) (e2 : l = m) : w.ownsRow B e 1 r m.length (bytesV m) := by
  have hn : n = l.length := by have := h.1; simpa [bytesV] using this.symm
  subst e2; subst hn; exact h
theorem box_form {w : World} {v : Value} {n : Nat} {f : Nat → Value} (h : RowAt w v n f) : ∃ a c, v = .slice a n c := by
  rcases h with ⟨a, cap, rfl, h0, _⟩ | ⟨b, off, cap, rfl, _⟩
  · exact ⟨a, cap, by rw [h0]⟩
  · exact ⟨_, cap, rfl⟩
theorem near1 : (near8 1).toNat = 1 := by decide
theorem near4 : (near8 4).toNat = 4 := by decide
theorem putL1 (z : Int) : putL 1 z = [byteO z] := by simp [putL, byteAt, byteO]
set_option maxHeartbeats 2000000 in
theorem box_section (v u : Value) (l m : List UInt8) (k : Int) (w : World) (hv : RowAt w v l.length (byteV l)) (hu : RowAt w u m.length (byteV m)) (hl : l.length ≤ 10000000) (hm : m.length ≤ 10000000) :
    Calls Tryd.prog 21 #[v, .int .i64 k, u] w fun e w' => ∃ r, e = .returned r ∧ w'.ownsRow w.heap.size 5 1 r (l ++ secL k m).length (bytesV (l ++ secL k m)) ∧ Below w.heap.size w w' := by
  obtain ⟨i, hi, hz, hsize, hby⟩ : ∃ i, Tryd.prog.info? 5 = some i ∧ i.zero = some (.int .u8 0) ∧ i.size = 1 ∧ i.bytes = 1 := ⟨(Tryd.prog.info? 5).get!, by kernel_rfl, by kernel_rfl, by kernel_rfl, by kernel_rfl⟩
  have Hu := Lib.hid (fun W (hb : Below w.heap.size w W) => hu.below hb)
  have H1 := Lib.hid (fun W (hb : Below w.heap.size w W) => octet_Put v l 1 k W (hv.below hb) (by omega))
  have HS := Lib.hid (show l ++ secL k m = (l ++ putL 1 k ++ putL 4 m.length) ++ m by unfold secL; rw [putL1]; simp)
  rw [near1] at H1
  obtain ⟨N, hN⟩ : ∃ N, m.length = N := ⟨_, rfl⟩
  obtain ⟨M, hM⟩ : ∃ M, l.length = M := ⟨_, rfl⟩
  obtain ⟨au, cu, rfl⟩ : ∃ a c, u = .slice a m.length c := by
    rcases hu with ⟨a, cap, rfl, h0, _⟩ | ⟨b, off, cap, rfl, _⟩
    · exact ⟨a, cap, by rw [h0]⟩
    · exact ⟨_, cap, rfl⟩
  have HN := Lib.hid hN
  have HM := Lib.hid hM
  rw [hN] at hm HS Hu ⊢
  rw [hM] at hl H1
  clear hN hM hv hu
  go_enter Tryd.func21, Tryd.ntmps21
  go_wp2_with fail
  refine (H1.out _ (Below.refl _ _)).mono ?_; rintro e w1 ⟨r1, rfl, hO1, hb1⟩
  go_wp2_with fail
  refine (octet_Put r1 (l ++ putL 1 k) 4 (N : Int) w1 (bytes_at hO1) (by rw [List.length_append, putL_len, HM.out]; omega)).mono ?_; rintro e w2 ⟨r2, rfl, hO2, hb2⟩
  rw [near4, List.length_append, putL_len, HM.out] at hO2
  have hb2' := hb1.trans (hb2.mono hb1.size)
  have hO2 := Lib.hid (own_low hO2 hb1.size)
  obtain ⟨ar2, cr2, rfl⟩ := owns_form hO2.out
  clear hO1 hb1 hb2
  go_wp2_with (first | (at_builtin; go_loud (refine wpList_append_row1 rfl (.tmp 13) (.tmp 14) 30 rfl w.heap.size 5 i (.int .u8 0) 1 Tryd.underlying30 hi hz hsize hby rfl _ (M + 1 + 4) _ rfl hO2.out _ N (byteV m) rfl (Hu.out _ hb2') (fun _ _ => rfl) (by unfold maxLen; omega) (by omega) hb2'.size ?_; intro v3 w3 hO3 hG3; have hB3 := Lib.hid (grown3 hb2' hb2'.size hO2.out hG3); have HO3 := Lib.hid hO3; clear hO3 hG3)) | fail)
  go_returns
  refine ⟨_, rfl, ?_, hB3.out⟩
  have h3 := HO3.out
  have e : (List.range N).map (byteV m) = bytesV m := by rw [← HN.out]; exact map_byteV m
  rw [e, ← bytesV_app] at h3
  rw [HS.out]
  exact own_bytes h3 rfl
set_option maxHeartbeats 2000000 in
theorem ref16_section (v u : Value) (l m : List UInt8) (k : Int) (w : World) (hv : RowAt w v l.length (byteV l)) (hu : RowAt w u m.length (byteV m)) (hl : l.length ≤ 10000000) (hm : m.length ≤ 10000000) :
    Calls Tryd.prog 29 #[v, .int .i64 k, u] w fun e w' => ∃ r, e = .returned r ∧ w'.ownsRow w.heap.size 5 1 r (l ++ secL k m).length (bytesV (l ++ secL k m)) ∧ Below w.heap.size w w' := by
  obtain ⟨i, hi, hz, hsize, hby⟩ : ∃ i, Tryd.prog.info? 5 = some i ∧ i.zero = some (.int .u8 0) ∧ i.size = 1 ∧ i.bytes = 1 := ⟨(Tryd.prog.info? 5).get!, by kernel_rfl, by kernel_rfl, by kernel_rfl, by kernel_rfl⟩
  have Hu := Lib.hid (fun W (hb : Below w.heap.size w W) => hu.below hb)
  have H1 := Lib.hid (fun W (hb : Below w.heap.size w W) => ref03_Put v l 1 k W (hv.below hb) (by omega))
  have HS := Lib.hid (show l ++ secL k m = (l ++ putL 1 k ++ putL 4 m.length) ++ m by unfold secL; rw [putL1]; simp)
  rw [near1] at H1
  obtain ⟨N, hN⟩ : ∃ N, m.length = N := ⟨_, rfl⟩
  obtain ⟨M, hM⟩ : ∃ M, l.length = M := ⟨_, rfl⟩
  obtain ⟨au, cu, rfl⟩ : ∃ a c, u = .slice a m.length c := by
    rcases hu with ⟨a, cap, rfl, h0, _⟩ | ⟨b, off, cap, rfl, _⟩
    · exact ⟨a, cap, by rw [h0]⟩
    · exact ⟨_, cap, rfl⟩
  have HN := Lib.hid hN
  have HM := Lib.hid hM
  rw [hN] at hm HS Hu ⊢
  rw [hM] at hl H1
  clear hN hM hv hu
  go_enter Tryd.func29, Tryd.ntmps29
  go_wp2_with fail
  refine (H1.out _ (Below.refl _ _)).mono ?_; rintro e w1 ⟨r1, rfl, hO1, hb1⟩
  go_wp2_with fail
  refine (ref03_Put r1 (l ++ putL 1 k) 4 (N : Int) w1 (bytes_at hO1) (by rw [List.length_append, putL_len, HM.out]; omega)).mono ?_; rintro e w2 ⟨r2, rfl, hO2, hb2⟩
  rw [near4, List.length_append, putL_len, HM.out] at hO2
  have hb2' := hb1.trans (hb2.mono hb1.size)
  have hO2 := Lib.hid (own_low hO2 hb1.size)
  obtain ⟨ar2, cr2, rfl⟩ := owns_form hO2.out
  clear hO1 hb1 hb2
  go_wp2_with (first | (at_builtin; go_loud (refine wpList_append_row1 rfl (.tmp 13) (.tmp 14) 30 rfl w.heap.size 5 i (.int .u8 0) 1 Tryd.underlying30 hi hz hsize hby rfl _ (M + 1 + 4) _ rfl hO2.out _ N (byteV m) rfl (Hu.out _ hb2') (fun _ _ => rfl) (by unfold maxLen; omega) (by omega) hb2'.size ?_; intro v3 w3 hO3 hG3; have hB3 := Lib.hid (grown3 hb2' hb2'.size hO2.out hG3); have HO3 := Lib.hid hO3; clear hO3 hG3)) | fail)
  go_returns
  refine ⟨_, rfl, ?_, hB3.out⟩
  have h3 := HO3.out
  have e : (List.range N).map (byteV m) = bytesV m := by rw [← HN.out]; exact map_byteV m
  rw [e, ← bytesV_app] at h3
  rw [HS.out]
  exact own_bytes h3 rfl
end Go.Proofs.YtjikkipdmonndaaDoor

/- Layer 15: a unit's bytes, by the answer. -/
namespace Go.Proofs.YtjikkipdmonndaaDoor
open Go.RowKit
set_option linter.unusedSimpArgs false
set_option linter.unusedVariables false
set_option maxHeartbeats 8000000 in
theorem ref15_Put (a b c : Value) (x : Un) (w : World) (h : UnAt w a b c x) (hl : x.params.length ≤ 1000 ∧ x.locals.length ≤ 4000 ∧ x.code.length ≤ 1000) :
    Calls Tryd.prog 27 #[.agg #[.string ⟨x.name.toArray⟩, a, .int .i64 x.result, b, c]] w fun e w' => ∃ r, e = .returned (.tuple #[r, .bool (fitU x)]) ∧ RowAt w' r (putO x).length (byteV (putO x)) ∧ Below w.heap.size w w' := by
  obtain ⟨i, hi, hz, hsize, hby⟩ : ∃ i, Tryd.prog.info? 5 = some i ∧ i.zero = some (.int .u8 0) ∧ i.size = 1 ∧ i.bytes = 1 := ⟨(Tryd.prog.info? 5).get!, by kernel_rfl, by kernel_rfl, by kernel_rfl, by kernel_rfl⟩
  have HF := Lib.hid (fun W (hb : Below w.heap.size w W) => ref15_Fits a b c x W (h.below hb))
  have HR1 := Lib.hid (fun W (hb : Below w.heap.size w W) => h.ps.below intR_stable hb)
  have HR2 := Lib.hid (fun W (hb : Below w.heap.size w W) => h.ls.below intR_stable hb)
  have HE := Lib.hid (fun W (hb : Below w.heap.size w W) => ref13_Encode c x.code W (h.cs.below insR_stable hb) hl.2.2)
  obtain ⟨sa, ca, ea⟩ := row_get h.ps
  obtain ⟨sb, cb, eb⟩ := row_get h.ls
  obtain ⟨sc, cc, ec⟩ := row_get h.cs
  subst ea eb ec
  clear h
  cases hf : fitU x
  · rw [hf] at HF
    have hs := Lib.hid (putO_no hf)
    generalize (⟨x.name.toArray⟩ : ByteArray) = nm at *
    generalize x.params.length = n1 at *
    generalize x.locals.length = n2 at *
    generalize x.code.length = n3 at *
    generalize x.result = rs at *
    have hB0 : Below w.heap.size w (w.alloc (.cells #[.string nm, .slice sa n1 ca, .int .i64 rs, .slice sb n2 cb, .slice sc n3 cc] 48)) := (Below.refl _ _).alloc (Nat.le_refl _) _
    clear hf
    go_enter Tryd.func27, Tryd.ntmps27
    go_wp2_with fail
    refine (HF.out _ hB0).mono ?_; rintro e w1 ⟨rfl, hb1⟩
    have hB1 := hB0.trans (hb1.mono hB0.size)
    go_wp2_with fail
    go_returns
    exact ⟨_, rfl, by rw [hs.out]; exact row_nil_at _, hB1⟩
  rw [hf] at HF
  obtain ⟨hlen, hp, hq, hr, hc⟩ := fitU_is hf
  have hnm : (⟨x.name.toArray⟩ : ByteArray).size = x.name.length := by simp [ByteArray.size]
  have htn := text_nil ⟨x.name.toArray⟩ (by rw [hnm]; exact hlen.1)
  rw [hnm] at htn
  have hcut : (cut255 ⟨x.name.toArray⟩).size = x.name.length := by unfold cut255; rw [if_neg (by rw [hnm]; have := hlen.1; omega)]; exact hnm
  have HT := Lib.hid (fun W : World => (ref03_Text (.slice none 0 0) [] ⟨x.name.toArray⟩ W (row_nil_at W) (by simp)).mono (R' := fun e w' => ∃ r, e = .returned r ∧ w'.ownsRow W.heap.size 5 1 r (1 + x.name.length) (bytesV (UInt8.ofNat x.name.length :: x.name)) ∧ Below W.heap.size W w') (by rintro e w' ⟨r, h1, h2, h3⟩; rw [htn, hcut] at h2; exact ⟨r, h1, by simpa using h2, h3⟩))
  have HPO := Lib.hid (putO_yes hf)
  have HPU := Lib.hid (show putU x = (((((UInt8.ofNat x.name.length :: x.name) ++ [byteO x.params.length] ++ x.params.map byteO ++ [byteO x.result]) ++ putL 2 x.locals.length) ++ x.locals.map byteO) ++ putL 2 x.code.length) ++ encO x.code from rfl)
  rw [hc] at HE
  have hEl : (encO x.code).length ≤ 5000 := by rw [encO_yes hc, enc_len]; omega
  have hTl : (UInt8.ofNat x.name.length :: x.name).length = 1 + x.name.length := by simp; omega
  have hn0 : x.name.length ≤ 255 := hlen.1
  have hM1 : (x.params.map byteO).length = x.params.length := by simp
  have hM2 : (x.locals.map byteO).length = x.locals.length := by simp
  have hp2 : ∀ z : Int, (putL 2 z).length = 2 := fun z => putL_len 2 z
  have hn8 : (near8 2).toNat = 2 := by decide
  clear hf hlen hp hq hr hc hnm htn hcut
  generalize encO x.code = EC at *
  generalize (UInt8.ofNat x.name.length :: x.name) = T at *
  have HPL := Lib.hid (show x.params.length = x.params.length from rfl)
  have HMM1 : Hid (∀ k y, x.params[k]? = some y → (x.params.map byteO).take (k + 1) = (x.params.map byteO).take k ++ [byteO y]) := Lib.hid (fun k y hy => take_snoc (by simp [hy]))
  have HMM2 : Hid (∀ k y, x.locals[k]? = some y → (x.locals.map byteO).take (k + 1) = (x.locals.map byteO).take k ++ [byteO y]) := Lib.hid (fun k y hy => take_snoc (by simp [hy]))
  generalize x.params.map byteO = M1 at *
  generalize x.locals.map byteO = M2 at *
  generalize (⟨x.name.toArray⟩ : ByteArray) = nm at *
  generalize x.name.length = n0 at *
  generalize hP : x.params = P at *
  generalize hQ : x.locals = Q at *
  generalize hn1 : P.length = n1 at *
  generalize hn2 : Q.length = n2 at *
  generalize x.code.length = n3 at *
  generalize x.result = rs at *
  have HNP := Lib.hid hn1
  have HNQ := Lib.hid hn2
  clear hP hQ hn1 hn2
  obtain ⟨W0, hW0⟩ : ∃ W0, W0 = w.alloc (.cells #[.string nm, .slice sa n1 ca, .int .i64 rs, .slice sb n2 cb, .slice sc n3 cc] 48) := ⟨_, rfl⟩
  have hB0 : Below w.heap.size w W0 := by rw [hW0]; exact (Below.refl _ _).alloc (Nat.le_refl _) _
  have K0 := Lib.hid (show Boxed W0 w.heap.size [.string nm, .slice sa n1 ca, .int .i64 rs, .slice sb n2 cb, .slice sc n3 cc] by rw [hW0]; exact Boxed.new w _ _ (Below.refl _ _))
  have hz0 : w.heap.size < W0.heap.size := by rw [hW0]; simp
  have HW0 := Lib.hid hW0
  have HL := Lib.hid hl
  clear hW0 hl
  go_enter Tryd.func27, Tryd.ntmps27
  go_wp2_with fail
  refine (HF.out _ (by rw [← HW0.out]; exact hB0)).mono ?_; rintro e W1 ⟨rfl, hb1⟩
  rw [← HW0.out] at hb1
  have hB1 := hB0.trans (hb1.mono hB0.size)
  have hz1 : w.heap.size < W1.heap.size := Nat.lt_of_lt_of_le hz0 hb1.size
  have K := Lib.hid (K0.out.keep hz0 hb1)
  clear HW0 K0 HF hb1 hB0 hz0
  clear W0
  obtain ⟨l1, l2, l3⟩ := HL.out
  have hNE : (1 + n0 + 1 : Nat) ≤ 300 := by omega
  have e0 := K.out 0 _ rfl
  go_wp2_with fail
  refine (HT.out _).mono ?_; rintro e w2 ⟨r2, rfl, hr2, hH2⟩
  have HO2 := Lib.hid hr2
  have c1 := (K.out.keep hz1 hH2) 1 _ rfl
  clear hr2 HT e0
  go_wp2_with (first | (at_builtin; go_loud (refine wpList_append_src rfl (.tmp 15) (.tmp 20) 30 rfl W1.heap.size 5 i (.int .u8 0) 1 1 Tryd.underlying30 hi hz hsize hby rfl (by omega) _ (1 + n0) _ rfl (owns_below HO2.out ((Below.refl _ _).alloc (Nat.le_refl _) _)) _ 1 [.int .u8 ((n1 : Int) % 256)] rfl (src_new _ _ _) rfl (by intro u hu; simp at hu; rw [hu]; rfl) (by unfold maxLen; omega) (by omega) (by simp; have := hH2.size; omega) ?_; intro v3 w3 hO3 hG3; have hH3 := grown3 (hH2.alloc hH2.size _) (by simp; have := hH2.size; omega) (owns_below HO2.out ((Below.refl _ _).alloc (Nat.le_refl _) _)) hG3; have HO3 := Lib.hid hO3; clear hO3 hG3 c1)) | fail)
  obtain ⟨E1, hE1⟩ : ∃ E1, E1 = T ++ [byteO n1] := ⟨_, rfl⟩
  have hE1n : E1.length = 1 + n0 + 1 := by rw [hE1]; simp only [List.length_append, List.length_cons, List.length_nil, hTl]
  have HO3 := Lib.hid (show w3.ownsRow W1.heap.size 5 1 v3 E1.length (bytesV E1) by rw [hE1n, hE1, ← bytesV_byteO]; exact HO3.out)
  rw [← hE1] at HPU
  clear hE1
  have HHH := Lib.hid hH3
  clear hH2 hH3
  go_loopw [4, 5] (fun o j wr => ∃ k : Nat, k ≤ n1 ∧ j = .int .i64 k ∧ Hid (wr.ownsRow W1.heap.size 5 1 o (E1.length + k) (bytesV (E1 ++ M1.take k))) ∧ Hid (Below W1.heap.size W1 wr)) (fun _ j _ => n1 - (intOf j).toNat)
  case atStart => exact ⟨0, by omega, rfl, Lib.hid (by simpa using HO3.out), HHH⟩
  case round =>
    clear HO3 HHH
    obtain ⟨k, hk, rfl, hO, hHw⟩ := hrel
    have hH := hHw.out
    have c1 := (K.out.keep hz1 hH) 1 _ rfl
    by_cases hlt : k < n1
    · obtain ⟨y, hy⟩ : ∃ y, P[k]? = some y := get_some (by have := HNP.out; omega)
      have hBw := hB1.trans (hH.mono hB1.size)
      have hrow := HR1.out _ hBw
      obtain ⟨bb, off, rfl, hbw, hc⟩ := ints_at hrow (k := k) (lt_of_get hy)
      obtain ⟨d0, _⟩ := hc k y hy
      have hts := Lib.hid (HMM1.out k y hy)
      have HOk := hO
      clear hc hy hrow hBw
      go_wp2_with (first | (at_builtin; go_loud (refine wpList_append_src rfl (.tmp 29) (.tmp 36) 30 rfl W1.heap.size 5 i (.int .u8 0) 1 1 Tryd.underlying30 hi hz hsize hby rfl (by omega) _ (E1.length + k) _ rfl (owns_below HOk.out ((Below.refl _ _).alloc (Nat.le_refl _) _)) _ 1 [.int .u8 (y % 256)] rfl (src_new _ _ _) rfl (by intro u hu; simp at hu; rw [hu]; rfl) (by unfold maxLen; omega) (by omega) (by simp; have := hH.size; omega) ?_; intro v4 w4 hO4 hG4; have hH4 := grown3 (hH.alloc hH.size _) (by simp; have := hH.size; omega) (owns_below HOk.out ((Below.refl _ _).alloc (Nat.le_refl _) _)) hG4; have HO4 := Lib.hid hO4; clear hO4 hG4)) | fail)
      go_roundw
      case rel => exact ⟨k + 1, by omega, by simp, Lib.hid (own_eq2 HO4.out (by omega) (by rw [hts.out, ← List.append_assoc, ← bytesV_byteO])), Lib.hid hH4⟩
      case measure => first | (simp [intOf]; done) | (simp [intOf]; omega)
    · obtain rfl : k = n1 := by omega
      have c2 := (K.out.keep hz1 hH) 2 _ rfl
      have HO4 := Lib.hid (own_eq2 hO.out rfl (show bytesV (E1 ++ M1.take k) = bytesV (E1 ++ M1) by rw [List.take_of_length_le (by omega)]))
      clear hO hHw HR1 HMM1
      go_wp2_with (first | (at_builtin; go_loud (refine wpList_append_src rfl (.tmp 38) (.tmp 42) 30 rfl W1.heap.size 5 i (.int .u8 0) 1 1 Tryd.underlying30 hi hz hsize hby rfl (by omega) _ (E1.length + k) _ rfl (owns_below HO4.out ((Below.refl _ _).alloc (Nat.le_refl _) _)) _ 1 [.int .u8 (rs % 256)] rfl (src_new _ _ _) rfl (by intro u hu; simp at hu; rw [hu]; rfl) (by unfold maxLen; omega) (by omega) (by simp; have := hH.size; omega) ?_; intro v5 w5 hO5 hG5; have hH5 := grown3 (hH.alloc hH.size _) (by simp; have := hH.size; omega) (owns_below HO4.out ((Below.refl _ _).alloc (Nat.le_refl _) _)) hG5; have HO5 := Lib.hid hO5; clear hO5 hG5 c1 c2; have c3 := (K.out.keep hz1 hH5) 3 _ rfl)) | fail)
      obtain ⟨E2, hE2⟩ : ∃ E2, E2 = E1 ++ M1 ++ [byteO rs] := ⟨_, rfl⟩
      have hE2n : E2.length = E1.length + k + 1 := by rw [hE2]; simp only [List.length_append, List.length_cons, List.length_nil, hM1]
      have HO5 := Lib.hid (show w5.ownsRow W1.heap.size 5 1 v5 E2.length (bytesV E2) by rw [hE2n, hE2, ← bytesV_byteO]; exact HO5.out)
      rw [← hE2] at HPU
      have hE2b : E2.length ≤ 20000 := by omega
      have HRow5 := Lib.hid (owns_bytes HO5.out rfl)
      clear hE2 hE2n HO4 HO5 hlt
      refine (ref03_Put v5 E2 2 n2 w5 HRow5.out (by omega)).mono ?_; rintro e w6 ⟨r6, rfl, hr6, hb6⟩
      rw [hn8] at hr6
      have hH6 := hH5.trans (hb6.mono hH5.size)
      obtain ⟨E3, hE3⟩ : ∃ E3, E3 = E2 ++ putL 2 n2 := ⟨_, rfl⟩
      have hE3n : E3.length = E2.length + 2 := by rw [hE3]; simp only [List.length_append, hp2]
      have HO6 := Lib.hid (show w6.ownsRow W1.heap.size 5 1 r6 E3.length (bytesV E3) by rw [hE3n, hE3]; exact own_low hr6 hH5.size)
      rw [← hE3] at HPU
      have HHH := Lib.hid hH6
      clear hr6 hb6 hE3 hH6 hH5 HRow5 c3 hH
      go_wp2_with fail
      go_loopw [4, 6] (fun o j wr => ∃ q : Nat, q ≤ n2 ∧ j = .int .i64 q ∧ Hid (wr.ownsRow W1.heap.size 5 1 o (E3.length + q) (bytesV (E3 ++ M2.take q))) ∧ Hid (Below W1.heap.size W1 wr)) (fun _ j _ => n2 - (intOf j).toNat)
      case atStart => exact ⟨0, by omega, rfl, Lib.hid (by simpa using HO6.out), HHH⟩
      case round =>
        clear HO6 HHH
        obtain ⟨q, hq, rfl, hO, hHw⟩ := hrel
        have hH := hHw.out
        have c3 := (K.out.keep hz1 hH) 3 _ rfl
        by_cases hlt : q < n2
        · obtain ⟨y, hy⟩ : ∃ y, Q[q]? = some y := get_some (by have := HNQ.out; omega)
          have hBw := hB1.trans (hH.mono hB1.size)
          have hrow := HR2.out _ hBw
          obtain ⟨bb, off, rfl, hbw, hc⟩ := ints_at hrow (k := q) (lt_of_get hy)
          obtain ⟨d0, _⟩ := hc q y hy
          have hts := Lib.hid (HMM2.out q y hy)
          have HOk := hO
          clear hc hy hrow hBw
          go_wp2_with (first | (at_builtin; go_loud (refine wpList_append_src rfl (.tmp 56) (.tmp 63) 30 rfl W1.heap.size 5 i (.int .u8 0) 1 1 Tryd.underlying30 hi hz hsize hby rfl (by omega) _ (E3.length + q) _ rfl (owns_below HOk.out ((Below.refl _ _).alloc (Nat.le_refl _) _)) _ 1 [.int .u8 (y % 256)] rfl (src_new _ _ _) rfl (by intro u hu; simp at hu; rw [hu]; rfl) (by unfold maxLen; omega) (by omega) (by simp; have := hH.size; omega) ?_; intro v7 w7 hO7 hG7; have hH7 := grown3 (hH.alloc hH.size _) (by simp; have := hH.size; omega) (owns_below HOk.out ((Below.refl _ _).alloc (Nat.le_refl _) _)) hG7; have HO7 := Lib.hid hO7; clear hO7 hG7)) | fail)
          go_roundw
          case rel => exact ⟨q + 1, by omega, by simp, Lib.hid (own_eq2 HO7.out (by omega) (by rw [hts.out, ← List.append_assoc, ← bytesV_byteO])), Lib.hid hH7⟩
          case measure => first | (simp [intOf]; done) | (simp [intOf]; omega)
        · obtain rfl : q = n2 := by omega
          have HO7 := Lib.hid (own_eq2 hO.out rfl (show bytesV (E3 ++ M2.take q) = bytesV (E3 ++ M2) by rw [List.take_of_length_le (by omega)]))
          obtain ⟨E4, hE4⟩ : ∃ E4, E4 = E3 ++ M2 := ⟨_, rfl⟩
          have hE4n : E4.length = E3.length + q := by rw [hE4]; simp only [List.length_append, hM2]
          have HRow7 := Lib.hid (owns_bytes (L := E4) (own_eq2 HO7.out hE4n.symm (by rw [hE4])) rfl)
          rw [← hE4] at HPU
          have hE4b : E4.length ≤ 30000 := by omega
          have c4 := (K.out.keep hz1 hH) 4 _ rfl
          clear hO hHw HR2 HMM2 HO7 hE4 hE4n
          go_wp2_with fail
          refine (ref03_Put _ E4 2 n3 _ HRow7.out (by omega)).mono ?_; rintro e w8 ⟨r8, rfl, hr8, hb8⟩
          rw [hn8] at hr8
          have hH8 := hH.trans (hb8.mono hH.size)
          have hB8 := hB1.trans (hH8.mono hB1.size)
          have HO8 := Lib.hid hr8
          have hz8 := hb8.size
          have c4 := (K.out.keep hz1 hH8) 4 _ rfl
          clear hr8
          go_wp2_with fail
          refine (HE.out _ hB8).mono ?_; rintro e w9 ⟨r9, rfl, hr9, hb9⟩
          have hB9 := hB8.trans (hb9.mono hB8.size)
          have HO9 := Lib.hid (owns_below HO8.out hb9)
          have HR9 := Lib.hid hr9
          have hz9 : wr.heap.size ≤ w9.heap.size := Nat.le_trans hz8 hb9.size
          have hwr := hB1.trans (hH.mono hB1.size)
          have hb89 := hb8.trans (hb9.mono hz8)
          have HFL := Lib.hid (show (E4 ++ putL 2 n3 ++ EC).length = E4.length + 2 + EC.length by simp only [List.length_append, hp2])
          clear hr9 c4 HRow7
          generalize E4.length = fl at *
          generalize hel : EC.length = el at *
          have HEL := Lib.hid hel
          clear hel
          go_wp2_with (first | (at_builtin; go_loud (refine wpList_append_row1 rfl (.tmp 76) (.tmp 77) 30 rfl wr.heap.size 5 i (.int .u8 0) 1 Tryd.underlying30 hi hz hsize hby rfl _ (fl + 2) _ rfl HO9.out _ el (byteV EC) rfl HR9.out (fun _ _ => rfl) (by unfold maxLen; omega) (by omega) hz9 ?_; intro v10 w10 hO10 hG10; have hB10 := hwr.trans ((grown3 hb89 hz9 HO9.out hG10).mono hwr.size); have HO10 := Lib.hid hO10; clear hO10 hG10)) | fail)
          go_returns
          refine ⟨_, rfl, ?_, hB10⟩
          rw [HPO.out, HPU.out]
          exact owns_bytes (own_eq2 HO10.out rfl (by rw [bytesV_app (E4 ++ putL 2 n3), ← map_bytesV EC, HEL.out])) (by rw [HFL.out])
end Go.Proofs.YtjikkipdmonndaaDoor

/- Layer 16: the units' section. -/
namespace Go.Proofs.YtjikkipdmonndaaDoor
open Go.RowKit
set_option linter.unusedSimpArgs false
set_option linter.unusedVariables false
theorem few_parts {x : Un} (h : fewU x = true) : x.params.length ≤ 1000 ∧ x.locals.length ≤ 4000 ∧ x.code.length ≤ 1000 := by
  have hf : x.name.length ≤ 300 ∧ x.params.length ≤ 20 ∧ x.locals.length ≤ 1100 ∧ x.code.length ≤ 300 := of_decide_eq_true h
  omega
theorem unsB_snoc {L : List Un} {k : Nat} {x : Un} (h : L[k]? = some x) : unsL (L.take (k + 1)) = unsL (L.take k) ++ (putL 4 (putU x).length ++ putU x) := by
  unfold unsL; rw [take_snoc h, List.flatMap_append]; simp [unL]
theorem okUs_no {L : List Un} {x : Un} (hx : x ∈ L) (h : fitU x = false) : okUs L = false := by
  unfold okUs
  rw [Bool.and_eq_false_iff]
  exact Or.inr (List.all_eq_false.2 ⟨x, hx, by simp [h]⟩)
theorem wrap_u8 (n : Nat) (h : n ≤ 8) : (byteO (n : Int)).toNat = n := by unfold byteO; simp; omega
def PutsU (w : World) (L : List Un) (e : Ending) (w' : World) : Prop :=
  ∃ r, e = .returned (.tuple #[r, .bool (okUs L)]) ∧ (okUs L = true → w'.ownsRow w.heap.size 5 1 r (unsB L).length (bytesV (unsB L))) ∧ (okUs L = false → r = .slice none 0 0) ∧ Below w.heap.size w w'
set_option maxRecDepth 100000 in
set_option maxHeartbeats 4000000 in
theorem box_unitsOf (v : Value) (L : List Un) (w : World) (hT : STab w) (hv : RowR 5 unitR w v L) (hf : ∀ x ∈ L, fewU x = true) : Calls Tryd.prog 20 #[v] w (PutsU w L) := by
  obtain ⟨i, hi, hz, hsize, hby⟩ : ∃ i, Tryd.prog.info? 5 = some i ∧ i.zero = some (.int .u8 0) ∧ i.size = 1 ∧ i.bytes = 1 := ⟨(Tryd.prog.info? 5).get!, by kernel_rfl, by kernel_rfl, by kernel_rfl, by kernel_rfl⟩
  have hvl := hv.len
  obtain ⟨sa, ca, rfl⟩ := row_get hv
  have HLen := Lib.hid (fun k => unsL_len (L := L.take k) (fun x hx => hf x (List.mem_of_mem_take hx)))
  obtain ⟨N, hN⟩ : ∃ N, L.length = N := ⟨_, rfl⟩
  have HN := Lib.hid hN
  rw [hN] at hvl hv ⊢
  clear hN
  by_cases h8 : 8 < N
  · have q0 : (8 < (N : Int)) = True := eq_true (by omega)
    have hno := Lib.hid (show okUs L = false by unfold okUs; rw [HN.out, decide_eq_false (by omega)]; rfl)
    go_enter Tryd.func20, Tryd.ntmps20
    go_wp2_with fail
    go_returns
    exact ⟨_, by rw [hno.out]; rfl, fun h => (by rw [hno.out] at h; cases h), fun _ => rfl, by (repeat' (first | (with_reducible exact Below.refl _ _) | (with_reducible assumption) | (with_reducible refine below_drewN ?_ _) | (with_reducible refine Below.alloc ?_ ?_ _) | (with_reducible refine Below.drew ?_) | (with_reducible refine Below.setCell ?_ ?_ _) | go_size))⟩
  have q0 : (8 < (N : Int)) = False := eq_false (by omega)
  have hw8 : IntKind.u8.wrap (N : Int) = (N : Int) := by unfold IntKind.wrap; simp [IntKind.signed, IntKind.bits]; omega
  have hw9 : (N : Int) % 256 = (N : Int) := by omega
  go_enter Tryd.func20, Tryd.ntmps20
  go_wp2_with fail
  go_loopw [4, 18] (fun o jj wr => ∃ (k : Nat), k ≤ N ∧ jj = .int .i64 k ∧ Hid ((L.take k).all fitU = true) ∧ Hid (wr.ownsRow w.heap.size 5 1 o (byteO (N : Int) :: unsL (L.take k)).length (bytesV (byteO (N : Int) :: unsL (L.take k)))) ∧ Hid (Below w.heap.size w wr)) (fun _ jj _ => N - (intOf jj).toNat)
  case atStart =>
    refine ⟨0, by omega, rfl, Lib.hid (by simp), Lib.hid ?_, Lib.hid (by (repeat' (first | (with_reducible exact Below.refl _ _) | (with_reducible assumption) | (with_reducible refine below_drewN ?_ _) | (with_reducible refine Below.alloc ?_ ?_ _) | (with_reducible refine Below.drew ?_) | (with_reducible refine Below.setCell ?_ ?_ _) | go_size)))⟩
    have := World.ownsRow_lit (e := 5) (size := 1) w #[.int .u8 (N : Int)] 1 (Nat.le_refl _) (by unfold maxLen; omega) (by simp)
    simpa [unsL, bytesV, wrap_u8 N (by omega)] using this
  case round =>
    obtain ⟨k, hk, rfl, hall, hO, hB⟩ := hrel
    by_cases hlt : k < N
    · obtain ⟨x, hx⟩ := get_some (L := L) (n := k) (by rw [HN.out]; exact hlt)
      obtain ⟨bb, off, rfl, hbw, hc⟩ := unit_at hv (k := k) (by rw [HN.out]; exact hlt)
      obtain ⟨u1, u3, u4, c0, c1, c2, c3, c4, hU⟩ := hc k x hx
      have HU := Lib.hid hU
      obtain ⟨s1, d1, rfl⟩ := row_get hU.ps
      obtain ⟨s3, d3, rfl⟩ := row_get hU.ls
      obtain ⟨s4, d4, rfl⟩ := row_get hU.cs
      have hfx := hf x (List.mem_of_getElem? hx)
      have HP := Lib.hid (fun W (hb : Below w.heap.size w W) => unit_Put _ _ _ x W (hT.below hb) (hU.below hb) (few_parts hfx))
      have c0 := (hB.out.cell (p := ⟨bb, off + k * 5, none⟩) hbw).trans c0
      have c1 := (hB.out.cell (p := ⟨bb, off + k * 5 + 1, none⟩) hbw).trans c1
      have c2 := (hB.out.cell (p := ⟨bb, off + k * 5 + 2, none⟩) hbw).trans c2
      have c3 := (hB.out.cell (p := ⟨bb, off + k * 5 + 3, none⟩) hbw).trans c3
      have c4 := (hB.out.cell (p := ⟨bb, off + k * 5 + 4, none⟩) hbw).trans c4
      have HS := Lib.hid (unsB_snoc hx)
      have HM := Lib.hid (List.mem_of_getElem? hx)
      have HT := Lib.hid (take_snoc hx)
      have HPL := Lib.hid (putU_len hfx)
      have hun : (byteO (N : Int) :: unsL (L.take k)).length ≤ 40000 := by
        have h1 := HLen.out k
        rw [List.length_take] at h1
        have h2 : min k L.length * 3204 ≤ 8 * 3204 := Nat.mul_le_mul_right _ (by omega)
        simp only [List.length_cons]
        omega
      obtain ⟨T, hTT⟩ : ∃ T, byteO (N : Int) :: unsL (L.take k) = T := ⟨_, rfl⟩
      have HTT := Lib.hid hTT
      rw [hTT] at hO hun
      obtain ⟨n, hn⟩ : ∃ n, T.length = n := ⟨_, rfl⟩
      have Hn := Lib.hid hn
      rw [hn] at hO hun
      have hsz : w.heap.size ≤ wr.heap.size := hB.out.size
      have hBo : Below w.heap.size w wr := hB.out
      have nm := (⟨x.name.toArray⟩ : ByteArray)
      clear hc hx hU hfx hTT hn nm
      obtain ⟨p1, e1⟩ : ∃ n, x.params.length = n := ⟨_, rfl⟩
      obtain ⟨p3, e3⟩ : ∃ n, x.locals.length = n := ⟨_, rfl⟩
      obtain ⟨p4, e4⟩ : ∃ n, x.code.length = n := ⟨_, rfl⟩
      rw [e1] at c1 HP
      rw [e3] at c3 HP
      rw [e4] at c4 HP
      clear e1 e3 e4
      generalize (⟨x.name.toArray⟩ : ByteArray) = nm at *
      cases hfit : fitU x
      · have hno := Lib.hid (okUs_no HM.out hfit)
        rw [hfit] at HP
        go_wp2_with fail
        refine (HP.out _ (by (repeat' (first | (with_reducible exact Below.refl _ _) | (with_reducible assumption) | (with_reducible refine below_drewN ?_ _) | (with_reducible refine Below.alloc ?_ ?_ _) | (with_reducible refine Below.drew ?_) | (with_reducible refine Below.setCell ?_ ?_ _) | go_size)))).mono ?_; rintro e W1 ⟨r, rfl, _, hb1⟩
        go_wp2_with fail
        go_returns
        exact ⟨_, by rw [hno.out]; rfl, fun h => (by rw [hno.out] at h; cases h), fun _ => rfl, Below.trans (show Below w.heap.size w _ by (repeat' (first | (with_reducible exact Below.refl _ _) | (with_reducible assumption) | (with_reducible refine below_drewN ?_ _) | (with_reducible refine Below.alloc ?_ ?_ _) | (with_reducible refine Below.drew ?_) | (with_reducible refine Below.setCell ?_ ?_ _) | go_size))) (hb1.mono (by simp; omega))⟩
      · rw [hfit, putO_yes hfit] at HP
        have HF := Lib.hid hfit
        clear hfit
        go_wp2_with fail
        refine (HP.out _ (by (repeat' (first | (with_reducible exact Below.refl _ _) | (with_reducible assumption) | (with_reducible refine below_drewN ?_ _) | (with_reducible refine Below.alloc ?_ ?_ _) | (with_reducible refine Below.drew ?_) | (with_reducible refine Below.setCell ?_ ?_ _) | go_size)))).mono ?_; rintro e W1 ⟨r, rfl, hr, hb1⟩
        have hB1 := Lib.hid (Below.trans (show Below wr.heap.size wr _ by (repeat' (first | (with_reducible exact Below.refl _ _) | (with_reducible assumption) | (with_reducible refine below_drewN ?_ _) | (with_reducible refine Below.alloc ?_ ?_ _) | (with_reducible refine Below.drew ?_) | (with_reducible refine Below.setCell ?_ ?_ _) | go_size))) (hb1.mono (by simp)))
        have hr2 := Lib.hid (fun W (hb : Below W1.heap.size W1 W) => hr.below hb)
        obtain ⟨P, hP⟩ : ∃ P, putU x = P := ⟨_, rfl⟩
        rw [hP] at hr2 HPL HS
        obtain ⟨ar, cr, rfl⟩ : ∃ a c, r = .slice a P.length c := by
          rw [hP] at hr
          rcases hr with ⟨a, cap, rfl, h0, _⟩ | ⟨b, off, cap, rfl, _⟩
          · exact ⟨a, cap, by rw [h0]⟩
          · exact ⟨_, cap, rfl⟩
        obtain ⟨np, hnp⟩ : ∃ n, P.length = n := ⟨_, rfl⟩
        have Hnp := Lib.hid hnp
        have hpl := HPL.out
        rw [hnp] at hr2 HS hpl ⊢
        have hO1 := Lib.hid (owns_below hO.out hB1.out)
        have HP1 := Lib.hid (octet_Put _ T 4 (np : Int) W1 (bytes_at hO1.out) (by rw [Hn.out]; omega))
        rw [near4, Hn.out] at HP1
        clear hr hP hnp hb1
        go_wp2_with fail
        refine HP1.out.mono ?_; rintro e W2 ⟨r2, rfl, hO2, hb2⟩
        have hB2 := Lib.hid (hB1.out.trans (hb2.mono hB1.out.size))
        have hr3 := Lib.hid (hr2.out _ hb2)
        have hw2 : w.heap.size ≤ W1.heap.size := Nat.le_trans hsz hB1.out.size
        have hO3 := Lib.hid (own_low hO2 hw2)
        obtain ⟨a2, c2', rfl⟩ := owns_form hO2
        have hbw2 := Lib.hid (hB.out.trans (hB2.out.mono hsz))
        clear hO2 hb2
        go_wp2_with (first | (at_builtin; go_loud (refine wpList_append_row1 rfl (.tmp 32) (.tmp 33) 30 rfl w.heap.size 5 i (.int .u8 0) 1 Tryd.underlying30 hi hz hsize hby rfl _ (n + 4) _ rfl hO3.out _ np (byteV P) rfl hr3.out (fun _ _ => rfl) (by unfold maxLen; omega) (by omega) hbw2.out.size ?_; intro v3 w3 hO4 hG4; have hB4 := Lib.hid (grown3 hbw2.out hbw2.out.size hO3.out hG4); have HO4 := Lib.hid hO4; clear hO4 hG4)) | fail)
        go_roundw
        case rel =>
          refine ⟨k + 1, by omega, by simp, Lib.hid (by rw [HT.out, List.all_append, hall.out]; simp [HF.out]), Lib.hid ?_, hB4⟩
          have h4 := HO4.out
          have e : (List.range np).map (byteV P) = bytesV P := by rw [← Hnp.out]; exact map_byteV P
          rw [e, ← bytesV_app] at h4
          exact own_bytes h4 (by rw [HS.out, ← HTT.out]; simp)
        case measure => first | (simp [intOf]; done) | (simp [intOf]; omega)
    · obtain rfl : k = N := by omega
      have hyes := Lib.hid (show okUs L = true by
        unfold okUs
        have := hall.out
        rw [List.take_of_length_le (by have := HN.out; omega)] at this
        rw [HN.out, decide_eq_true (by omega), this]; rfl)
      have hO2 := Lib.hid (show wr.ownsRow w.heap.size 5 1 _ (unsB L).length (bytesV (unsB L)) by
        have := hO.out
        rw [List.take_of_length_le (by have := HN.out; omega)] at this
        unfold unsB; rw [HN.out]; exact this)
      clear hO
      go_wp2_with fail
      go_returns
      exact ⟨_, by rw [hyes.out]; rfl, fun _ => hO2.out, fun h => (by rw [hyes.out] at h; cases h), hB.out⟩
end Go.Proofs.YtjikkipdmonndaaDoor

/- Layer 16: a program's container, by the program. -/
namespace Go.Proofs.YtjikkipdmonndaaDoor
open Go.RowKit
set_option linter.unusedSimpArgs false
set_option linter.unusedVariables false
def preL (p : Pr) : Nat → List UInt8
  | 0 => magicL
  | 1 => magicL ++ secL 1 (csB p)
  | 2 => magicL ++ secL 1 (csB p) ++ secL 2 (vsB p)
  | 3 => magicL ++ secL 1 (csB p) ++ secL 2 (vsB p) ++ secL 3 (bsB p)
  | _ => bodyL p
theorem preL_len {p : Pr} (h : fewP p = true) (k : Nat) : (preL p k).length ≤ 100000 := by
  have hb := body_len h
  unfold bodyL at hb
  simp only [List.length_append] at hb
  unfold preL
  split
  · omega
  · simp only [List.length_append]; omega
  · simp only [List.length_append]; omega
  · simp only [List.length_append]; omega
  · exact body_len h
theorem parts_len {p : Pr} (h : fewP p = true) : (csB p).length ≤ 100000 ∧ (vsB p).length ≤ 100000 ∧ (bsB p).length ≤ 100000 ∧ (unsB p.units).length ≤ 100000 := by
  have hb := body_len h
  unfold bodyL at hb
  simp only [List.length_append, secL_len] at hb
  omega
theorem index_arr4 (a b c d : Value) (i : Nat) (v : Value) (h1 : #[a, b, c, d][i]? = some v) (w : World) : (Instr.index 53 (.agg #[a, b, c, d]) (.int .i64 (i : Int))).run Tryd.prog w = .ok v w := by
  have hi : i < 4 := by
    by_cases h : i < 4
    · exact h
    · rw [Array.getElem?_eq_none (by simp; omega)] at h1; cases h1
  have hu : Tryd.prog.underlying 53 = some (.array 4 30) := by kernel_rfl
  have hc : Tryd.prog.cellsOf 30 = 1 := by kernel_rfl
  have hin : (0 ≤ (i : Int) ∧ (i : Int) < (4 : Nat)) := by omega
  simp [Instr.index, run_underlying hu, asIntOf, hin, go_sem]
  rw [if_pos hi, show [a, b, c, d][i]? = some v by simpa using h1]
  rfl
def PutsP (w : World) (p : Pr) (e : Ending) (w' : World) : Prop :=
  ∃ r, e = .returned (.tuple #[r, .bool (fitP p)]) ∧ (fitP p = true → w'.ownsRow w.heap.size 5 1 r (boxL p).length (bytesV (boxL p))) ∧ (fitP p = false → r = .slice none 0 0) ∧ Below w.heap.size w w'
theorem fit_no {p : Pr} {a b c d : Bool} (h1 : okCs p.consts = a) (h2 : okVs p.vars = b) (h3 : okBs p.blocks = c) (h4 : okUs p.units = d) : fitP p = (a && (b && (c && d))) := by
  unfold fitP; rw [h1, h2, h3, h4]
set_option maxRecDepth 100000 in
set_option maxHeartbeats 4000000 in
theorem box_Encode (vc vv vb vu : Value) (p : Pr) (w : World) (hT : STab w) (h : PrAt w vc vv vb vu p) (hf : fewP p = true) : Calls Tryd.prog 9 #[.agg #[vc, vv, vb, vu]] w (PutsP w p) := by
  obtain ⟨⟨g1, g2, g3, g4⟩, g5, g6, g7⟩ := fewP_parts hf
  have HC := Lib.hid (fun W (hb : Below w.heap.size w W) => tab_PutConsts vc p.consts W (h.cs.below constR_stable hb))
  have HV := Lib.hid (fun W (hb : Below w.heap.size w W) => tab_PutVars vv p.vars W (h.vs.below varR_stable hb) (fun x hx => by have := g5 x hx; omega))
  have HB := Lib.hid (fun W (hb : Below w.heap.size w W) => tab_PutBlocks vb p.blocks W (h.bs.below blkR_stable hb) (fun x hx => by have := g6 x hx; omega))
  have HU := Lib.hid (fun W (hb : Below w.heap.size w W) => box_unitsOf vu p.units W (hT.below hb) (h.us.below unitR_stable hb) g7)
  obtain ⟨W0, hW0⟩ : ∃ W0, W0 = w.alloc (.cells #[vc, vv, vb, vu] 27) := ⟨_, rfl⟩
  have hb0 : Below w.heap.size w W0 := by rw [hW0]; exact by (repeat' (first | (with_reducible exact Below.refl _ _) | (with_reducible assumption) | (with_reducible refine below_drewN ?_ _) | (with_reducible refine Below.alloc ?_ ?_ _) | (with_reducible refine Below.drew ?_) | (with_reducible refine Below.setCell ?_ ?_ _) | go_size))
  have k0 : Boxed W0 w.heap.size [vc, vv, vb, vu] := by rw [hW0]; exact Boxed.new w [vc, vv, vb, vu] 27 (Below.refl _ _)
  have z0 : w.heap.size < W0.heap.size := by rw [hW0]; simp
  have K0 := Lib.hid k0
  have HW0 := Lib.hid hW0
  have e0 := k0 0 _ rfl
  clear hW0 k0
  go_enter Tryd.func9, Tryd.ntmps9
  go_wp2_with fail
  rw [← HW0.out]
  refine (HC.out _ hb0).mono ?_; rintro e A1 ⟨r1, rfl, hr1, _, hb1⟩
  have e1 := K0.out.keep z0 hb1 1 _ rfl
  have y1 := hb0.trans (hb1.mono hb0.size)
  go_wp2_with fail
  refine (HV.out _ y1).mono ?_; rintro e A2 ⟨r2, rfl, hr2, _, hb2⟩
  have hb12 := hb1.trans (hb2.mono hb1.size)
  have e2 := K0.out.keep z0 hb12 2 _ rfl
  have y2 := hb0.trans (hb12.mono hb0.size)
  clear e1
  go_wp2_with fail
  refine (HB.out _ y2).mono ?_; rintro e A3 ⟨r3, rfl, hr3, _, hb3⟩
  have hb13 := hb12.trans (hb3.mono hb12.size)
  have e3 := K0.out.keep z0 hb13 3 _ rfl
  have y3 := hb0.trans (hb13.mono hb0.size)
  clear e2
  go_wp2_with fail
  refine (HU.out _ y3).mono ?_; rintro e A4 ⟨r4, rfl, hr4, _, hb4⟩
  have hb14 := hb13.trans (hb4.mono hb13.size)
  have y4 := Lib.hid (hb0.trans (hb14.mono hb0.size))
  have hR1 := Lib.hid (fun h => bytes_at (owns_below (hr1 h) (hb2.trans ((hb3.trans (hb4.mono hb3.size)).mono hb2.size))))
  have hR2 := Lib.hid (fun h => bytes_at (owns_below (hr2 h) (hb3.trans (hb4.mono hb3.size))))
  have hR3 := Lib.hid (fun h => bytes_at (owns_below (hr3 h) hb4))
  have hR4 := Lib.hid (fun h => bytes_at (hr4 h))
  have HFit := Lib.hid (fun a b c d => fit_no (p := p) (a := a) (b := b) (c := c) (d := d))
  clear hr1 hr2 hr3 hr4 hb1 hb2 hb3 hb4 hb12 hb13 hb14 y1 y2 y3 e0 e3
  cases h1 : okCs p.consts
  · have hno := Lib.hid (HFit.out _ _ _ _ h1 rfl rfl rfl)
    clear h1
    go_wp2_with fail
    go_returns
    exact ⟨_, by rw [hno.out]; rfl, fun h => (by rw [hno.out] at h; cases h), fun _ => rfl, y4.out⟩
  cases h2 : okVs p.vars
  · have hno := Lib.hid (HFit.out _ _ _ _ h1 h2 rfl rfl)
    clear h1 h2
    go_wp2_with fail
    go_returns
    exact ⟨_, by rw [hno.out]; rfl, fun h => (by rw [hno.out] at h; cases h), fun _ => rfl, y4.out⟩
  cases h3 : okBs p.blocks
  · have hno := Lib.hid (HFit.out _ _ _ _ h1 h2 h3 rfl)
    clear h1 h2 h3
    go_wp2_with fail
    go_returns
    exact ⟨_, by rw [hno.out]; rfl, fun h => (by rw [hno.out] at h; cases h), fun _ => rfl, y4.out⟩
  cases h4 : okUs p.units
  · have hno := Lib.hid (HFit.out _ _ _ _ h1 h2 h3 h4)
    clear h1 h2 h3 h4
    go_wp2_with fail
    go_returns
    exact ⟨_, by rw [hno.out]; rfl, fun h => (by rw [hno.out] at h; cases h), fun _ => rfl, y4.out⟩
  have hyes := Lib.hid (HFit.out _ _ _ _ h1 h2 h3 h4)
  have hR1 := Lib.hid (hR1.out h1)
  have hR2 := Lib.hid (hR2.out h2)
  have hR3 := Lib.hid (hR3.out h3)
  have hR4 := Lib.hid (hR4.out h4)
  clear h1 h2 h3 h4
  have kc := fun (w : World) (C : Array Value) (n c : Nat) => Lib.run_convert_bytes_const (P := Tryd.prog) w 30 5 C n c Tryd.underlying30 Tryd.underlying5
  obtain ⟨a1, d1, rfl⟩ := box_form hR1.out
  obtain ⟨a2, d2, rfl⟩ := box_form hR2.out
  obtain ⟨a3, d3, rfl⟩ := box_form hR3.out
  obtain ⟨a4, d4, rfl⟩ := box_form hR4.out
  have hR1 := Lib.hid (show RowAt A4 _ (csB p).length (byteV (csB p)) from hR1.out)
  have hR2 := Lib.hid (show RowAt A4 _ (vsB p).length (byteV (vsB p)) from hR2.out)
  have hR3 := Lib.hid (show RowAt A4 _ (bsB p).length (byteV (bsB p)) from hR3.out)
  rw [show putL 2 (p.consts.length : Int) ++ cstsL p.consts = csB p from rfl] at *
  rw [show putL 2 (p.vars.length : Int) ++ varsL p.vars = vsB p from rfl] at *
  rw [show putL 2 (p.blocks.length : Int) ++ blksL p.blocks = bsB p from rfl] at *
  obtain ⟨l1, l2, l3, l4⟩ := parts_len hf
  obtain ⟨n1, e1⟩ : ∃ n, (csB p).length = n := ⟨_, rfl⟩
  obtain ⟨n2, e2⟩ : ∃ n, (vsB p).length = n := ⟨_, rfl⟩
  obtain ⟨n3, e3⟩ : ∃ n, (bsB p).length = n := ⟨_, rfl⟩
  obtain ⟨n4, e4⟩ : ∃ n, (unsB p.units).length = n := ⟨_, rfl⟩
  have HE := Lib.hid (And.intro e1 (And.intro e2 (And.intro e3 e4)))
  rw [e1] at l1 hR1 ⊢
  rw [e2] at l2 hR2 ⊢
  rw [e3] at l3 hR3 ⊢
  rw [e4] at l4 hR4 ⊢
  clear e1 e2 e3 e4
  go_wp2_with fail
  go_loopw [12, 60] (fun o jj wr => ∃ (k : Nat) (z : Int), k ≤ 4 ∧ z = k ∧ jj = .int .i64 z ∧ Hid (RowAt wr o (preL p k).length (byteV (preL p k))) ∧ Hid (Below A4.heap.size A4 wr)) (fun _ jj _ => 4 - (intOf jj).toNat)
  case atStart =>
    refine ⟨0, 0, by omega, rfl, rfl, Lib.hid ?_, Lib.hid (by (repeat' (first | (with_reducible exact Below.refl _ _) | (with_reducible assumption) | (with_reducible refine below_drewN ?_ _) | (with_reducible refine Below.alloc ?_ ?_ _) | (with_reducible refine Below.drew ?_) | (with_reducible refine Below.setCell ?_ ?_ _) | go_size)))⟩
    refine RowAt.new A4 _ _ _ _ 4 4 (by omega) (by omega) (by omega) (fun i hi => ?_)
    obtain rfl | rfl | rfl | rfl : i = 0 ∨ i = 1 ∨ i = 2 ∨ i = 3 := by omega
    all_goals rfl
  case round =>
    obtain ⟨k, z, hk, hzk, rfl, hO, hB⟩ := hrel
    have hpl := preL_len hf k
    obtain ⟨ao, co, rfl⟩ := box_form hO.out
    by_cases hlt : k < 4
    · have hnext : ∀ (v : Value) (m : List UInt8), RowAt A4 v m.length (byteV m) → m.length ≤ 100000 → preL p (k + 1) = preL p k ++ secL ((k : Int) + 1) m → Hid (Calls Tryd.prog 21 #[.slice ao (preL p k).length co, .int .i64 ((k : Int) + 1), v] wr fun e w' => ∃ r, e = .returned r ∧ RowAt w' r (preL p (k + 1)).length (byteV (preL p (k + 1))) ∧ Below wr.heap.size wr w') := by
        intro v m hm hml he
        refine Lib.hid ((box_section _ v (preL p k) m _ wr hO.out (hm.below hB.out) (by omega) (by omega)).mono ?_)
        rintro e w' ⟨r, he', hr, hb⟩
        rw [he]
        exact ⟨r, he', bytes_at hr, hb⟩
      obtain rfl | rfl | rfl | rfl : k = 0 ∨ k = 1 ∨ k = 2 ∨ k = 3 := by omega
      · obtain rfl : z = 0 := by omega
        have H := hnext _ (csB p) (by rw [HE.out.1]; exact hR1.out) (by rw [HE.out.1]; exact l1) rfl
        rw [show (((0 : Nat) : Int) + 1) = 1 from rfl] at H
        clear hnext hzk
        generalize (preL p 0).length = np at *
        have hix := index_arr4 (.slice a1 n1 d1) (.slice a2 n2 d2) (.slice a3 n3 d3) (.slice a4 n4 d4) 0 _ rfl
        rw [show ((0 : Nat) : Int) = 0 from rfl] at hix
        go_wp2_with fail
        refine H.out.mono ?_; rintro e W2 ⟨r, rfl, hr, hb⟩
        go_wp2_with fail
        go_roundw
        case rel => exact ⟨1, 1, by omega, rfl, rfl, Lib.hid hr, Lib.hid (hB.out.trans (hb.mono hB.out.size))⟩
        case measure => first | (simp [intOf]; done) | (simp [intOf]; omega)
      · obtain rfl : z = 1 := by omega
        have H := hnext _ (vsB p) (by rw [HE.out.2.1]; exact hR2.out) (by rw [HE.out.2.1]; exact l2) rfl
        rw [show (((1 : Nat) : Int) + 1) = 2 from rfl] at H
        clear hnext hzk
        generalize (preL p 1).length = np at *
        have hix := index_arr4 (.slice a1 n1 d1) (.slice a2 n2 d2) (.slice a3 n3 d3) (.slice a4 n4 d4) 1 _ rfl
        rw [show ((1 : Nat) : Int) = 1 from rfl] at hix
        go_wp2_with fail
        refine H.out.mono ?_; rintro e W2 ⟨r, rfl, hr, hb⟩
        go_wp2_with fail
        go_roundw
        case rel => exact ⟨2, 2, by omega, rfl, rfl, Lib.hid hr, Lib.hid (hB.out.trans (hb.mono hB.out.size))⟩
        case measure => first | (simp [intOf]; done) | (simp [intOf]; omega)
      · obtain rfl : z = 2 := by omega
        have H := hnext _ (bsB p) (by rw [HE.out.2.2.1]; exact hR3.out) (by rw [HE.out.2.2.1]; exact l3) rfl
        rw [show (((2 : Nat) : Int) + 1) = 3 from rfl] at H
        clear hnext hzk
        generalize (preL p 2).length = np at *
        have hix := index_arr4 (.slice a1 n1 d1) (.slice a2 n2 d2) (.slice a3 n3 d3) (.slice a4 n4 d4) 2 _ rfl
        rw [show ((2 : Nat) : Int) = 2 from rfl] at hix
        go_wp2_with fail
        refine H.out.mono ?_; rintro e W2 ⟨r, rfl, hr, hb⟩
        go_wp2_with fail
        go_roundw
        case rel => exact ⟨3, 3, by omega, rfl, rfl, Lib.hid hr, Lib.hid (hB.out.trans (hb.mono hB.out.size))⟩
        case measure => first | (simp [intOf]; done) | (simp [intOf]; omega)
      · obtain rfl : z = 3 := by omega
        have H := hnext _ (unsB p.units) (by rw [HE.out.2.2.2]; exact hR4.out) (by rw [HE.out.2.2.2]; exact l4) rfl
        rw [show (((3 : Nat) : Int) + 1) = 4 from rfl] at H
        clear hnext hzk
        generalize (preL p 3).length = np at *
        have hix := index_arr4 (.slice a1 n1 d1) (.slice a2 n2 d2) (.slice a3 n3 d3) (.slice a4 n4 d4) 3 _ rfl
        rw [show ((3 : Nat) : Int) = 3 from rfl] at hix
        go_wp2_with fail
        refine H.out.mono ?_; rintro e W2 ⟨r, rfl, hr, hb⟩
        go_wp2_with fail
        go_roundw
        case rel => exact ⟨4, 4, by omega, rfl, rfl, Lib.hid hr, Lib.hid (hB.out.trans (hb.mono hB.out.size))⟩
        case measure => first | (simp [intOf]; done) | (simp [intOf]; omega)
    · obtain rfl : k = 4 := by omega
      obtain rfl : z = 4 := by omega
      have hO2 : RowAt wr (.slice ao (preL p 4).length co) (bodyL p).length (byteV (bodyL p)) := hO.out
      have hlb := body_len hf
      have hB5 := y4.out.trans (hB.out.mono y4.out.size)
      have HCrc := Lib.hid (crc_Of _ (bodyL p) wr hO2)
      have HPut := Lib.hid (fun W (hb : Below wr.heap.size wr W) => octet_Put _ (bodyL p) 4 (crcF (bodyL p) : Int) W (hO2.below hb) (by omega))
      have hcl : crcF (bodyL p) ≤ 4294967295 := by unfold crcF; omega
      have HX := Lib.hid (show boxL p = bodyL p ++ putL 4 (crcF (bodyL p)) from rfl)
      rw [near4] at HPut
      rw [show preL p 4 = bodyL p from rfl] at *
      obtain ⟨cr, hcr⟩ : ∃ c, crcF (bodyL p) = c := ⟨_, rfl⟩
      obtain ⟨nb, hnb⟩ : ∃ n, (bodyL p).length = n := ⟨_, rfl⟩
      rw [hcr] at HCrc HPut hcl HX
      rw [hnb] at HCrc HPut hlb ⊢
      clear hO2 hO hcr hpl hzk
      go_wp2_with fail
      refine HCrc.out.mono ?_; rintro e W2 ⟨rfl, hb2⟩
      go_wp2_with fail
      refine (HPut.out _ hb2).mono ?_; rintro e W3 ⟨r5, rfl, hr5, hb3⟩
      obtain ⟨a5, d5, rfl⟩ := owns_form hr5
      have hr6 := Lib.hid (own_low hr5 (Nat.le_trans hB5.size hb2.size))
      have hB6 := Lib.hid (hB5.trans ((hb2.trans (hb3.mono hb2.size)).mono hB5.size))
      clear hr5
      have q5 : (1048576 < ((nb + 4 : Nat) : Int)) = False := eq_false (by omega)
      have q6 : (1048576 < ((nb : Int) + 4)) = False := eq_false (by omega)
      clear hcl hlb HCrc HPut l1 l2 l3 l4 hk hlt g1 g2 g3 g4
      go_wp2_with fail
      go_returns
      exact ⟨_, by rw [hyes.out]; rfl, fun _ => (by rw [HX.out]; exact own_bytes hr6.out rfl), fun h => (by rw [hyes.out] at h; cases h), hB6.out⟩
end Go.Proofs.YtjikkipdmonndaaDoor

/- Layer 16: the law's awake; parts of rows of bytes. -/
namespace Go.Proofs.YtjikkipdmonndaaDoor
open Go.RowKit
set_option linter.unusedSimpArgs false
set_option linter.unusedVariables false
theorem byte_sub {w : World} {b off cap : Nat} {l : List UInt8} (hb : b < w.heap.size) (hcap : l.length ≤ cap ∧ cap ≤ maxLen) (hc : ∀ i, i < l.length → w.cell? ⟨b, off + i, none⟩ = some (byteV l i)) {i j : Nat} (hij : i ≤ j) (hj : j ≤ l.length) :
    RowAt w (.slice (some ⟨b, off + i, none⟩) (j - i) (cap - i)) ((l.drop i).take (j - i)).length (byteV ((l.drop i).take (j - i))) := by
  have hlen : ((l.drop i).take (j - i)).length = j - i := by rw [List.length_take, List.length_drop]; omega
  rw [hlen]
  by_cases h0 : j - i = 0
  · rw [h0]; exact Or.inl ⟨_, _, rfl, rfl, fun h => by cases h⟩
  · refine Or.inr ⟨b, off + i, cap - i, rfl, by omega, by omega, by omega, hb, fun k hk => ?_⟩
    rw [Nat.add_assoc, hc (i + k) (by omega)]
    unfold byteV
    simp [List.getD, List.getElem?_take, hk]
theorem byte_part {w : World} {a : Option Addr} {n cap : Nat} {l : List UInt8} (h : RowAt w (.slice a n cap) l.length (byteV l)) (h0 : 0 < l.length) : ∃ b off, a = some ⟨b, off, none⟩ ∧ n = l.length ∧ b < w.heap.size ∧ (l.length ≤ cap ∧ cap ≤ maxLen) ∧ ∀ i, i < l.length → w.cell? ⟨b, off + i, none⟩ = some (byteV l i) := by
  rcases h with ⟨a', cap', h1, h2, _⟩ | ⟨b, off, cap', h1, h2, h3, h4, h5, h6⟩
  · omega
  · injection h1 with e1 e2 e3
    subst e1; subst e3
    exact ⟨b, off, rfl, e2, h5, ⟨h3, h4⟩, h6⟩
def emptyP : Pr := ⟨[], [], [], []⟩
set_option maxRecDepth 100000 in
set_option maxHeartbeats 4000000 in
theorem law16_awake (w : World) (hT : STab w) : Calls Tryd.prog 8 #[] w fun e w' => e = .returned (.bool true) ∧ Below w.heap.size w w' := by
  have hp : PrAt w (.slice none 0 0) (.slice none 0 0) (.slice none 0 0) (.slice none 0 0) emptyP := ⟨row_none, row_none, row_none, row_none⟩
  have hfit : fitP emptyP = true := by decide
  have hlen : (boxL emptyP).length = 35 := by unfold boxL; rw [List.length_append, putL_len]; rfl
  have htk : (boxL emptyP).take 4 = [76, 66, 75, 49] := by unfold boxL bodyL magicL; rfl
  have H := box_Encode _ _ _ _ emptyP w hT hp (by decide)
  unfold PutsP at H
  rw [hfit, hlen] at H
  have H := Lib.hid H
  have HT := Lib.hid htk
  have HL := Lib.hid hlen
  clear hfit hlen htk hp
  go_enter Tryd.func8, Tryd.ntmps8
  go_wp2_with fail
  refine H.out.mono ?_; rintro e W1 ⟨r, rfl, hr, _, hb⟩
  have hr := hr (by first | trivial | rfl)
  obtain ⟨g, cap, rfl, hc1, hc2, hc3⟩ := owns_slice hr (by omega)
  have hrow : RowAt W1 (.slice (some ⟨g, 0, none⟩) 35 cap) (boxL emptyP).length (byteV (boxL emptyP)) := bytes_at hr
  obtain ⟨b, off, e, _, hb1, hb2, hb3⟩ := byte_part hrow (by rw [HL.out]; omega)
  injection e with e
  injection e with e1 e2
  subst e1; subst e2
  have hs := byte_sub hb1 hb2 hb3 (i := 0) (j := 4) (by omega) (by rw [HL.out]; omega)
  rw [List.drop_zero, HT.out] at hs
  have hcv := conv_row (P := Tryd.prog) (src := 30) (dst := 9) Tryd.underlying30 Tryd.underlying5 Tryd.underlying9 hs
  simp only [Nat.sub_zero, Nat.zero_add, Nat.add_zero] at hcv
  clear hs hrow hr hb2 hb3
  go_wp2_with fail
  go_ret
  exact ⟨rfl, hb⟩
end Go.Proofs.YtjikkipdmonndaaDoor

/- Layer 16: what is wrong with a container from outside. -/
namespace Go.Proofs.YtjikkipdmonndaaDoor
open Go.RowKit
set_option linter.unusedSimpArgs false
set_option linter.unusedVariables false
def wholeE (B : List UInt8) : Int := if 1048576 < B.length then 5 else if B.length < 8 then 1 else if B.take 4 = magicL then (if leV (B.drop (B.length - 4)) = crcF (B.take (B.length - 4)) then 0 else 3) else 2
theorem bytes_Equal (u v : Value) (l m : List UInt8) (w : World) (hu : RowAt w u l.length (byteV l)) (hv : RowAt w v m.length (byteV m)) :
    Calls Tryd.prog 93 #[u, v] w fun e w' => e = .returned (.bool (decide (l = m))) ∧ w = w' := by
  have h1 := conv_row (P := Tryd.prog) (src := 30) (dst := 9) Tryd.underlying30 Tryd.underlying5 Tryd.underlying9 hu
  have h2 := conv_row (P := Tryd.prog) (src := 30) (dst := 9) Tryd.underlying30 Tryd.underlying5 Tryd.underlying9 hv
  obtain ⟨a1, c1, rfl⟩ := box_form hu
  obtain ⟨a2, c2, rfl⟩ := box_form hv
  clear hu hv
  have hd := Lib.hid (show decide (l = m) = (l == m) by by_cases h : l = m <;> simp [h])
  go_enter Tryd.func93, Tryd.ntmps93
  go_wp2_with fail
  go_ret
  exact ⟨by rw [hd.out]; rfl, rfl⟩
theorem byte_sub0 {w : World} {a : Option Addr} {n cap : Nat} {l : List UInt8} (h : RowAt w (.slice a n cap) l.length (byteV l)) {i j : Nat} (hij : i ≤ j) (hj : j ≤ l.length) : RowAt w (sliced a i j cap 1) ((l.drop i).take (j - i)).length (byteV ((l.drop i).take (j - i))) := by
  by_cases h0 : 0 < l.length
  · obtain ⟨b, off, rfl, rfl, h1, h2, h3⟩ := byte_part h h0
    have h4 := byte_sub h1 h2 h3 hij hj
    unfold sliced
    by_cases hc : cap = i
    · have : j = i := by omega
      subst this
      subst hc
      simp only [Nat.sub_self, List.take_zero] at h4 ⊢
      exact Or.inl ⟨_, _, rfl, rfl, fun h => by simp at h⟩
    · rw [if_neg hc]
      simp only [Option.map, Nat.mul_one, add_at]
      exact h4
  · obtain rfl : j = 0 := by omega
    obtain rfl : i = 0 := by omega
    have hl : l = [] := List.length_eq_zero_iff.1 (by omega)
    subst hl
    rcases h with ⟨a', cap', h1, h2, h5⟩ | ⟨b, off, cap', h1, h2, _⟩
    · injection h1 with e1 e2 e3
      subst e1; subst e2; subst e3
      refine Or.inl ⟨if cap = 0 then a else a.map (·.add (0 * 1)), cap, by simp [sliced], rfl, fun h => ?_⟩
      by_cases hc : cap = 0
      · exact hc
      · rw [if_neg hc] at h
        cases a with
        | none => exact h5 rfl
        | some _ => simp at h
    · simp at h2
theorem bytes_HasPrefix4 (u v : Value) (l m : List UInt8) (w : World) (hl : 4 ≤ l.length) (hm : m.length = 4) (hu : RowAt w u l.length (byteV l)) (hv : RowAt w v m.length (byteV m)) :
    Calls Tryd.prog 68 #[u, v] w fun e w' => e = .returned (.bool (decide (l.take 4 = m))) ∧ w = w' := by
  obtain ⟨a1, c1, rfl⟩ := box_form hu
  obtain ⟨a2, c2, rfl⟩ := box_form hv
  obtain ⟨b, off, rfl, _, h1, h2, h3⟩ := byte_part hu (by omega)
  have hs := byte_sub h1 h2 h3 (i := 0) (j := 4) (by omega) hl
  rw [List.drop_zero] at hs
  have HE := Lib.hid (bytes_Equal _ _ _ _ w hs hv)
  simp only [Nat.sub_zero, Nat.add_zero] at HE
  rw [hm] at HE ⊢
  clear hs hu hv h3
  have hlc := h2.1
  obtain ⟨n, hn⟩ : ∃ n, l.length = n := ⟨_, rfl⟩
  rw [hn] at hl h2 hlc ⊢
  clear hn
  have q0 : (4 ≤ (n : Int)) = True := eq_true (by omega)
  go_enter Tryd.func68, Tryd.ntmps68
  go_wp2_with fail
  refine HE.out.mono ?_; rintro e w' ⟨rfl, rfl⟩
  go_wp2_with fail
  go_ret
  exact ⟨rfl, rfl⟩
theorem slice_from (b off n c e : Nat) (hn : n ≤ c) (he : e ≤ n) (hec : ¬ c = e) (W : World) : (Instr.slice 30 (.slice (some ⟨b, off, none⟩) n c) (some (.int .i64 (e : Int))) none none).run Tryd.prog W = .ok (.slice (some ⟨b, off + e, none⟩) (n - e) (c - e)) W := by
  have ht : Tryd.prog.underlying 30 = some (.slice (Tryd.prog.elem 30)) := by kernel_rfl
  have hs : (sizeOf (Tryd.prog.elem 30)).run Tryd.prog W = .ok 1 W := by kernel_rfl
  rw [run_slice_l (w := W) 30 _ n c ht .i64 (e : Int) (by omega) (by omega), hs]
  simp [Result.andThen, sliced, hec, add_at]
theorem slice_to (b off n c e : Nat) (hn : n ≤ c) (he : e ≤ n) (W : World) : (Instr.slice 30 (.slice (some ⟨b, off, none⟩) n c) none (some (.int .i64 (e : Int))) none).run Tryd.prog W = .ok (.slice (some ⟨b, off, none⟩) e c) W := by
  have ht : Tryd.prog.underlying 30 = some (.slice (Tryd.prog.elem 30)) := by kernel_rfl
  have hs : (sizeOf (Tryd.prog.elem 30)).run Tryd.prog W = .ok 1 W := by kernel_rfl
  rw [run_slice_h (w := W) 30 _ n c ht .i64 (e : Int) (by omega) (by omega), hs]
  by_cases h0 : c = 0
  · subst h0; simp [Result.andThen, sliced]
  · simp [Result.andThen, sliced, h0, add_at]
set_option maxRecDepth 100000 in
set_option maxHeartbeats 4000000 in
theorem box_whole (v : Value) (B : List UInt8) (w : World) (hv : RowAt w v B.length (byteV B)) (hB : B.length ≤ 10000000) :
    Calls Tryd.prog 40 #[v] w fun e w' => e = .returned (.int .i64 (wholeE B)) ∧ Below w.heap.size w w' := by
  obtain ⟨a, c, rfl⟩ := box_form hv
  by_cases h1 : 1048576 < B.length
  · have hq := Lib.hid (show wholeE B = 5 by unfold wholeE; rw [if_pos h1])
    have q0 : (1048576 < (B.length : Int)) = True := eq_true (by omega)
    clear hv hB h1
    generalize B.length = n at *
    go_enter Tryd.func40, Tryd.ntmps40
    go_wp2_with fail
    go_ret
    exact ⟨by rw [hq.out]; rfl, by (repeat' (first | (with_reducible exact Below.refl _ _) | (with_reducible assumption) | (with_reducible refine below_drewN ?_ _) | (with_reducible refine Below.alloc ?_ ?_ _) | (with_reducible refine Below.drew ?_) | (with_reducible refine Below.setCell ?_ ?_ _) | go_size))⟩
  have q0 : (1048576 < (B.length : Int)) = False := eq_false (by omega)
  by_cases h2 : B.length < 8
  · have hq := Lib.hid (show wholeE B = 1 by unfold wholeE; rw [if_neg h1, if_pos h2])
    have q1 : ((B.length : Int) < 8) = True := eq_true (by omega)
    clear hv hB h1 h2
    generalize B.length = n at *
    go_enter Tryd.func40, Tryd.ntmps40
    go_wp2_with fail
    go_ret
    exact ⟨by rw [hq.out]; rfl, by (repeat' (first | (with_reducible exact Below.refl _ _) | (with_reducible assumption) | (with_reducible refine below_drewN ?_ _) | (with_reducible refine Below.alloc ?_ ?_ _) | (with_reducible refine Below.drew ?_) | (with_reducible refine Below.setCell ?_ ?_ _) | go_size))⟩
  have q1 : ((B.length : Int) < 8) = False := eq_false (by omega)
  have HM := Lib.hid (fun W (hb : Below w.heap.size w W) (m : List UInt8) (u : Value) (hm : m.length = 4) (hu : RowAt W u m.length (byteV m)) => bytes_HasPrefix4 (.slice a B.length c) u B m W (by omega) hm (hv.below hb) hu)
  have kc := fun (w : World) (C : Array Value) (n c : Nat) => Lib.run_convert_bytes_const (P := Tryd.prog) w 30 5 C n c Tryd.underlying30 Tryd.underlying5
  have hmag : ∀ W : World, RowAt (W.alloc (.cells #[.int .u8 76, .int .u8 66, .int .u8 75, .int .u8 49] 5 (4, 5))) (.slice (some ⟨W.heap.size, 0, none⟩) 4 4) magicL.length (byteV magicL) := by
    intro W
    refine RowAt.new W _ _ _ _ 4 4 (by omega) (by omega) (by omega) (fun i hi => ?_)
    obtain rfl | rfl | rfl | rfl : i = 0 ∨ i = 1 ∨ i = 2 ∨ i = 3 := by omega
    all_goals rfl
  have HMag := Lib.hid hmag
  clear hmag
  by_cases h3 : B.take 4 = magicL
  · obtain ⟨b, off, rfl, _, k1, k2, k3⟩ := byte_part hv (by omega)
    have s1 := byte_sub k1 k2 k3 (i := B.length - 4) (j := B.length) (by omega) (by omega)
    have s2 := byte_sub k1 k2 k3 (i := 0) (j := B.length - 4) (by omega) (by omega)
    obtain ⟨e, he⟩ : ∃ e, B.length = e + 4 := ⟨B.length - 4, by omega⟩
    rw [he, show e + 4 - 4 = e by omega, show e + 4 - e = 4 by omega] at s1
    rw [he, show e + 4 - 4 = e by omega, Nat.sub_zero, List.drop_zero, Nat.add_zero] at s2
    obtain ⟨T, hT⟩ : ∃ T, (B.drop e).take 4 = T := ⟨_, rfl⟩
    have hTl : T.length = 4 := by rw [← hT, List.length_take, List.length_drop]; omega
    have hTd : B.drop e = T := by rw [← hT, List.take_of_length_le (by rw [List.length_drop]; omega)]
    have hcl : crcF (B.take e) ≤ 4294967295 := by unfold crcF; omega
    have hll := leV_lt T
    rw [hTl, show (256 : Nat) ^ 4 = 4294967296 from by decide] at hll
    rw [hT] at s1
    have hel : (B.take e).length = e := by rw [List.length_take]; omega
    have HN := Lib.hid (fun W (hb : Below w.heap.size w W) => rd_New _ T W (s1.below hb) (by omega))
    have HNum := Lib.hid (show (rNum T 4 0 false).1 = (leV T : Int) by
      unfold rNum
      have := rTake_ok (L := T) (m := 4) (n := 0) (by omega)
      rw [show (((4 : Nat) : Int)) = (4 : Nat) from rfl]
      rw [this]
      show numV ((T.drop 0).take 4) = _
      rw [List.drop_zero, List.take_of_length_le (by omega)]
      unfold numV wrap64
      omega)
    have HC := Lib.hid (fun W (hb : Below w.heap.size w W) => crc_Of _ (B.take e) W (s2.below hb))
    have HQ := Lib.hid (show wholeE B = if leV T = crcF (B.take e) then 0 else 3 by
      unfold wholeE; rw [if_neg h1, if_neg h2, if_pos h3, he, show e + 4 - 4 = e by omega, hTd])
    have hd : decide (B.take 4 = magicL) = true := decide_eq_true h3
    have hce : e + 4 ≤ c := by have := k2.1; omega
    rw [he] at HM q0 q1 hB ⊢
    have q2 : (1048576 < (e : Int) + 4) = False := eq_false (by omega)
    have q3 : ((e : Int) + 4 < 8) = False := eq_false (by omega)
    have he4 : 4 ≤ e := by omega
    have hce2 : ¬ c = e := by omega
    have hs1 := slice_from b off (e + 4) c e hce (by omega) hce2
    rw [show e + 4 - e = 4 by omega] at hs1
    have hs2 := slice_to b off (e + 4) c e hce (by omega)
    have he7 : e ≤ 10000000 := by omega
    have HhB := Lib.hid hB
    clear hB s1 s2 hv k2 k3 h1 h2 h3 he hTd hT hel hTl
    generalize hcr : crcF (B.take e) = cr at *
    generalize hlv : leV T = lv at *
    have hwr : IntKind.i64.wrap (cr : Int) = (cr : Int) := by rw [IntKind.wrap_i64]; omega
    have Hlv := Lib.hid (And.intro hcr hlv)
    clear hcr hlv
    by_cases heq : lv = cr
    · subst heq
      have hne : ((lv : Int) != (lv : Int)) = false := by simp
      have hQ := HQ.out
      rw [if_pos rfl] at hQ
      have HQ2 := Lib.hid hQ
      clear hQ
      go_enter Tryd.func40, Tryd.ntmps40
      go_wp2_with fail
      refine (HM.out _ (by (repeat' (first | (with_reducible exact Below.refl _ _) | (with_reducible assumption) | (with_reducible refine below_drewN ?_ _) | (with_reducible refine Below.alloc ?_ ?_ _) | (with_reducible refine Below.drew ?_) | (with_reducible refine Below.setCell ?_ ?_ _) | go_size))) magicL _ rfl (HMag.out _)).mono ?_; rintro e w' ⟨rfl, rfl⟩
      rw [hd]
      go_wp2_with fail
      refine wp_region_held_drew (S := (fun w' => Below w.heap.size w w')) (by kernel_rfl) ?_ (fun hHeld => ?_)
      · (try dsimp only); first | assumption | exact hbx.out | (show Below w.heap.size w _; exact (by (repeat' (first | (with_reducible exact Below.refl _ _) | (with_reducible assumption) | (with_reducible refine below_drewN ?_ _) | (with_reducible refine Below.alloc ?_ ?_ _) | (with_reducible refine Below.drew ?_) | (with_reducible refine Below.setCell ?_ ?_ _) | go_size))))
      refine wpAnyH_take (i := 0) (oi := { dst := some 21, op := Op.move (Operand.tmp 0), type := 30, pos := _, after := #[], guard := none }) (v := ?_) rfl (by kernel_rfl) (by kernel_rfl) (by kernel_rfl) (fun _ _ _ h => h) (Or.inl ⟨by rfl, ?_⟩) (by assumption) ?_
      rotate_left
      · intro wt hSw; first | (go_simp; done) | (go_simp; with_reducible rfl) | (trace_state; fail)
      try simp only [Act.put, List.setIfInBounds_toArray, List.set_cons_zero, List.set_cons_succ]
      refine wpAnyH_take (i := 1) (oi := { dst := some 22, op := Op.move (Operand.tmp 3), type := 3, pos := _, after := #[], guard := none }) (v := ?_) rfl (by kernel_rfl) (by kernel_rfl) (by kernel_rfl) (fun _ _ _ h => h) (Or.inl ⟨by rfl, ?_⟩) (by assumption) ?_
      rotate_left
      · intro wt hSw; first | (go_simp; done) | (go_simp; with_reducible rfl) | (trace_state; fail)
      try simp only [Act.put, List.setIfInBounds_toArray, List.set_cons_zero, List.set_cons_succ]
      refine wpAnyH_take (i := 2) (oi := { dst := some 23, op := Op.slice 30 (Operand.tmp 21) (some (Operand.tmp 22)) none none, type := 30, pos := _, after := #[{ on := 0, ground := Ground.data }, { on := 1, ground := Ground.data }], guard := none }) (v := ?_) rfl (by kernel_rfl) (by kernel_rfl) (by kernel_rfl) (fun _ _ _ h => h) (Or.inl ⟨by rfl, ?_⟩) (by assumption) ?_
      rotate_left
      · intro wt hSw; first | (go_simp; done) | (go_simp; with_reducible rfl) | (trace_state; fail)
      try simp only [Act.put, List.setIfInBounds_toArray, List.set_cons_zero, List.set_cons_succ]
      refine wpAnyH_take (i := 5) (oi := { dst := some 26, op := Op.move (Operand.tmp 0), type := 30, pos := _, after := #[], guard := none }) (v := ?_) rfl (by kernel_rfl) (by kernel_rfl) (by kernel_rfl) (fun _ _ _ h => h) (Or.inl ⟨by rfl, ?_⟩) (by assumption) ?_
      rotate_left
      · intro wt hSw; first | (go_simp; done) | (go_simp; with_reducible rfl) | (trace_state; fail)
      try simp only [Act.put, List.setIfInBounds_toArray, List.set_cons_zero, List.set_cons_succ]
      refine wpAnyH_take (i := 6) (oi := { dst := some 27, op := Op.move (Operand.tmp 3), type := 3, pos := _, after := #[], guard := none }) (v := ?_) rfl (by kernel_rfl) (by kernel_rfl) (by kernel_rfl) (fun _ _ _ h => h) (Or.inl ⟨by rfl, ?_⟩) (by assumption) ?_
      rotate_left
      · intro wt hSw; first | (go_simp; done) | (go_simp; with_reducible rfl) | (trace_state; fail)
      try simp only [Act.put, List.setIfInBounds_toArray, List.set_cons_zero, List.set_cons_succ]
      refine wpAnyH_take (i := 7) (oi := { dst := some 28, op := Op.slice 30 (Operand.tmp 26) none (some (Operand.tmp 27)) none, type := 30, pos := _, after := #[{ on := 5, ground := Ground.data }, { on := 6, ground := Ground.data }], guard := none }) (v := ?_) rfl (by kernel_rfl) (by kernel_rfl) (by kernel_rfl) (fun _ _ _ h => h) (Or.inl ⟨by rfl, ?_⟩) (by assumption) ?_
      rotate_left
      · intro wt hSw; first | (go_simp; done) | (go_simp; with_reducible rfl) | (trace_state; fail)
      try simp only [Act.put, List.setIfInBounds_toArray, List.set_cons_zero, List.set_cons_succ]
      refine wpAnyH_ready (rs := [3]) (by kernel_rfl) (by simp) ?_
      refine AllReadyH.cons (o := { dst := some 24, op := Op.call { callee := Callee.value (Operand.func 69), args := #[Operand.tmp 23], argTypes := #[30] }, type := 94, pos := _, after := #[{ on := 2, ground := Ground.data }], guard := none }) rfl (fun K hK => ?_) AllReadyH.nil
      go_simp
      refine (HN.out _ (by (repeat' (first | (with_reducible exact Below.refl _ _) | (with_reducible assumption) | (with_reducible refine below_drewN ?_ _) | (with_reducible refine Below.alloc ?_ ?_ _) | (with_reducible refine Below.drew ?_) | (with_reducible refine Below.setCell ?_ ?_ _) | go_size)))).mono ?_; rintro e W1 ⟨g1, q1', rfl, hrd, hg1, _, hb1⟩; have hrd := Lib.hid hrd; have hb1 := Lib.hid (Below.trans (show Below w.heap.size w _ by (repeat' (first | (with_reducible exact Below.refl _ _) | (with_reducible assumption) | (with_reducible refine below_drewN ?_ _) | (with_reducible refine Below.alloc ?_ ?_ _) | (with_reducible refine Below.drew ?_) | (with_reducible refine Below.setCell ?_ ?_ _) | go_size))) (hb1.mono (by simp))); have hg2 : w.heap.size ≤ g1 := (by simp at hg1; omega); have hbx := hb1
      go_wp2_with fail
      refine hK.out _ _ ?_ (fun hHeld => ?_)
      · (try dsimp only); first | assumption | exact hbx.out | (show Below w.heap.size w _; exact (by (repeat' (first | (with_reducible exact Below.refl _ _) | (with_reducible assumption) | (with_reducible refine below_drewN ?_ _) | (with_reducible refine Below.alloc ?_ ?_ _) | (with_reducible refine Below.drew ?_) | (with_reducible refine Below.setCell ?_ ?_ _) | go_size))))
      clear hK K
      try simp only [Act.put, List.setIfInBounds_toArray, List.set_cons_zero, List.set_cons_succ]
      refine wpAnyH_ready (rs := [4]) (by kernel_rfl) (by simp) ?_
      refine AllReadyH.cons (o := { dst := some 25, op := Op.call { callee := Callee.value (Operand.func 70), args := #[Operand.tmp 24, Operand.const (Value.int IntKind.i64 4)], argTypes := #[94, 3] }, type := 3, pos := _, after := #[{ on := 3, ground := Ground.data }, { on := 3, ground := Ground.chain }], guard := none }) rfl (fun K hK => ?_) AllReadyH.nil
      go_simp
      refine (rd_Num g1 q1' T 0 4 false 4 W1 hrd.out (by decide) (by omega)).mono ?_; rintro e W2 ⟨rfl, _, hgr⟩; rw [HNum.out]; have hb2 := Lib.hid (hb1.out.trans ⟨hgr.os, hgr.tape, hgr.output, hgr.size, fun k hk => hgr.block k (by have := hb1.out.size; omega) (by simp; omega)⟩); have hbx := hb2; clear hgr
      go_wp2_with fail
      refine hK.out _ _ ?_ (fun hHeld => ?_)
      · (try dsimp only); first | assumption | exact hbx.out | (show Below w.heap.size w _; exact (by (repeat' (first | (with_reducible exact Below.refl _ _) | (with_reducible assumption) | (with_reducible refine below_drewN ?_ _) | (with_reducible refine Below.alloc ?_ ?_ _) | (with_reducible refine Below.drew ?_) | (with_reducible refine Below.setCell ?_ ?_ _) | go_size))))
      clear hK K
      try simp only [Act.put, List.setIfInBounds_toArray, List.set_cons_zero, List.set_cons_succ]
      refine wpAnyH_ready (rs := [8]) (by kernel_rfl) (by simp) ?_
      refine AllReadyH.cons (o := { dst := some 29, op := Op.call { callee := Callee.value (Operand.func 23), args := #[Operand.tmp 28], argTypes := #[30] }, type := 56, pos := _, after := #[{ on := 7, ground := Ground.data }, { on := 4, ground := Ground.chain }], guard := none }) rfl (fun K hK => ?_) AllReadyH.nil
      go_simp
      refine (HC.out _ hb2.out).mono ?_; rintro e W3 ⟨rfl, hb3⟩; have hb3 := Lib.hid (hb2.out.trans (hb3.mono hb2.out.size)); have hbx := hb3
      go_wp2_with fail
      refine hK.out _ _ ?_ (fun hHeld => ?_)
      · (try dsimp only); first | assumption | exact hbx.out | (show Below w.heap.size w _; exact (by (repeat' (first | (with_reducible exact Below.refl _ _) | (with_reducible assumption) | (with_reducible refine below_drewN ?_ _) | (with_reducible refine Below.alloc ?_ ?_ _) | (with_reducible refine Below.drew ?_) | (with_reducible refine Below.setCell ?_ ?_ _) | go_size))))
      clear hK K
      try simp only [Act.put, List.setIfInBounds_toArray, List.set_cons_zero, List.set_cons_succ]
      refine wpAnyH_take (i := 9) (oi := { dst := some 30, op := Op.convert 56 3 (Operand.tmp 29), type := 3, pos := _, after := #[{ on := 8, ground := Ground.data }], guard := none }) (v := ?_) rfl (by kernel_rfl) (by kernel_rfl) (by kernel_rfl) (fun _ _ _ h => h) (Or.inl ⟨by rfl, ?_⟩) (by assumption) ?_
      rotate_left
      · intro wt hSw; first | (go_simp; done) | (go_simp; with_reducible rfl) | (trace_state; fail)
      try simp only [Act.put, List.setIfInBounds_toArray, List.set_cons_zero, List.set_cons_succ]
      refine wpAnyH_take (i := 10) (oi := { dst := some 31, op := Op.binOp BinOp.neq 3 (Operand.tmp 25) (Operand.tmp 30) 3, type := 4, pos := _, after := #[{ on := 4, ground := Ground.data }, { on := 9, ground := Ground.data }], guard := none }) (v := ?_) rfl (by kernel_rfl) (by kernel_rfl) (by kernel_rfl) (fun _ _ _ h => h) (Or.inl ⟨by rfl, ?_⟩) (by assumption) ?_
      rotate_left
      · intro wt hSw; first | (go_simp; done) | (go_simp; with_reducible rfl) | (trace_state; fail)
      try simp only [Act.put, List.setIfInBounds_toArray, List.set_cons_zero, List.set_cons_succ]
      refine wpAnyH_done (by kernel_rfl) ?_ _
      go_wp2_with fail
      go_ret
      exact ⟨by rw [HQ2.out]; rfl, hb3.out⟩
    · have hQ := HQ.out
      rw [if_neg heq] at hQ
      have HQ2 := Lib.hid hQ
      have hne : ((lv : Int) != (cr : Int)) = true := by rw [bne_iff_ne]; omega
      clear hQ heq
      go_enter Tryd.func40, Tryd.ntmps40
      go_wp2_with fail
      refine (HM.out _ (by (repeat' (first | (with_reducible exact Below.refl _ _) | (with_reducible assumption) | (with_reducible refine below_drewN ?_ _) | (with_reducible refine Below.alloc ?_ ?_ _) | (with_reducible refine Below.drew ?_) | (with_reducible refine Below.setCell ?_ ?_ _) | go_size))) magicL _ rfl (HMag.out _)).mono ?_; rintro e w' ⟨rfl, rfl⟩
      rw [hd]
      go_wp2_with fail
      refine wp_region_held_drew (S := (fun w' => Below w.heap.size w w')) (by kernel_rfl) ?_ (fun hHeld => ?_)
      · (try dsimp only); first | assumption | exact hbx.out | (show Below w.heap.size w _; exact (by (repeat' (first | (with_reducible exact Below.refl _ _) | (with_reducible assumption) | (with_reducible refine below_drewN ?_ _) | (with_reducible refine Below.alloc ?_ ?_ _) | (with_reducible refine Below.drew ?_) | (with_reducible refine Below.setCell ?_ ?_ _) | go_size))))
      refine wpAnyH_take (i := 0) (oi := { dst := some 21, op := Op.move (Operand.tmp 0), type := 30, pos := _, after := #[], guard := none }) (v := ?_) rfl (by kernel_rfl) (by kernel_rfl) (by kernel_rfl) (fun _ _ _ h => h) (Or.inl ⟨by rfl, ?_⟩) (by assumption) ?_
      rotate_left
      · intro wt hSw; first | (go_simp; done) | (go_simp; with_reducible rfl) | (trace_state; fail)
      try simp only [Act.put, List.setIfInBounds_toArray, List.set_cons_zero, List.set_cons_succ]
      refine wpAnyH_take (i := 1) (oi := { dst := some 22, op := Op.move (Operand.tmp 3), type := 3, pos := _, after := #[], guard := none }) (v := ?_) rfl (by kernel_rfl) (by kernel_rfl) (by kernel_rfl) (fun _ _ _ h => h) (Or.inl ⟨by rfl, ?_⟩) (by assumption) ?_
      rotate_left
      · intro wt hSw; first | (go_simp; done) | (go_simp; with_reducible rfl) | (trace_state; fail)
      try simp only [Act.put, List.setIfInBounds_toArray, List.set_cons_zero, List.set_cons_succ]
      refine wpAnyH_take (i := 2) (oi := { dst := some 23, op := Op.slice 30 (Operand.tmp 21) (some (Operand.tmp 22)) none none, type := 30, pos := _, after := #[{ on := 0, ground := Ground.data }, { on := 1, ground := Ground.data }], guard := none }) (v := ?_) rfl (by kernel_rfl) (by kernel_rfl) (by kernel_rfl) (fun _ _ _ h => h) (Or.inl ⟨by rfl, ?_⟩) (by assumption) ?_
      rotate_left
      · intro wt hSw; first | (go_simp; done) | (go_simp; with_reducible rfl) | (trace_state; fail)
      try simp only [Act.put, List.setIfInBounds_toArray, List.set_cons_zero, List.set_cons_succ]
      refine wpAnyH_take (i := 5) (oi := { dst := some 26, op := Op.move (Operand.tmp 0), type := 30, pos := _, after := #[], guard := none }) (v := ?_) rfl (by kernel_rfl) (by kernel_rfl) (by kernel_rfl) (fun _ _ _ h => h) (Or.inl ⟨by rfl, ?_⟩) (by assumption) ?_
      rotate_left
      · intro wt hSw; first | (go_simp; done) | (go_simp; with_reducible rfl) | (trace_state; fail)
      try simp only [Act.put, List.setIfInBounds_toArray, List.set_cons_zero, List.set_cons_succ]
      refine wpAnyH_take (i := 6) (oi := { dst := some 27, op := Op.move (Operand.tmp 3), type := 3, pos := _, after := #[], guard := none }) (v := ?_) rfl (by kernel_rfl) (by kernel_rfl) (by kernel_rfl) (fun _ _ _ h => h) (Or.inl ⟨by rfl, ?_⟩) (by assumption) ?_
      rotate_left
      · intro wt hSw; first | (go_simp; done) | (go_simp; with_reducible rfl) | (trace_state; fail)
      try simp only [Act.put, List.setIfInBounds_toArray, List.set_cons_zero, List.set_cons_succ]
      refine wpAnyH_take (i := 7) (oi := { dst := some 28, op := Op.slice 30 (Operand.tmp 26) none (some (Operand.tmp 27)) none, type := 30, pos := _, after := #[{ on := 5, ground := Ground.data }, { on := 6, ground := Ground.data }], guard := none }) (v := ?_) rfl (by kernel_rfl) (by kernel_rfl) (by kernel_rfl) (fun _ _ _ h => h) (Or.inl ⟨by rfl, ?_⟩) (by assumption) ?_
      rotate_left
      · intro wt hSw; first | (go_simp; done) | (go_simp; with_reducible rfl) | (trace_state; fail)
      try simp only [Act.put, List.setIfInBounds_toArray, List.set_cons_zero, List.set_cons_succ]
      refine wpAnyH_ready (rs := [3]) (by kernel_rfl) (by simp) ?_
      refine AllReadyH.cons (o := { dst := some 24, op := Op.call { callee := Callee.value (Operand.func 69), args := #[Operand.tmp 23], argTypes := #[30] }, type := 94, pos := _, after := #[{ on := 2, ground := Ground.data }], guard := none }) rfl (fun K hK => ?_) AllReadyH.nil
      go_simp
      refine (HN.out _ (by (repeat' (first | (with_reducible exact Below.refl _ _) | (with_reducible assumption) | (with_reducible refine below_drewN ?_ _) | (with_reducible refine Below.alloc ?_ ?_ _) | (with_reducible refine Below.drew ?_) | (with_reducible refine Below.setCell ?_ ?_ _) | go_size)))).mono ?_; rintro e W1 ⟨g1, q1', rfl, hrd, hg1, _, hb1⟩; have hrd := Lib.hid hrd; have hb1 := Lib.hid (Below.trans (show Below w.heap.size w _ by (repeat' (first | (with_reducible exact Below.refl _ _) | (with_reducible assumption) | (with_reducible refine below_drewN ?_ _) | (with_reducible refine Below.alloc ?_ ?_ _) | (with_reducible refine Below.drew ?_) | (with_reducible refine Below.setCell ?_ ?_ _) | go_size))) (hb1.mono (by simp))); have hg2 : w.heap.size ≤ g1 := (by simp at hg1; omega); have hbx := hb1
      go_wp2_with fail
      refine hK.out _ _ ?_ (fun hHeld => ?_)
      · (try dsimp only); first | assumption | exact hbx.out | (show Below w.heap.size w _; exact (by (repeat' (first | (with_reducible exact Below.refl _ _) | (with_reducible assumption) | (with_reducible refine below_drewN ?_ _) | (with_reducible refine Below.alloc ?_ ?_ _) | (with_reducible refine Below.drew ?_) | (with_reducible refine Below.setCell ?_ ?_ _) | go_size))))
      clear hK K
      try simp only [Act.put, List.setIfInBounds_toArray, List.set_cons_zero, List.set_cons_succ]
      refine wpAnyH_ready (rs := [4]) (by kernel_rfl) (by simp) ?_
      refine AllReadyH.cons (o := { dst := some 25, op := Op.call { callee := Callee.value (Operand.func 70), args := #[Operand.tmp 24, Operand.const (Value.int IntKind.i64 4)], argTypes := #[94, 3] }, type := 3, pos := _, after := #[{ on := 3, ground := Ground.data }, { on := 3, ground := Ground.chain }], guard := none }) rfl (fun K hK => ?_) AllReadyH.nil
      go_simp
      refine (rd_Num g1 q1' T 0 4 false 4 W1 hrd.out (by decide) (by omega)).mono ?_; rintro e W2 ⟨rfl, _, hgr⟩; rw [HNum.out]; have hb2 := Lib.hid (hb1.out.trans ⟨hgr.os, hgr.tape, hgr.output, hgr.size, fun k hk => hgr.block k (by have := hb1.out.size; omega) (by simp; omega)⟩); have hbx := hb2; clear hgr
      go_wp2_with fail
      refine hK.out _ _ ?_ (fun hHeld => ?_)
      · (try dsimp only); first | assumption | exact hbx.out | (show Below w.heap.size w _; exact (by (repeat' (first | (with_reducible exact Below.refl _ _) | (with_reducible assumption) | (with_reducible refine below_drewN ?_ _) | (with_reducible refine Below.alloc ?_ ?_ _) | (with_reducible refine Below.drew ?_) | (with_reducible refine Below.setCell ?_ ?_ _) | go_size))))
      clear hK K
      try simp only [Act.put, List.setIfInBounds_toArray, List.set_cons_zero, List.set_cons_succ]
      refine wpAnyH_ready (rs := [8]) (by kernel_rfl) (by simp) ?_
      refine AllReadyH.cons (o := { dst := some 29, op := Op.call { callee := Callee.value (Operand.func 23), args := #[Operand.tmp 28], argTypes := #[30] }, type := 56, pos := _, after := #[{ on := 7, ground := Ground.data }, { on := 4, ground := Ground.chain }], guard := none }) rfl (fun K hK => ?_) AllReadyH.nil
      go_simp
      refine (HC.out _ hb2.out).mono ?_; rintro e W3 ⟨rfl, hb3⟩; have hb3 := Lib.hid (hb2.out.trans (hb3.mono hb2.out.size)); have hbx := hb3
      go_wp2_with fail
      refine hK.out _ _ ?_ (fun hHeld => ?_)
      · (try dsimp only); first | assumption | exact hbx.out | (show Below w.heap.size w _; exact (by (repeat' (first | (with_reducible exact Below.refl _ _) | (with_reducible assumption) | (with_reducible refine below_drewN ?_ _) | (with_reducible refine Below.alloc ?_ ?_ _) | (with_reducible refine Below.drew ?_) | (with_reducible refine Below.setCell ?_ ?_ _) | go_size))))
      clear hK K
      try simp only [Act.put, List.setIfInBounds_toArray, List.set_cons_zero, List.set_cons_succ]
      refine wpAnyH_take (i := 9) (oi := { dst := some 30, op := Op.convert 56 3 (Operand.tmp 29), type := 3, pos := _, after := #[{ on := 8, ground := Ground.data }], guard := none }) (v := ?_) rfl (by kernel_rfl) (by kernel_rfl) (by kernel_rfl) (fun _ _ _ h => h) (Or.inl ⟨by rfl, ?_⟩) (by assumption) ?_
      rotate_left
      · intro wt hSw; first | (go_simp; done) | (go_simp; with_reducible rfl) | (trace_state; fail)
      try simp only [Act.put, List.setIfInBounds_toArray, List.set_cons_zero, List.set_cons_succ]
      refine wpAnyH_take (i := 10) (oi := { dst := some 31, op := Op.binOp BinOp.neq 3 (Operand.tmp 25) (Operand.tmp 30) 3, type := 4, pos := _, after := #[{ on := 4, ground := Ground.data }, { on := 9, ground := Ground.data }], guard := none }) (v := ?_) rfl (by kernel_rfl) (by kernel_rfl) (by kernel_rfl) (fun _ _ _ h => h) (Or.inl ⟨by rfl, ?_⟩) (by assumption) ?_
      rotate_left
      · intro wt hSw; first | (go_simp; done) | (go_simp; with_reducible rfl) | (trace_state; fail)
      try simp only [Act.put, List.setIfInBounds_toArray, List.set_cons_zero, List.set_cons_succ]
      refine wpAnyH_done (by kernel_rfl) ?_ _
      go_wp2_with fail
      go_ret
      exact ⟨by rw [HQ2.out]; rfl, hb3.out⟩
  · have hq := Lib.hid (show wholeE B = 2 by unfold wholeE; rw [if_neg h1, if_neg h2, if_neg h3])
    have hd : decide (B.take 4 = magicL) = false := decide_eq_false h3
    clear h1 h2 h3 hB hv
    generalize B.length = n at *
    go_enter Tryd.func40, Tryd.ntmps40
    go_wp2_with fail
    refine (HM.out _ (by (repeat' (first | (with_reducible exact Below.refl _ _) | (with_reducible assumption) | (with_reducible refine below_drewN ?_ _) | (with_reducible refine Below.alloc ?_ ?_ _) | (with_reducible refine Below.drew ?_) | (with_reducible refine Below.setCell ?_ ?_ _) | go_size))) magicL _ rfl (HMag.out _)).mono ?_; rintro e w' ⟨rfl, rfl⟩
    rw [hd]
    go_wp2_with fail
    go_ret
    exact ⟨by rw [hq.out]; rfl, by (repeat' (first | (with_reducible exact Below.refl _ _) | (with_reducible assumption) | (with_reducible refine below_drewN ?_ _) | (with_reducible refine Below.alloc ?_ ?_ _) | (with_reducible refine Below.drew ?_) | (with_reducible refine Below.setCell ?_ ?_ _) | go_size))⟩
end Go.Proofs.YtjikkipdmonndaaDoor

/- Layer 16: a container of which one byte is changed. -/
namespace Go.Proofs.YtjikkipdmonndaaDoor
open Go.RowKit
set_option linter.unusedSimpArgs false
set_option linter.unusedVariables false
theorem leV_put4 (n : Nat) (h : n < 4294967296) : leV (putL 4 (n : Int)) = n := by
  have h1 := numV_put4 (n : Int)
  have h2 := leV_lt (putL 4 (n : Int))
  rw [putL_len, show (256 : Nat) ^ 4 = 4294967296 from by decide] at h2
  unfold numV wrap64 at h1
  omega
theorem whole_one {p : Pr} (hf : fewP p = true) {k : Nat} (hk : k < (boxL p).length) {c : UInt8} (hc : (boxL p)[k] ≠ c) : wholeE ((boxL p).set k c) = 2 ∨ wholeE ((boxL p).set k c) = 3 := by
  have hb := body_len hf
  have hm : ∃ t, bodyL p = magicL ++ t := ⟨secL 1 (csB p) ++ (secL 2 (vsB p) ++ (secL 3 (bsB p) ++ secL 4 (unsB p.units))), by unfold bodyL; simp only [List.append_assoc]⟩
  have h8 : 4 ≤ (bodyL p).length := by obtain ⟨t, ht⟩ := hm; rw [ht]; simp [magicL]
  obtain ⟨B, hB⟩ : ∃ B, bodyL p = B := ⟨_, rfl⟩
  have hx : boxL p = B ++ putL 4 (crcF B) := by rw [← hB]; rfl
  have hcl : crcF B < 4294967296 := by unfold crcF; omega
  rw [hB] at hm hb h8
  have hlen : (boxL p).length = B.length + 4 := by rw [hx, List.length_append, putL_len]
  unfold wholeE
  rw [List.length_set, hlen, if_neg (by omega), if_neg (by omega), show B.length + 4 - 4 = B.length by omega]
  by_cases h4 : ((boxL p).set k c).take 4 = magicL
  · rw [if_pos h4]
    right
    have hk4 : 4 ≤ k := by
      by_cases h : 4 ≤ k
      · exact h
      · exfalso
        obtain ⟨t, ht⟩ := hm
        have e1 : (boxL p)[k]? = magicL[k]? := by rw [hx, ht, List.append_assoc, List.getElem?_append_left (by simp [magicL]; omega)]
        have e2 : (((boxL p).set k c).take 4)[k]? = some c := by rw [List.getElem?_take, if_pos (by omega)]; simp [hk]
        rw [h4, ← e1] at e2
        rw [List.getElem?_eq_getElem hk] at e2
        exact hc (Option.some.inj e2)
    rw [if_neg]
    by_cases hn : k < B.length
    · rw [hx, List.set_append_left _ _ hn, List.drop_left' (by simp), List.take_left' (by simp), leV_put4 _ hcl]
      intro he
      have e1 : (boxL p)[k] = B[k] := by simp only [hx]; rw [List.getElem_append_left hn]
      have hne := crcO_set B k hn c (by rw [← e1]; exact hc) (s := 4294967295) (by omega)
      have l1 := crcO_lt (B.set k c) (s := 4294967295) (by omega)
      have l2 := crcO_lt B (s := 4294967295) (by omega)
      unfold crcF at he
      omega
    · rw [hx, List.set_append_right _ _ (by omega), List.drop_left' rfl, List.take_left' rfl]
      intro he
      have h5 := leV_put4 (crcF B) hcl
      have h6 := leV_inj (by simp) (he.trans h5.symm)
      have hk2 : k - B.length < (putL 4 (crcF B : Int)).length := by rw [putL_len]; omega
      have e1 : (boxL p)[k] = (putL 4 (crcF B : Int))[k - B.length] := by simp only [hx]; rw [List.getElem_append_right (by omega)]
      have e2 : ((putL 4 (crcF B : Int)).set (k - B.length) c)[k - B.length]? = some c := by simp [hk2]
      rw [h6, List.getElem?_eq_getElem hk2] at e2
      exact hc (e1.trans (Option.some.inj e2))
  · rw [if_neg h4]
    left; rfl
set_option maxRecDepth 100000 in
set_option maxHeartbeats 2000000 in
theorem box_Decode_outside (v : Value) (B : List UInt8) (w : World) (hv : RowAt w v B.length (byteV B)) (hB : B.length ≤ 10000000) (he : wholeE B ≠ 0) :
    Calls Tryd.prog 14 #[v] w fun e w' => e = .returned (.tuple #[.agg #[.slice none 0 0, .slice none 0 0, .slice none 0 0, .slice none 0 0], .int .i64 (wholeE B)]) ∧ Below w.heap.size w w' := by
  have H := Lib.hid (fun W (hb : Below w.heap.size w W) => box_whole v B W (hv.below hb) hB)
  have hq : (wholeE B != 0) = true := by simpa using he
  obtain ⟨e, hee⟩ : ∃ e, wholeE B = e := ⟨_, rfl⟩
  rw [hee] at H hq ⊢
  clear hv hB he hee
  have mc := @more_cell
  have mf := @more_frozen
  have ms := @more_set
  go_enter Tryd.func14, Tryd.ntmps14
  go_wp2_with fail
  refine (H.out _ (by (repeat' (first | (with_reducible exact Below.refl _ _) | (with_reducible assumption) | (with_reducible refine below_drewN ?_ _) | (with_reducible refine Below.alloc ?_ ?_ _) | (with_reducible refine Below.drew ?_) | (with_reducible refine Below.setCell ?_ ?_ _) | go_size)))).mono ?_; rintro e W1 ⟨rfl, hb⟩
  obtain ⟨l, d, rfl⟩ := more_of hb
  clear hb
  go_wp2_with fail
  refine bodyPost_ret (by simp [results, Tryd.results14, go_sem, more_cell, more_size, more_frozen]; try rfl) rfl ?_
  exact ⟨rfl, by (repeat' (first | (with_reducible exact Below.refl _ _) | (with_reducible assumption) | (with_reducible refine more_below ?_ ?_ _ _) | (with_reducible refine below_drewN ?_ _) | (with_reducible refine Below.alloc ?_ ?_ _) | (with_reducible refine Below.drew ?_) | (with_reducible refine Below.setCell ?_ ?_ _) | (simp only [World.size_alloc, World.size_setCell, World.size_drew, more_size, World.heap_drewN]; omega) | go_size))⟩
end Go.Proofs.YtjikkipdmonndaaDoor

/- Layer 16: the walk of BoxOne. -/
namespace Go.Proofs.YtjikkipdmonndaaDoor
open Go.RowKit
set_option linter.unusedSimpArgs false
set_option linter.unusedVariables false
theorem owns_byte {w : World} {B : Nat} {e : TypeId} {u : Value} {n : Nat} {l : List UInt8} (h : w.ownsRow B e 1 u n (bytesV l)) {m : Nat} (hm : m < l.length) {c : UInt8} :
    ∃ bi cap, u = .slice (some ⟨bi, 0, none⟩) n cap ∧ n = l.length ∧ B ≤ bi ∧ bi < w.heap.size ∧ w.cell? ⟨bi, m, none⟩ = some (byteV l m) ∧ w.frozen? ⟨bi, m, none⟩ = false ∧ (w.setCell ⟨bi, m, none⟩ (.int .u8 (c.toNat : Int))).ownsRow B e 1 u n (bytesV (l.set m c)) := by
  obtain ⟨hl, h⟩ := h
  have hn : n = l.length := by simpa [bytesV] using hl.symm
  subst hn
  rcases h with ⟨rfl, h0⟩ | ⟨g, cap, cur, rfl, hb, hg, h1, h2, h3, h4⟩
  · omega
  · have hlt : g < w.heap.size := by
      by_cases hgl : g < w.heap.size
      · exact hgl
      · rw [Array.getElem?_eq_none (Nat.le_of_not_lt hgl)] at hg; cases hg
    have hcell : cur[m]? = some (byteV l m) := by
      have h5 : (bytesV l)[m]? = some (byteV l m) := by simp [bytesV, byteV, List.getD, hm]
      rw [← h4, List.getElem?_take, if_pos (by omega)] at h5
      simpa using h5
    refine ⟨g, cap, rfl, rfl, hb, hlt, ?_, ?_, ?_⟩
    · unfold World.cell?
      rw [show (⟨g, m, none⟩ : Addr).block = g from rfl, hg]
      simpa using hcell
    · unfold World.frozen?
      rw [show (⟨g, m, none⟩ : Addr).block = g from rfl, hg]
      simp
    · refine ⟨by simp [bytesV], Or.inr ⟨g, cap, cur.setIfInBounds m (.int .u8 (c.toNat : Int)), rfl, hb, ?_, h1, h2, by simpa using h3, ?_⟩⟩
      · unfold World.setCell
        show (w.heap.modify g _)[g]? = _
        rw [Array.getElem?_modify, if_pos rfl, hg]
        rfl
      · have hms : m < cur.size := by
          by_cases hq : m < cur.size
          · exact hq
          · rw [Array.getElem?_eq_none (by omega)] at hcell; cases hcell
        apply List.ext_getElem?
        intro i
        have h5 : (cur.toList.take (l.length * 1))[i]? = (bytesV l)[i]? := by rw [h4]
        rw [List.getElem?_take] at h5 ⊢
        by_cases hi : i < l.length * 1
        · rw [if_pos hi] at h5 ⊢
          by_cases him : m = i
          · subst him
            simp [bytesV, hm, hms]
          · rw [Array.toList_setIfInBounds, List.getElem?_set_ne him, h5]
            simp [bytesV, List.getElem?_set, him]
        · rw [if_neg hi]
          rw [List.getElem?_eq_none (by simp [bytesV]; omega)]
set_option maxRecDepth 100000 in
set_option maxHeartbeats 4000000 in
theorem boxOne_walk (vc vv vb vu : Value) (p : Pr) (at_ cz : Int) (w : World) (h : PrAt w vc vv vb vu p) (hat : I64 at_) (hcz : 0 ≤ cz ∧ cz ≤ 255) (hT : STab w) :
    Calls Tryd.prog 6 #[.agg #[vc, vv, vb, vu], .int .i64 at_, .int .u8 cz] w fun e w' => e = .returned (.bool true) ∧ Below w.heap.size w w' := by
  have HA := Lib.hid (fun W (hb : Below w.heap.size w W) => law16_awake W (hT.below hb))
  have HF := Lib.hid (fun W (hb : Below w.heap.size w W) => law16_Few vc vv vb vu p W (h.below hb))
  obtain ⟨W0, hW0⟩ : ∃ W0, W0 = w.alloc (.cells #[vc, vv, vb, vu] 27) := ⟨_, rfl⟩
  have hb0 : Below w.heap.size w W0 := by rw [hW0]; exact by (repeat' (first | (with_reducible exact Below.refl _ _) | (with_reducible assumption) | (with_reducible refine below_drewN ?_ _) | (with_reducible refine Below.alloc ?_ ?_ _) | (with_reducible refine Below.drew ?_) | (with_reducible refine Below.setCell ?_ ?_ _) | go_size))
  have k0 : Boxed W0 w.heap.size [vc, vv, vb, vu] := by rw [hW0]; exact Boxed.new w [vc, vv, vb, vu] 27 (Below.refl _ _)
  have z0 : w.heap.size < W0.heap.size := by rw [hW0]; simp
  have K0 := Lib.hid k0
  have HW0 := Lib.hid hW0
  have HB0 := Lib.hid hb0
  clear hW0 k0 hb0
  cases hf : fewP p
  · rw [hf] at HF
    go_enter Tryd.func6, Tryd.ntmps6
    go_wp2_with fail
    rw [← HW0.out]
    refine (HF.out _ HB0.out).mono ?_; rintro e A1 ⟨rfl, hb1⟩
    have y1 := HB0.out.trans (hb1.mono HB0.out.size)
    go_wp2_with fail
    refine (HA.out _ (y1)).mono ?_; rintro e A9 ⟨rfl, hb9⟩
    go_wp2_with fail
    go_ret
    exact ⟨rfl, (y1).trans (hb9.mono (y1).size)⟩
  rw [hf] at HF
  have HE := Lib.hid (fun W (hb : Below w.heap.size w W) => box_Encode vc vv vb vu p W (hT.below hb) (h.below hb) hf)
  unfold PutsP at HE
  have HH := Lib.hid h
  have HTT := Lib.hid hT
  clear h hT
  cases hfit : fitP p
  · rw [hfit] at HE
    go_enter Tryd.func6, Tryd.ntmps6
    go_wp2_with fail
    rw [← HW0.out]
    refine (HF.out _ HB0.out).mono ?_; rintro e A1 ⟨rfl, hb1⟩
    have y1 := HB0.out.trans (hb1.mono HB0.out.size)
    have kk := K0.out.keep z0 hb1
    have e0 := kk 0 _ rfl
    have e1 := kk 1 _ rfl
    have e2 := kk 2 _ rfl
    have e3 := kk 3 _ rfl
    clear kk
    go_wp2_with fail
    refine (HE.out _ y1).mono ?_; rintro e A2 ⟨r, rfl, _, hr, hb2⟩
    have y2 := y1.trans (hb2.mono y1.size)
    have hr := hr (by first | trivial | rfl)
    subst hr
    clear e0 e1 e2 e3
    go_wp2_with fail
    refine (HA.out _ (y2)).mono ?_; rintro e A9 ⟨rfl, hb9⟩
    go_wp2_with fail
    go_ret
    exact ⟨rfl, (y2).trans (hb9.mono (y2).size)⟩
  rw [hfit] at HE
  have hbl := body_len hf
  have hlen : (boxL p).length = (bodyL p).length + 4 := by unfold boxL; rw [List.length_append, putL_len]
  have main : ∀ (Q : Prop), (∀ (A2 : World) (g cap n : Nat) (_ : A2.ownsRow w.heap.size 5 1 (.slice (some ⟨g, 0, none⟩) n cap) n (bytesV (boxL p))) (_ : n = (boxL p).length) (_ : Below w.heap.size w A2), True) → True := fun _ _ => trivial
  clear main
  go_enter Tryd.func6, Tryd.ntmps6
  go_wp2_with fail
  rw [← HW0.out]
  refine (HF.out _ HB0.out).mono ?_; rintro e A1 ⟨rfl, hb1⟩
  have y1 := HB0.out.trans (hb1.mono HB0.out.size)
  have kk := K0.out.keep z0 hb1
  have e0 := kk 0 _ rfl
  have e1 := kk 1 _ rfl
  have e2 := kk 2 _ rfl
  have e3 := kk 3 _ rfl
  clear kk
  go_wp2_with fail
  refine (HE.out _ y1).mono ?_; rintro e A2 ⟨r, rfl, hr, _, hb2⟩
  have y2 := y1.trans (hb2.mono y1.size)
  have hr := hr (by first | trivial | rfl)
  have hr := Lib.hid (own_low hr y1.size)
  clear e0 e1 e2 e3 hb1 hb2
  obtain ⟨n, hn⟩ : ∃ n, (boxL p).length = n := ⟨_, rfl⟩
  have Hn := Lib.hid hn
  rw [hn] at hr hlen
  obtain ⟨g, cap, rfl, hc1, hc2, hc3⟩ := owns_slice hr.out (by omega)
  have hn6 : n ≤ 200000 := by omega
  clear hn hlen hbl
  by_cases h0 : at_ < 0
  · have q0 : (at_ < 0) = True := eq_true h0
    clear hat
    go_wp2_with fail
    refine (HA.out _ (y2)).mono ?_; rintro e A9 ⟨rfl, hb9⟩
    go_wp2_with fail
    go_ret
    exact ⟨rfl, (y2).trans (hb9.mono (y2).size)⟩
  have q0 : (at_ < 0) = False := eq_false h0
  obtain ⟨k, rfl⟩ : ∃ k : Nat, at_ = k := ⟨at_.toNat, by omega⟩
  by_cases hk : k < n
  · have q1 : ((n : Int) ≤ (k : Int)) = False := eq_false (by omega)
    obtain ⟨g', cap', e1, _, _, hgw, hcell, hfz, hset⟩ := owns_byte hr.out (by rw [Hn.out]; exact hk) (c := UInt8.ofNat cz.toNat)
    obtain ⟨rfl, rfl⟩ : g = g' ∧ cap = cap' := by simpa using e1
    have hcc : ((UInt8.ofNat cz.toNat).toNat : Int) = cz := by rw [UInt8.toNat_ofNat']; omega
    rw [hcc] at hset
    have hget : (boxL p).getD k 0 = (boxL p)[k]'(by rw [Hn.out]; exact hk) := by simp [List.getD, Hn.out, hk]
    unfold byteV at hcell
    rw [hget] at hcell
    clear hat h0 e1 hget
    by_cases heq : (((boxL p)[k]'(by rw [Hn.out]; exact hk)).toNat : Int) = cz
    · have q2 : ((((boxL p)[k]'(by rw [Hn.out]; exact hk)).toNat : Int) == cz) = true := by simpa using heq
      clear heq hset
      generalize (((boxL p)[k]'(by rw [Hn.out]; exact hk)).toNat : Int) = bz at *
      go_wp2_with fail
      refine (HA.out _ (y2)).mono ?_; rintro e A9 ⟨rfl, hb9⟩
      go_wp2_with fail
      go_ret
      exact ⟨rfl, (y2).trans (hb9.mono (y2).size)⟩
    · have q2 : ((((boxL p)[k]'(by rw [Hn.out]; exact hk)).toNat : Int) == cz) = false := by simpa using heq
      have hone := whole_one hf (k := k) (by rw [Hn.out]; exact hk) (c := UInt8.ofNat cz.toNat) (fun he => heq (by rw [he]; exact hcc))
      clear heq hcc
      generalize (((boxL p)[k]'(by rw [Hn.out]; exact hk)).toNat : Int) = bz at *
      have hset := Lib.hid (bytes_at hset)
      have hn2 : ((boxL p).set k (UInt8.ofNat cz.toNat)).length = n := by rw [List.length_set, Hn.out]
      obtain ⟨L2, hL2⟩ : ∃ L, (boxL p).set k (UInt8.ofNat cz.toNat) = L := ⟨_, rfl⟩
      rw [hL2] at hone hset hn2
      have HD := Lib.hid (box_Decode_outside _ L2 _ hset.out (by omega) (by rcases hone with h | h <;> rw [h] <;> decide))
      have y3 : Below w.heap.size w (A2.setCell ⟨g, k, none⟩ (.int .u8 cz)) := y2.setCell (p := ⟨g, k, none⟩) hc2 _
      clear hL2 hn2
      go_wp2_with fail
      rw [Hn.out]
      refine HD.out.mono ?_; rintro e A3 ⟨rfl, hb3⟩
      have y4 := y3.trans (hb3.mono y3.size)
      rcases hone with h2 | h2
      · rw [h2]
        go_wp2_with fail
        refine (HA.out _ (Below.trans y4 ((show Below A3.heap.size A3 _ by (repeat' (first | (with_reducible exact Below.refl _ _) | (with_reducible assumption) | (with_reducible refine below_drewN ?_ _) | (with_reducible refine Below.alloc ?_ ?_ _) | (with_reducible refine Below.drew ?_) | (with_reducible refine Below.setCell ?_ ?_ _) | go_size))).mono y4.size))).mono ?_; rintro e A9 ⟨rfl, hb9⟩
        go_wp2_with fail
        go_ret
        exact ⟨rfl, (Below.trans y4 ((show Below A3.heap.size A3 _ by (repeat' (first | (with_reducible exact Below.refl _ _) | (with_reducible assumption) | (with_reducible refine below_drewN ?_ _) | (with_reducible refine Below.alloc ?_ ?_ _) | (with_reducible refine Below.drew ?_) | (with_reducible refine Below.setCell ?_ ?_ _) | go_size))).mono y4.size)).trans (hb9.mono (Below.trans y4 ((show Below A3.heap.size A3 _ by (repeat' (first | (with_reducible exact Below.refl _ _) | (with_reducible assumption) | (with_reducible refine below_drewN ?_ _) | (with_reducible refine Below.alloc ?_ ?_ _) | (with_reducible refine Below.drew ?_) | (with_reducible refine Below.setCell ?_ ?_ _) | go_size))).mono y4.size)).size)⟩
      · rw [h2]
        go_wp2_with fail
        refine (HA.out _ (Below.trans y4 ((show Below A3.heap.size A3 _ by (repeat' (first | (with_reducible exact Below.refl _ _) | (with_reducible assumption) | (with_reducible refine below_drewN ?_ _) | (with_reducible refine Below.alloc ?_ ?_ _) | (with_reducible refine Below.drew ?_) | (with_reducible refine Below.setCell ?_ ?_ _) | go_size))).mono y4.size))).mono ?_; rintro e A9 ⟨rfl, hb9⟩
        go_wp2_with fail
        go_ret
        exact ⟨rfl, (Below.trans y4 ((show Below A3.heap.size A3 _ by (repeat' (first | (with_reducible exact Below.refl _ _) | (with_reducible assumption) | (with_reducible refine below_drewN ?_ _) | (with_reducible refine Below.alloc ?_ ?_ _) | (with_reducible refine Below.drew ?_) | (with_reducible refine Below.setCell ?_ ?_ _) | go_size))).mono y4.size)).trans (hb9.mono (Below.trans y4 ((show Below A3.heap.size A3 _ by (repeat' (first | (with_reducible exact Below.refl _ _) | (with_reducible assumption) | (with_reducible refine below_drewN ?_ _) | (with_reducible refine Below.alloc ?_ ?_ _) | (with_reducible refine Below.drew ?_) | (with_reducible refine Below.setCell ?_ ?_ _) | go_size))).mono y4.size)).size)⟩
  · have q1 : ((n : Int) ≤ (k : Int)) = True := eq_true (by omega)
    clear hat h0
    go_wp2_with fail
    refine (HA.out _ (y2)).mono ?_; rintro e A9 ⟨rfl, hb9⟩
    go_wp2_with fail
    go_ret
    exact ⟨rfl, (y2).trans (hb9.mono (y2).size)⟩
end Go.Proofs.YtjikkipdmonndaaDoor

/- Tables of structs and arrays: their cells, one behind the other. -/
namespace Go.Proofs.YtjikkipdmonndaaDoor
open Go.ChangeShapes Go.WideShapes Go.ChangeAt Go.RowKit
section
variable {P : Program}
def flatF {H : Type} : Nat → DataW H → List Value
  | _, .lit l => [leafVal (.lit l : DataW H)]
  | n + 1, .agg ds => ds.flatMap fun d => flatF n d
  | _, _ => []
theorem flatF_lit {H : Type} (n : Nat) (l : Lit) : flatF n (.lit l : DataW H) = [leafVal (.lit l : DataW H)] := by cases n <;> simp [flatF]
/-- a type of m cells that reads as what they hold -/
def FlatAt (P : Program) (t : TypeId) (n m : Nat) : Prop := ∀ {H : Type} (enc : TypeId × Value → H) (w : World) (base : Nat) (sp : Nat → Bool) (held : Bool) (fuel : Nat) (cs : List Value) (x : DataW H × List MemPlace),
  DataW.trod enc P w base sp held fuel t cs = some x → cs.length = m ∧ cs = flatF n x.1
theorem flatAt_int {e : TypeId} {k : IntKind} {n : Nat} (he : P.underlying e = some (.int k)) : FlatAt P e n 1 := by
  intro H enc w base sp held fuel cs x h
  obtain ⟨z, rfl, rfl, _⟩ := DataW.trod_int he h
  exact ⟨rfl, by simp [flatF_lit, leafVal]⟩
theorem flatAt_string {e : TypeId} {n : Nat} (he : P.underlying e = some .string) : FlatAt P e n 1 := by
  intro H enc w base sp held fuel cs x h
  obtain ⟨s, rfl, rfl, _⟩ := DataW.trod_string he h
  exact ⟨rfl, by simp [flatF_lit, leafVal]⟩
theorem cut_rows {H : Type} (f : DataW H → List Value) (m : Nat) : ∀ (n : Nat) (cs : List Value) (ys : List (DataW H)), cs.length = n * m → ys.length = n → (∀ i, i < n → ∃ y, ys[i]? = some y ∧ (cs.drop (i * m)).take m = f y) → cs = ys.flatMap f := by
  intro n
  induction n with
  | zero =>
    intro cs ys h1 h2 _
    obtain rfl : cs = [] := List.length_eq_zero_iff.1 (by omega)
    obtain rfl : ys = [] := List.length_eq_zero_iff.1 h2
    rfl
  | succ n ih =>
    intro cs ys h1 h2 h
    cases ys with
    | nil => simp at h2
    | cons y ys =>
      have h0 := h 0 (by omega)
      obtain ⟨y', hy, hc⟩ := h0
      obtain rfl : y = y' := by simpa using hy
      have hl : cs.length = n * m + m := by rw [h1]; rw [Nat.succ_mul]
      have hr := ih (cs.drop m) ys (by rw [List.length_drop]; omega) (by simpa using h2) (fun i hi => by
        obtain ⟨y'', hy, hc⟩ := h (i + 1) (by omega)
        refine ⟨y'', by simpa using hy, ?_⟩
        rw [List.drop_drop, ← hc]
        congr 2
        rw [Nat.succ_mul]; omega)
      rw [List.flatMap_cons, ← hr, ← hc]
      simp
theorem flatAt_array {t e : TypeId} {n m q : Nat} (ht : P.underlying t = some (.array n e)) (he : FlatAt P e q m) (hce : P.cellsOf e = m) (hct : P.cellsOf t = n * m) : FlatAt P t (q + 1) (n * m) := by
  intro H enc w base sp held fuel cs x h
  obtain ⟨xs, k, rfl, rfl, hl, hn, hall⟩ := DataW.trod_array ht h
  rw [hct] at hl
  refine ⟨hl, ?_⟩
  simp only [flatF]
  refine cut_rows _ m n cs _ hl (by simp [hn]) (fun i hi => ?_)
  have h1 := hall i hi
  obtain ⟨b, hb⟩ : ∃ b, xs[i]? = some b := ⟨xs[i], by simp [hn, hi]⟩
  rw [hb, hce] at h1
  exact ⟨b.1, by simp [hb], (he _ _ _ _ _ _ _ _ h1).2⟩
theorem flatAt_struct {t : TypeId} {fs : Array Field} {q : Nat} (ht : P.underlying t = some (.struct fs)) (hct : P.cellsOf t = fs.size)
    (hf : ∀ (i : Nat) (f : Field), fs[i]? = some f → FlatAt P f.type q 1 ∧ f.offset = i ∧ P.cellsOf f.type = 1) : FlatAt P t (q + 1) fs.size := by
  intro H enc w base sp held fuel cs x h
  obtain ⟨xs, k, rfl, rfl, hl, hn, hall⟩ := DataW.trod_struct ht h
  rw [hct] at hl
  refine ⟨hl, ?_⟩
  simp only [flatF]
  refine cut_rows _ 1 fs.size cs _ (by rw [hl]; omega) (by simp [hn]) (fun i hi => ?_)
  obtain ⟨f, hfi⟩ : ∃ f, fs[i]? = some f := ⟨fs[i], by simp [hi]⟩
  obtain ⟨h1, h2, h3⟩ := hf i f hfi
  have h4 := hall i f hfi
  obtain ⟨b, hb⟩ : ∃ b, xs[i]? = some b := ⟨xs[i], by simp [hn, hi]⟩
  rw [hb, h3, h2] at h4
  exact ⟨b.1, by simp [hb], by rw [Nat.mul_one]; exact (h1 _ _ _ _ _ _ _ _ h4).2⟩
/-- the cells of a table that stands first on the list -/
theorem laid_flat {W : World} {name : String} {d : DataW Unit} {rest : List (String × DataW Unit)} {g : Nat} {t : TypeId} {q m : Nat}
    (hg : P.globalNamed name = some g) (hty : (P.globals[g]?).map (·.type) = some t) (ht : FlatAt P t q m) (h : laidMet P ((name, d) :: rest) W) (i : Nat) : W.cell? ⟨g, i, none⟩ = (flatF q d)[i]? := by
  obtain ⟨ps, ⟨g', t', cs, fuel, p, r, hg', ht', hvar, hd, _, _⟩, _⟩ := h
  obtain rfl := Option.some.inj (hg.symm.trans hg')
  obtain rfl := Option.some.inj (hty.symm.trans ht')
  have := World.var?_cell hg hvar i
  rw [this, ← Array.getElem?_toList, (ht _ _ _ _ _ _ _ _ hd).2]
end
end Go.Proofs.YtjikkipdmonndaaDoor

/- Layer 13: what the rows' lists give. -/
namespace Go.Proofs.YtjikkipdmonndaaDoor
open Go.RowKit
theorem laidMet_of_H {l : List (String × DataW Unit)} {W : World} (h : laidMetH Tryd.prog l W) (hp : (l.all fun x => x.2.handleName?.isNone) = true) : laidMet Tryd.prog l W := (Go.MakeChecks.laidMetH_plain _ _ _ hp) ▸ h
theorem sTab_of {W : World} {rest : List (String × DataW Unit)} (h : laidMet Tryd.prog (("ladderback/op.shapes", Rows.laid_ladderback_op_shapes) :: rest) W) : STab W := by
  have d := laid_flat (g := 0) (t := 148) (q := 3) (by kernel_rfl) (by kernel_rfl) (flatAt_array (n := 38) (m := 2) Tryd.underlying148 (flatAt_array (n := 2) (m := 1) Tryd.underlying147 (flatAt_int Tryd.underlying3) (by kernel_rfl) (by kernel_rfl)) (by kernel_rfl) (by kernel_rfl)) h
  have ed : flatF 3 (Rows.laid_ladderback_op_shapes : DataW Unit) = shapesV := by kernel_rfl
  rw [ed] at d
  exact ⟨d, big_of_cell (d 0)⟩
end Go.Proofs.YtjikkipdmonndaaDoor

/- Arguments of nested types, opened. -/
namespace Go.Proofs.YtjikkipdmonndaaDoor
open Go.ChangeShapes Go.WideShapes Go.ChangeAt Go.RowKit Go.Deep
set_option linter.unusedSimpArgs false
set_option linter.unusedVariables false
def Opens {α : Type} (P : Program) (t : TypeId) (q : Nat) (R : Rep α) : Prop := P.cellsOf t = q ∧ ∀ {H : Type} (enc : TypeId × Value → H) (W : World) (sp : Nat → Bool) (held : Bool) (fuel : Nat) (cs : List Value) (x : DataW H × List MemPlace),
  DataW.trod enc P W 0 sp held fuel t cs = some x → ∃ a, R W cs a
set_option maxRecDepth 100000 in
theorem opens_int {P : Program} {t : TypeId} (ht : P.underlying t = some (.int .i64)) (hq : P.cellsOf t = 1) : Opens P t 1 intR := ⟨hq, fun enc W sp held fuel cs x h => by
  obtain ⟨z, rfl, _, hw⟩ := DataW.trod_int ht h
  exact ⟨z, rfl, bounds_i64 hw⟩⟩
set_option maxRecDepth 100000 in
theorem opens_string {P : Program} {t : TypeId} (ht : P.underlying t = some .string) (hq : P.cellsOf t = 1) : Opens P t 1 strR := ⟨hq, fun enc W sp held fuel cs x h => by
  obtain ⟨s, hs, hx, hw⟩ := DataW.trod_string ht h
  refine ⟨s.data.toList, by simpa using hs, ?_⟩
  have e : s.data.toList.length = s.size := by simp
  unfold maxLen at hw
  omega⟩
set_option maxRecDepth 100000 in
theorem choose_list {α : Type} {p : Nat → α → Prop} : ∀ n, (∀ i, i < n → ∃ a, p i a) → ∃ L : List α, L.length = n ∧ ∀ i x, L[i]? = some x → p i x := by
  intro n
  induction n with
  | zero => intro _; exact ⟨[], rfl, fun i x h => by simp at h⟩
  | succ n ih =>
    intro h
    obtain ⟨L, h1, h2⟩ := ih (fun i hi => h i (by omega))
    obtain ⟨a, ha⟩ := h n (by omega)
    refine ⟨L ++ [a], by simp [h1], fun i x hx => ?_⟩
    by_cases hi : i < n
    · rw [List.getElem?_append_left (by omega)] at hx
      exact h2 i x hx
    · have hin : i = n := by
        by_cases he : i = n
        · exact he
        · rw [List.getElem?_eq_none (by simp; omega)] at hx; cases hx
      subst hin
      rw [List.getElem?_append_right (by omega), h1] at hx
      simp at hx
      rw [← hx]
      exact ha
set_option maxRecDepth 100000 in
theorem opens_slice {P : Program} {t e : TypeId} {q : Nat} {α : Type} {R : Rep α} (ht : P.underlying t = some (.slice e)) (hq1 : P.cellsOf t = 1) (hq0 : 0 < q) (he : Opens P e q R) : Opens P t 1 (sliceR q R) := ⟨hq1, fun enc W sp held fuel cs x h => by
  obtain ⟨hq, he⟩ := he
  rcases open_slice ht h with ⟨rfl, hx⟩ | ⟨a, len, cap, m, k, D, Pl, rfl, _, hl, hm, hmm, hx, hi⟩
  · exact ⟨[], _, rfl, Or.inl ⟨_, _, rfl, rfl, fun _ => rfl⟩⟩
  · have hlm : len ≤ m := by rw [hmm]; split <;> omega
    have key : ∀ i, i < len → ∃ y : α, ∃ C : List Value, C.length = q ∧ (∀ j u, C[j]? = some u → W.cell? ((a.add (i * q)).add j) = some u) ∧ R W C y := by
      intro i hin
      obtain ⟨cs', hc, ht'⟩ := hi i (by omega)
      rw [hq] at hc
      obtain ⟨_, hcl, hat⟩ := World.cells?_some hc
      obtain ⟨y, hy⟩ := he enc W sp held k cs' _ ht'
      refine ⟨y, cs', hcl, fun j u hu => ?_, hy⟩
      have hj : j < q := by
        by_cases hj : j < q
        · exact hj
        · rw [List.getElem?_eq_none (by omega)] at hu; cases hu
      rw [hat j hj, hu]
    obtain ⟨L, hL, hLL⟩ := choose_list len key
    refine ⟨L, _, rfl, ?_⟩
    by_cases h0 : len = 0
    · subst h0
      exact Or.inl ⟨_, _, rfl, List.length_eq_zero_iff.1 hL, fun h => by cases h⟩
    obtain ⟨b, off, spot⟩ := a
    obtain ⟨C0, g1, g2, _⟩ := hLL 0 (L[0]'(by omega)) (by simp [show 0 < L.length by omega])
    have hz := g2 0 (C0[0]'(by omega)) (by simp [show 0 < C0.length by omega])
    have hspot : spot = none := by
      have := World.cell?_spot hz
      simpa [Addr.add] using this
    subst hspot
    have hblk := World.block_lt_of_cell? W _ hz
    have adr : ∀ j, (⟨b, off, none⟩ : Addr).add j = ⟨b, off + j, none⟩ := by
      intro j; unfold Addr.add; by_cases hj : j = 0 <;> simp [hj]
    rw [← hL]
    refine Or.inr ⟨b, off, cap, rfl, by omega, by omega, hm, by simpa [add_add, adr] using hblk, fun i x hx => ?_⟩
    obtain ⟨C, g1, g2, g3⟩ := hLL i x hx
    refine ⟨C, g1, fun j u hu => ?_, g3⟩
    have := g2 j u hu
    rw [add_add, adr] at this
    rw [show off + i * q + j = off + (i * q + j) by omega]
    exact this⟩
set_option maxRecDepth 100000 in
/-- the cells of a struct's field -/
theorem opens_field {H : Type} {P : Program} {t : TypeId} {fs : Array Field} {enc : TypeId × Value → H} {W : World} {sp : Nat → Bool} {held : Bool} {fuel : Nat} {cs : List Value} {x : DataW H × List MemPlace} (ht : P.underlying t = some (.struct fs))
    (h : DataW.trod enc P W 0 sp held fuel t cs = some x) (i : Nat) (u : TypeId) (o q : Nat) {α : Type} {R : Rep α} (hf : (fs[i]?.map fun f => (f.type, f.offset)) = some (u, o)) (hu : Opens P u q R) : ∃ a, R W ((cs.drop o).take q) a := by
  obtain ⟨xs, n, rfl, hx, hl, hlen, hall⟩ := DataW.trod_struct ht h
  obtain ⟨f, hf0, hf1⟩ := Option.map_eq_some_iff.1 hf
  have h1 := hall i f hf0
  have ht : f.type = u := congrArg Prod.fst hf1
  have ho : f.offset = o := congrArg Prod.snd hf1
  rw [ht, ho, hu.1] at h1
  have hi : i < fs.size := by
    by_cases hi : i < fs.size
    · exact hi
    · rw [Array.getElem?_eq_none (by omega)] at hf0; cases hf0
  obtain ⟨b, hb⟩ : ∃ b, xs[i]? = some b := ⟨xs[i]'(by omega), by simp [hlen, hi]⟩
  rw [hb] at h1
  exact hu.2 enc W sp held n _ _ h1
set_option maxRecDepth 100000 in
theorem opens_ins : Opens Tryd.prog 92 3 insR := ⟨by kernel_rfl, fun enc W sp held fuel cs x h => by
  have hu : Tryd.prog.underlying 92 = some (.struct (Tryd.prog.fieldsOf 92)) := by kernel_rfl
  have hi := opens_int (P := Tryd.prog) Tryd.underlying3 (by kernel_rfl)
  have hl : cs.length = 3 := by
    obtain ⟨xs, n, _, _, hl, _, _⟩ := DataW.trod_struct hu h
    exact hl.trans (by kernel_rfl)
  obtain ⟨o, h0, w0⟩ := opens_field hu h 0 3 0 1 (by kernel_rfl) hi
  obtain ⟨a, h1, w1⟩ := opens_field hu h 1 3 1 1 (by kernel_rfl) hi
  obtain ⟨b, h2, w2⟩ := opens_field hu h 2 3 2 1 (by kernel_rfl) hi
  refine ⟨(o, a, b), ?_, w0, w1, w2⟩
  match cs, hl with
  | [x, y, z], _ =>
    simp at h0 h1 h2
    rw [h0, h1, h2]⟩
set_option maxRecDepth 100000 in
theorem open_code {H : Type} {enc : TypeId × Value → H} {W : World} {r : Reach} {b0 : Nat} {v : Value} {d : DataW H} {ps : List MemPlace} {sp : Nat → Bool} {held : Bool}
    (hval : Value.okWide Tryd.prog W r b0 46 v) (h : DataW.Trod enc Tryd.prog W 0 sp held 46 v d ps) : ∃ L, RowR 3 insR W v L := by
  obtain ⟨a0, len, cap, rfl⟩ := okWide_slice Tryd.underlying46 hval
  obtain ⟨fuel, hf⟩ := h
  obtain ⟨L, v', hv, hr⟩ := (opens_slice Tryd.underlying46 (by kernel_rfl) (by omega) opens_ins).2 enc W sp held fuel _ _ hf
  simp [Value.cells] at hv
  subst hv
  exact ⟨L, hr⟩
end Go.Proofs.YtjikkipdmonndaaDoor

/- An argument of type api.Unit, opened. -/
namespace Go.Proofs.YtjikkipdmonndaaDoor
open Go.ChangeShapes Go.WideShapes Go.ChangeAt Go.RowKit
set_option maxRecDepth 100000 in
theorem opens_unit : Opens Tryd.prog 48 5 unitR := ⟨by kernel_rfl, fun enc W sp held fuel cs x h => by
  have hu : Tryd.prog.underlying 48 = some (.struct (Tryd.prog.fieldsOf 48)) := by kernel_rfl
  have hi := opens_int (P := Tryd.prog) Tryd.underlying3 (by kernel_rfl)
  have hs := opens_string (P := Tryd.prog) Tryd.underlying9 (by kernel_rfl)
  have hn := opens_slice (P := Tryd.prog) Tryd.underlying45 (by kernel_rfl) (by omega) hi
  have hc := opens_slice (P := Tryd.prog) Tryd.underlying46 (by kernel_rfl) (by omega) opens_ins
  have hl : cs.length = 5 := by
    obtain ⟨xs, n, _, _, hl, _, _⟩ := DataW.trod_struct hu h
    exact hl.trans (by kernel_rfl)
  obtain ⟨o, h0, w0⟩ := opens_field hu h 0 9 0 1 (by kernel_rfl) hs
  obtain ⟨a, v1, h1, w1⟩ := opens_field hu h 1 45 1 1 (by kernel_rfl) hn
  obtain ⟨b, h2, w2⟩ := opens_field hu h 2 3 2 1 (by kernel_rfl) hi
  obtain ⟨c, v3, h3, w3⟩ := opens_field hu h 3 45 3 1 (by kernel_rfl) hn
  obtain ⟨d, v4, h4, w4⟩ := opens_field hu h 4 46 4 1 (by kernel_rfl) hc
  refine ⟨⟨o, a, b, c, d⟩, v1, v3, v4, ?_, w1, w3, w4, w0, w2⟩
  match cs, hl with
  | [x, y, z, t, u], _ =>
    simp at h0 h1 h2 h3 h4
    rw [h0, h1, h2, h3, h4]⟩
set_option maxRecDepth 100000 in
theorem open_unit {H : Type} {enc : TypeId × Value → H} {W : World} {r : Reach} {b0 : Nat} {v : Value} {d : DataW H} {ps : List MemPlace} {sp : Nat → Bool} {held : Bool}
    (hval : Value.okWide Tryd.prog W r b0 48 v) (h : DataW.Trod enc Tryd.prog W 0 sp held 48 v d ps) :
    ∃ (a b c : Value) (x : Un), v = .agg #[.string ⟨x.name.toArray⟩, a, .int .i64 x.result, b, c] ∧ UnAt W a b c x := by
  have hu : Tryd.prog.underlying 48 = some (.struct (Tryd.prog.fieldsOf 48)) := by kernel_rfl
  obtain ⟨cs, rfl, hsz⟩ := okWide_struct hu hval
  obtain ⟨fuel, hf⟩ := h
  obtain ⟨x, a, b, c, h0, h1⟩ := opens_unit.2 enc W sp held fuel _ _ hf
  obtain ⟨l⟩ := cs
  simp only [Value.cells] at h0
  subst h0
  exact ⟨a, b, c, x, rfl, h1⟩
end Go.Proofs.YtjikkipdmonndaaDoor

/- An argument of type api.Prog, opened. -/
namespace Go.Proofs.YtjikkipdmonndaaDoor
open Go.ChangeShapes Go.WideShapes Go.ChangeAt Go.RowKit
set_option maxRecDepth 100000 in
theorem opens_const : Opens Tryd.prog 61 2 constR := ⟨by kernel_rfl, fun enc W sp held fuel cs x h => by
  have hu : Tryd.prog.underlying 61 = some (.struct (Tryd.prog.fieldsOf 61)) := by kernel_rfl
  have hi := opens_int (P := Tryd.prog) Tryd.underlying3 (by kernel_rfl)
  have hl : cs.length = 2 := by
    obtain ⟨xs, n, _, _, hl, _, _⟩ := DataW.trod_struct hu h
    exact hl.trans (by kernel_rfl)
  obtain ⟨o, h0, w0⟩ := opens_field hu h 0 3 0 1 (by kernel_rfl) hi
  obtain ⟨a, h1, w1⟩ := opens_field hu h 1 3 1 1 (by kernel_rfl) hi
  refine ⟨(o, a), ?_, w0, w1⟩
  match cs, hl with
  | [x, y], _ =>
    simp at h0 h1
    rw [h0, h1]⟩
set_option maxRecDepth 100000 in
theorem opens_blk : Opens Tryd.prog 43 2 blkR := ⟨by kernel_rfl, fun enc W sp held fuel cs x h => by
  have hu : Tryd.prog.underlying 43 = some (.struct (Tryd.prog.fieldsOf 43)) := by kernel_rfl
  have hi := opens_int (P := Tryd.prog) Tryd.underlying3 (by kernel_rfl)
  have hs := opens_string (P := Tryd.prog) Tryd.underlying9 (by kernel_rfl)
  have hl : cs.length = 2 := by
    obtain ⟨xs, n, _, _, hl, _, _⟩ := DataW.trod_struct hu h
    exact hl.trans (by kernel_rfl)
  obtain ⟨o, h0, w0⟩ := opens_field hu h 0 9 0 1 (by kernel_rfl) hs
  obtain ⟨a, h1, w1⟩ := opens_field hu h 1 3 1 1 (by kernel_rfl) hi
  refine ⟨⟨o, a⟩, ?_, w0, w1⟩
  match cs, hl with
  | [x, y], _ =>
    simp at h0 h1
    rw [h0, h1]⟩
set_option maxRecDepth 100000 in
theorem opens_var : Opens Tryd.prog 41 5 varR := ⟨by kernel_rfl, fun enc W sp held fuel cs x h => by
  have hu : Tryd.prog.underlying 41 = some (.struct (Tryd.prog.fieldsOf 41)) := by kernel_rfl
  have hi := opens_int (P := Tryd.prog) Tryd.underlying3 (by kernel_rfl)
  have hs := opens_string (P := Tryd.prog) Tryd.underlying9 (by kernel_rfl)
  have hl : cs.length = 5 := by
    obtain ⟨xs, n, _, _, hl, _, _⟩ := DataW.trod_struct hu h
    exact hl.trans (by kernel_rfl)
  obtain ⟨o, h0, w0⟩ := opens_field hu h 0 9 0 1 (by kernel_rfl) hs
  obtain ⟨a, h1, w1⟩ := opens_field hu h 1 3 1 1 (by kernel_rfl) hi
  obtain ⟨b, h2, w2⟩ := opens_field hu h 2 3 2 1 (by kernel_rfl) hi
  obtain ⟨c, h3, w3⟩ := opens_field hu h 3 3 3 1 (by kernel_rfl) hi
  obtain ⟨d, h4, w4⟩ := opens_field hu h 4 3 4 1 (by kernel_rfl) hi
  refine ⟨⟨o, a, b, c, d⟩, ?_, w0, w1, w2, w3, w4⟩
  match cs, hl with
  | [x, y, z, t, u], _ =>
    simp at h0 h1 h2 h3 h4
    rw [h0, h1, h2, h3, h4]⟩
set_option maxRecDepth 100000 in
theorem open_prog {H : Type} {enc : TypeId × Value → H} {W : World} {r : Reach} {b0 : Nat} {v : Value} {d : DataW H} {ps : List MemPlace} {sp : Nat → Bool} {held : Bool}
    (hval : Value.okWide Tryd.prog W r b0 27 v) (h : DataW.Trod enc Tryd.prog W 0 sp held 27 v d ps) :
    ∃ (a b c e : Value) (p : Pr), v = .agg #[a, b, c, e] ∧ PrAt W a b c e p := by
  have hu : Tryd.prog.underlying 27 = some (.struct (Tryd.prog.fieldsOf 27)) := by kernel_rfl
  have hA := opens_slice (P := Tryd.prog) Tryd.underlying22 (by kernel_rfl) (by omega) opens_const
  have hB := opens_slice (P := Tryd.prog) Tryd.underlying23 (by kernel_rfl) (by omega) opens_var
  have hC := opens_slice (P := Tryd.prog) Tryd.underlying24 (by kernel_rfl) (by omega) opens_blk
  have hE := opens_slice (P := Tryd.prog) Tryd.underlying25 (by kernel_rfl) (by omega) opens_unit
  obtain ⟨cs, rfl, hsz⟩ := okWide_struct hu hval
  have hl : cs.toList.length = 4 := by
    have : Tryd.prog.cellsOf 27 = 4 := by kernel_rfl
    rw [this] at hsz; simpa using hsz
  obtain ⟨fuel, hf⟩ := h
  obtain ⟨A0, h0⟩ := opens_field hu hf 0 22 0 1 (by kernel_rfl) hA
  obtain ⟨A1, h1⟩ := opens_field hu hf 1 23 1 1 (by kernel_rfl) hB
  obtain ⟨A2, h2⟩ := opens_field hu hf 2 24 2 1 (by kernel_rfl) hC
  obtain ⟨A3, h3⟩ := opens_field hu hf 3 25 3 1 (by kernel_rfl) hE
  obtain ⟨l⟩ := cs
  simp only [Value.cells] at h0 h1 h2 h3 hl
  match l, hl with
  | [x, y, z, t], _ =>
    simp at h0 h1 h2 h3
    obtain ⟨v0, e0, r0⟩ := h0
    obtain ⟨v1, e1, r1⟩ := h1
    obtain ⟨v2, e2, r2⟩ := h2
    obtain ⟨v3, e3, r3⟩ := h3
    simp at e0 e1 e2 e3
    subst e0 e1 e2 e3
    exact ⟨_, _, _, _, ⟨A0, A1, A2, A3⟩, rfl, r0, r1, r2, r3⟩
end Go.Proofs.YtjikkipdmonndaaDoor
