/- Merged texts: BoxSec, UnPutR, BoxUnits, BoxEnc, TabRef, RefCsts, RdMore, TabGet, TabGetB, RefTab. -/
import Derived.Test.YtjikkipdmonndaaDoorMg5
import Derived.Test.YtjikkipdmonndaaDoorMg0
import Derived.Test.YtjikkipdmonndaaDoorMg1
import Derived.LoopTactic
import Derived.Deep.QuietTactic
import Derived.Test.YtjikkipdmonndaaDoorMg3
/- Layer 16: a section's bytes, by both. -/
namespace Go.Proofs.YtjikkipdmonndaaDoor
open Go.RowKit
set_option linter.unusedSimpArgs false
set_option linter.unusedVariables false
theorem bytes_at {w : World} {B : Nat} {e : TypeId} {r : Value} {n : Nat} {l : List UInt8} (h : w.ownsRow B e 1 r n (bytesV l)) : RowAt w r l.length (byteV l) := by
  have hn : l.length = n := by have := h.1; simpa [bytesV] using this
  subst hn
  exact RowAt.owns h (fun i hi => byteV_at hi)
theorem own_bytes {w : World} {B : Nat} {e : TypeId} {r : Value} {n : Nat} {l m : List UInt8} (h : w.ownsRow B e 1 r n (bytesV l)) (e2 : l = m) : w.ownsRow B e 1 r m.length (bytesV m) := by
  have hn : n = l.length := by have := h.1; simpa [bytesV] using this.symm
  subst e2; subst hn; exact h
theorem box_form {w : World} {v : Value} {n : Nat} {f : Nat → Value} (h : RowAt w v n f) : ∃ a c, v = .slice a n c := by
  rcases h with ⟨a, cap, rfl, h0, _⟩ | ⟨b, off, cap, rfl, _⟩
  · exact ⟨a, cap, by rw [h0]⟩
  · exact ⟨_, cap, rfl⟩
theorem near1 : (near8 1).toNat = 1 := by decide
theorem near4 : (near8 4).toNat = 4 := by decide
theorem putL1 (z : Int) : putL 1 z = [byteO z] := by simp [putL, byteAt, byteO]
set_option maxHeartbeats 2000000 in
theorem box_section (v u : Value) (l m : List UInt8) (k : Int) (w : World) (hv : RowAt w v l.length (byteV l)) (hu : RowAt w u m.length (byteV m)) (hl : l.length ≤ 10000000) (hm : m.length ≤ 10000000) :
    Calls Tryd.prog 21 #[v, .int .i64 k, u] w fun e w' => ∃ r, e = .returned r ∧ w'.ownsRow w.heap.size 5 1 r (l ++ secL k m).length (bytesV (l ++ secL k m)) ∧ Below w.heap.size w w' := by
  obtain ⟨i, hi, hz, hsize, hby⟩ : ∃ i, Tryd.prog.info? 5 = some i ∧ i.zero = some (.int .u8 0) ∧ i.size = 1 ∧ i.bytes = 1 := ⟨(Tryd.prog.info? 5).get!, by kernel_rfl, by kernel_rfl, by kernel_rfl, by kernel_rfl⟩
  have Hu := Lib.hid (fun W (hb : Below w.heap.size w W) => hu.below hb)
  have H1 := Lib.hid (fun W (hb : Below w.heap.size w W) => octet_Put v l 1 k W (hv.below hb) (by omega))
  have HS := Lib.hid (show l ++ secL k m = (l ++ putL 1 k ++ putL 4 m.length) ++ m by unfold secL; rw [putL1]; simp)
  rw [near1] at H1
  obtain ⟨N, hN⟩ : ∃ N, m.length = N := ⟨_, rfl⟩
  obtain ⟨M, hM⟩ : ∃ M, l.length = M := ⟨_, rfl⟩
  obtain ⟨au, cu, rfl⟩ : ∃ a c, u = .slice a m.length c := by
    rcases hu with ⟨a, cap, rfl, h0, _⟩ | ⟨b, off, cap, rfl, _⟩
    · exact ⟨a, cap, by rw [h0]⟩
    · exact ⟨_, cap, rfl⟩
  have HN := Lib.hid hN
  have HM := Lib.hid hM
  rw [hN] at hm HS Hu ⊢
  rw [hM] at hl H1
  clear hN hM hv hu
  go_enter Tryd.func21, Tryd.ntmps21
  go_wp2_with fail
  refine (H1.out _ (Below.refl _ _)).mono ?_; rintro e w1 ⟨r1, rfl, hO1, hb1⟩
  go_wp2_with fail
  refine (octet_Put r1 (l ++ putL 1 k) 4 (N : Int) w1 (bytes_at hO1) (by rw [List.length_append, putL_len, HM.out]; omega)).mono ?_; rintro e w2 ⟨r2, rfl, hO2, hb2⟩
  rw [near4, List.length_append, putL_len, HM.out] at hO2
  have hb2' := hb1.trans (hb2.mono hb1.size)
  have hO2 := Lib.hid (own_low hO2 hb1.size)
  obtain ⟨ar2, cr2, rfl⟩ := owns_form hO2.out
  clear hO1 hb1 hb2
  go_wp2_with (first | (at_builtin; go_loud (refine wpList_append_row1 rfl (.tmp 13) (.tmp 14) 30 rfl w.heap.size 5 i (.int .u8 0) 1 Tryd.underlying30 hi hz hsize hby rfl _ (M + 1 + 4) _ rfl hO2.out _ N (byteV m) rfl (Hu.out _ hb2') (fun _ _ => rfl) (by unfold maxLen; omega) (by omega) hb2'.size ?_; intro v3 w3 hO3 hG3; have hB3 := Lib.hid (grown3 hb2' hb2'.size hO2.out hG3); have HO3 := Lib.hid hO3; clear hO3 hG3)) | fail)
  go_returns
  refine ⟨_, rfl, ?_, hB3.out⟩
  have h3 := HO3.out
  have e : (List.range N).map (byteV m) = bytesV m := by rw [← HN.out]; exact map_byteV m
  rw [e, ← bytesV_app] at h3
  rw [HS.out]
  exact own_bytes h3 rfl
set_option maxHeartbeats 2000000 in
theorem ref16_section (v u : Value) (l m : List UInt8) (k : Int) (w : World) (hv : RowAt w v l.length (byteV l)) (hu : RowAt w u m.length (byteV m)) (hl : l.length ≤ 10000000) (hm : m.length ≤ 10000000) :
    Calls Tryd.prog 29 #[v, .int .i64 k, u] w fun e w' => ∃ r, e = .returned r ∧ w'.ownsRow w.heap.size 5 1 r (l ++ secL k m).length (bytesV (l ++ secL k m)) ∧ Below w.heap.size w w' := by
  obtain ⟨i, hi, hz, hsize, hby⟩ : ∃ i, Tryd.prog.info? 5 = some i ∧ i.zero = some (.int .u8 0) ∧ i.size = 1 ∧ i.bytes = 1 := ⟨(Tryd.prog.info? 5).get!, by kernel_rfl, by kernel_rfl, by kernel_rfl, by kernel_rfl⟩
  have Hu := Lib.hid (fun W (hb : Below w.heap.size w W) => hu.below hb)
  have H1 := Lib.hid (fun W (hb : Below w.heap.size w W) => ref03_Put v l 1 k W (hv.below hb) (by omega))
  have HS := Lib.hid (show l ++ secL k m = (l ++ putL 1 k ++ putL 4 m.length) ++ m by unfold secL; rw [putL1]; simp)
  rw [near1] at H1
  obtain ⟨N, hN⟩ : ∃ N, m.length = N := ⟨_, rfl⟩
  obtain ⟨M, hM⟩ : ∃ M, l.length = M := ⟨_, rfl⟩
  obtain ⟨au, cu, rfl⟩ : ∃ a c, u = .slice a m.length c := by
    rcases hu with ⟨a, cap, rfl, h0, _⟩ | ⟨b, off, cap, rfl, _⟩
    · exact ⟨a, cap, by rw [h0]⟩
    · exact ⟨_, cap, rfl⟩
  have HN := Lib.hid hN
  have HM := Lib.hid hM
  rw [hN] at hm HS Hu ⊢
  rw [hM] at hl H1
  clear hN hM hv hu
  go_enter Tryd.func29, Tryd.ntmps29
  go_wp2_with fail
  refine (H1.out _ (Below.refl _ _)).mono ?_; rintro e w1 ⟨r1, rfl, hO1, hb1⟩
  go_wp2_with fail
  refine (ref03_Put r1 (l ++ putL 1 k) 4 (N : Int) w1 (bytes_at hO1) (by rw [List.length_append, putL_len, HM.out]; omega)).mono ?_; rintro e w2 ⟨r2, rfl, hO2, hb2⟩
  rw [near4, List.length_append, putL_len, HM.out] at hO2
  have hb2' := hb1.trans (hb2.mono hb1.size)
  have hO2 := Lib.hid (own_low hO2 hb1.size)
  obtain ⟨ar2, cr2, rfl⟩ := owns_form hO2.out
  clear hO1 hb1 hb2
  go_wp2_with (first | (at_builtin; go_loud (refine wpList_append_row1 rfl (.tmp 13) (.tmp 14) 30 rfl w.heap.size 5 i (.int .u8 0) 1 Tryd.underlying30 hi hz hsize hby rfl _ (M + 1 + 4) _ rfl hO2.out _ N (byteV m) rfl (Hu.out _ hb2') (fun _ _ => rfl) (by unfold maxLen; omega) (by omega) hb2'.size ?_; intro v3 w3 hO3 hG3; have hB3 := Lib.hid (grown3 hb2' hb2'.size hO2.out hG3); have HO3 := Lib.hid hO3; clear hO3 hG3)) | fail)
  go_returns
  refine ⟨_, rfl, ?_, hB3.out⟩
  have h3 := HO3.out
  have e : (List.range N).map (byteV m) = bytesV m := by rw [← HN.out]; exact map_byteV m
  rw [e, ← bytesV_app] at h3
  rw [HS.out]
  exact own_bytes h3 rfl
end Go.Proofs.YtjikkipdmonndaaDoor

/- Layer 15: a unit's bytes, by the answer. -/
namespace Go.Proofs.YtjikkipdmonndaaDoor
open Go.RowKit
set_option linter.unusedSimpArgs false
set_option linter.unusedVariables false
set_option maxHeartbeats 8000000 in
theorem ref15_Put (a b c : Value) (x : Un) (w : World) (h : UnAt w a b c x) (hl : x.params.length ≤ 1000 ∧ x.locals.length ≤ 4000 ∧ x.code.length ≤ 1000) :
    Calls Tryd.prog 27 #[.agg #[.string ⟨x.name.toArray⟩, a, .int .i64 x.result, b, c]] w fun e w' => ∃ r, e = .returned (.tuple #[r, .bool (fitU x)]) ∧ RowAt w' r (putO x).length (byteV (putO x)) ∧ Below w.heap.size w w' := by
  obtain ⟨i, hi, hz, hsize, hby⟩ : ∃ i, Tryd.prog.info? 5 = some i ∧ i.zero = some (.int .u8 0) ∧ i.size = 1 ∧ i.bytes = 1 := ⟨(Tryd.prog.info? 5).get!, by kernel_rfl, by kernel_rfl, by kernel_rfl, by kernel_rfl⟩
  have HF := Lib.hid (fun W (hb : Below w.heap.size w W) => ref15_Fits a b c x W (h.below hb))
  have HR1 := Lib.hid (fun W (hb : Below w.heap.size w W) => h.ps.below intR_stable hb)
  have HR2 := Lib.hid (fun W (hb : Below w.heap.size w W) => h.ls.below intR_stable hb)
  have HE := Lib.hid (fun W (hb : Below w.heap.size w W) => ref13_Encode c x.code W (h.cs.below insR_stable hb) hl.2.2)
  obtain ⟨sa, ca, ea⟩ := row_get h.ps
  obtain ⟨sb, cb, eb⟩ := row_get h.ls
  obtain ⟨sc, cc, ec⟩ := row_get h.cs
  subst ea eb ec
  clear h
  cases hf : fitU x
  · rw [hf] at HF
    have hs := Lib.hid (putO_no hf)
    generalize (⟨x.name.toArray⟩ : ByteArray) = nm at *
    generalize x.params.length = n1 at *
    generalize x.locals.length = n2 at *
    generalize x.code.length = n3 at *
    generalize x.result = rs at *
    have hB0 : Below w.heap.size w (w.alloc (.cells #[.string nm, .slice sa n1 ca, .int .i64 rs, .slice sb n2 cb, .slice sc n3 cc] 48)) := (Below.refl _ _).alloc (Nat.le_refl _) _
    clear hf
    go_enter Tryd.func27, Tryd.ntmps27
    go_wp2_with fail
    refine (HF.out _ hB0).mono ?_; rintro e w1 ⟨rfl, hb1⟩
    have hB1 := hB0.trans (hb1.mono hB0.size)
    go_wp2_with fail
    go_returns
    exact ⟨_, rfl, by rw [hs.out]; exact row_nil_at _, hB1⟩
  rw [hf] at HF
  obtain ⟨hlen, hp, hq, hr, hc⟩ := fitU_is hf
  have hnm : (⟨x.name.toArray⟩ : ByteArray).size = x.name.length := by simp [ByteArray.size]
  have htn := text_nil ⟨x.name.toArray⟩ (by rw [hnm]; exact hlen.1)
  rw [hnm] at htn
  have hcut : (cut255 ⟨x.name.toArray⟩).size = x.name.length := by unfold cut255; rw [if_neg (by rw [hnm]; have := hlen.1; omega)]; exact hnm
  have HT := Lib.hid (fun W : World => (ref03_Text (.slice none 0 0) [] ⟨x.name.toArray⟩ W (row_nil_at W) (by simp)).mono (R' := fun e w' => ∃ r, e = .returned r ∧ w'.ownsRow W.heap.size 5 1 r (1 + x.name.length) (bytesV (UInt8.ofNat x.name.length :: x.name)) ∧ Below W.heap.size W w') (by rintro e w' ⟨r, h1, h2, h3⟩; rw [htn, hcut] at h2; exact ⟨r, h1, by simpa using h2, h3⟩))
  have HPO := Lib.hid (putO_yes hf)
  have HPU := Lib.hid (show putU x = (((((UInt8.ofNat x.name.length :: x.name) ++ [byteO x.params.length] ++ x.params.map byteO ++ [byteO x.result]) ++ putL 2 x.locals.length) ++ x.locals.map byteO) ++ putL 2 x.code.length) ++ encO x.code from rfl)
  rw [hc] at HE
  have hEl : (encO x.code).length ≤ 5000 := by rw [encO_yes hc, enc_len]; omega
  have hTl : (UInt8.ofNat x.name.length :: x.name).length = 1 + x.name.length := by simp; omega
  have hn0 : x.name.length ≤ 255 := hlen.1
  have hM1 : (x.params.map byteO).length = x.params.length := by simp
  have hM2 : (x.locals.map byteO).length = x.locals.length := by simp
  have hp2 : ∀ z : Int, (putL 2 z).length = 2 := fun z => putL_len 2 z
  have hn8 : (near8 2).toNat = 2 := by decide
  clear hf hlen hp hq hr hc hnm htn hcut
  generalize encO x.code = EC at *
  generalize (UInt8.ofNat x.name.length :: x.name) = T at *
  have HPL := Lib.hid (show x.params.length = x.params.length from rfl)
  have HMM1 : Hid (∀ k y, x.params[k]? = some y → (x.params.map byteO).take (k + 1) = (x.params.map byteO).take k ++ [byteO y]) := Lib.hid (fun k y hy => take_snoc (by simp [hy]))
  have HMM2 : Hid (∀ k y, x.locals[k]? = some y → (x.locals.map byteO).take (k + 1) = (x.locals.map byteO).take k ++ [byteO y]) := Lib.hid (fun k y hy => take_snoc (by simp [hy]))
  generalize x.params.map byteO = M1 at *
  generalize x.locals.map byteO = M2 at *
  generalize (⟨x.name.toArray⟩ : ByteArray) = nm at *
  generalize x.name.length = n0 at *
  generalize hP : x.params = P at *
  generalize hQ : x.locals = Q at *
  generalize hn1 : P.length = n1 at *
  generalize hn2 : Q.length = n2 at *
  generalize x.code.length = n3 at *
  generalize x.result = rs at *
  have HNP := Lib.hid hn1
  have HNQ := Lib.hid hn2
  clear hP hQ hn1 hn2
  obtain ⟨W0, hW0⟩ : ∃ W0, W0 = w.alloc (.cells #[.string nm, .slice sa n1 ca, .int .i64 rs, .slice sb n2 cb, .slice sc n3 cc] 48) := ⟨_, rfl⟩
  have hB0 : Below w.heap.size w W0 := by rw [hW0]; exact (Below.refl _ _).alloc (Nat.le_refl _) _
  have K0 := Lib.hid (show Boxed W0 w.heap.size [.string nm, .slice sa n1 ca, .int .i64 rs, .slice sb n2 cb, .slice sc n3 cc] by rw [hW0]; exact Boxed.new w _ _ (Below.refl _ _))
  have hz0 : w.heap.size < W0.heap.size := by rw [hW0]; simp
  have HW0 := Lib.hid hW0
  have HL := Lib.hid hl
  clear hW0 hl
  go_enter Tryd.func27, Tryd.ntmps27
  go_wp2_with fail
  refine (HF.out _ (by rw [← HW0.out]; exact hB0)).mono ?_; rintro e W1 ⟨rfl, hb1⟩
  rw [← HW0.out] at hb1
  have hB1 := hB0.trans (hb1.mono hB0.size)
  have hz1 : w.heap.size < W1.heap.size := Nat.lt_of_lt_of_le hz0 hb1.size
  have K := Lib.hid (K0.out.keep hz0 hb1)
  clear HW0 K0 HF hb1 hB0 hz0
  clear W0
  obtain ⟨l1, l2, l3⟩ := HL.out
  have hNE : (1 + n0 + 1 : Nat) ≤ 300 := by omega
  have e0 := K.out 0 _ rfl
  go_wp2_with fail
  refine (HT.out _).mono ?_; rintro e w2 ⟨r2, rfl, hr2, hH2⟩
  have HO2 := Lib.hid hr2
  have c1 := (K.out.keep hz1 hH2) 1 _ rfl
  clear hr2 HT e0
  go_wp2_with (first | (at_builtin; go_loud (refine wpList_append_src rfl (.tmp 15) (.tmp 20) 30 rfl W1.heap.size 5 i (.int .u8 0) 1 1 Tryd.underlying30 hi hz hsize hby rfl (by omega) _ (1 + n0) _ rfl (owns_below HO2.out ((Below.refl _ _).alloc (Nat.le_refl _) _)) _ 1 [.int .u8 ((n1 : Int) % 256)] rfl (src_new _ _ _) rfl (by intro u hu; simp at hu; rw [hu]; rfl) (by unfold maxLen; omega) (by omega) (by simp; have := hH2.size; omega) ?_; intro v3 w3 hO3 hG3; have hH3 := grown3 (hH2.alloc hH2.size _) (by simp; have := hH2.size; omega) (owns_below HO2.out ((Below.refl _ _).alloc (Nat.le_refl _) _)) hG3; have HO3 := Lib.hid hO3; clear hO3 hG3 c1)) | fail)
  obtain ⟨E1, hE1⟩ : ∃ E1, E1 = T ++ [byteO n1] := ⟨_, rfl⟩
  have hE1n : E1.length = 1 + n0 + 1 := by rw [hE1]; simp only [List.length_append, List.length_cons, List.length_nil, hTl]
  have HO3 := Lib.hid (show w3.ownsRow W1.heap.size 5 1 v3 E1.length (bytesV E1) by rw [hE1n, hE1, ← bytesV_byteO]; exact HO3.out)
  rw [← hE1] at HPU
  clear hE1
  have HHH := Lib.hid hH3
  clear hH2 hH3
  go_loopw [4, 5] (fun o j wr => ∃ k : Nat, k ≤ n1 ∧ j = .int .i64 k ∧ Hid (wr.ownsRow W1.heap.size 5 1 o (E1.length + k) (bytesV (E1 ++ M1.take k))) ∧ Hid (Below W1.heap.size W1 wr)) (fun _ j _ => n1 - (intOf j).toNat)
  case atStart => exact ⟨0, by omega, rfl, Lib.hid (by simpa using HO3.out), HHH⟩
  case round =>
    clear HO3 HHH
    obtain ⟨k, hk, rfl, hO, hHw⟩ := hrel
    have hH := hHw.out
    have c1 := (K.out.keep hz1 hH) 1 _ rfl
    by_cases hlt : k < n1
    · obtain ⟨y, hy⟩ : ∃ y, P[k]? = some y := get_some (by have := HNP.out; omega)
      have hBw := hB1.trans (hH.mono hB1.size)
      have hrow := HR1.out _ hBw
      obtain ⟨bb, off, rfl, hbw, hc⟩ := ints_at hrow (k := k) (lt_of_get hy)
      obtain ⟨d0, _⟩ := hc k y hy
      have hts := Lib.hid (HMM1.out k y hy)
      have HOk := hO
      clear hc hy hrow hBw
      go_wp2_with (first | (at_builtin; go_loud (refine wpList_append_src rfl (.tmp 29) (.tmp 36) 30 rfl W1.heap.size 5 i (.int .u8 0) 1 1 Tryd.underlying30 hi hz hsize hby rfl (by omega) _ (E1.length + k) _ rfl (owns_below HOk.out ((Below.refl _ _).alloc (Nat.le_refl _) _)) _ 1 [.int .u8 (y % 256)] rfl (src_new _ _ _) rfl (by intro u hu; simp at hu; rw [hu]; rfl) (by unfold maxLen; omega) (by omega) (by simp; have := hH.size; omega) ?_; intro v4 w4 hO4 hG4; have hH4 := grown3 (hH.alloc hH.size _) (by simp; have := hH.size; omega) (owns_below HOk.out ((Below.refl _ _).alloc (Nat.le_refl _) _)) hG4; have HO4 := Lib.hid hO4; clear hO4 hG4)) | fail)
      go_roundw
      case rel => exact ⟨k + 1, by omega, by simp, Lib.hid (own_eq2 HO4.out (by omega) (by rw [hts.out, ← List.append_assoc, ← bytesV_byteO])), Lib.hid hH4⟩
      case measure => first | (simp [intOf]; done) | (simp [intOf]; omega)
    · obtain rfl : k = n1 := by omega
      have c2 := (K.out.keep hz1 hH) 2 _ rfl
      have HO4 := Lib.hid (own_eq2 hO.out rfl (show bytesV (E1 ++ M1.take k) = bytesV (E1 ++ M1) by rw [List.take_of_length_le (by omega)]))
      clear hO hHw HR1 HMM1
      go_wp2_with (first | (at_builtin; go_loud (refine wpList_append_src rfl (.tmp 38) (.tmp 42) 30 rfl W1.heap.size 5 i (.int .u8 0) 1 1 Tryd.underlying30 hi hz hsize hby rfl (by omega) _ (E1.length + k) _ rfl (owns_below HO4.out ((Below.refl _ _).alloc (Nat.le_refl _) _)) _ 1 [.int .u8 (rs % 256)] rfl (src_new _ _ _) rfl (by intro u hu; simp at hu; rw [hu]; rfl) (by unfold maxLen; omega) (by omega) (by simp; have := hH.size; omega) ?_; intro v5 w5 hO5 hG5; have hH5 := grown3 (hH.alloc hH.size _) (by simp; have := hH.size; omega) (owns_below HO4.out ((Below.refl _ _).alloc (Nat.le_refl _) _)) hG5; have HO5 := Lib.hid hO5; clear hO5 hG5 c1 c2; have c3 := (K.out.keep hz1 hH5) 3 _ rfl)) | fail)
      obtain ⟨E2, hE2⟩ : ∃ E2, E2 = E1 ++ M1 ++ [byteO rs] := ⟨_, rfl⟩
      have hE2n : E2.length = E1.length + k + 1 := by rw [hE2]; simp only [List.length_append, List.length_cons, List.length_nil, hM1]
      have HO5 := Lib.hid (show w5.ownsRow W1.heap.size 5 1 v5 E2.length (bytesV E2) by rw [hE2n, hE2, ← bytesV_byteO]; exact HO5.out)
      rw [← hE2] at HPU
      have hE2b : E2.length ≤ 20000 := by omega
      have HRow5 := Lib.hid (owns_bytes HO5.out rfl)
      clear hE2 hE2n HO4 HO5 hlt
      refine (ref03_Put v5 E2 2 n2 w5 HRow5.out (by omega)).mono ?_; rintro e w6 ⟨r6, rfl, hr6, hb6⟩
      rw [hn8] at hr6
      have hH6 := hH5.trans (hb6.mono hH5.size)
      obtain ⟨E3, hE3⟩ : ∃ E3, E3 = E2 ++ putL 2 n2 := ⟨_, rfl⟩
      have hE3n : E3.length = E2.length + 2 := by rw [hE3]; simp only [List.length_append, hp2]
      have HO6 := Lib.hid (show w6.ownsRow W1.heap.size 5 1 r6 E3.length (bytesV E3) by rw [hE3n, hE3]; exact own_low hr6 hH5.size)
      rw [← hE3] at HPU
      have HHH := Lib.hid hH6
      clear hr6 hb6 hE3 hH6 hH5 HRow5 c3 hH
      go_wp2_with fail
      go_loopw [4, 6] (fun o j wr => ∃ q : Nat, q ≤ n2 ∧ j = .int .i64 q ∧ Hid (wr.ownsRow W1.heap.size 5 1 o (E3.length + q) (bytesV (E3 ++ M2.take q))) ∧ Hid (Below W1.heap.size W1 wr)) (fun _ j _ => n2 - (intOf j).toNat)
      case atStart => exact ⟨0, by omega, rfl, Lib.hid (by simpa using HO6.out), HHH⟩
      case round =>
        clear HO6 HHH
        obtain ⟨q, hq, rfl, hO, hHw⟩ := hrel
        have hH := hHw.out
        have c3 := (K.out.keep hz1 hH) 3 _ rfl
        by_cases hlt : q < n2
        · obtain ⟨y, hy⟩ : ∃ y, Q[q]? = some y := get_some (by have := HNQ.out; omega)
          have hBw := hB1.trans (hH.mono hB1.size)
          have hrow := HR2.out _ hBw
          obtain ⟨bb, off, rfl, hbw, hc⟩ := ints_at hrow (k := q) (lt_of_get hy)
          obtain ⟨d0, _⟩ := hc q y hy
          have hts := Lib.hid (HMM2.out q y hy)
          have HOk := hO
          clear hc hy hrow hBw
          go_wp2_with (first | (at_builtin; go_loud (refine wpList_append_src rfl (.tmp 56) (.tmp 63) 30 rfl W1.heap.size 5 i (.int .u8 0) 1 1 Tryd.underlying30 hi hz hsize hby rfl (by omega) _ (E3.length + q) _ rfl (owns_below HOk.out ((Below.refl _ _).alloc (Nat.le_refl _) _)) _ 1 [.int .u8 (y % 256)] rfl (src_new _ _ _) rfl (by intro u hu; simp at hu; rw [hu]; rfl) (by unfold maxLen; omega) (by omega) (by simp; have := hH.size; omega) ?_; intro v7 w7 hO7 hG7; have hH7 := grown3 (hH.alloc hH.size _) (by simp; have := hH.size; omega) (owns_below HOk.out ((Below.refl _ _).alloc (Nat.le_refl _) _)) hG7; have HO7 := Lib.hid hO7; clear hO7 hG7)) | fail)
          go_roundw
          case rel => exact ⟨q + 1, by omega, by simp, Lib.hid (own_eq2 HO7.out (by omega) (by rw [hts.out, ← List.append_assoc, ← bytesV_byteO])), Lib.hid hH7⟩
          case measure => first | (simp [intOf]; done) | (simp [intOf]; omega)
        · obtain rfl : q = n2 := by omega
          have HO7 := Lib.hid (own_eq2 hO.out rfl (show bytesV (E3 ++ M2.take q) = bytesV (E3 ++ M2) by rw [List.take_of_length_le (by omega)]))
          obtain ⟨E4, hE4⟩ : ∃ E4, E4 = E3 ++ M2 := ⟨_, rfl⟩
          have hE4n : E4.length = E3.length + q := by rw [hE4]; simp only [List.length_append, hM2]
          have HRow7 := Lib.hid (owns_bytes (L := E4) (own_eq2 HO7.out hE4n.symm (by rw [hE4])) rfl)
          rw [← hE4] at HPU
          have hE4b : E4.length ≤ 30000 := by omega
          have c4 := (K.out.keep hz1 hH) 4 _ rfl
          clear hO hHw HR2 HMM2 HO7 hE4 hE4n
          go_wp2_with fail
          refine (ref03_Put _ E4 2 n3 _ HRow7.out (by omega)).mono ?_; rintro e w8 ⟨r8, rfl, hr8, hb8⟩
          rw [hn8] at hr8
          have hH8 := hH.trans (hb8.mono hH.size)
          have hB8 := hB1.trans (hH8.mono hB1.size)
          have HO8 := Lib.hid hr8
          have hz8 := hb8.size
          have c4 := (K.out.keep hz1 hH8) 4 _ rfl
          clear hr8
          go_wp2_with fail
          refine (HE.out _ hB8).mono ?_; rintro e w9 ⟨r9, rfl, hr9, hb9⟩
          have hB9 := hB8.trans (hb9.mono hB8.size)
          have HO9 := Lib.hid (owns_below HO8.out hb9)
          have HR9 := Lib.hid hr9
          have hz9 : wr.heap.size ≤ w9.heap.size := Nat.le_trans hz8 hb9.size
          have hwr := hB1.trans (hH.mono hB1.size)
          have hb89 := hb8.trans (hb9.mono hz8)
          have HFL := Lib.hid (show (E4 ++ putL 2 n3 ++ EC).length = E4.length + 2 + EC.length by simp only [List.length_append, hp2])
          clear hr9 c4 HRow7
          generalize E4.length = fl at *
          generalize hel : EC.length = el at *
          have HEL := Lib.hid hel
          clear hel
          go_wp2_with (first | (at_builtin; go_loud (refine wpList_append_row1 rfl (.tmp 76) (.tmp 77) 30 rfl wr.heap.size 5 i (.int .u8 0) 1 Tryd.underlying30 hi hz hsize hby rfl _ (fl + 2) _ rfl HO9.out _ el (byteV EC) rfl HR9.out (fun _ _ => rfl) (by unfold maxLen; omega) (by omega) hz9 ?_; intro v10 w10 hO10 hG10; have hB10 := hwr.trans ((grown3 hb89 hz9 HO9.out hG10).mono hwr.size); have HO10 := Lib.hid hO10; clear hO10 hG10)) | fail)
          go_returns
          refine ⟨_, rfl, ?_, hB10⟩
          rw [HPO.out, HPU.out]
          exact owns_bytes (own_eq2 HO10.out rfl (by rw [bytesV_app (E4 ++ putL 2 n3), ← map_bytesV EC, HEL.out])) (by rw [HFL.out])
end Go.Proofs.YtjikkipdmonndaaDoor

/- Layer 16: the units' section. -/
namespace Go.Proofs.YtjikkipdmonndaaDoor
open Go.RowKit
set_option linter.unusedSimpArgs false
set_option linter.unusedVariables false
theorem few_parts {x : Un} (h : fewU x = true) : x.params.length ≤ 1000 ∧ x.locals.length ≤ 4000 ∧ x.code.length ≤ 1000 := by
  have hf : x.name.length ≤ 300 ∧ x.params.length ≤ 20 ∧ x.locals.length ≤ 1100 ∧ x.code.length ≤ 300 := of_decide_eq_true h
  omega
theorem unsB_snoc {L : List Un} {k : Nat} {x : Un} (h : L[k]? = some x) : unsL (L.take (k + 1)) = unsL (L.take k) ++ (putL 4 (putU x).length ++ putU x) := by
  unfold unsL; rw [take_snoc h, List.flatMap_append]; simp [unL]
theorem okUs_no {L : List Un} {x : Un} (hx : x ∈ L) (h : fitU x = false) : okUs L = false := by
  unfold okUs
  rw [Bool.and_eq_false_iff]
  exact Or.inr (List.all_eq_false.2 ⟨x, hx, by simp [h]⟩)
theorem wrap_u8 (n : Nat) (h : n ≤ 8) : (byteO (n : Int)).toNat = n := by unfold byteO; simp; omega
def PutsU (w : World) (L : List Un) (e : Ending) (w' : World) : Prop :=
  ∃ r, e = .returned (.tuple #[r, .bool (okUs L)]) ∧ (okUs L = true → w'.ownsRow w.heap.size 5 1 r (unsB L).length (bytesV (unsB L))) ∧ (okUs L = false → r = .slice none 0 0) ∧ Below w.heap.size w w'
set_option maxRecDepth 100000 in
set_option maxHeartbeats 4000000 in
theorem box_unitsOf (v : Value) (L : List Un) (w : World) (hT : STab w) (hv : RowR 5 unitR w v L) (hf : ∀ x ∈ L, fewU x = true) : Calls Tryd.prog 20 #[v] w (PutsU w L) := by
  obtain ⟨i, hi, hz, hsize, hby⟩ : ∃ i, Tryd.prog.info? 5 = some i ∧ i.zero = some (.int .u8 0) ∧ i.size = 1 ∧ i.bytes = 1 := ⟨(Tryd.prog.info? 5).get!, by kernel_rfl, by kernel_rfl, by kernel_rfl, by kernel_rfl⟩
  have hvl := hv.len
  obtain ⟨sa, ca, rfl⟩ := row_get hv
  have HLen := Lib.hid (fun k => unsL_len (L := L.take k) (fun x hx => hf x (List.mem_of_mem_take hx)))
  obtain ⟨N, hN⟩ : ∃ N, L.length = N := ⟨_, rfl⟩
  have HN := Lib.hid hN
  rw [hN] at hvl hv ⊢
  clear hN
  by_cases h8 : 8 < N
  · have q0 : (8 < (N : Int)) = True := eq_true (by omega)
    have hno := Lib.hid (show okUs L = false by unfold okUs; rw [HN.out, decide_eq_false (by omega)]; rfl)
    go_enter Tryd.func20, Tryd.ntmps20
    go_wp2_with fail
    go_returns
    exact ⟨_, by rw [hno.out]; rfl, fun h => (by rw [hno.out] at h; cases h), fun _ => rfl, by (repeat' (first | (with_reducible exact Below.refl _ _) | (with_reducible assumption) | (with_reducible refine below_drewN ?_ _) | (with_reducible refine Below.alloc ?_ ?_ _) | (with_reducible refine Below.drew ?_) | (with_reducible refine Below.setCell ?_ ?_ _) | go_size))⟩
  have q0 : (8 < (N : Int)) = False := eq_false (by omega)
  have hw8 : IntKind.u8.wrap (N : Int) = (N : Int) := by unfold IntKind.wrap; simp [IntKind.signed, IntKind.bits]; omega
  have hw9 : (N : Int) % 256 = (N : Int) := by omega
  go_enter Tryd.func20, Tryd.ntmps20
  go_wp2_with fail
  go_loopw [4, 18] (fun o jj wr => ∃ (k : Nat), k ≤ N ∧ jj = .int .i64 k ∧ Hid ((L.take k).all fitU = true) ∧ Hid (wr.ownsRow w.heap.size 5 1 o (byteO (N : Int) :: unsL (L.take k)).length (bytesV (byteO (N : Int) :: unsL (L.take k)))) ∧ Hid (Below w.heap.size w wr)) (fun _ jj _ => N - (intOf jj).toNat)
  case atStart =>
    refine ⟨0, by omega, rfl, Lib.hid (by simp), Lib.hid ?_, Lib.hid (by (repeat' (first | (with_reducible exact Below.refl _ _) | (with_reducible assumption) | (with_reducible refine below_drewN ?_ _) | (with_reducible refine Below.alloc ?_ ?_ _) | (with_reducible refine Below.drew ?_) | (with_reducible refine Below.setCell ?_ ?_ _) | go_size)))⟩
    have := World.ownsRow_lit (e := 5) (size := 1) w #[.int .u8 (N : Int)] 1 (Nat.le_refl _) (by unfold maxLen; omega) (by simp)
    simpa [unsL, bytesV, wrap_u8 N (by omega)] using this
  case round =>
    obtain ⟨k, hk, rfl, hall, hO, hB⟩ := hrel
    by_cases hlt : k < N
    · obtain ⟨x, hx⟩ := get_some (L := L) (n := k) (by rw [HN.out]; exact hlt)
      obtain ⟨bb, off, rfl, hbw, hc⟩ := unit_at hv (k := k) (by rw [HN.out]; exact hlt)
      obtain ⟨u1, u3, u4, c0, c1, c2, c3, c4, hU⟩ := hc k x hx
      have HU := Lib.hid hU
      obtain ⟨s1, d1, rfl⟩ := row_get hU.ps
      obtain ⟨s3, d3, rfl⟩ := row_get hU.ls
      obtain ⟨s4, d4, rfl⟩ := row_get hU.cs
      have hfx := hf x (List.mem_of_getElem? hx)
      have HP := Lib.hid (fun W (hb : Below w.heap.size w W) => unit_Put _ _ _ x W (hT.below hb) (hU.below hb) (few_parts hfx))
      have c0 := (hB.out.cell (p := ⟨bb, off + k * 5, none⟩) hbw).trans c0
      have c1 := (hB.out.cell (p := ⟨bb, off + k * 5 + 1, none⟩) hbw).trans c1
      have c2 := (hB.out.cell (p := ⟨bb, off + k * 5 + 2, none⟩) hbw).trans c2
      have c3 := (hB.out.cell (p := ⟨bb, off + k * 5 + 3, none⟩) hbw).trans c3
      have c4 := (hB.out.cell (p := ⟨bb, off + k * 5 + 4, none⟩) hbw).trans c4
      have HS := Lib.hid (unsB_snoc hx)
      have HM := Lib.hid (List.mem_of_getElem? hx)
      have HT := Lib.hid (take_snoc hx)
      have HPL := Lib.hid (putU_len hfx)
      have hun : (byteO (N : Int) :: unsL (L.take k)).length ≤ 40000 := by
        have h1 := HLen.out k
        rw [List.length_take] at h1
        have h2 : min k L.length * 3204 ≤ 8 * 3204 := Nat.mul_le_mul_right _ (by omega)
        simp only [List.length_cons]
        omega
      obtain ⟨T, hTT⟩ : ∃ T, byteO (N : Int) :: unsL (L.take k) = T := ⟨_, rfl⟩
      have HTT := Lib.hid hTT
      rw [hTT] at hO hun
      obtain ⟨n, hn⟩ : ∃ n, T.length = n := ⟨_, rfl⟩
      have Hn := Lib.hid hn
      rw [hn] at hO hun
      have hsz : w.heap.size ≤ wr.heap.size := hB.out.size
      have hBo : Below w.heap.size w wr := hB.out
      have nm := (⟨x.name.toArray⟩ : ByteArray)
      clear hc hx hU hfx hTT hn nm
      obtain ⟨p1, e1⟩ : ∃ n, x.params.length = n := ⟨_, rfl⟩
      obtain ⟨p3, e3⟩ : ∃ n, x.locals.length = n := ⟨_, rfl⟩
      obtain ⟨p4, e4⟩ : ∃ n, x.code.length = n := ⟨_, rfl⟩
      rw [e1] at c1 HP
      rw [e3] at c3 HP
      rw [e4] at c4 HP
      clear e1 e3 e4
      generalize (⟨x.name.toArray⟩ : ByteArray) = nm at *
      cases hfit : fitU x
      · have hno := Lib.hid (okUs_no HM.out hfit)
        rw [hfit] at HP
        go_wp2_with fail
        refine (HP.out _ (by (repeat' (first | (with_reducible exact Below.refl _ _) | (with_reducible assumption) | (with_reducible refine below_drewN ?_ _) | (with_reducible refine Below.alloc ?_ ?_ _) | (with_reducible refine Below.drew ?_) | (with_reducible refine Below.setCell ?_ ?_ _) | go_size)))).mono ?_; rintro e W1 ⟨r, rfl, _, hb1⟩
        go_wp2_with fail
        go_returns
        exact ⟨_, by rw [hno.out]; rfl, fun h => (by rw [hno.out] at h; cases h), fun _ => rfl, Below.trans (show Below w.heap.size w _ by (repeat' (first | (with_reducible exact Below.refl _ _) | (with_reducible assumption) | (with_reducible refine below_drewN ?_ _) | (with_reducible refine Below.alloc ?_ ?_ _) | (with_reducible refine Below.drew ?_) | (with_reducible refine Below.setCell ?_ ?_ _) | go_size))) (hb1.mono (by simp; omega))⟩
      · rw [hfit, putO_yes hfit] at HP
        have HF := Lib.hid hfit
        clear hfit
        go_wp2_with fail
        refine (HP.out _ (by (repeat' (first | (with_reducible exact Below.refl _ _) | (with_reducible assumption) | (with_reducible refine below_drewN ?_ _) | (with_reducible refine Below.alloc ?_ ?_ _) | (with_reducible refine Below.drew ?_) | (with_reducible refine Below.setCell ?_ ?_ _) | go_size)))).mono ?_; rintro e W1 ⟨r, rfl, hr, hb1⟩
        have hB1 := Lib.hid (Below.trans (show Below wr.heap.size wr _ by (repeat' (first | (with_reducible exact Below.refl _ _) | (with_reducible assumption) | (with_reducible refine below_drewN ?_ _) | (with_reducible refine Below.alloc ?_ ?_ _) | (with_reducible refine Below.drew ?_) | (with_reducible refine Below.setCell ?_ ?_ _) | go_size))) (hb1.mono (by simp)))
        have hr2 := Lib.hid (fun W (hb : Below W1.heap.size W1 W) => hr.below hb)
        obtain ⟨P, hP⟩ : ∃ P, putU x = P := ⟨_, rfl⟩
        rw [hP] at hr2 HPL HS
        obtain ⟨ar, cr, rfl⟩ : ∃ a c, r = .slice a P.length c := by
          rw [hP] at hr
          rcases hr with ⟨a, cap, rfl, h0, _⟩ | ⟨b, off, cap, rfl, _⟩
          · exact ⟨a, cap, by rw [h0]⟩
          · exact ⟨_, cap, rfl⟩
        obtain ⟨np, hnp⟩ : ∃ n, P.length = n := ⟨_, rfl⟩
        have Hnp := Lib.hid hnp
        have hpl := HPL.out
        rw [hnp] at hr2 HS hpl ⊢
        have hO1 := Lib.hid (owns_below hO.out hB1.out)
        have HP1 := Lib.hid (octet_Put _ T 4 (np : Int) W1 (bytes_at hO1.out) (by rw [Hn.out]; omega))
        rw [near4, Hn.out] at HP1
        clear hr hP hnp hb1
        go_wp2_with fail
        refine HP1.out.mono ?_; rintro e W2 ⟨r2, rfl, hO2, hb2⟩
        have hB2 := Lib.hid (hB1.out.trans (hb2.mono hB1.out.size))
        have hr3 := Lib.hid (hr2.out _ hb2)
        have hw2 : w.heap.size ≤ W1.heap.size := Nat.le_trans hsz hB1.out.size
        have hO3 := Lib.hid (own_low hO2 hw2)
        obtain ⟨a2, c2', rfl⟩ := owns_form hO2
        have hbw2 := Lib.hid (hB.out.trans (hB2.out.mono hsz))
        clear hO2 hb2
        go_wp2_with (first | (at_builtin; go_loud (refine wpList_append_row1 rfl (.tmp 32) (.tmp 33) 30 rfl w.heap.size 5 i (.int .u8 0) 1 Tryd.underlying30 hi hz hsize hby rfl _ (n + 4) _ rfl hO3.out _ np (byteV P) rfl hr3.out (fun _ _ => rfl) (by unfold maxLen; omega) (by omega) hbw2.out.size ?_; intro v3 w3 hO4 hG4; have hB4 := Lib.hid (grown3 hbw2.out hbw2.out.size hO3.out hG4); have HO4 := Lib.hid hO4; clear hO4 hG4)) | fail)
        go_roundw
        case rel =>
          refine ⟨k + 1, by omega, by simp, Lib.hid (by rw [HT.out, List.all_append, hall.out]; simp [HF.out]), Lib.hid ?_, hB4⟩
          have h4 := HO4.out
          have e : (List.range np).map (byteV P) = bytesV P := by rw [← Hnp.out]; exact map_byteV P
          rw [e, ← bytesV_app] at h4
          exact own_bytes h4 (by rw [HS.out, ← HTT.out]; simp)
        case measure => first | (simp [intOf]; done) | (simp [intOf]; omega)
    · obtain rfl : k = N := by omega
      have hyes := Lib.hid (show okUs L = true by
        unfold okUs
        have := hall.out
        rw [List.take_of_length_le (by have := HN.out; omega)] at this
        rw [HN.out, decide_eq_true (by omega), this]; rfl)
      have hO2 := Lib.hid (show wr.ownsRow w.heap.size 5 1 _ (unsB L).length (bytesV (unsB L)) by
        have := hO.out
        rw [List.take_of_length_le (by have := HN.out; omega)] at this
        unfold unsB; rw [HN.out]; exact this)
      clear hO
      go_wp2_with fail
      go_returns
      exact ⟨_, by rw [hyes.out]; rfl, fun _ => hO2.out, fun h => (by rw [hyes.out] at h; cases h), hB.out⟩
end Go.Proofs.YtjikkipdmonndaaDoor

/- Layer 16: a program's container, by the program. -/
namespace Go.Proofs.YtjikkipdmonndaaDoor
open Go.RowKit
set_option linter.unusedSimpArgs false
set_option linter.unusedVariables false
def preL (p : Pr) : Nat → List UInt8
  | 0 => magicL
  | 1 => magicL ++ secL 1 (csB p)
  | 2 => magicL ++ secL 1 (csB p) ++ secL 2 (vsB p)
  | 3 => magicL ++ secL 1 (csB p) ++ secL 2 (vsB p) ++ secL 3 (bsB p)
  | _ => bodyL p
theorem preL_len {p : Pr} (h : fewP p = true) (k : Nat) : (preL p k).length ≤ 100000 := by
  have hb := body_len h
  unfold bodyL at hb
  simp only [List.length_append] at hb
  unfold preL
  split
  · omega
  · simp only [List.length_append]; omega
  · simp only [List.length_append]; omega
  · simp only [List.length_append]; omega
  · exact body_len h
theorem parts_len {p : Pr} (h : fewP p = true) : (csB p).length ≤ 100000 ∧ (vsB p).length ≤ 100000 ∧ (bsB p).length ≤ 100000 ∧ (unsB p.units).length ≤ 100000 := by
  have hb := body_len h
  unfold bodyL at hb
  simp only [List.length_append, secL_len] at hb
  omega
theorem index_arr4 (a b c d : Value) (i : Nat) (v : Value) (h1 : #[a, b, c, d][i]? = some v) (w : World) : (Instr.index 53 (.agg #[a, b, c, d]) (.int .i64 (i : Int))).run Tryd.prog w = .ok v w := by
  have hi : i < 4 := by
    by_cases h : i < 4
    · exact h
    · rw [Array.getElem?_eq_none (by simp; omega)] at h1; cases h1
  have hu : Tryd.prog.underlying 53 = some (.array 4 30) := by kernel_rfl
  have hc : Tryd.prog.cellsOf 30 = 1 := by kernel_rfl
  have hin : (0 ≤ (i : Int) ∧ (i : Int) < (4 : Nat)) := by omega
  simp [Instr.index, run_underlying hu, asIntOf, hin, go_sem]
  rw [if_pos hi, show [a, b, c, d][i]? = some v by simpa using h1]
  rfl
def PutsP (w : World) (p : Pr) (e : Ending) (w' : World) : Prop :=
  ∃ r, e = .returned (.tuple #[r, .bool (fitP p)]) ∧ (fitP p = true → w'.ownsRow w.heap.size 5 1 r (boxL p).length (bytesV (boxL p))) ∧ (fitP p = false → r = .slice none 0 0) ∧ Below w.heap.size w w'
theorem fit_no {p : Pr} {a b c d : Bool} (h1 : okCs p.consts = a) (h2 : okVs p.vars = b) (h3 : okBs p.blocks = c) (h4 : okUs p.units = d) : fitP p = (a && (b && (c && d))) := by
  unfold fitP; rw [h1, h2, h3, h4]
set_option maxRecDepth 100000 in
set_option maxHeartbeats 4000000 in
theorem box_Encode (vc vv vb vu : Value) (p : Pr) (w : World) (hT : STab w) (h : PrAt w vc vv vb vu p) (hf : fewP p = true) : Calls Tryd.prog 9 #[.agg #[vc, vv, vb, vu]] w (PutsP w p) := by
  obtain ⟨⟨g1, g2, g3, g4⟩, g5, g6, g7⟩ := fewP_parts hf
  have HC := Lib.hid (fun W (hb : Below w.heap.size w W) => tab_PutConsts vc p.consts W (h.cs.below constR_stable hb))
  have HV := Lib.hid (fun W (hb : Below w.heap.size w W) => tab_PutVars vv p.vars W (h.vs.below varR_stable hb) (fun x hx => by have := g5 x hx; omega))
  have HB := Lib.hid (fun W (hb : Below w.heap.size w W) => tab_PutBlocks vb p.blocks W (h.bs.below blkR_stable hb) (fun x hx => by have := g6 x hx; omega))
  have HU := Lib.hid (fun W (hb : Below w.heap.size w W) => box_unitsOf vu p.units W (hT.below hb) (h.us.below unitR_stable hb) g7)
  obtain ⟨W0, hW0⟩ : ∃ W0, W0 = w.alloc (.cells #[vc, vv, vb, vu] 27) := ⟨_, rfl⟩
  have hb0 : Below w.heap.size w W0 := by rw [hW0]; exact by (repeat' (first | (with_reducible exact Below.refl _ _) | (with_reducible assumption) | (with_reducible refine below_drewN ?_ _) | (with_reducible refine Below.alloc ?_ ?_ _) | (with_reducible refine Below.drew ?_) | (with_reducible refine Below.setCell ?_ ?_ _) | go_size))
  have k0 : Boxed W0 w.heap.size [vc, vv, vb, vu] := by rw [hW0]; exact Boxed.new w [vc, vv, vb, vu] 27 (Below.refl _ _)
  have z0 : w.heap.size < W0.heap.size := by rw [hW0]; simp
  have K0 := Lib.hid k0
  have HW0 := Lib.hid hW0
  have e0 := k0 0 _ rfl
  clear hW0 k0
  go_enter Tryd.func9, Tryd.ntmps9
  go_wp2_with fail
  rw [← HW0.out]
  refine (HC.out _ hb0).mono ?_; rintro e A1 ⟨r1, rfl, hr1, _, hb1⟩
  have e1 := K0.out.keep z0 hb1 1 _ rfl
  have y1 := hb0.trans (hb1.mono hb0.size)
  go_wp2_with fail
  refine (HV.out _ y1).mono ?_; rintro e A2 ⟨r2, rfl, hr2, _, hb2⟩
  have hb12 := hb1.trans (hb2.mono hb1.size)
  have e2 := K0.out.keep z0 hb12 2 _ rfl
  have y2 := hb0.trans (hb12.mono hb0.size)
  clear e1
  go_wp2_with fail
  refine (HB.out _ y2).mono ?_; rintro e A3 ⟨r3, rfl, hr3, _, hb3⟩
  have hb13 := hb12.trans (hb3.mono hb12.size)
  have e3 := K0.out.keep z0 hb13 3 _ rfl
  have y3 := hb0.trans (hb13.mono hb0.size)
  clear e2
  go_wp2_with fail
  refine (HU.out _ y3).mono ?_; rintro e A4 ⟨r4, rfl, hr4, _, hb4⟩
  have hb14 := hb13.trans (hb4.mono hb13.size)
  have y4 := Lib.hid (hb0.trans (hb14.mono hb0.size))
  have hR1 := Lib.hid (fun h => bytes_at (owns_below (hr1 h) (hb2.trans ((hb3.trans (hb4.mono hb3.size)).mono hb2.size))))
  have hR2 := Lib.hid (fun h => bytes_at (owns_below (hr2 h) (hb3.trans (hb4.mono hb3.size))))
  have hR3 := Lib.hid (fun h => bytes_at (owns_below (hr3 h) hb4))
  have hR4 := Lib.hid (fun h => bytes_at (hr4 h))
  have HFit := Lib.hid (fun a b c d => fit_no (p := p) (a := a) (b := b) (c := c) (d := d))
  clear hr1 hr2 hr3 hr4 hb1 hb2 hb3 hb4 hb12 hb13 hb14 y1 y2 y3 e0 e3
  cases h1 : okCs p.consts
  · have hno := Lib.hid (HFit.out _ _ _ _ h1 rfl rfl rfl)
    clear h1
    go_wp2_with fail
    go_returns
    exact ⟨_, by rw [hno.out]; rfl, fun h => (by rw [hno.out] at h; cases h), fun _ => rfl, y4.out⟩
  cases h2 : okVs p.vars
  · have hno := Lib.hid (HFit.out _ _ _ _ h1 h2 rfl rfl)
    clear h1 h2
    go_wp2_with fail
    go_returns
    exact ⟨_, by rw [hno.out]; rfl, fun h => (by rw [hno.out] at h; cases h), fun _ => rfl, y4.out⟩
  cases h3 : okBs p.blocks
  · have hno := Lib.hid (HFit.out _ _ _ _ h1 h2 h3 rfl)
    clear h1 h2 h3
    go_wp2_with fail
    go_returns
    exact ⟨_, by rw [hno.out]; rfl, fun h => (by rw [hno.out] at h; cases h), fun _ => rfl, y4.out⟩
  cases h4 : okUs p.units
  · have hno := Lib.hid (HFit.out _ _ _ _ h1 h2 h3 h4)
    clear h1 h2 h3 h4
    go_wp2_with fail
    go_returns
    exact ⟨_, by rw [hno.out]; rfl, fun h => (by rw [hno.out] at h; cases h), fun _ => rfl, y4.out⟩
  have hyes := Lib.hid (HFit.out _ _ _ _ h1 h2 h3 h4)
  have hR1 := Lib.hid (hR1.out h1)
  have hR2 := Lib.hid (hR2.out h2)
  have hR3 := Lib.hid (hR3.out h3)
  have hR4 := Lib.hid (hR4.out h4)
  clear h1 h2 h3 h4
  have kc := fun (w : World) (C : Array Value) (n c : Nat) => Lib.run_convert_bytes_const (P := Tryd.prog) w 30 5 C n c Tryd.underlying30 Tryd.underlying5
  obtain ⟨a1, d1, rfl⟩ := box_form hR1.out
  obtain ⟨a2, d2, rfl⟩ := box_form hR2.out
  obtain ⟨a3, d3, rfl⟩ := box_form hR3.out
  obtain ⟨a4, d4, rfl⟩ := box_form hR4.out
  have hR1 := Lib.hid (show RowAt A4 _ (csB p).length (byteV (csB p)) from hR1.out)
  have hR2 := Lib.hid (show RowAt A4 _ (vsB p).length (byteV (vsB p)) from hR2.out)
  have hR3 := Lib.hid (show RowAt A4 _ (bsB p).length (byteV (bsB p)) from hR3.out)
  rw [show putL 2 (p.consts.length : Int) ++ cstsL p.consts = csB p from rfl] at *
  rw [show putL 2 (p.vars.length : Int) ++ varsL p.vars = vsB p from rfl] at *
  rw [show putL 2 (p.blocks.length : Int) ++ blksL p.blocks = bsB p from rfl] at *
  obtain ⟨l1, l2, l3, l4⟩ := parts_len hf
  obtain ⟨n1, e1⟩ : ∃ n, (csB p).length = n := ⟨_, rfl⟩
  obtain ⟨n2, e2⟩ : ∃ n, (vsB p).length = n := ⟨_, rfl⟩
  obtain ⟨n3, e3⟩ : ∃ n, (bsB p).length = n := ⟨_, rfl⟩
  obtain ⟨n4, e4⟩ : ∃ n, (unsB p.units).length = n := ⟨_, rfl⟩
  have HE := Lib.hid (And.intro e1 (And.intro e2 (And.intro e3 e4)))
  rw [e1] at l1 hR1 ⊢
  rw [e2] at l2 hR2 ⊢
  rw [e3] at l3 hR3 ⊢
  rw [e4] at l4 hR4 ⊢
  clear e1 e2 e3 e4
  go_wp2_with fail
  go_loopw [12, 60] (fun o jj wr => ∃ (k : Nat) (z : Int), k ≤ 4 ∧ z = k ∧ jj = .int .i64 z ∧ Hid (RowAt wr o (preL p k).length (byteV (preL p k))) ∧ Hid (Below A4.heap.size A4 wr)) (fun _ jj _ => 4 - (intOf jj).toNat)
  case atStart =>
    refine ⟨0, 0, by omega, rfl, rfl, Lib.hid ?_, Lib.hid (by (repeat' (first | (with_reducible exact Below.refl _ _) | (with_reducible assumption) | (with_reducible refine below_drewN ?_ _) | (with_reducible refine Below.alloc ?_ ?_ _) | (with_reducible refine Below.drew ?_) | (with_reducible refine Below.setCell ?_ ?_ _) | go_size)))⟩
    refine RowAt.new A4 _ _ _ _ 4 4 (by omega) (by omega) (by omega) (fun i hi => ?_)
    obtain rfl | rfl | rfl | rfl : i = 0 ∨ i = 1 ∨ i = 2 ∨ i = 3 := by omega
    all_goals rfl
  case round =>
    obtain ⟨k, z, hk, hzk, rfl, hO, hB⟩ := hrel
    have hpl := preL_len hf k
    obtain ⟨ao, co, rfl⟩ := box_form hO.out
    by_cases hlt : k < 4
    · have hnext : ∀ (v : Value) (m : List UInt8), RowAt A4 v m.length (byteV m) → m.length ≤ 100000 → preL p (k + 1) = preL p k ++ secL ((k : Int) + 1) m → Hid (Calls Tryd.prog 21 #[.slice ao (preL p k).length co, .int .i64 ((k : Int) + 1), v] wr fun e w' => ∃ r, e = .returned r ∧ RowAt w' r (preL p (k + 1)).length (byteV (preL p (k + 1))) ∧ Below wr.heap.size wr w') := by
        intro v m hm hml he
        refine Lib.hid ((box_section _ v (preL p k) m _ wr hO.out (hm.below hB.out) (by omega) (by omega)).mono ?_)
        rintro e w' ⟨r, he', hr, hb⟩
        rw [he]
        exact ⟨r, he', bytes_at hr, hb⟩
      obtain rfl | rfl | rfl | rfl : k = 0 ∨ k = 1 ∨ k = 2 ∨ k = 3 := by omega
      · obtain rfl : z = 0 := by omega
        have H := hnext _ (csB p) (by rw [HE.out.1]; exact hR1.out) (by rw [HE.out.1]; exact l1) rfl
        rw [show (((0 : Nat) : Int) + 1) = 1 from rfl] at H
        clear hnext hzk
        generalize (preL p 0).length = np at *
        have hix := index_arr4 (.slice a1 n1 d1) (.slice a2 n2 d2) (.slice a3 n3 d3) (.slice a4 n4 d4) 0 _ rfl
        rw [show ((0 : Nat) : Int) = 0 from rfl] at hix
        go_wp2_with fail
        refine H.out.mono ?_; rintro e W2 ⟨r, rfl, hr, hb⟩
        go_wp2_with fail
        go_roundw
        case rel => exact ⟨1, 1, by omega, rfl, rfl, Lib.hid hr, Lib.hid (hB.out.trans (hb.mono hB.out.size))⟩
        case measure => first | (simp [intOf]; done) | (simp [intOf]; omega)
      · obtain rfl : z = 1 := by omega
        have H := hnext _ (vsB p) (by rw [HE.out.2.1]; exact hR2.out) (by rw [HE.out.2.1]; exact l2) rfl
        rw [show (((1 : Nat) : Int) + 1) = 2 from rfl] at H
        clear hnext hzk
        generalize (preL p 1).length = np at *
        have hix := index_arr4 (.slice a1 n1 d1) (.slice a2 n2 d2) (.slice a3 n3 d3) (.slice a4 n4 d4) 1 _ rfl
        rw [show ((1 : Nat) : Int) = 1 from rfl] at hix
        go_wp2_with fail
        refine H.out.mono ?_; rintro e W2 ⟨r, rfl, hr, hb⟩
        go_wp2_with fail
        go_roundw
        case rel => exact ⟨2, 2, by omega, rfl, rfl, Lib.hid hr, Lib.hid (hB.out.trans (hb.mono hB.out.size))⟩
        case measure => first | (simp [intOf]; done) | (simp [intOf]; omega)
      · obtain rfl : z = 2 := by omega
        have H := hnext _ (bsB p) (by rw [HE.out.2.2.1]; exact hR3.out) (by rw [HE.out.2.2.1]; exact l3) rfl
        rw [show (((2 : Nat) : Int) + 1) = 3 from rfl] at H
        clear hnext hzk
        generalize (preL p 2).length = np at *
        have hix := index_arr4 (.slice a1 n1 d1) (.slice a2 n2 d2) (.slice a3 n3 d3) (.slice a4 n4 d4) 2 _ rfl
        rw [show ((2 : Nat) : Int) = 2 from rfl] at hix
        go_wp2_with fail
        refine H.out.mono ?_; rintro e W2 ⟨r, rfl, hr, hb⟩
        go_wp2_with fail
        go_roundw
        case rel => exact ⟨3, 3, by omega, rfl, rfl, Lib.hid hr, Lib.hid (hB.out.trans (hb.mono hB.out.size))⟩
        case measure => first | (simp [intOf]; done) | (simp [intOf]; omega)
      · obtain rfl : z = 3 := by omega
        have H := hnext _ (unsB p.units) (by rw [HE.out.2.2.2]; exact hR4.out) (by rw [HE.out.2.2.2]; exact l4) rfl
        rw [show (((3 : Nat) : Int) + 1) = 4 from rfl] at H
        clear hnext hzk
        generalize (preL p 3).length = np at *
        have hix := index_arr4 (.slice a1 n1 d1) (.slice a2 n2 d2) (.slice a3 n3 d3) (.slice a4 n4 d4) 3 _ rfl
        rw [show ((3 : Nat) : Int) = 3 from rfl] at hix
        go_wp2_with fail
        refine H.out.mono ?_; rintro e W2 ⟨r, rfl, hr, hb⟩
        go_wp2_with fail
        go_roundw
        case rel => exact ⟨4, 4, by omega, rfl, rfl, Lib.hid hr, Lib.hid (hB.out.trans (hb.mono hB.out.size))⟩
        case measure => first | (simp [intOf]; done) | (simp [intOf]; omega)
    · obtain rfl : k = 4 := by omega
      obtain rfl : z = 4 := by omega
      have hO2 : RowAt wr (.slice ao (preL p 4).length co) (bodyL p).length (byteV (bodyL p)) := hO.out
      have hlb := body_len hf
      have hB5 := y4.out.trans (hB.out.mono y4.out.size)
      have HCrc := Lib.hid (crc_Of _ (bodyL p) wr hO2)
      have HPut := Lib.hid (fun W (hb : Below wr.heap.size wr W) => octet_Put _ (bodyL p) 4 (crcF (bodyL p) : Int) W (hO2.below hb) (by omega))
      have hcl : crcF (bodyL p) ≤ 4294967295 := by unfold crcF; omega
      have HX := Lib.hid (show boxL p = bodyL p ++ putL 4 (crcF (bodyL p)) from rfl)
      rw [near4] at HPut
      rw [show preL p 4 = bodyL p from rfl] at *
      obtain ⟨cr, hcr⟩ : ∃ c, crcF (bodyL p) = c := ⟨_, rfl⟩
      obtain ⟨nb, hnb⟩ : ∃ n, (bodyL p).length = n := ⟨_, rfl⟩
      rw [hcr] at HCrc HPut hcl HX
      rw [hnb] at HCrc HPut hlb ⊢
      clear hO2 hO hcr hpl hzk
      go_wp2_with fail
      refine HCrc.out.mono ?_; rintro e W2 ⟨rfl, hb2⟩
      go_wp2_with fail
      refine (HPut.out _ hb2).mono ?_; rintro e W3 ⟨r5, rfl, hr5, hb3⟩
      obtain ⟨a5, d5, rfl⟩ := owns_form hr5
      have hr6 := Lib.hid (own_low hr5 (Nat.le_trans hB5.size hb2.size))
      have hB6 := Lib.hid (hB5.trans ((hb2.trans (hb3.mono hb2.size)).mono hB5.size))
      clear hr5
      have q5 : (1048576 < ((nb + 4 : Nat) : Int)) = False := eq_false (by omega)
      have q6 : (1048576 < ((nb : Int) + 4)) = False := eq_false (by omega)
      clear hcl hlb HCrc HPut l1 l2 l3 l4 hk hlt g1 g2 g3 g4
      go_wp2_with fail
      go_returns
      exact ⟨_, by rw [hyes.out]; rfl, fun _ => (by rw [HX.out]; exact own_bytes hr6.out rfl), fun h => (by rw [hyes.out] at h; cases h), hB6.out⟩
end Go.Proofs.YtjikkipdmonndaaDoor

/- Layer 14: the reference's parts. -/
namespace Go.Proofs.YtjikkipdmonndaaDoor
open Go.RowKit
set_option linter.unusedSimpArgs false
set_option linter.unusedVariables false
theorem ref14_small (z : Int) (w : World) : Calls Tryd.prog 58 #[.int .i64 z] w fun e w' => e = .returned (.bool (fitB z)) ∧ w = w' := by
  by_cases h0 : 0 ≤ z
  · have q0 : (0 ≤ z) = True := eq_true h0
    by_cases h1 : z < 256
    · have q1 : (z < 256) = True := eq_true h1
      have hs := Lib.hid (fitB_yes h0 (show z ≤ 255 by omega))
      clear h0 h1
      go_enter Tryd.func58, Tryd.ntmps58
      go_wp2_with fail
      go_ret
      exact ⟨by rw [hs.out]; rfl, rfl⟩
    · have q1 : (z < 256) = False := eq_false h1
      have hs := Lib.hid (show fitB z = false from decide_eq_false (fun g => h1 (by omega)))
      clear h0 h1
      go_enter Tryd.func58, Tryd.ntmps58
      go_wp2_with fail
      go_ret
      exact ⟨by rw [hs.out]; rfl, rfl⟩
  · have q0 : (0 ≤ z) = False := eq_false h0
    have hs := Lib.hid (show fitB z = false from decide_eq_false (fun g => h0 g.1))
    clear h0
    go_enter Tryd.func58, Tryd.ntmps58
    go_wp2_with fail
    go_ret
    exact ⟨by rw [hs.out]; rfl, rfl⟩
end Go.Proofs.YtjikkipdmonndaaDoor

/- Layer 14: the reference's table of constants as bytes. -/
namespace Go.Proofs.YtjikkipdmonndaaDoor
open Go.RowKit
set_option linter.unusedSimpArgs false
set_option linter.unusedVariables false
theorem putL_one (z : Int) : putL (near8 1).toNat z = [byteO z] := by
  have : (near8 1).toNat = 1 := by decide
  rw [this]
  show [byteAt z 0] = [byteO z]
  unfold byteAt byteO
  simp
theorem ref03_Put1 (v : Value) (l : List UInt8) (z : Int) (w : World) (hv : RowAt w v l.length (byteV l)) (hm : l.length ≤ 100000000) :
    Calls Tryd.prog 28 #[v, .int .i64 1, .int .i64 z] w fun e w' => ∃ r, e = .returned r ∧ w'.ownsRow w.heap.size 5 1 r (l ++ [byteO z]).length (bytesV (l ++ [byteO z])) ∧ Below w.heap.size w w' := by
  have h := ref03_Put v l 1 z w hv hm
  rw [putL_one, show (near8 1).toNat = 1 from by decide] at h
  rw [List.length_append, List.length_singleton]
  exact h
theorem ref03_Put8 (v : Value) (l : List UInt8) (z : Int) (w : World) (hv : RowAt w v l.length (byteV l)) (hm : l.length ≤ 100000000) :
    Calls Tryd.prog 28 #[v, .int .i64 8, .int .i64 z] w fun e w' => ∃ r, e = .returned r ∧ w'.ownsRow w.heap.size 5 1 r (l ++ putL 8 z).length (bytesV (l ++ putL 8 z)) ∧ Below w.heap.size w w' := by
  have h := ref03_Put v l 8 z w hv hm
  rw [show (near8 8).toNat = 8 from by decide] at h
  rw [List.length_append, putL_len]
  exact h
set_option maxRecDepth 100000 in
set_option maxHeartbeats 4000000 in
theorem refCsts_r9 (wr : World) (n ca bk off k : Nat) (x : Int × Int) (r0 : Value) (l : List UInt8) (c0 : wr.cell? ⟨bk, off + k * 2, none⟩ = some (.int .i64 x.1)) (c1 : wr.cell? ⟨bk, off + k * 2 + 1, none⟩ = some (.int .i64 x.2)) (hbw2 : bk < wr.heap.size) (HL : Hid (∀ W, Below wr.heap.size wr W → RowAt W r0 l.length (byteV l))) (hll : l.length ≤ 1000000) (hlt : k < n) (hni : n ≤ 1024) (t1 t2 t3 t6 t7 t8 t9 t10 t11 t12 t13 t14 t15 t16 t17 t18 t19 t20 t21 t22 t23 t24 t25 t26 t27 t28 t29 t30 t31 t32 t33 t34 t35 t36 t37 t38 : Value) :
    (Code.region 9 #[{ dst := some 25, op := Op.move (Operand.tmp 4), type := 30, pos := "ref.go:22", after := #[], guard := none }, { dst := some 26, op := Op.move (Operand.tmp 0), type := 22, pos := "ref.go:22", after := #[], guard := none }, { dst := some 27, op := Op.move (Operand.tmp 5), type := 3, pos := "ref.go:22", after := #[], guard := none }, { dst := some 28, op := Op.indexAddr 22 (Operand.tmp 26) (Operand.tmp 27), type := 0, pos := "ref.go:22", after := #[{ on := 1, ground := Ground.data }, { on := 2, ground := Ground.data }], guard := none }, { dst := some 29, op := Op.fieldAddr 61 (Operand.tmp 28) 0, type := 0, pos := "ref.go:22", after := #[{ on := 3, ground := Ground.data }], guard := none }, { dst := some 30, op := Op.load 3 (Operand.tmp 29), type := 3, pos := "ref.go:22", after := #[{ on := 4, ground := Ground.data }], guard := none }, { dst := some 31, op := Op.call { callee := Callee.value (Operand.func 28), args := #[Operand.tmp 25, Operand.const (Value.int IntKind.i64 1), Operand.tmp 30], argTypes := #[30, 3, 3] }, type := 30, pos := "ref.go:22", after := #[{ on := 0, ground := Ground.data }, { on := 5, ground := Ground.data }], guard := none }, { dst := some 32, op := Op.move (Operand.tmp 0), type := 22, pos := "ref.go:22", after := #[], guard := none }, { dst := some 33, op := Op.move (Operand.tmp 5), type := 3, pos := "ref.go:22", after := #[], guard := none }, { dst := some 34, op := Op.indexAddr 22 (Operand.tmp 32) (Operand.tmp 33), type := 0, pos := "ref.go:22", after := #[{ on := 7, ground := Ground.data }, { on := 8, ground := Ground.data }], guard := none }, { dst := some 35, op := Op.fieldAddr 61 (Operand.tmp 34) 1, type := 0, pos := "ref.go:22", after := #[{ on := 9, ground := Ground.data }], guard := none }, { dst := some 36, op := Op.load 3 (Operand.tmp 35), type := 3, pos := "ref.go:22", after := #[{ on := 10, ground := Ground.data }], guard := none }, { dst := some 37, op := Op.call { callee := Callee.value (Operand.func 28), args := #[Operand.tmp 31, Operand.const (Value.int IntKind.i64 8), Operand.tmp 36], argTypes := #[30, 3, 3] }, type := 30, pos := "ref.go:22", after := #[{ on := 6, ground := Ground.data }, { on := 11, ground := Ground.data }, { on := 6, ground := Ground.chain }], guard := none }, { dst := some 4, op := Op.assign (Operand.tmp 37), type := 30, pos := "ref.go:22", after := #[{ on := 12, ground := Ground.data }, { on := 12, ground := Ground.chain }, { on := 0, ground := Ground.phase }, { on := 1, ground := Ground.phase }, { on := 2, ground := Ground.phase }, { on := 3, ground := Ground.phase }, { on := 4, ground := Ground.phase }, { on := 5, ground := Ground.phase }, { on := 6, ground := Ground.phase }, { on := 7, ground := Ground.phase }, { on := 8, ground := Ground.phase }, { on := 9, ground := Ground.phase }, { on := 10, ground := Ground.phase }, { on := 11, ground := Ground.phase }, { on := 12, ground := Ground.phase }], guard := none }] true).wp Tryd.prog (fun e b v => e = Exit.normal ∧ ∃ u4 u25 u26 u27 u28 u29 u30 u31 u32 u33 u34 u35 u36 u37 : Value, b = ⟨#[.slice (some ⟨bk, off, none⟩) n ca, t1, t2, t3, u4, .int .i64 k, t6, t7, t8, t9, t10, t11, t12, t13, t14, t15, t16, t17, t18, t19, t20, t21, t22, t23, t24, u25, u26, u27, u28, u29, u30, u31, u32, u33, u34, u35, u36, u37, t38], []⟩ ∧ Below wr.heap.size wr v ∧ (v.ownsRow wr.heap.size 5 1 u4 (l ++ cstL x).length (bytesV (l ++ cstL x)))) ⟨#[.slice (some ⟨bk, off, none⟩) n ca, t1, t2, t3, r0, .int .i64 k, t6, t7, t8, t9, t10, t11, t12, t13, t14, t15, t16, t17, t18, t19, t20, t21, t22, t23, t24, t25, t26, t27, t28, t29, t30, t31, t32, t33, t34, t35, t36, t37, t38], []⟩ wr := by
  refine wp_region_facts (n := 14) (fun L b v => ∃ u4 u25 u26 u27 u28 u29 u30 u31 u32 u33 u34 u35 u36 u37 : Value, b = ⟨#[.slice (some ⟨bk, off, none⟩) n ca, t1, t2, t3, u4, .int .i64 k, t6, t7, t8, t9, t10, t11, t12, t13, t14, t15, t16, t17, t18, t19, t20, t21, t22, t23, t24, u25, u26, u27, u28, u29, u30, u31, u32, u33, u34, u35, u36, u37, t38], []⟩ ∧ Below wr.heap.size wr v ∧ (L.getD 0 false = true → u25 = r0) ∧ (L.getD 1 false = true → u26 = .slice (some ⟨bk, off, none⟩) n ca) ∧ (L.getD 2 false = true → u27 = .int .i64 k) ∧ (L.getD 3 false = true → u28 = .pointer (some ⟨bk, off + k * 2, none⟩)) ∧ (L.getD 4 false = true → u29 = .pointer (some ⟨bk, off + k * 2, none⟩)) ∧ (L.getD 5 false = true → u30 = .int .i64 x.1) ∧ (L.getD 6 false = true → v.ownsRow wr.heap.size 5 1 u31 (l ++ [byteO x.1]).length (bytesV (l ++ [byteO x.1]))) ∧ (L.getD 7 false = true → u32 = .slice (some ⟨bk, off, none⟩) n ca) ∧ (L.getD 8 false = true → u33 = .int .i64 k) ∧ (L.getD 9 false = true → u34 = .pointer (some ⟨bk, off + k * 2, none⟩)) ∧ (L.getD 10 false = true → u35 = .pointer (some ⟨bk, off + k * 2 + 1, none⟩)) ∧ (L.getD 11 false = true → u36 = .int .i64 x.2) ∧ (L.getD 12 false = true → v.ownsRow wr.heap.size 5 1 u37 (l ++ cstL x).length (bytesV (l ++ cstL x))) ∧ (L.getD 13 false = true → v.ownsRow wr.heap.size 5 1 u4 (l ++ cstL x).length (bytesV (l ++ cstL x))) ∧ (L.getD 13 false = false → u4 = r0)) (by kernel_rfl) (by kernel_rfl) (by kernel_rfl) ?_ ?_ ?_
  · refine ⟨_, _, _, _, _, _, _, _, _, _, _, _, _, _, rfl, (Below.refl _ _).drew, flag_new, flag_new, flag_new, flag_new, flag_new, flag_new, flag_new, flag_new, flag_new, flag_new, flag_new, flag_new, flag_new, flag_new, fun _ => (by first | rfl | assumption)⟩
  · refine AllSteps.succ (AllSteps.succ (AllSteps.succ (AllSteps.succ (AllSteps.succ (AllSteps.succ (AllSteps.succ (AllSteps.succ (AllSteps.succ (AllSteps.succ (AllSteps.succ (AllSteps.succ (AllSteps.succ (AllSteps.succ AllSteps.zero ?_) ?_) ?_) ?_) ?_) ?_) ?_) ?_) ?_) ?_) ?_) ?_) ?_) ?_
    · refine StepAt.mk (o := { dst := some 25, op := Op.move (Operand.tmp 4), type := 30, pos := _, after := #[], guard := none }) (ws := []) rfl (by kernel_rfl) ?_
      intro L b v hC h0 hA h
      refine h.elim ?_; clear h; intro u4 h
      refine h.elim ?_; clear h; intro u25 h
      refine h.elim ?_; clear h; intro u26 h
      refine h.elim ?_; clear h; intro u27 h
      refine h.elim ?_; clear h; intro u28 h
      refine h.elim ?_; clear h; intro u29 h
      refine h.elim ?_; clear h; intro u30 h
      refine h.elim ?_; clear h; intro u31 h
      refine h.elim ?_; clear h; intro u32 h
      refine h.elim ?_; clear h; intro u33 h
      refine h.elim ?_; clear h; intro u34 h
      refine h.elim ?_; clear h; intro u35 h
      refine h.elim ?_; clear h; intro u36 h
      refine h.elim ?_; clear h; intro u37 h
      have hbb := h.1; replace h := h.2; subst hbb
      have hHeld := h.1; replace h := h.2
      have f0 := h.1; replace h := h.2
      have f1 := h.1; replace h := h.2
      have f2 := h.1; replace h := h.2
      have f3 := h.1; replace h := h.2
      have f4 := h.1; replace h := h.2
      have f5 := h.1; replace h := h.2
      have f6 := h.1; replace h := h.2
      have f7 := h.1; replace h := h.2
      have f8 := h.1; replace h := h.2
      have f9 := h.1; replace h := h.2
      have f10 := h.1; replace h := h.2
      have f11 := h.1; replace h := h.2
      have f12 := h.1; replace h := h.2
      have f13 := h.1; replace h := h.2
      have er := h; clear h
      intro K hK
      have dr := er (Bool.eq_false_iff.2 (fun h => getD_no h0 (hC.step (j := 13) (k := 0) h (by kernel_rfl))))
      obtain rfl := dr
      rw [if_pos (by kernel_rfl)]
      have q0 := cellB hHeld c0 hbw2
      have q1 := cellB hHeld c1 hbw2
      go_simp
      try simp only [Act.put, List.setIfInBounds_toArray, List.set_cons_zero, List.set_cons_succ]
      refine hK.out _ _ ⟨_, _, _, _, _, _, _, _, _, _, _, _, _, _, rfl, ?_, ?_, ?_, ?_, ?_, ?_, ?_, ?_, ?_, ?_, ?_, ?_, ?_, ?_, ?_, ?_⟩
      · first | exact hHeld | exact hHeld.trans (hb.mono hHeld.size) | (trace_state; fail)
      · intro _; first | rfl | (trace_state; fail)
      · first | exact flag_ne (by decide) f1 | exact fun _ => rfl
      · first | exact flag_ne (by decide) f2 | exact fun _ => rfl
      · first | exact flag_ne (by decide) f3 | exact fun _ => rfl
      · first | exact flag_ne (by decide) f4 | exact fun _ => rfl
      · first | exact flag_ne (by decide) f5 | exact fun _ => rfl
      · intro h; rw [getD_set_ne false (by decide)] at h; exact (getD_no h0 (hC.step (j := 6) (k := 0) h (by kernel_rfl))).elim
      · first | exact flag_ne (by decide) f7 | exact fun _ => rfl
      · first | exact flag_ne (by decide) f8 | exact fun _ => rfl
      · first | exact flag_ne (by decide) f9 | exact fun _ => rfl
      · first | exact flag_ne (by decide) f10 | exact fun _ => rfl
      · first | exact flag_ne (by decide) f11 | exact fun _ => rfl
      · intro h; rw [getD_set_ne false (by decide)] at h; exact (getD_no h0 (hC.step (j := 6) (k := 0) (hC.step (j := 12) (k := 6) h (by kernel_rfl)) (by kernel_rfl))).elim
      · intro h; rw [getD_set_ne false (by decide)] at h; exact (getD_no h0 (hC.step (j := 13) (k := 0) h (by kernel_rfl))).elim
      · intro h; first | rfl | (rw [getD_set_ne false (by decide)] at h; have := er h; first | exact this | exact owns_below this hb | (trace_state; fail))
    · refine StepAt.mk (o := { dst := some 26, op := Op.move (Operand.tmp 0), type := 22, pos := _, after := #[], guard := none }) (ws := []) rfl (by kernel_rfl) ?_
      intro L b v hC h0 hA h
      refine h.elim ?_; clear h; intro u4 h
      refine h.elim ?_; clear h; intro u25 h
      refine h.elim ?_; clear h; intro u26 h
      refine h.elim ?_; clear h; intro u27 h
      refine h.elim ?_; clear h; intro u28 h
      refine h.elim ?_; clear h; intro u29 h
      refine h.elim ?_; clear h; intro u30 h
      refine h.elim ?_; clear h; intro u31 h
      refine h.elim ?_; clear h; intro u32 h
      refine h.elim ?_; clear h; intro u33 h
      refine h.elim ?_; clear h; intro u34 h
      refine h.elim ?_; clear h; intro u35 h
      refine h.elim ?_; clear h; intro u36 h
      refine h.elim ?_; clear h; intro u37 h
      have hbb := h.1; replace h := h.2; subst hbb
      have hHeld := h.1; replace h := h.2
      have f0 := h.1; replace h := h.2
      have f1 := h.1; replace h := h.2
      have f2 := h.1; replace h := h.2
      have f3 := h.1; replace h := h.2
      have f4 := h.1; replace h := h.2
      have f5 := h.1; replace h := h.2
      have f6 := h.1; replace h := h.2
      have f7 := h.1; replace h := h.2
      have f8 := h.1; replace h := h.2
      have f9 := h.1; replace h := h.2
      have f10 := h.1; replace h := h.2
      have f11 := h.1; replace h := h.2
      have f12 := h.1; replace h := h.2
      have f13 := h.1; replace h := h.2
      have er := h; clear h
      intro K hK
      rw [if_pos (by kernel_rfl)]
      have q0 := cellB hHeld c0 hbw2
      have q1 := cellB hHeld c1 hbw2
      go_simp
      try simp only [Act.put, List.setIfInBounds_toArray, List.set_cons_zero, List.set_cons_succ]
      refine hK.out _ _ ⟨_, _, _, _, _, _, _, _, _, _, _, _, _, _, rfl, ?_, ?_, ?_, ?_, ?_, ?_, ?_, ?_, ?_, ?_, ?_, ?_, ?_, ?_, ?_, ?_⟩
      · first | exact hHeld | exact hHeld.trans (hb.mono hHeld.size) | (trace_state; fail)
      · first | exact flag_ne (by decide) f0 | exact fun _ => rfl
      · intro _; first | rfl | (trace_state; fail)
      · first | exact flag_ne (by decide) f2 | exact fun _ => rfl
      · first | exact flag_ne (by decide) f3 | exact fun _ => rfl
      · first | exact flag_ne (by decide) f4 | exact fun _ => rfl
      · first | exact flag_ne (by decide) f5 | exact fun _ => rfl
      · intro h; rw [getD_set_ne false (by decide)] at h; exact (getD_no h0 (hC.step (j := 3) (k := 1) (hC.step (j := 4) (k := 3) (hC.step (j := 5) (k := 4) (hC.step (j := 6) (k := 5) h (by kernel_rfl)) (by kernel_rfl)) (by kernel_rfl)) (by kernel_rfl))).elim
      · first | exact flag_ne (by decide) f7 | exact fun _ => rfl
      · first | exact flag_ne (by decide) f8 | exact fun _ => rfl
      · first | exact flag_ne (by decide) f9 | exact fun _ => rfl
      · first | exact flag_ne (by decide) f10 | exact fun _ => rfl
      · first | exact flag_ne (by decide) f11 | exact fun _ => rfl
      · intro h; rw [getD_set_ne false (by decide)] at h; exact (getD_no h0 (hC.step (j := 3) (k := 1) (hC.step (j := 4) (k := 3) (hC.step (j := 5) (k := 4) (hC.step (j := 6) (k := 5) (hC.step (j := 12) (k := 6) h (by kernel_rfl)) (by kernel_rfl)) (by kernel_rfl)) (by kernel_rfl)) (by kernel_rfl))).elim
      · intro h; rw [getD_set_ne false (by decide)] at h; exact (getD_no h0 (hC.step (j := 13) (k := 1) h (by kernel_rfl))).elim
      · intro h; rw [getD_set_ne false (by decide)] at h; have := er h; first | exact this | exact owns_below this hb | (trace_state; fail)
    · refine StepAt.mk (o := { dst := some 27, op := Op.move (Operand.tmp 5), type := 3, pos := _, after := #[], guard := none }) (ws := []) rfl (by kernel_rfl) ?_
      intro L b v hC h0 hA h
      refine h.elim ?_; clear h; intro u4 h
      refine h.elim ?_; clear h; intro u25 h
      refine h.elim ?_; clear h; intro u26 h
      refine h.elim ?_; clear h; intro u27 h
      refine h.elim ?_; clear h; intro u28 h
      refine h.elim ?_; clear h; intro u29 h
      refine h.elim ?_; clear h; intro u30 h
      refine h.elim ?_; clear h; intro u31 h
      refine h.elim ?_; clear h; intro u32 h
      refine h.elim ?_; clear h; intro u33 h
      refine h.elim ?_; clear h; intro u34 h
      refine h.elim ?_; clear h; intro u35 h
      refine h.elim ?_; clear h; intro u36 h
      refine h.elim ?_; clear h; intro u37 h
      have hbb := h.1; replace h := h.2; subst hbb
      have hHeld := h.1; replace h := h.2
      have f0 := h.1; replace h := h.2
      have f1 := h.1; replace h := h.2
      have f2 := h.1; replace h := h.2
      have f3 := h.1; replace h := h.2
      have f4 := h.1; replace h := h.2
      have f5 := h.1; replace h := h.2
      have f6 := h.1; replace h := h.2
      have f7 := h.1; replace h := h.2
      have f8 := h.1; replace h := h.2
      have f9 := h.1; replace h := h.2
      have f10 := h.1; replace h := h.2
      have f11 := h.1; replace h := h.2
      have f12 := h.1; replace h := h.2
      have f13 := h.1; replace h := h.2
      have er := h; clear h
      intro K hK
      rw [if_pos (by kernel_rfl)]
      have q0 := cellB hHeld c0 hbw2
      have q1 := cellB hHeld c1 hbw2
      go_simp
      try simp only [Act.put, List.setIfInBounds_toArray, List.set_cons_zero, List.set_cons_succ]
      refine hK.out _ _ ⟨_, _, _, _, _, _, _, _, _, _, _, _, _, _, rfl, ?_, ?_, ?_, ?_, ?_, ?_, ?_, ?_, ?_, ?_, ?_, ?_, ?_, ?_, ?_, ?_⟩
      · first | exact hHeld | exact hHeld.trans (hb.mono hHeld.size) | (trace_state; fail)
      · first | exact flag_ne (by decide) f0 | exact fun _ => rfl
      · first | exact flag_ne (by decide) f1 | exact fun _ => rfl
      · intro _; first | rfl | (trace_state; fail)
      · first | exact flag_ne (by decide) f3 | exact fun _ => rfl
      · first | exact flag_ne (by decide) f4 | exact fun _ => rfl
      · first | exact flag_ne (by decide) f5 | exact fun _ => rfl
      · intro h; rw [getD_set_ne false (by decide)] at h; exact (getD_no h0 (hC.step (j := 3) (k := 2) (hC.step (j := 4) (k := 3) (hC.step (j := 5) (k := 4) (hC.step (j := 6) (k := 5) h (by kernel_rfl)) (by kernel_rfl)) (by kernel_rfl)) (by kernel_rfl))).elim
      · first | exact flag_ne (by decide) f7 | exact fun _ => rfl
      · first | exact flag_ne (by decide) f8 | exact fun _ => rfl
      · first | exact flag_ne (by decide) f9 | exact fun _ => rfl
      · first | exact flag_ne (by decide) f10 | exact fun _ => rfl
      · first | exact flag_ne (by decide) f11 | exact fun _ => rfl
      · intro h; rw [getD_set_ne false (by decide)] at h; exact (getD_no h0 (hC.step (j := 3) (k := 2) (hC.step (j := 4) (k := 3) (hC.step (j := 5) (k := 4) (hC.step (j := 6) (k := 5) (hC.step (j := 12) (k := 6) h (by kernel_rfl)) (by kernel_rfl)) (by kernel_rfl)) (by kernel_rfl)) (by kernel_rfl))).elim
      · intro h; rw [getD_set_ne false (by decide)] at h; exact (getD_no h0 (hC.step (j := 13) (k := 2) h (by kernel_rfl))).elim
      · intro h; rw [getD_set_ne false (by decide)] at h; have := er h; first | exact this | exact owns_below this hb | (trace_state; fail)
    · refine StepAt.mk (o := { dst := some 28, op := Op.indexAddr 22 (Operand.tmp 26) (Operand.tmp 27), type := 0, pos := _, after := #[{ on := 1, ground := Ground.data }, { on := 2, ground := Ground.data }], guard := none }) (ws := [1, 2]) rfl (by kernel_rfl) ?_
      intro L b v hC h0 hA h
      refine h.elim ?_; clear h; intro u4 h
      refine h.elim ?_; clear h; intro u25 h
      refine h.elim ?_; clear h; intro u26 h
      refine h.elim ?_; clear h; intro u27 h
      refine h.elim ?_; clear h; intro u28 h
      refine h.elim ?_; clear h; intro u29 h
      refine h.elim ?_; clear h; intro u30 h
      refine h.elim ?_; clear h; intro u31 h
      refine h.elim ?_; clear h; intro u32 h
      refine h.elim ?_; clear h; intro u33 h
      refine h.elim ?_; clear h; intro u34 h
      refine h.elim ?_; clear h; intro u35 h
      refine h.elim ?_; clear h; intro u36 h
      refine h.elim ?_; clear h; intro u37 h
      have hbb := h.1; replace h := h.2; subst hbb
      have hHeld := h.1; replace h := h.2
      have f0 := h.1; replace h := h.2
      have f1 := h.1; replace h := h.2
      have f2 := h.1; replace h := h.2
      have f3 := h.1; replace h := h.2
      have f4 := h.1; replace h := h.2
      have f5 := h.1; replace h := h.2
      have f6 := h.1; replace h := h.2
      have f7 := h.1; replace h := h.2
      have f8 := h.1; replace h := h.2
      have f9 := h.1; replace h := h.2
      have f10 := h.1; replace h := h.2
      have f11 := h.1; replace h := h.2
      have f12 := h.1; replace h := h.2
      have f13 := h.1; replace h := h.2
      have er := h; clear h
      intro K hK
      have g1 := f1 (hA 1 (by simp))
      obtain rfl := g1
      have g2 := f2 (hA 2 (by simp))
      obtain rfl := g2
      rw [if_pos (by kernel_rfl)]
      have q0 := cellB hHeld c0 hbw2
      have q1 := cellB hHeld c1 hbw2
      go_simp
      try simp only [Act.put, List.setIfInBounds_toArray, List.set_cons_zero, List.set_cons_succ]
      refine hK.out _ _ ⟨_, _, _, _, _, _, _, _, _, _, _, _, _, _, rfl, ?_, ?_, ?_, ?_, ?_, ?_, ?_, ?_, ?_, ?_, ?_, ?_, ?_, ?_, ?_, ?_⟩
      · first | exact hHeld | exact hHeld.trans (hb.mono hHeld.size) | (trace_state; fail)
      · first | exact flag_ne (by decide) f0 | exact fun _ => rfl
      · first | exact flag_ne (by decide) f1 | exact fun _ => rfl
      · first | exact flag_ne (by decide) f2 | exact fun _ => rfl
      · intro _; first | rfl | (trace_state; fail)
      · first | exact flag_ne (by decide) f4 | exact fun _ => rfl
      · first | exact flag_ne (by decide) f5 | exact fun _ => rfl
      · intro h; rw [getD_set_ne false (by decide)] at h; exact (getD_no h0 (hC.step (j := 4) (k := 3) (hC.step (j := 5) (k := 4) (hC.step (j := 6) (k := 5) h (by kernel_rfl)) (by kernel_rfl)) (by kernel_rfl))).elim
      · first | exact flag_ne (by decide) f7 | exact fun _ => rfl
      · first | exact flag_ne (by decide) f8 | exact fun _ => rfl
      · first | exact flag_ne (by decide) f9 | exact fun _ => rfl
      · first | exact flag_ne (by decide) f10 | exact fun _ => rfl
      · first | exact flag_ne (by decide) f11 | exact fun _ => rfl
      · intro h; rw [getD_set_ne false (by decide)] at h; exact (getD_no h0 (hC.step (j := 4) (k := 3) (hC.step (j := 5) (k := 4) (hC.step (j := 6) (k := 5) (hC.step (j := 12) (k := 6) h (by kernel_rfl)) (by kernel_rfl)) (by kernel_rfl)) (by kernel_rfl))).elim
      · intro h; rw [getD_set_ne false (by decide)] at h; exact (getD_no h0 (hC.step (j := 13) (k := 3) h (by kernel_rfl))).elim
      · intro h; rw [getD_set_ne false (by decide)] at h; have := er h; first | exact this | exact owns_below this hb | (trace_state; fail)
    · refine StepAt.mk (o := { dst := some 29, op := Op.fieldAddr 61 (Operand.tmp 28) 0, type := 0, pos := _, after := #[{ on := 3, ground := Ground.data }], guard := none }) (ws := [3]) rfl (by kernel_rfl) ?_
      intro L b v hC h0 hA h
      refine h.elim ?_; clear h; intro u4 h
      refine h.elim ?_; clear h; intro u25 h
      refine h.elim ?_; clear h; intro u26 h
      refine h.elim ?_; clear h; intro u27 h
      refine h.elim ?_; clear h; intro u28 h
      refine h.elim ?_; clear h; intro u29 h
      refine h.elim ?_; clear h; intro u30 h
      refine h.elim ?_; clear h; intro u31 h
      refine h.elim ?_; clear h; intro u32 h
      refine h.elim ?_; clear h; intro u33 h
      refine h.elim ?_; clear h; intro u34 h
      refine h.elim ?_; clear h; intro u35 h
      refine h.elim ?_; clear h; intro u36 h
      refine h.elim ?_; clear h; intro u37 h
      have hbb := h.1; replace h := h.2; subst hbb
      have hHeld := h.1; replace h := h.2
      have f0 := h.1; replace h := h.2
      have f1 := h.1; replace h := h.2
      have f2 := h.1; replace h := h.2
      have f3 := h.1; replace h := h.2
      have f4 := h.1; replace h := h.2
      have f5 := h.1; replace h := h.2
      have f6 := h.1; replace h := h.2
      have f7 := h.1; replace h := h.2
      have f8 := h.1; replace h := h.2
      have f9 := h.1; replace h := h.2
      have f10 := h.1; replace h := h.2
      have f11 := h.1; replace h := h.2
      have f12 := h.1; replace h := h.2
      have f13 := h.1; replace h := h.2
      have er := h; clear h
      intro K hK
      have g3 := f3 (hA 3 (by simp))
      obtain rfl := g3
      rw [if_pos (by kernel_rfl)]
      have q0 := cellB hHeld c0 hbw2
      have q1 := cellB hHeld c1 hbw2
      go_simp
      try simp only [Act.put, List.setIfInBounds_toArray, List.set_cons_zero, List.set_cons_succ]
      refine hK.out _ _ ⟨_, _, _, _, _, _, _, _, _, _, _, _, _, _, rfl, ?_, ?_, ?_, ?_, ?_, ?_, ?_, ?_, ?_, ?_, ?_, ?_, ?_, ?_, ?_, ?_⟩
      · first | exact hHeld | exact hHeld.trans (hb.mono hHeld.size) | (trace_state; fail)
      · first | exact flag_ne (by decide) f0 | exact fun _ => rfl
      · first | exact flag_ne (by decide) f1 | exact fun _ => rfl
      · first | exact flag_ne (by decide) f2 | exact fun _ => rfl
      · first | exact flag_ne (by decide) f3 | exact fun _ => rfl
      · intro _; first | rfl | (trace_state; fail)
      · first | exact flag_ne (by decide) f5 | exact fun _ => rfl
      · intro h; rw [getD_set_ne false (by decide)] at h; exact (getD_no h0 (hC.step (j := 5) (k := 4) (hC.step (j := 6) (k := 5) h (by kernel_rfl)) (by kernel_rfl))).elim
      · first | exact flag_ne (by decide) f7 | exact fun _ => rfl
      · first | exact flag_ne (by decide) f8 | exact fun _ => rfl
      · first | exact flag_ne (by decide) f9 | exact fun _ => rfl
      · first | exact flag_ne (by decide) f10 | exact fun _ => rfl
      · first | exact flag_ne (by decide) f11 | exact fun _ => rfl
      · intro h; rw [getD_set_ne false (by decide)] at h; exact (getD_no h0 (hC.step (j := 5) (k := 4) (hC.step (j := 6) (k := 5) (hC.step (j := 12) (k := 6) h (by kernel_rfl)) (by kernel_rfl)) (by kernel_rfl))).elim
      · intro h; rw [getD_set_ne false (by decide)] at h; exact (getD_no h0 (hC.step (j := 13) (k := 4) h (by kernel_rfl))).elim
      · intro h; rw [getD_set_ne false (by decide)] at h; have := er h; first | exact this | exact owns_below this hb | (trace_state; fail)
    · refine StepAt.mk (o := { dst := some 30, op := Op.load 3 (Operand.tmp 29), type := 3, pos := _, after := #[{ on := 4, ground := Ground.data }], guard := none }) (ws := [4]) rfl (by kernel_rfl) ?_
      intro L b v hC h0 hA h
      refine h.elim ?_; clear h; intro u4 h
      refine h.elim ?_; clear h; intro u25 h
      refine h.elim ?_; clear h; intro u26 h
      refine h.elim ?_; clear h; intro u27 h
      refine h.elim ?_; clear h; intro u28 h
      refine h.elim ?_; clear h; intro u29 h
      refine h.elim ?_; clear h; intro u30 h
      refine h.elim ?_; clear h; intro u31 h
      refine h.elim ?_; clear h; intro u32 h
      refine h.elim ?_; clear h; intro u33 h
      refine h.elim ?_; clear h; intro u34 h
      refine h.elim ?_; clear h; intro u35 h
      refine h.elim ?_; clear h; intro u36 h
      refine h.elim ?_; clear h; intro u37 h
      have hbb := h.1; replace h := h.2; subst hbb
      have hHeld := h.1; replace h := h.2
      have f0 := h.1; replace h := h.2
      have f1 := h.1; replace h := h.2
      have f2 := h.1; replace h := h.2
      have f3 := h.1; replace h := h.2
      have f4 := h.1; replace h := h.2
      have f5 := h.1; replace h := h.2
      have f6 := h.1; replace h := h.2
      have f7 := h.1; replace h := h.2
      have f8 := h.1; replace h := h.2
      have f9 := h.1; replace h := h.2
      have f10 := h.1; replace h := h.2
      have f11 := h.1; replace h := h.2
      have f12 := h.1; replace h := h.2
      have f13 := h.1; replace h := h.2
      have er := h; clear h
      intro K hK
      have g4 := f4 (hA 4 (by simp))
      obtain rfl := g4
      rw [if_pos (by kernel_rfl)]
      have q0 := cellB hHeld c0 hbw2
      have q1 := cellB hHeld c1 hbw2
      go_simp
      try simp only [Act.put, List.setIfInBounds_toArray, List.set_cons_zero, List.set_cons_succ]
      refine hK.out _ _ ⟨_, _, _, _, _, _, _, _, _, _, _, _, _, _, rfl, ?_, ?_, ?_, ?_, ?_, ?_, ?_, ?_, ?_, ?_, ?_, ?_, ?_, ?_, ?_, ?_⟩
      · first | exact hHeld | exact hHeld.trans (hb.mono hHeld.size) | (trace_state; fail)
      · first | exact flag_ne (by decide) f0 | exact fun _ => rfl
      · first | exact flag_ne (by decide) f1 | exact fun _ => rfl
      · first | exact flag_ne (by decide) f2 | exact fun _ => rfl
      · first | exact flag_ne (by decide) f3 | exact fun _ => rfl
      · first | exact flag_ne (by decide) f4 | exact fun _ => rfl
      · intro _; first | rfl | (trace_state; fail)
      · intro h; rw [getD_set_ne false (by decide)] at h; exact (getD_no h0 (hC.step (j := 6) (k := 5) h (by kernel_rfl))).elim
      · first | exact flag_ne (by decide) f7 | exact fun _ => rfl
      · first | exact flag_ne (by decide) f8 | exact fun _ => rfl
      · first | exact flag_ne (by decide) f9 | exact fun _ => rfl
      · first | exact flag_ne (by decide) f10 | exact fun _ => rfl
      · first | exact flag_ne (by decide) f11 | exact fun _ => rfl
      · intro h; rw [getD_set_ne false (by decide)] at h; exact (getD_no h0 (hC.step (j := 6) (k := 5) (hC.step (j := 12) (k := 6) h (by kernel_rfl)) (by kernel_rfl))).elim
      · intro h; rw [getD_set_ne false (by decide)] at h; exact (getD_no h0 (hC.step (j := 13) (k := 5) h (by kernel_rfl))).elim
      · intro h; rw [getD_set_ne false (by decide)] at h; have := er h; first | exact this | exact owns_below this hb | (trace_state; fail)
    · refine StepAt.mk (o := { dst := some 31, op := Op.call { callee := Callee.value (Operand.func 28), args := #[Operand.tmp 25, Operand.const (Value.int IntKind.i64 1), Operand.tmp 30], argTypes := #[30, 3, 3] }, type := 30, pos := _, after := #[{ on := 0, ground := Ground.data }, { on := 5, ground := Ground.data }], guard := none }) (ws := [0, 5]) rfl (by kernel_rfl) ?_
      intro L b v hC h0 hA h
      refine h.elim ?_; clear h; intro u4 h
      refine h.elim ?_; clear h; intro u25 h
      refine h.elim ?_; clear h; intro u26 h
      refine h.elim ?_; clear h; intro u27 h
      refine h.elim ?_; clear h; intro u28 h
      refine h.elim ?_; clear h; intro u29 h
      refine h.elim ?_; clear h; intro u30 h
      refine h.elim ?_; clear h; intro u31 h
      refine h.elim ?_; clear h; intro u32 h
      refine h.elim ?_; clear h; intro u33 h
      refine h.elim ?_; clear h; intro u34 h
      refine h.elim ?_; clear h; intro u35 h
      refine h.elim ?_; clear h; intro u36 h
      refine h.elim ?_; clear h; intro u37 h
      have hbb := h.1; replace h := h.2; subst hbb
      have hHeld := h.1; replace h := h.2
      have f0 := h.1; replace h := h.2
      have f1 := h.1; replace h := h.2
      have f2 := h.1; replace h := h.2
      have f3 := h.1; replace h := h.2
      have f4 := h.1; replace h := h.2
      have f5 := h.1; replace h := h.2
      have f6 := h.1; replace h := h.2
      have f7 := h.1; replace h := h.2
      have f8 := h.1; replace h := h.2
      have f9 := h.1; replace h := h.2
      have f10 := h.1; replace h := h.2
      have f11 := h.1; replace h := h.2
      have f12 := h.1; replace h := h.2
      have f13 := h.1; replace h := h.2
      have er := h; clear h
      intro K hK
      have g0 := f0 (hA 0 (by simp))
      obtain rfl := g0
      have g5 := f5 (hA 5 (by simp))
      obtain rfl := g5
      rw [if_pos (by kernel_rfl)]
      have q0 := cellB hHeld c0 hbw2
      have q1 := cellB hHeld c1 hbw2
      go_simp
      refine (ref03_Put1 _ l x.1 v (HL.out v hHeld) (by omega)).mono ?_; rintro e v1 ⟨r, rfl, HO, hb⟩
      go_wp2_with fail
      try simp only [Act.put, List.setIfInBounds_toArray, List.set_cons_zero, List.set_cons_succ]
      refine hK.out _ _ ⟨_, _, _, _, _, _, _, _, _, _, _, _, _, _, rfl, ?_, ?_, ?_, ?_, ?_, ?_, ?_, ?_, ?_, ?_, ?_, ?_, ?_, ?_, ?_, ?_⟩
      · first | exact hHeld | exact hHeld.trans (hb.mono hHeld.size) | (trace_state; fail)
      · first | exact flag_ne (by decide) f0 | exact fun _ => rfl
      · first | exact flag_ne (by decide) f1 | exact fun _ => rfl
      · first | exact flag_ne (by decide) f2 | exact fun _ => rfl
      · first | exact flag_ne (by decide) f3 | exact fun _ => rfl
      · first | exact flag_ne (by decide) f4 | exact fun _ => rfl
      · first | exact flag_ne (by decide) f5 | exact fun _ => rfl
      · intro _; first | exact own_low HO hHeld.size | (trace_state; fail)
      · first | exact flag_ne (by decide) f7 | exact fun _ => rfl
      · first | exact flag_ne (by decide) f8 | exact fun _ => rfl
      · first | exact flag_ne (by decide) f9 | exact fun _ => rfl
      · first | exact flag_ne (by decide) f10 | exact fun _ => rfl
      · first | exact flag_ne (by decide) f11 | exact fun _ => rfl
      · intro h; rw [getD_set_ne false (by decide)] at h; exact (getD_no h0 (hC.step (j := 12) (k := 6) h (by kernel_rfl))).elim
      · intro h; rw [getD_set_ne false (by decide)] at h; exact (getD_no h0 (hC.step (j := 13) (k := 6) h (by kernel_rfl))).elim
      · intro h; rw [getD_set_ne false (by decide)] at h; have := er h; first | exact this | exact owns_below this hb | (trace_state; fail)
    · refine StepAt.mk (o := { dst := some 32, op := Op.move (Operand.tmp 0), type := 22, pos := _, after := #[], guard := none }) (ws := []) rfl (by kernel_rfl) ?_
      intro L b v hC h0 hA h
      refine h.elim ?_; clear h; intro u4 h
      refine h.elim ?_; clear h; intro u25 h
      refine h.elim ?_; clear h; intro u26 h
      refine h.elim ?_; clear h; intro u27 h
      refine h.elim ?_; clear h; intro u28 h
      refine h.elim ?_; clear h; intro u29 h
      refine h.elim ?_; clear h; intro u30 h
      refine h.elim ?_; clear h; intro u31 h
      refine h.elim ?_; clear h; intro u32 h
      refine h.elim ?_; clear h; intro u33 h
      refine h.elim ?_; clear h; intro u34 h
      refine h.elim ?_; clear h; intro u35 h
      refine h.elim ?_; clear h; intro u36 h
      refine h.elim ?_; clear h; intro u37 h
      have hbb := h.1; replace h := h.2; subst hbb
      have hHeld := h.1; replace h := h.2
      have f0 := h.1; replace h := h.2
      have f1 := h.1; replace h := h.2
      have f2 := h.1; replace h := h.2
      have f3 := h.1; replace h := h.2
      have f4 := h.1; replace h := h.2
      have f5 := h.1; replace h := h.2
      have f6 := h.1; replace h := h.2
      have f7 := h.1; replace h := h.2
      have f8 := h.1; replace h := h.2
      have f9 := h.1; replace h := h.2
      have f10 := h.1; replace h := h.2
      have f11 := h.1; replace h := h.2
      have f12 := h.1; replace h := h.2
      have f13 := h.1; replace h := h.2
      have er := h; clear h
      intro K hK
      rw [if_pos (by kernel_rfl)]
      have q0 := cellB hHeld c0 hbw2
      have q1 := cellB hHeld c1 hbw2
      go_simp
      try simp only [Act.put, List.setIfInBounds_toArray, List.set_cons_zero, List.set_cons_succ]
      refine hK.out _ _ ⟨_, _, _, _, _, _, _, _, _, _, _, _, _, _, rfl, ?_, ?_, ?_, ?_, ?_, ?_, ?_, ?_, ?_, ?_, ?_, ?_, ?_, ?_, ?_, ?_⟩
      · first | exact hHeld | exact hHeld.trans (hb.mono hHeld.size) | (trace_state; fail)
      · first | exact flag_ne (by decide) f0 | exact fun _ => rfl
      · first | exact flag_ne (by decide) f1 | exact fun _ => rfl
      · first | exact flag_ne (by decide) f2 | exact fun _ => rfl
      · first | exact flag_ne (by decide) f3 | exact fun _ => rfl
      · first | exact flag_ne (by decide) f4 | exact fun _ => rfl
      · first | exact flag_ne (by decide) f5 | exact fun _ => rfl
      · intro h; rw [getD_set_ne false (by decide)] at h; have := f6 h; first | exact this | exact owns_below this hb | (trace_state; fail)
      · intro _; first | rfl | (trace_state; fail)
      · first | exact flag_ne (by decide) f8 | exact fun _ => rfl
      · first | exact flag_ne (by decide) f9 | exact fun _ => rfl
      · first | exact flag_ne (by decide) f10 | exact fun _ => rfl
      · first | exact flag_ne (by decide) f11 | exact fun _ => rfl
      · intro h; rw [getD_set_ne false (by decide)] at h; exact (getD_no h0 (hC.step (j := 9) (k := 7) (hC.step (j := 10) (k := 9) (hC.step (j := 11) (k := 10) (hC.step (j := 12) (k := 11) h (by kernel_rfl)) (by kernel_rfl)) (by kernel_rfl)) (by kernel_rfl))).elim
      · intro h; rw [getD_set_ne false (by decide)] at h; exact (getD_no h0 (hC.step (j := 13) (k := 7) h (by kernel_rfl))).elim
      · intro h; rw [getD_set_ne false (by decide)] at h; have := er h; first | exact this | exact owns_below this hb | (trace_state; fail)
    · refine StepAt.mk (o := { dst := some 33, op := Op.move (Operand.tmp 5), type := 3, pos := _, after := #[], guard := none }) (ws := []) rfl (by kernel_rfl) ?_
      intro L b v hC h0 hA h
      refine h.elim ?_; clear h; intro u4 h
      refine h.elim ?_; clear h; intro u25 h
      refine h.elim ?_; clear h; intro u26 h
      refine h.elim ?_; clear h; intro u27 h
      refine h.elim ?_; clear h; intro u28 h
      refine h.elim ?_; clear h; intro u29 h
      refine h.elim ?_; clear h; intro u30 h
      refine h.elim ?_; clear h; intro u31 h
      refine h.elim ?_; clear h; intro u32 h
      refine h.elim ?_; clear h; intro u33 h
      refine h.elim ?_; clear h; intro u34 h
      refine h.elim ?_; clear h; intro u35 h
      refine h.elim ?_; clear h; intro u36 h
      refine h.elim ?_; clear h; intro u37 h
      have hbb := h.1; replace h := h.2; subst hbb
      have hHeld := h.1; replace h := h.2
      have f0 := h.1; replace h := h.2
      have f1 := h.1; replace h := h.2
      have f2 := h.1; replace h := h.2
      have f3 := h.1; replace h := h.2
      have f4 := h.1; replace h := h.2
      have f5 := h.1; replace h := h.2
      have f6 := h.1; replace h := h.2
      have f7 := h.1; replace h := h.2
      have f8 := h.1; replace h := h.2
      have f9 := h.1; replace h := h.2
      have f10 := h.1; replace h := h.2
      have f11 := h.1; replace h := h.2
      have f12 := h.1; replace h := h.2
      have f13 := h.1; replace h := h.2
      have er := h; clear h
      intro K hK
      rw [if_pos (by kernel_rfl)]
      have q0 := cellB hHeld c0 hbw2
      have q1 := cellB hHeld c1 hbw2
      go_simp
      try simp only [Act.put, List.setIfInBounds_toArray, List.set_cons_zero, List.set_cons_succ]
      refine hK.out _ _ ⟨_, _, _, _, _, _, _, _, _, _, _, _, _, _, rfl, ?_, ?_, ?_, ?_, ?_, ?_, ?_, ?_, ?_, ?_, ?_, ?_, ?_, ?_, ?_, ?_⟩
      · first | exact hHeld | exact hHeld.trans (hb.mono hHeld.size) | (trace_state; fail)
      · first | exact flag_ne (by decide) f0 | exact fun _ => rfl
      · first | exact flag_ne (by decide) f1 | exact fun _ => rfl
      · first | exact flag_ne (by decide) f2 | exact fun _ => rfl
      · first | exact flag_ne (by decide) f3 | exact fun _ => rfl
      · first | exact flag_ne (by decide) f4 | exact fun _ => rfl
      · first | exact flag_ne (by decide) f5 | exact fun _ => rfl
      · intro h; rw [getD_set_ne false (by decide)] at h; have := f6 h; first | exact this | exact owns_below this hb | (trace_state; fail)
      · first | exact flag_ne (by decide) f7 | exact fun _ => rfl
      · intro _; first | rfl | (trace_state; fail)
      · first | exact flag_ne (by decide) f9 | exact fun _ => rfl
      · first | exact flag_ne (by decide) f10 | exact fun _ => rfl
      · first | exact flag_ne (by decide) f11 | exact fun _ => rfl
      · intro h; rw [getD_set_ne false (by decide)] at h; exact (getD_no h0 (hC.step (j := 9) (k := 8) (hC.step (j := 10) (k := 9) (hC.step (j := 11) (k := 10) (hC.step (j := 12) (k := 11) h (by kernel_rfl)) (by kernel_rfl)) (by kernel_rfl)) (by kernel_rfl))).elim
      · intro h; rw [getD_set_ne false (by decide)] at h; exact (getD_no h0 (hC.step (j := 13) (k := 8) h (by kernel_rfl))).elim
      · intro h; rw [getD_set_ne false (by decide)] at h; have := er h; first | exact this | exact owns_below this hb | (trace_state; fail)
    · refine StepAt.mk (o := { dst := some 34, op := Op.indexAddr 22 (Operand.tmp 32) (Operand.tmp 33), type := 0, pos := _, after := #[{ on := 7, ground := Ground.data }, { on := 8, ground := Ground.data }], guard := none }) (ws := [7, 8]) rfl (by kernel_rfl) ?_
      intro L b v hC h0 hA h
      refine h.elim ?_; clear h; intro u4 h
      refine h.elim ?_; clear h; intro u25 h
      refine h.elim ?_; clear h; intro u26 h
      refine h.elim ?_; clear h; intro u27 h
      refine h.elim ?_; clear h; intro u28 h
      refine h.elim ?_; clear h; intro u29 h
      refine h.elim ?_; clear h; intro u30 h
      refine h.elim ?_; clear h; intro u31 h
      refine h.elim ?_; clear h; intro u32 h
      refine h.elim ?_; clear h; intro u33 h
      refine h.elim ?_; clear h; intro u34 h
      refine h.elim ?_; clear h; intro u35 h
      refine h.elim ?_; clear h; intro u36 h
      refine h.elim ?_; clear h; intro u37 h
      have hbb := h.1; replace h := h.2; subst hbb
      have hHeld := h.1; replace h := h.2
      have f0 := h.1; replace h := h.2
      have f1 := h.1; replace h := h.2
      have f2 := h.1; replace h := h.2
      have f3 := h.1; replace h := h.2
      have f4 := h.1; replace h := h.2
      have f5 := h.1; replace h := h.2
      have f6 := h.1; replace h := h.2
      have f7 := h.1; replace h := h.2
      have f8 := h.1; replace h := h.2
      have f9 := h.1; replace h := h.2
      have f10 := h.1; replace h := h.2
      have f11 := h.1; replace h := h.2
      have f12 := h.1; replace h := h.2
      have f13 := h.1; replace h := h.2
      have er := h; clear h
      intro K hK
      have g7 := f7 (hA 7 (by simp))
      obtain rfl := g7
      have g8 := f8 (hA 8 (by simp))
      obtain rfl := g8
      rw [if_pos (by kernel_rfl)]
      have q0 := cellB hHeld c0 hbw2
      have q1 := cellB hHeld c1 hbw2
      go_simp
      try simp only [Act.put, List.setIfInBounds_toArray, List.set_cons_zero, List.set_cons_succ]
      refine hK.out _ _ ⟨_, _, _, _, _, _, _, _, _, _, _, _, _, _, rfl, ?_, ?_, ?_, ?_, ?_, ?_, ?_, ?_, ?_, ?_, ?_, ?_, ?_, ?_, ?_, ?_⟩
      · first | exact hHeld | exact hHeld.trans (hb.mono hHeld.size) | (trace_state; fail)
      · first | exact flag_ne (by decide) f0 | exact fun _ => rfl
      · first | exact flag_ne (by decide) f1 | exact fun _ => rfl
      · first | exact flag_ne (by decide) f2 | exact fun _ => rfl
      · first | exact flag_ne (by decide) f3 | exact fun _ => rfl
      · first | exact flag_ne (by decide) f4 | exact fun _ => rfl
      · first | exact flag_ne (by decide) f5 | exact fun _ => rfl
      · intro h; rw [getD_set_ne false (by decide)] at h; have := f6 h; first | exact this | exact owns_below this hb | (trace_state; fail)
      · first | exact flag_ne (by decide) f7 | exact fun _ => rfl
      · first | exact flag_ne (by decide) f8 | exact fun _ => rfl
      · intro _; first | rfl | (trace_state; fail)
      · first | exact flag_ne (by decide) f10 | exact fun _ => rfl
      · first | exact flag_ne (by decide) f11 | exact fun _ => rfl
      · intro h; rw [getD_set_ne false (by decide)] at h; exact (getD_no h0 (hC.step (j := 10) (k := 9) (hC.step (j := 11) (k := 10) (hC.step (j := 12) (k := 11) h (by kernel_rfl)) (by kernel_rfl)) (by kernel_rfl))).elim
      · intro h; rw [getD_set_ne false (by decide)] at h; exact (getD_no h0 (hC.step (j := 13) (k := 9) h (by kernel_rfl))).elim
      · intro h; rw [getD_set_ne false (by decide)] at h; have := er h; first | exact this | exact owns_below this hb | (trace_state; fail)
    · refine StepAt.mk (o := { dst := some 35, op := Op.fieldAddr 61 (Operand.tmp 34) 1, type := 0, pos := _, after := #[{ on := 9, ground := Ground.data }], guard := none }) (ws := [9]) rfl (by kernel_rfl) ?_
      intro L b v hC h0 hA h
      refine h.elim ?_; clear h; intro u4 h
      refine h.elim ?_; clear h; intro u25 h
      refine h.elim ?_; clear h; intro u26 h
      refine h.elim ?_; clear h; intro u27 h
      refine h.elim ?_; clear h; intro u28 h
      refine h.elim ?_; clear h; intro u29 h
      refine h.elim ?_; clear h; intro u30 h
      refine h.elim ?_; clear h; intro u31 h
      refine h.elim ?_; clear h; intro u32 h
      refine h.elim ?_; clear h; intro u33 h
      refine h.elim ?_; clear h; intro u34 h
      refine h.elim ?_; clear h; intro u35 h
      refine h.elim ?_; clear h; intro u36 h
      refine h.elim ?_; clear h; intro u37 h
      have hbb := h.1; replace h := h.2; subst hbb
      have hHeld := h.1; replace h := h.2
      have f0 := h.1; replace h := h.2
      have f1 := h.1; replace h := h.2
      have f2 := h.1; replace h := h.2
      have f3 := h.1; replace h := h.2
      have f4 := h.1; replace h := h.2
      have f5 := h.1; replace h := h.2
      have f6 := h.1; replace h := h.2
      have f7 := h.1; replace h := h.2
      have f8 := h.1; replace h := h.2
      have f9 := h.1; replace h := h.2
      have f10 := h.1; replace h := h.2
      have f11 := h.1; replace h := h.2
      have f12 := h.1; replace h := h.2
      have f13 := h.1; replace h := h.2
      have er := h; clear h
      intro K hK
      have g9 := f9 (hA 9 (by simp))
      obtain rfl := g9
      rw [if_pos (by kernel_rfl)]
      have q0 := cellB hHeld c0 hbw2
      have q1 := cellB hHeld c1 hbw2
      go_simp
      try simp only [Act.put, List.setIfInBounds_toArray, List.set_cons_zero, List.set_cons_succ]
      refine hK.out _ _ ⟨_, _, _, _, _, _, _, _, _, _, _, _, _, _, rfl, ?_, ?_, ?_, ?_, ?_, ?_, ?_, ?_, ?_, ?_, ?_, ?_, ?_, ?_, ?_, ?_⟩
      · first | exact hHeld | exact hHeld.trans (hb.mono hHeld.size) | (trace_state; fail)
      · first | exact flag_ne (by decide) f0 | exact fun _ => rfl
      · first | exact flag_ne (by decide) f1 | exact fun _ => rfl
      · first | exact flag_ne (by decide) f2 | exact fun _ => rfl
      · first | exact flag_ne (by decide) f3 | exact fun _ => rfl
      · first | exact flag_ne (by decide) f4 | exact fun _ => rfl
      · first | exact flag_ne (by decide) f5 | exact fun _ => rfl
      · intro h; rw [getD_set_ne false (by decide)] at h; have := f6 h; first | exact this | exact owns_below this hb | (trace_state; fail)
      · first | exact flag_ne (by decide) f7 | exact fun _ => rfl
      · first | exact flag_ne (by decide) f8 | exact fun _ => rfl
      · first | exact flag_ne (by decide) f9 | exact fun _ => rfl
      · intro _; first | rfl | (trace_state; fail)
      · first | exact flag_ne (by decide) f11 | exact fun _ => rfl
      · intro h; rw [getD_set_ne false (by decide)] at h; exact (getD_no h0 (hC.step (j := 11) (k := 10) (hC.step (j := 12) (k := 11) h (by kernel_rfl)) (by kernel_rfl))).elim
      · intro h; rw [getD_set_ne false (by decide)] at h; exact (getD_no h0 (hC.step (j := 13) (k := 10) h (by kernel_rfl))).elim
      · intro h; rw [getD_set_ne false (by decide)] at h; have := er h; first | exact this | exact owns_below this hb | (trace_state; fail)
    · refine StepAt.mk (o := { dst := some 36, op := Op.load 3 (Operand.tmp 35), type := 3, pos := _, after := #[{ on := 10, ground := Ground.data }], guard := none }) (ws := [10]) rfl (by kernel_rfl) ?_
      intro L b v hC h0 hA h
      refine h.elim ?_; clear h; intro u4 h
      refine h.elim ?_; clear h; intro u25 h
      refine h.elim ?_; clear h; intro u26 h
      refine h.elim ?_; clear h; intro u27 h
      refine h.elim ?_; clear h; intro u28 h
      refine h.elim ?_; clear h; intro u29 h
      refine h.elim ?_; clear h; intro u30 h
      refine h.elim ?_; clear h; intro u31 h
      refine h.elim ?_; clear h; intro u32 h
      refine h.elim ?_; clear h; intro u33 h
      refine h.elim ?_; clear h; intro u34 h
      refine h.elim ?_; clear h; intro u35 h
      refine h.elim ?_; clear h; intro u36 h
      refine h.elim ?_; clear h; intro u37 h
      have hbb := h.1; replace h := h.2; subst hbb
      have hHeld := h.1; replace h := h.2
      have f0 := h.1; replace h := h.2
      have f1 := h.1; replace h := h.2
      have f2 := h.1; replace h := h.2
      have f3 := h.1; replace h := h.2
      have f4 := h.1; replace h := h.2
      have f5 := h.1; replace h := h.2
      have f6 := h.1; replace h := h.2
      have f7 := h.1; replace h := h.2
      have f8 := h.1; replace h := h.2
      have f9 := h.1; replace h := h.2
      have f10 := h.1; replace h := h.2
      have f11 := h.1; replace h := h.2
      have f12 := h.1; replace h := h.2
      have f13 := h.1; replace h := h.2
      have er := h; clear h
      intro K hK
      have g10 := f10 (hA 10 (by simp))
      obtain rfl := g10
      rw [if_pos (by kernel_rfl)]
      have q0 := cellB hHeld c0 hbw2
      have q1 := cellB hHeld c1 hbw2
      go_simp
      try simp only [Act.put, List.setIfInBounds_toArray, List.set_cons_zero, List.set_cons_succ]
      refine hK.out _ _ ⟨_, _, _, _, _, _, _, _, _, _, _, _, _, _, rfl, ?_, ?_, ?_, ?_, ?_, ?_, ?_, ?_, ?_, ?_, ?_, ?_, ?_, ?_, ?_, ?_⟩
      · first | exact hHeld | exact hHeld.trans (hb.mono hHeld.size) | (trace_state; fail)
      · first | exact flag_ne (by decide) f0 | exact fun _ => rfl
      · first | exact flag_ne (by decide) f1 | exact fun _ => rfl
      · first | exact flag_ne (by decide) f2 | exact fun _ => rfl
      · first | exact flag_ne (by decide) f3 | exact fun _ => rfl
      · first | exact flag_ne (by decide) f4 | exact fun _ => rfl
      · first | exact flag_ne (by decide) f5 | exact fun _ => rfl
      · intro h; rw [getD_set_ne false (by decide)] at h; have := f6 h; first | exact this | exact owns_below this hb | (trace_state; fail)
      · first | exact flag_ne (by decide) f7 | exact fun _ => rfl
      · first | exact flag_ne (by decide) f8 | exact fun _ => rfl
      · first | exact flag_ne (by decide) f9 | exact fun _ => rfl
      · first | exact flag_ne (by decide) f10 | exact fun _ => rfl
      · intro _; first | rfl | (trace_state; fail)
      · intro h; rw [getD_set_ne false (by decide)] at h; exact (getD_no h0 (hC.step (j := 12) (k := 11) h (by kernel_rfl))).elim
      · intro h; rw [getD_set_ne false (by decide)] at h; exact (getD_no h0 (hC.step (j := 13) (k := 11) h (by kernel_rfl))).elim
      · intro h; rw [getD_set_ne false (by decide)] at h; have := er h; first | exact this | exact owns_below this hb | (trace_state; fail)
    · refine StepAt.mk (o := { dst := some 37, op := Op.call { callee := Callee.value (Operand.func 28), args := #[Operand.tmp 31, Operand.const (Value.int IntKind.i64 8), Operand.tmp 36], argTypes := #[30, 3, 3] }, type := 30, pos := _, after := #[{ on := 6, ground := Ground.data }, { on := 11, ground := Ground.data }, { on := 6, ground := Ground.chain }], guard := none }) (ws := [6, 11, 6]) rfl (by kernel_rfl) ?_
      intro L b v hC h0 hA h
      refine h.elim ?_; clear h; intro u4 h
      refine h.elim ?_; clear h; intro u25 h
      refine h.elim ?_; clear h; intro u26 h
      refine h.elim ?_; clear h; intro u27 h
      refine h.elim ?_; clear h; intro u28 h
      refine h.elim ?_; clear h; intro u29 h
      refine h.elim ?_; clear h; intro u30 h
      refine h.elim ?_; clear h; intro u31 h
      refine h.elim ?_; clear h; intro u32 h
      refine h.elim ?_; clear h; intro u33 h
      refine h.elim ?_; clear h; intro u34 h
      refine h.elim ?_; clear h; intro u35 h
      refine h.elim ?_; clear h; intro u36 h
      refine h.elim ?_; clear h; intro u37 h
      have hbb := h.1; replace h := h.2; subst hbb
      have hHeld := h.1; replace h := h.2
      have f0 := h.1; replace h := h.2
      have f1 := h.1; replace h := h.2
      have f2 := h.1; replace h := h.2
      have f3 := h.1; replace h := h.2
      have f4 := h.1; replace h := h.2
      have f5 := h.1; replace h := h.2
      have f6 := h.1; replace h := h.2
      have f7 := h.1; replace h := h.2
      have f8 := h.1; replace h := h.2
      have f9 := h.1; replace h := h.2
      have f10 := h.1; replace h := h.2
      have f11 := h.1; replace h := h.2
      have f12 := h.1; replace h := h.2
      have f13 := h.1; replace h := h.2
      have er := h; clear h
      intro K hK
      have g6 := f6 (hA 6 (by simp))
      have g11 := f11 (hA 11 (by simp))
      obtain rfl := g11
      rw [if_pos (by kernel_rfl)]
      have q0 := cellB hHeld c0 hbw2
      have q1 := cellB hHeld c1 hbw2
      go_simp
      refine (ref03_Put8 u31 (l ++ [byteO x.1]) x.2 v (RowAt.owns g6 (fun i hi => byteV_at hi)) (by rw [List.length_append, List.length_singleton]; omega)).mono ?_; rintro e v1 ⟨r, rfl, HO, hb⟩; rw [List.append_assoc, show [byteO x.1] ++ putL 8 x.2 = cstL x from rfl] at HO
      go_wp2_with fail
      try simp only [Act.put, List.setIfInBounds_toArray, List.set_cons_zero, List.set_cons_succ]
      refine hK.out _ _ ⟨_, _, _, _, _, _, _, _, _, _, _, _, _, _, rfl, ?_, ?_, ?_, ?_, ?_, ?_, ?_, ?_, ?_, ?_, ?_, ?_, ?_, ?_, ?_, ?_⟩
      · first | exact hHeld | exact hHeld.trans (hb.mono hHeld.size) | (trace_state; fail)
      · first | exact flag_ne (by decide) f0 | exact fun _ => rfl
      · first | exact flag_ne (by decide) f1 | exact fun _ => rfl
      · first | exact flag_ne (by decide) f2 | exact fun _ => rfl
      · first | exact flag_ne (by decide) f3 | exact fun _ => rfl
      · first | exact flag_ne (by decide) f4 | exact fun _ => rfl
      · first | exact flag_ne (by decide) f5 | exact fun _ => rfl
      · intro h; rw [getD_set_ne false (by decide)] at h; have := f6 h; first | exact this | exact owns_below this hb | (trace_state; fail)
      · first | exact flag_ne (by decide) f7 | exact fun _ => rfl
      · first | exact flag_ne (by decide) f8 | exact fun _ => rfl
      · first | exact flag_ne (by decide) f9 | exact fun _ => rfl
      · first | exact flag_ne (by decide) f10 | exact fun _ => rfl
      · first | exact flag_ne (by decide) f11 | exact fun _ => rfl
      · intro _; first | exact own_low HO hHeld.size | (trace_state; fail)
      · intro h; rw [getD_set_ne false (by decide)] at h; exact (getD_no h0 (hC.step (j := 13) (k := 12) h (by kernel_rfl))).elim
      · intro h; rw [getD_set_ne false (by decide)] at h; have := er h; first | exact this | exact owns_below this hb | (trace_state; fail)
    · refine StepAt.mk (o := { dst := some 4, op := Op.assign (Operand.tmp 37), type := 30, pos := _, after := #[{ on := 12, ground := Ground.data }, { on := 12, ground := Ground.chain }, { on := 0, ground := Ground.phase }, { on := 1, ground := Ground.phase }, { on := 2, ground := Ground.phase }, { on := 3, ground := Ground.phase }, { on := 4, ground := Ground.phase }, { on := 5, ground := Ground.phase }, { on := 6, ground := Ground.phase }, { on := 7, ground := Ground.phase }, { on := 8, ground := Ground.phase }, { on := 9, ground := Ground.phase }, { on := 10, ground := Ground.phase }, { on := 11, ground := Ground.phase }, { on := 12, ground := Ground.phase }], guard := none }) (ws := [12, 12, 0, 1, 2, 3, 4, 5, 6, 7, 8, 9, 10, 11, 12]) rfl (by kernel_rfl) ?_
      intro L b v hC h0 hA h
      refine h.elim ?_; clear h; intro u4 h
      refine h.elim ?_; clear h; intro u25 h
      refine h.elim ?_; clear h; intro u26 h
      refine h.elim ?_; clear h; intro u27 h
      refine h.elim ?_; clear h; intro u28 h
      refine h.elim ?_; clear h; intro u29 h
      refine h.elim ?_; clear h; intro u30 h
      refine h.elim ?_; clear h; intro u31 h
      refine h.elim ?_; clear h; intro u32 h
      refine h.elim ?_; clear h; intro u33 h
      refine h.elim ?_; clear h; intro u34 h
      refine h.elim ?_; clear h; intro u35 h
      refine h.elim ?_; clear h; intro u36 h
      refine h.elim ?_; clear h; intro u37 h
      have hbb := h.1; replace h := h.2; subst hbb
      have hHeld := h.1; replace h := h.2
      have f0 := h.1; replace h := h.2
      have f1 := h.1; replace h := h.2
      have f2 := h.1; replace h := h.2
      have f3 := h.1; replace h := h.2
      have f4 := h.1; replace h := h.2
      have f5 := h.1; replace h := h.2
      have f6 := h.1; replace h := h.2
      have f7 := h.1; replace h := h.2
      have f8 := h.1; replace h := h.2
      have f9 := h.1; replace h := h.2
      have f10 := h.1; replace h := h.2
      have f11 := h.1; replace h := h.2
      have f12 := h.1; replace h := h.2
      have f13 := h.1; replace h := h.2
      have er := h; clear h
      intro K hK
      have g12 := f12 (hA 12 (by simp))
      have g0 := f0 (hA 0 (by simp))
      obtain rfl := g0
      have g1 := f1 (hA 1 (by simp))
      obtain rfl := g1
      have g2 := f2 (hA 2 (by simp))
      obtain rfl := g2
      have g3 := f3 (hA 3 (by simp))
      obtain rfl := g3
      have g4 := f4 (hA 4 (by simp))
      obtain rfl := g4
      have g5 := f5 (hA 5 (by simp))
      obtain rfl := g5
      have g6 := f6 (hA 6 (by simp))
      have g7 := f7 (hA 7 (by simp))
      obtain rfl := g7
      have g8 := f8 (hA 8 (by simp))
      obtain rfl := g8
      have g9 := f9 (hA 9 (by simp))
      obtain rfl := g9
      have g10 := f10 (hA 10 (by simp))
      obtain rfl := g10
      have g11 := f11 (hA 11 (by simp))
      obtain rfl := g11
      rw [if_pos (by kernel_rfl)]
      have q0 := cellB hHeld c0 hbw2
      have q1 := cellB hHeld c1 hbw2
      go_simp
      try simp only [Act.put, List.setIfInBounds_toArray, List.set_cons_zero, List.set_cons_succ]
      refine hK.out _ _ ⟨_, _, _, _, _, _, _, _, _, _, _, _, _, _, rfl, ?_, ?_, ?_, ?_, ?_, ?_, ?_, ?_, ?_, ?_, ?_, ?_, ?_, ?_, ?_, ?_⟩
      · first | exact hHeld | exact hHeld.trans (hb.mono hHeld.size) | (trace_state; fail)
      · first | exact flag_ne (by decide) f0 | exact fun _ => rfl
      · first | exact flag_ne (by decide) f1 | exact fun _ => rfl
      · first | exact flag_ne (by decide) f2 | exact fun _ => rfl
      · first | exact flag_ne (by decide) f3 | exact fun _ => rfl
      · first | exact flag_ne (by decide) f4 | exact fun _ => rfl
      · first | exact flag_ne (by decide) f5 | exact fun _ => rfl
      · intro h; rw [getD_set_ne false (by decide)] at h; have := f6 h; first | exact this | exact owns_below this hb | (trace_state; fail)
      · first | exact flag_ne (by decide) f7 | exact fun _ => rfl
      · first | exact flag_ne (by decide) f8 | exact fun _ => rfl
      · first | exact flag_ne (by decide) f9 | exact fun _ => rfl
      · first | exact flag_ne (by decide) f10 | exact fun _ => rfl
      · first | exact flag_ne (by decide) f11 | exact fun _ => rfl
      · intro h; rw [getD_set_ne false (by decide)] at h; have := f12 h; first | exact this | exact owns_below this hb | (trace_state; fail)
      · intro _; first | exact g12 | (trace_state; fail)
      · intro h; rw [getD_set_done h0] at h; cases h
  intro L b v hA h
  refine h.elim ?_; clear h; intro u4 h
  refine h.elim ?_; clear h; intro u25 h
  refine h.elim ?_; clear h; intro u26 h
  refine h.elim ?_; clear h; intro u27 h
  refine h.elim ?_; clear h; intro u28 h
  refine h.elim ?_; clear h; intro u29 h
  refine h.elim ?_; clear h; intro u30 h
  refine h.elim ?_; clear h; intro u31 h
  refine h.elim ?_; clear h; intro u32 h
  refine h.elim ?_; clear h; intro u33 h
  refine h.elim ?_; clear h; intro u34 h
  refine h.elim ?_; clear h; intro u35 h
  refine h.elim ?_; clear h; intro u36 h
  refine h.elim ?_; clear h; intro u37 h
  have hbb := h.1; replace h := h.2; subst hbb
  have hHeld := h.1; replace h := h.2
  have f0 := h.1; replace h := h.2
  have f1 := h.1; replace h := h.2
  have f2 := h.1; replace h := h.2
  have f3 := h.1; replace h := h.2
  have f4 := h.1; replace h := h.2
  have f5 := h.1; replace h := h.2
  have f6 := h.1; replace h := h.2
  have f7 := h.1; replace h := h.2
  have f8 := h.1; replace h := h.2
  have f9 := h.1; replace h := h.2
  have f10 := h.1; replace h := h.2
  have f11 := h.1; replace h := h.2
  have f12 := h.1; replace h := h.2
  have f13 := h.1; replace h := h.2
  have er := h; clear h
  clear er
  have g0 := f0 (hA 0 (by omega))
  clear f0
  obtain rfl := g0
  have g1 := f1 (hA 1 (by omega))
  clear f1
  obtain rfl := g1
  have g2 := f2 (hA 2 (by omega))
  clear f2
  obtain rfl := g2
  have g3 := f3 (hA 3 (by omega))
  clear f3
  obtain rfl := g3
  have g4 := f4 (hA 4 (by omega))
  clear f4
  obtain rfl := g4
  have g5 := f5 (hA 5 (by omega))
  clear f5
  obtain rfl := g5
  have g6 := f6 (hA 6 (by omega))
  clear f6
  have g7 := f7 (hA 7 (by omega))
  clear f7
  obtain rfl := g7
  have g8 := f8 (hA 8 (by omega))
  clear f8
  obtain rfl := g8
  have g9 := f9 (hA 9 (by omega))
  clear f9
  obtain rfl := g9
  have g10 := f10 (hA 10 (by omega))
  clear f10
  obtain rfl := g10
  have g11 := f11 (hA 11 (by omega))
  clear f11
  obtain rfl := g11
  have g12 := f12 (hA 12 (by omega))
  clear f12
  have g13 := f13 (hA 13 (by omega))
  clear f13
  clear hA
  exact ⟨rfl, _, _, _, _, _, _, _, _, _, _, _, _, _, _, rfl, hHeld, g13⟩
set_option maxRecDepth 100000 in
set_option maxHeartbeats 4000000 in
theorem ref14_Consts_in (v : Value) (L : List (Int × Int)) (w : World) (hv : RowR 2 constR w v L) (hlen : L.length ≤ 1024) :
    Calls Tryd.prog 24 #[v] w (PutsC w L) := by
  obtain ⟨i, hi, hz, hsize, hby⟩ : ∃ i, Tryd.prog.info? 5 = some i ∧ i.zero = some (.int .u8 0) ∧ i.size = 1 ∧ i.bytes = 1 := ⟨(Tryd.prog.info? 5).get!, by kernel_rfl, by kernel_rfl, by kernel_rfl, by kernel_rfl⟩
  have ho : okCs L = L.all cstOk := by unfold okCs; rw [decide_eq_true hlen]; rfl
  unfold PutsC
  rw [ho]
  obtain ⟨sa, ca, rfl⟩ := row_get hv
  have HY := Lib.hid (show L.take L.length = L from List.take_length)
  obtain ⟨n, hN⟩ : ∃ n, L.length = n := ⟨_, rfl⟩
  rw [hN] at hv hlen HY ⊢
  have q0 : (1024 < (n : Int)) = False := eq_false (by omega)
  go_enter Tryd.func24, Tryd.ntmps24
  go_wp2_with fail
  refine (ref03_Put (.slice none 0 0) [] 2 (n : Int) _ (Or.inl ⟨none, 0, rfl, rfl, fun _ => rfl⟩) (by simp)).mono ?_; rintro e w1 ⟨r1, rfl, hO1, hb1⟩
  have hO1 : w1.ownsRow w.heap.size 5 1 r1 2 (bytesV (putL 2 n)) := hO1
  go_wp2_with fail
  go_loopw [4, 5] (fun o j wr => ∃ k : Nat, k ≤ n ∧ j = .int .i64 k ∧ Hid ((L.take k).all cstOk = true) ∧ Hid (wr.ownsRow w.heap.size 5 1 o (2 + (cstsL (L.take k)).length) (bytesV (putL 2 n ++ cstsL (L.take k)))) ∧ Below w.heap.size w wr) (fun _ j _ => n - (intOf j).toNat)
  case atStart => exact ⟨0, by omega, rfl, Lib.hid (by simp), Lib.hid (by simpa [cstsL] using hO1), hb1⟩
  case round =>
    obtain ⟨k, hk, rfl, hall, hO, hB⟩ := hrel
    have hz' := hB.size
    by_cases hlt : k < n
    · obtain ⟨x, hx⟩ : ∃ x, L[k]? = some x := get_some (by omega)
      obtain ⟨bk, off, rfl, hbw, hc⟩ := const_at hv (k := k) (by omega)
      obtain ⟨c0, c1, c2, c3⟩ := hc k x hx
      have c0 := (hB.cell (p := ⟨bk, off + k * 2, none⟩) hbw).trans c0
      have c1 := (hB.cell (p := ⟨bk, off + k * 2 + 1, none⟩) hbw).trans c1
      clear hc
      have hts := Lib.hid (take_snoc hx)
      have hmem := Lib.hid (List.mem_of_getElem? hx)
      have hno := Lib.hid (fun h : cstOk x = false => (show L.all cstOk = false from List.all_eq_false.2 ⟨x, hmem.out, by simp [h]⟩))
      have hbl : (cstsL (L.take k)).length ≤ 900000 := by have := cstsL_len (L.take k); rw [List.length_take] at this; omega
      have hbw2 : bk < wr.heap.size := by omega
      clear hx hmem
      cases hf : fitB x.1
      · have hA := Lib.hid (hno.out (show cstOk x = false from hf))
        have HS := Lib.hid (fun W => ref14_small x.1 W)
        rw [hf] at HS
        go_wp2_with fail
        refine (HS.out _).mono ?_; rintro e w' ⟨rfl, rfl⟩
        go_wp2_with fail
        go_returns
        exact ⟨_, by rw [hA.out]; rfl, fun h => (by rw [hA.out] at h; cases h), fun _ => rfl, hB⟩
      · have HS := Lib.hid (fun W => ref14_small x.1 W)
        rw [hf] at HS
        have hok := Lib.hid (show cstOk x = true from hf)
        go_wp2_with fail
        refine (HS.out _).mono ?_; rintro e w' ⟨rfl, rfl⟩
        go_wp2
        obtain ⟨r0, hr0⟩ : ∃ r0 : Value, r0 = u4 := ⟨_, rfl⟩
        subst hr0
        obtain ⟨l, hl⟩ : ∃ l, putL 2 (n : Int) ++ cstsL (L.take k) = l := ⟨_, rfl⟩
        have hll : l.length = 2 + (cstsL (L.take k)).length := by rw [← hl, List.length_append, putL_len]
        rw [hl, ← hll] at hO
        have HLl := Lib.hid (fun W (hW : Below wr.heap.size wr W) => RowAt.owns (f := byteV l) (owns_below hO.out hW) (fun i hi => byteV_at hi))
        have HL2 := Lib.hid (And.intro hl hll)
        have hl6 : l.length ≤ 1000000 := by omega
        clear hl hll HS
        refine Code.wp_mono ?_ (refCsts_r9 wr n ca bk off k x r0 l c0 c1 hbw2 HLl hl6 hlt hlen _ _ _ _ _ _ _ _ _ _ _ _ _ _ _ _ _ _ _ _ _ _ _ _ _ _ _ _ _ _ _ _ _ _ _ _)
        rintro e b v ⟨rfl, u4, u25, u26, u27, u28, u29, u30, u31, u32, u33, u34, u35, u36, u37, rfl, hHeld, g13⟩
        go_wp2_with fail
        go_roundw
        case rel => exact ⟨k + 1, by omega, by simp, Lib.hid (by rw [hts.out, List.all_append, hall.out]; simp [hok.out]), Lib.hid (own_eq2 (own_low g13 hz') (by rw [hts.out, cstsL_snoc, List.length_append, List.length_append, HL2.out.2]; omega) (by rw [hts.out, cstsL_snoc, ← List.append_assoc, HL2.out.1])), hB.trans (hHeld.mono hz')⟩
        case measure => first | (simp [intOf]; done) | (simp [intOf]; omega)
    · obtain rfl : k = n := by omega
      have hA := Lib.hid (show L.all cstOk = true by have := hall.out; rwa [HY.out] at this)
      go_wp2_with fail
      go_returns
      exact ⟨_, by rw [hA.out]; rfl, fun _ => (by have := hO.out; rwa [HY.out] at this), fun h => (by rw [hA.out] at h; cases h), hB⟩
theorem ref14_Consts_long (v : Value) (L : List (Int × Int)) (w : World) (hv : RowR 2 constR w v L) (hlen : 1024 < L.length) :
    Calls Tryd.prog 24 #[v] w fun e w' => e = .returned (.tuple #[.slice none 0 0, .bool false]) ∧ Below w.heap.size w w' := by
  have hl := hv.len
  obtain ⟨sa, ca, rfl⟩ := row_get hv
  obtain ⟨n, hN⟩ : ∃ n, L.length = n := ⟨_, rfl⟩
  rw [hN] at hv hlen hl ⊢
  have q0 : (1024 < (n : Int)) = True := eq_true (by omega)
  go_enter Tryd.func24, Tryd.ntmps24
  go_wp2_with fail
  go_returns
  exact ⟨rfl, by (repeat' (first | (with_reducible exact Below.refl _ _) | (with_reducible assumption) | (with_reducible refine below_drewN ?_ _) | (with_reducible refine Below.alloc ?_ ?_ _) | (with_reducible refine Below.drew ?_) | (with_reducible refine Below.setCell ?_ ?_ _) | go_size))⟩
theorem ref14_Consts (v : Value) (L : List (Int × Int)) (w : World) (hv : RowR 2 constR w v L) :
    Calls Tryd.prog 24 #[v] w (PutsC w L) := by
  by_cases h : L.length ≤ 1024
  · exact ref14_Consts_in v L w hv h
  · have ho : okCs L = false := by unfold okCs; rw [decide_eq_false h]; rfl
    refine (ref14_Consts_long v L w hv (by omega)).mono ?_
    rintro e w' ⟨rfl, h3⟩
    exact ⟨_, by rw [ho], fun h => (by rw [ho] at h; cases h), fun _ => rfl, h3⟩
end Go.Proofs.YtjikkipdmonndaaDoor

/- A reader, and worlds that have grown. -/
namespace Go.Proofs.YtjikkipdmonndaaDoor
open Go.RowKit
set_option linter.unusedSimpArgs false
set_option linter.unusedVariables false
theorem rd_stay {w w' : World} {g q : Nat} {L : List UInt8} {n : Nat} {bad : Bool} (h : RdAt w g q L n bad) (hg : w'.heap[g]? = w.heap[g]?) (hq : q < w.heap.size → w'.heap[q]? = w.heap[q]?) : RdAt w' g q L n bad :=
  ⟨hg.trans h.1, h.2.1, h.2.2.1, h.2.2.2.1, fun i hi => by
    have hc := h.2.2.2.2 i hi
    exact (World.cell?_of_block (a := ⟨q, i, none⟩) (hq (World.block_lt_of_cell? w _ hc))).trans hc⟩
theorem rd_lt {w : World} {g q : Nat} {L : List UInt8} {n : Nat} {bad : Bool} (h : RdAt w g q L n bad) : g < w.heap.size := by
  by_cases hg : g < w.heap.size
  · exact hg
  · have := h.1; rw [Array.getElem?_eq_none (by omega)] at this; cases this
theorem grown_set {w w1 : World} {o : Option Nat} (h : w.grownBy w1 o) {p : Addr} (hp : w.heap.size ≤ p.block) (v : Value) : w.grownBy (w1.setCell p v) o :=
  ⟨h.os, h.tape, h.output, by simpa [World.setCell] using h.size, fun k hk hne => (Below.heap_setCell _ _ _ _ (by omega)).trans (h.block k hk hne)⟩
theorem grown_alloc {w w1 : World} {o : Option Nat} (h : w.grownBy w1 o) (x : Obj) : w.grownBy (w1.alloc x) o :=
  ⟨h.os, h.tape, h.output, Nat.le_trans h.size (by simp), fun k hk hne => (Below.heap_alloc _ _ _ (Nat.lt_of_lt_of_le hk h.size)).trans (h.block k hk hne)⟩
theorem rd_set {w : World} {g q : Nat} {L : List UInt8} {n : Nat} {bad : Bool} (h : RdAt w g q L n bad) (p : Addr) (v : Value) (hg : g ≠ p.block) (hq : q ≠ p.block) : RdAt (w.setCell p v) g q L n bad :=
  rd_stay h (Below.heap_setCell _ _ _ _ hg) (fun _ => Below.heap_setCell _ _ _ _ hq)
end Go.Proofs.YtjikkipdmonndaaDoor

/- Layer 14: one block is read. -/
namespace Go.Proofs.YtjikkipdmonndaaDoor
open Go.RowKit
set_option linter.unusedSimpArgs false
set_option linter.unusedVariables false
def blkV (x : Bk) : Value := .agg #[.string ⟨x.name.toArray⟩, .int .i64 x.kind]
theorem tab_GetBlock (g q : Nat) (L : List UInt8) (n : Nat) (bad : Bool) (w : World) (h : RdAt w g q L n bad) (hq : q < w.heap.size) :
    Calls Tryd.prog 102 #[.pointer (some ⟨g, 0, none⟩)] w fun e w' => e = .returned (blkV (rBlk L n bad).1) ∧ RdAt w' g q L (rBlk L n bad).2.1 (rBlk L n bad).2.2 ∧ w.grownBy w' (some g) := by
  unfold rBlk
  have hgl := rd_lt h
  obtain ⟨A, hA⟩ : ∃ A, rText L n bad = A := ⟨_, rfl⟩
  have HT := Lib.hid (fun W hW => rd_Text g q L n bad W hW)
  rw [hA] at HT ⊢
  clear hA
  obtain ⟨s, n1, b1⟩ := A
  obtain ⟨B, hB⟩ : ∃ B, rNum L 1 n1 b1 = B := ⟨_, rfl⟩
  have HN := Lib.hid (fun W hW => rd_Num g q L n1 1 b1 1 W hW (by decide) (by omega))
  dsimp only
  rw [hB] at HN ⊢
  clear hB
  obtain ⟨c, n2, b2⟩ := B
  dsimp only at HT HN ⊢
  have h0 : RdAt ((w.alloc (.cells #[.string ⟨#[]⟩, .int .i64 0] 43)).alloc (.cells #[.string ⟨#[]⟩, .int .i64 0] 43)) g q L n bad := rd_below (rd_below h ((Below.refl _ _).alloc (Nat.le_refl _) _)) ((Below.refl _ _).alloc (Nat.le_refl _) _)
  have g0 : w.grownBy ((w.alloc (.cells #[.string ⟨#[]⟩, .int .i64 0] 43)).alloc (.cells #[.string ⟨#[]⟩, .int .i64 0] 43)) (some g) := grown_alloc (grown_alloc (World.grownBy.refl _ _) _) _
  have a1 : ((w.alloc (.cells #[.string ⟨#[]⟩, .int .i64 0] 43)).alloc (.cells #[.string ⟨#[]⟩, .int .i64 0] 43)).heap[w.heap.size]? = some (.cells #[.string ⟨#[]⟩, .int .i64 0] 43 (0, 0)) := by
    rw [Below.heap_alloc _ _ _ (by simp)]; exact heap_alloc_new w _
  have a2 : ((w.alloc (.cells #[.string ⟨#[]⟩, .int .i64 0] 43)).alloc (.cells #[.string ⟨#[]⟩, .int .i64 0] 43)).heap[w.heap.size + 1]? = some (.cells #[.string ⟨#[]⟩, .int .i64 0] 43 (0, 0)) := alloc_get (by simp)
  have HT1 := Lib.hid (HT.out _ h0)
  clear HT
  have G0 := Lib.hid (And.intro a1 (And.intro a2 (And.intro h0 g0)))
  clear a1 a2 h0 g0 h
  go_enter Tryd.func102, Tryd.ntmps102
  go_wp2_with fail
  refine HT1.out.mono ?_; rintro e w1 ⟨rfl, hR1, hG1⟩
  obtain ⟨W0, hW0⟩ : ∃ W0, W0 = ((w.alloc (.cells #[.string ⟨#[]⟩, .int .i64 0] 43)).alloc (.cells #[.string ⟨#[]⟩, .int .i64 0] 43)) := ⟨_, rfl⟩
  rw [← hW0] at G0 hG1
  obtain ⟨a1, a2, h0, g0⟩ := G0.out
  have z0 : W0.heap.size = w.heap.size + 2 := by rw [hW0]; simp
  have b1' := (hG1.block w.heap.size (by omega) (by simp; omega)).trans a1
  have b2' := (hG1.block (w.heap.size + 1) (by omega) (by simp; omega)).trans a2
  have z1 := hG1.size
  have cA := cell_of b2' 0 rfl
  have fA := free_of b2' 0
  have HX := Lib.hid (And.intro hR1 (And.intro (grown_grown g0 hG1) (And.intro b1' b2')))
  clear hR1 hG1 G0 HT1 a1 a2 h0 g0 b1' b2' hW0
  go_wp2_with fail
  obtain ⟨hR1, hG1, d1, d2⟩ := HX.out
  obtain ⟨k1, k2⟩ := set_at d2 0 (.string ⟨s.toArray⟩) 0
  have hlt1 := rd_lt hR1
  have hR2 : RdAt (w1.setCell ⟨w.heap.size + 1, 0, none⟩ (.string ⟨s.toArray⟩)) g q L n1 b1 := rd_stay hR1 (Below.heap_setCell _ _ _ _ (by simp; omega)) (fun _ => Below.heap_setCell _ _ _ _ (by simp; omega))
  refine (HN.out _ hR2).mono ?_; rintro e w2 ⟨rfl, hR3, hG3⟩
  have hG2 := grown_set hG1 (p := ⟨w.heap.size + 1, 0, none⟩) (by simp) (.string ⟨s.toArray⟩)
  have zs : (w1.setCell ⟨w.heap.size + 1, 0, none⟩ (.string ⟨s.toArray⟩)).heap.size = w1.heap.size := by simp [World.setCell]
  have e1 := (hG3.block w.heap.size (by omega) (by simp; omega)).trans ((Below.heap_setCell _ _ _ _ (by simp)).trans d1)
  have e2 := (hG3.block (w.heap.size + 1) (by omega) (by simp; omega)).trans k1
  have cB := cell_of e2 1 (v := .int .i64 0) rfl
  have cB0 := cell_of e2 0 (v := .string ⟨s.toArray⟩) rfl
  have fB := free_of e2 1
  have c10 := cell_of e1 0 (v := .string ⟨#[]⟩) rfl
  have c11 := cell_of e1 1 (v := .int .i64 0) rfl
  have f10 := free_of e1 0
  have f11 := free_of e1 1
  have z2 := hG3.size
  have hG4 := grown_grown hG2 hG3
  have hlt2 := rd_lt hR3
  have e4 : (w2.setCell ⟨w.heap.size + 1, 1, none⟩ (.int .i64 c)).heap[w.heap.size]? = some (.cells #[.string ⟨#[]⟩, .int .i64 0] 43 (0, 0)) := (Below.heap_setCell _ _ _ _ (by simp)).trans e1
  obtain ⟨m1, m2⟩ := set_at e4 0 (.string ⟨s.toArray⟩) 0
  obtain ⟨n1', n2'⟩ := set_at m1 1 (.int .i64 c) 0
  have r0 := cell_of n1' 0 (v := .string ⟨s.toArray⟩) rfl
  have r1 := cell_of n1' 1 (v := .int .i64 c) rfl
  have H3 := Lib.hid (And.intro hR3 (And.intro hG4 (And.intro r0 r1)))
  clear HN HX hR1 hG1 d1 d2 k1 k2 hR2 hG2 hR3 hG3 hG4 e1 e2 cA fA e4 m1 m2 n1' n2' r0 r1
  go_wp2_with fail
  obtain ⟨hR3, hG4, r0, r1⟩ := H3.out
  obtain ⟨W4, hW4⟩ : ∃ W4, W4 = ((w2.setCell ⟨w.heap.size + 1, 1, none⟩ (.int .i64 c)).setCell ⟨w.heap.size, 0, none⟩ (.string ⟨s.toArray⟩)).setCell ⟨w.heap.size, 1, none⟩ (.int .i64 c) := ⟨_, rfl⟩
  have r0 : W4.cell? ⟨w.heap.size, 0, none⟩ = some (.string ⟨s.toArray⟩) := by rw [hW4]; exact r0
  have r1 : W4.cell? ⟨w.heap.size, 1, none⟩ = some (.int .i64 c) := by rw [hW4]; exact r1
  rw [← hW4]
  refine bodyPost_ret (by simp [results, Tryd.results102, go_sem, r0, r1]; rfl) rfl ?_
  rw [hW4]
  exact ⟨rfl, rd_set (rd_set (rd_set hR3 _ _ (by simp; omega) (by simp; omega)) _ _ (by simp; omega) (by simp; omega)) _ _ (by simp; omega) (by simp; omega), grown_set (grown_set (grown_set hG4 (by simp) _) (by simp) _) (by simp) _⟩
end Go.Proofs.YtjikkipdmonndaaDoor

/- Layer 14: a table of blocks is read. -/
namespace Go.Proofs.YtjikkipdmonndaaDoor
open Go.RowKit
set_option linter.unusedSimpArgs false
set_option linter.unusedVariables false
def blkCs (l : List Bk) : List Value := l.flatMap fun x => [.string ⟨x.name.toArray⟩, .int .i64 x.kind]
theorem blkCs_snoc (l : List Bk) (x : Bk) : blkCs (l ++ [x]) = blkCs l ++ [.string ⟨x.name.toArray⟩, .int .i64 x.kind] := by simp [blkCs]
theorem rNum2_fit (L : List UInt8) (n : Nat) (b : Bool) : ∃ k : Nat, (rNum L 2 n b).1 = (k : Int) := by
  have h := rTake_len8 L 2 n b
  unfold rNum
  dsimp only
  generalize (rTake L ((2 : Nat) : Int) n b).1 = B at h
  match B, h with
  | [], _ => exact ⟨0, by rw [numV_nil]; rfl⟩
  | [c], _ => exact ⟨c.toNat, numV_one c⟩
  | [c, d], _ =>
    obtain ⟨k, hk, _⟩ := numV2 (B := [c, d]) rfl
    exact ⟨k, hk⟩
theorem grownBelow {w w1 w2 : World} {B g : Nat} (hb : Below B w w1) (hg : w1.grownBy w2 (some g)) (hB : B ≤ g) (hs : B ≤ w1.heap.size) : Below B w w2 :=
  hb.trans ⟨hg.os, hg.tape, hg.output, hg.size, fun k hk => hg.block k (by omega) (by simp; omega)⟩
set_option maxRecDepth 100000 in
set_option maxHeartbeats 4000000 in
theorem tab_get_blocks (v : Value) (L : List UInt8) (w : World) (hv : RowAt w v L.length (byteV L)) (hL : L.length ≤ 1000000) :
    Calls Tryd.prog 101 #[v, .int .i64 32, .func (.func 102) #[] #[]] w fun e w' => ∃ r, e = .returned (.tuple #[r, .int .i64 (getR (rBlk L) 32 L).2]) ∧ w'.ownsRow w.heap.size 43 2 r (getR (rBlk L) 32 L).1.length (blkCs (getR (rBlk L) 32 L).1) ∧ Below w.heap.size w w' := by
  obtain ⟨i, hi, hz, hsize, hby⟩ : ∃ i, Tryd.prog.info? 43 = some i ∧ i.zero = some (.agg #[.string ⟨#[]⟩, .int .i64 0]) ∧ i.size = 2 ∧ i.bytes = 24 := ⟨(Tryd.prog.info? 43).get!, by kernel_rfl, by kernel_rfl, by kernel_rfl, by kernel_rfl⟩
  unfold getR
  obtain ⟨A, hA⟩ : ∃ A, rNum L 2 0 false = A := ⟨_, rfl⟩
  obtain ⟨k, hk⟩ := rNum2_fit L 0 false
  have hat := rNum_at L 2 0 false (Nat.zero_le _)
  have HN := Lib.hid (fun g q W hW => rd_Num g q L 0 2 false 2 W hW (by decide) (by omega))
  rw [hA] at HN hk hat ⊢
  obtain ⟨c, n, b⟩ := A
  dsimp only at HN hk hat ⊢
  subst hk
  rw [Int.toNat_natCast]
  clear hA
  have q1 := ownsRow_none'
  cases b
  · by_cases hlim : k ≤ 32
    · have q0 : (32 < (k : Int)) = False := eq_false (by omega)
      rw [if_neg (by simp), if_neg (by omega)]
      obtain ⟨X, hX⟩ : ∃ X : List Bk × Int, X = (if (rRows (rBlk L) k n false).2.2 = true then ([], 1) else if 0 < leftOf L (rRows (rBlk L) k n false).2.1 (rRows (rBlk L) k n false).2.2 then ([], 4) else ((rRows (rBlk L) k n false).1, 0)) := ⟨_, rfl⟩
      rw [← hX]
      have HX := Lib.hid hX
      have hrl := rRows_len (rBlk L)
      have HRL := Lib.hid hrl
      have HRS := Lib.hid (show ∀ m, rRows (rBlk L) (m + 1) n false = ((rRows (rBlk L) m n false).1 ++ [(rBlk L (rRows (rBlk L) m n false).2.1 (rRows (rBlk L) m n false).2.2).1], (rBlk L (rRows (rBlk L) m n false).2.1 (rRows (rBlk L) m n false).2.2).2) from fun m => rfl)
      have HR0 := Lib.hid (show rRows (rBlk L) 0 n false = ([], n, false) from rfl)
      generalize rRows (rBlk L) = RR at HX HRL HRS HR0
      have HBk := Lib.hid (fun g q n b W hW hq => tab_GetBlock g q L n b W hW hq)
      clear hX hrl
      go_enter Tryd.func101, Tryd.ntmps101
      go_wp2_with fail
      refine (rd_New v L _ hv (by omega)).mono ?_; rintro e w1 ⟨g, q, rfl, hR, hg, ⟨hq, hqg⟩, hb⟩
      have z1 := hb.size
      go_wp2_with fail
      refine (HN.out _ _ _ hR).mono ?_; rintro e w2 ⟨rfl, hR2, hG2⟩
      have hb2 := grownBelow hb hG2 hg z1
      have hz2 := hb2.size
      have hgl := rd_lt hR2
      clear hR hG2
      go_wp2_with fail
      refine (reader_Bad _ _ _ _ _ _ hR2).mono ?_; rintro e w' ⟨rfl, rfl⟩
      obtain ⟨w3, hmk, hO3, hG3⟩ := run_make_own (P := Tryd.prog) (w := w2) w2.heap.size 24 43 i _ 2 Tryd.underlying24 hi hz hsize .i64 .i64 k (by rw [hby]; omega) (by unfold maxLen; omega) (Nat.le_refl _)
      have hR3 := Lib.hid (rd_below hR2 (below_none hG3))
      have hb3 : Below w.heap.size w w3 := hb2.trans ((below_none hG3).mono hz2)
      have hz3 := hG3.size
      clear hR2 hG3
      go_wp2_with fail
      go_loopw [10, 23] (fun o j wr => ∃ m : Nat, m ≤ k ∧ j = .int .i64 m ∧ Hid (wr.ownsRow w2.heap.size 43 2 o m (blkCs (RR m n false).1)) ∧ Hid (RdAt wr g q L (RR m n false).2.1 (RR m n false).2.2) ∧ Below w.heap.size w wr ∧ w2.heap.size ≤ wr.heap.size) (fun _ j _ => k - (intOf j).toNat)
      case atStart => exact ⟨0, by omega, rfl, Lib.hid (by rw [HR0.out]; exact hO3), Lib.hid (by rw [HR0.out]; exact hR3.out), hb3, hz3⟩
      case round =>
        obtain ⟨m, hm, rfl, hO, hR, hB, hzz⟩ := hrel
        by_cases hlt : m < k
        · have hRS := HRS.out m
          obtain ⟨Y, hY⟩ : ∃ Y, RR m n false = Y := ⟨_, rfl⟩
          obtain ⟨Z, hZ⟩ : ∃ Z, RR (m + 1) n false = Z := ⟨_, rfl⟩
          rw [hY] at hO hR hRS
          have HZ := Lib.hid hZ
          rw [hZ] at hRS
          clear hY hZ
          obtain ⟨y, ny, by'⟩ := Y
          dsimp only at hO hR hRS
          obtain ⟨T, hT⟩ : ∃ T, rBlk L ny by' = T := ⟨_, rfl⟩
          have HB1 := Lib.hid (HBk.out g q ny by' wr hR.out (by omega))
          rw [hT] at HB1 hRS
          clear hT
          obtain ⟨x, nx, bx⟩ := T
          dsimp only at HB1 hRS
          have HRS2 := Lib.hid hRS
          clear hRS HN HX HRL HBk
          go_wp2_with fail
          refine HB1.out.mono ?_; rintro e w4 ⟨rfl, hR4, hG4⟩
          unfold blkV
          have hB4 := grownBelow hB hG4 hg hB.size
          have hO4 := Lib.hid (owns_grown hO.out hG4 (fun gg hgg h => by have := (owns_lt hO.out hgg).1; have : g = gg := by simpa using h
                                                                         omega))
          have hz4 := hG4.size
          have hR4 := Lib.hid hR4
          have ze : (w4.alloc (.cells #[.string ⟨x.name.toArray⟩, .int .i64 x.kind] 43)).heap.size = w4.heap.size + 1 := by simp
          have hR5 := Lib.hid (rd_below hR4.out ((Below.refl _ _).alloc (Nat.le_refl _) (.cells #[.string ⟨x.name.toArray⟩, .int .i64 x.kind] 43)))
          have hO5 := Lib.hid (owns_below hO4.out ((Below.refl _ _).alloc (Nat.le_refl _) (.cells #[.string ⟨x.name.toArray⟩, .int .i64 x.kind] 43)))
          have hB5 := Lib.hid (hB4.alloc hB4.size (.cells #[.string ⟨x.name.toArray⟩, .int .i64 x.kind] 43))
          clear hG4
          go_wp2_with (first | (at_builtin; go_loud (refine wpList_append_src rfl (.tmp 25) (.tmp 29) 24 rfl w2.heap.size 43 i (.agg #[.string ⟨#[]⟩, .int .i64 0]) 2 24 Tryd.underlying24 hi hz hsize hby rfl (by omega) _ m _ rfl hO5.out _ 1 [.string ⟨x.name.toArray⟩, .int .i64 x.kind] rfl (src_new _ _ _) rfl (by intro u hu; simp at hu; rcases hu with rfl | rfl <;> rfl) (by unfold maxLen; omega) (by omega) (by first | omega | (simp; omega)) ?_; intro v3 w3' hO6 hG6; have HO6 := Lib.hid hO6; have hR6 := Lib.hid (rd_stay hR5.out (hG6.block g (rd_lt hR5.out) (fun h => by have := (owns_lt hO5.out h.symm).1; omega)) (fun hql => hG6.block q hql (fun h => by have := (owns_lt hO5.out h.symm).1; omega))); have hB6 := grown3 (hB5.out) (hB5.out.size) (own_low hO5.out hz2) hG6; have hz6 := hG6.size; clear hO6 hG6)) | fail)
          go_roundw
          case rel => exact ⟨m + 1, by omega, by simp, Lib.hid (by rw [HZ.out, HRS2.out, blkCs_snoc]; exact HO6.out), Lib.hid (by rw [HZ.out, HRS2.out]; exact hR6.out), hB6, by omega⟩
          case measure => first | (simp [intOf]; done) | (simp [intOf]; omega)
        · obtain rfl : m = k := by omega
          obtain ⟨Y, hY⟩ : ∃ Y, RR m n false = Y := ⟨_, rfl⟩
          rw [hY] at hO hR HX
          obtain ⟨y, ny, by'⟩ := Y
          have hyl := HRL.out m n false
          rw [hY] at hyl
          dsimp only at hO hR HX hyl
          have HY := Lib.hid hyl
          clear hY hyl
          go_wp2_with fail
          refine (reader_Bad _ _ _ _ _ _ hR.out).mono ?_; rintro e w' ⟨rfl, rfl⟩
          cases by'
          · have HX2 := Lib.hid (show X = if 0 < leftOf L ny false then ([], 4) else (y, 0) by rw [HX.out, if_neg (by simp)])
            have HLeft := Lib.hid (reader_Left g q L ny false _ hR.out)
            generalize leftOf L ny false = lf at HX2 HLeft
            by_cases hlf : 0 < lf
            · have q2 : (0 < lf) = True := eq_true hlf
              have HX3 := Lib.hid (show X = ([], 4) by rw [HX2.out, if_pos hlf])
              clear HX HX2
              go_wp2_with fail
              refine HLeft.out.mono ?_; rintro e w' ⟨rfl, md, rfl⟩
              go_wp2_with fail
              go_returns
              exact ⟨_, by rw [HX3.out]; rfl, by rw [HX3.out]; exact ownsRow_none' _ _ _ _, below_drewN hB md⟩
            · have q2 : (0 < lf) = False := eq_false hlf
              have HX3 := Lib.hid (show X = (y, 0) by rw [HX2.out, if_neg hlf])
              clear HX HX2
              go_wp2_with fail
              refine HLeft.out.mono ?_; rintro e w' ⟨rfl, md, rfl⟩
              go_wp2_with fail
              go_returns
              exact ⟨_, by rw [HX3.out]; rfl, by rw [HX3.out, HY.out]; exact own_low hO.out hz2, below_drewN hB md⟩
          · have HX2 := Lib.hid (show X = ([], 1) by rw [HX.out, if_pos rfl])
            clear HX
            go_wp2_with fail
            go_returns
            exact ⟨_, by rw [HX2.out]; rfl, by rw [HX2.out]; exact ownsRow_none' _ _ _ _, hB⟩
    · have q0 : (32 < (k : Int)) = True := eq_true (by omega)
      rw [if_neg (by simp), if_pos (by omega)]
      go_enter Tryd.func101, Tryd.ntmps101
      go_wp2_with fail
      refine (rd_New v L _ hv (by omega)).mono ?_; rintro e w1 ⟨g, q, rfl, hR, hg, ⟨hq, hqg⟩, hb⟩
      have z1 := hb.size
      go_wp2_with fail
      refine (HN.out _ _ _ hR).mono ?_; rintro e w2 ⟨rfl, hR2, hG2⟩
      have hb2 := grownBelow hb hG2 hg z1
      clear hR hG2
      go_wp2_with fail
      refine (reader_Bad _ _ _ _ _ _ hR2).mono ?_; rintro e w' ⟨rfl, rfl⟩
      go_wp2_with fail
      go_returns
      exact ⟨_, rfl, ownsRow_none' _ _ _ _, hb2⟩
  · rw [if_pos rfl]
    go_enter Tryd.func101, Tryd.ntmps101
    go_wp2_with fail
    refine (rd_New v L _ hv (by omega)).mono ?_; rintro e w1 ⟨g, q, rfl, hR, hg, ⟨hq, hqg⟩, hb⟩
    have z1 := hb.size
    go_wp2_with fail
    refine (HN.out _ _ _ hR).mono ?_; rintro e w2 ⟨rfl, hR2, hG2⟩
    have hb2 := grownBelow hb hG2 hg z1
    clear hR hG2
    go_wp2_with fail
    refine (reader_Bad _ _ _ _ _ _ hR2).mono ?_; rintro e w' ⟨rfl, rfl⟩
    go_wp2_with fail
    go_returns
    exact ⟨_, rfl, ownsRow_none' _ _ _ _, hb2⟩
end Go.Proofs.YtjikkipdmonndaaDoor

/- Layer 14: the reference's tables: how they begin and end. -/
namespace Go.Proofs.YtjikkipdmonndaaDoor
open Go.RowKit
set_option linter.unusedSimpArgs false
set_option linter.unusedVariables false
theorem rf_new {w : World} {v : Value} {L : List UInt8} (hv : RowAt w v L.length (byteV L)) (hL : L.length ≤ 100000000) : ∃ q, RfAt (w.alloc (.cells #[v, .int .i64 0, .bool false] 69)) w.heap.size q L 0 false ∧ (0 < L.length → q < w.heap.size) := by
  have hv2 := hv.below ((Below.refl _ _).alloc (Nat.le_refl _) (.cells #[v, .int .i64 0, .bool false] 69))
  have hg := heap_alloc_new w (.cells #[v, .int .i64 0, .bool false] 69)
  rcases hv with ⟨a, cap, rfl, h0, hc⟩ | ⟨b, off, cap, rfl, h1, h2, h3, h4, h5⟩
  · exact ⟨w.heap.size + 1, ⟨_, hg, by simpa using hv2, (fun a n c h hn => by injection h; omega), by omega, Nat.zero_le _, hL⟩, by omega⟩
  · exact ⟨b, ⟨_, hg, by simpa using hv2, (fun a n c h hn => by injection h with h; injection h with h; rw [← h]), by omega, Nat.zero_le _, hL⟩, fun _ => h4⟩
/-- how many rows there are, or why there are none -/
def rowsN (L : List UInt8) (most : Int) : Int × Int :=
  if (rNum L 2 0 false).2.2 = true then (0, 1) else if most < (rNum L 2 0 false).1 then (0, 5) else ((rNum L 2 0 false).1, 0)
theorem row_form {w : World} {v : Value} {n : Nat} {f : Nat → Value} (h : RowAt w v n f) : ∃ a c, v = .slice a n c := by
  rcases h with ⟨a, cap, rfl, h0, _⟩ | ⟨b, off, cap, rfl, _⟩
  · exact ⟨a, cap, by rw [h0]⟩
  · exact ⟨_, cap, rfl⟩
theorem ref14_Rows (v : Value) (L : List UInt8) (most : Int) (w : World) (hv : RowAt w v L.length (byteV L)) (hL : L.length ≤ 1000000) :
    Calls Tryd.prog 105 #[v, .int .i64 most] w fun e w' => ∃ g q, e = .returned (.tuple #[.pointer (some ⟨g, 0, none⟩), .int .i64 (rowsN L most).1, .int .i64 (rowsN L most).2]) ∧ RfAt w' g q L (rNum L 2 0 false).2.1 (rNum L 2 0 false).2.2 ∧ (0 < L.length → q < w.heap.size) ∧ w.heap.size ≤ g ∧ Below w.heap.size w w' := by
  obtain ⟨av, cv, rfl⟩ := row_form hv
  unfold rowsN
  obtain ⟨A, hA⟩ : ∃ A, rNum L 2 0 false = A := ⟨_, rfl⟩
  have HN := Lib.hid (fun g q W hW => rf_Num g q L 0 2 false 2 W hW (by decide) (by omega))
  rw [hA] at HN ⊢
  obtain ⟨c, n, b⟩ := A
  dsimp only at HN ⊢
  clear hA
  obtain ⟨q, hR, hq⟩ := rf_new hv (by omega)
  have HR := Lib.hid hR
  clear hR
  cases b
  · by_cases hlim : most < c
    · have q0 : (most < c) = True := eq_true hlim
      rw [if_neg (by simp), if_pos hlim]
      go_enter Tryd.func105, Tryd.ntmps105
      go_wp2_with fail
      refine (HN.out _ q _ HR.out).mono ?_; rintro e w2 ⟨rfl, hR2, hG2⟩
      have hB2 := grownBelow ((Below.refl _ _).alloc (Nat.le_refl _) _) hG2 (Nat.le_refl _) (by simp)
      have HR2 := Lib.hid hR2
      obtain ⟨rv, hg, _, _, _, _, _⟩ := hR2
      have c2 := cell_of hg 2 rfl
      clear hg hG2 HR HN
      go_wp2_with fail
      go_returns
      exact ⟨_, q, rfl, HR2.out, hq, Nat.le_refl _, hB2⟩
    · have q0 : (most < c) = False := eq_false hlim
      rw [if_neg (by simp), if_neg hlim]
      go_enter Tryd.func105, Tryd.ntmps105
      go_wp2_with fail
      refine (HN.out _ q _ HR.out).mono ?_; rintro e w2 ⟨rfl, hR2, hG2⟩
      have hB2 := grownBelow ((Below.refl _ _).alloc (Nat.le_refl _) _) hG2 (Nat.le_refl _) (by simp)
      have HR2 := Lib.hid hR2
      obtain ⟨rv, hg, _, _, _, _, _⟩ := hR2
      have c2 := cell_of hg 2 rfl
      clear hg hG2 HR HN
      go_wp2_with fail
      go_returns
      exact ⟨_, q, rfl, HR2.out, hq, Nat.le_refl _, hB2⟩
  · rw [if_pos rfl]
    go_enter Tryd.func105, Tryd.ntmps105
    go_wp2_with fail
    refine (HN.out _ q _ HR.out).mono ?_; rintro e w2 ⟨rfl, hR2, hG2⟩
    have hB2 := grownBelow ((Below.refl _ _).alloc (Nat.le_refl _) _) hG2 (Nat.le_refl _) (by simp)
    have HR2 := Lib.hid hR2
    obtain ⟨rv, hg, _, _, _, _, _⟩ := hR2
    have c2 := cell_of hg 2 rfl
    clear hg hG2 HR HN
    go_wp2_with fail
    go_returns
    exact ⟨_, q, rfl, HR2.out, hq, Nat.le_refl _, hB2⟩
/-- how reading ends -/
def endE (L : List UInt8) (n : Nat) (bad : Bool) : Int := if bad = true then 1 else if 0 < leftOf L n bad then 4 else 0
theorem ref14_End (g q : Nat) (L : List UInt8) (n : Nat) (bad : Bool) (w : World) (h : RfAt w g q L n bad) :
    Calls Tryd.prog 106 #[.pointer (some ⟨g, 0, none⟩)] w fun e w' => e = .returned (.int .i64 (endE L n bad)) ∧ w = w' := by
  obtain ⟨rv, hg, hr, hi, hq, hn, hL⟩ := h
  obtain ⟨p, cap, rfl⟩ := row_drop hr hi (m := 0)
  have c0 := cell_of hg 0 rfl
  have c2 := cell_of hg 2 rfl
  have hl : (((L.length - n : Nat)) : Int) ≤ 9223372036854775807 := by omega
  have HL := Lib.hid (show leftOf L n false = ((L.length - n : Nat) : Int) by unfold leftOf; simp; omega)
  clear hr hg
  unfold endE
  cases bad
  · rw [if_neg (by simp), HL.out]
    generalize L.length - n = ln at *
    by_cases h0 : 0 < ln
    · have q0 : (0 < (ln : Int)) = True := eq_true (by omega)
      rw [if_pos (by omega)]
      go_enter Tryd.func106, Tryd.ntmps106
      go_wp2_with fail
      go_ret
      exact ⟨rfl, rfl⟩
    · have q0 : (0 < (ln : Int)) = False := eq_false (by omega)
      rw [if_neg (by omega)]
      go_enter Tryd.func106, Tryd.ntmps106
      go_wp2_with fail
      go_ret
      exact ⟨rfl, rfl⟩
  · rw [if_pos rfl]
    go_enter Tryd.func106, Tryd.ntmps106
    go_wp2_with fail
    go_ret
    exact ⟨rfl, rfl⟩
end Go.Proofs.YtjikkipdmonndaaDoor
