/- Layer 15: a unit's bytes, by the answer. -/
import Derived.Test.YtpeogdbfhfkngaaDoorUnPut
import Derived.Test.YtpeogdbfhfkngaaDoorOctetRefText
import Derived.Test.YtpeogdbfhfkngaaDoorCodeSame
import Derived.LoopTactic
namespace Go.Proofs.YtpeogdbfhfkngaaDoor
open Go.RowKit
set_option linter.unusedSimpArgs false
set_option linter.unusedVariables false
set_option maxHeartbeats 8000000 in
theorem ref15_Put (a b c : Value) (x : Un) (w : World) (h : UnAt w a b c x) (hl : x.params.length ≤ 1000 ∧ x.locals.length ≤ 4000 ∧ x.code.length ≤ 1000) :
    Calls Tryd.prog 9 #[.agg #[.string ⟨x.name.toArray⟩, a, .int .i64 x.result, b, c]] w fun e w' => ∃ r, e = .returned (.tuple #[r, .bool (fitU x)]) ∧ RowAt w' r (putO x).length (byteV (putO x)) ∧ Below w.heap.size w w' := by
  obtain ⟨i, hi, hz, hsize, hby⟩ : ∃ i, Tryd.prog.info? 5 = some i ∧ i.zero = some (.int .u8 0) ∧ i.size = 1 ∧ i.bytes = 1 := ⟨(Tryd.prog.info? 5).get!, by kernel_rfl, by kernel_rfl, by kernel_rfl, by kernel_rfl⟩
  have HF := Lib.hid (fun W (hb : Below w.heap.size w W) => ref15_Fits a b c x W (h.below hb))
  have HR1 := Lib.hid (fun W (hb : Below w.heap.size w W) => h.ps.below intR_stable hb)
  have HR2 := Lib.hid (fun W (hb : Below w.heap.size w W) => h.ls.below intR_stable hb)
  have HE := Lib.hid (fun W (hb : Below w.heap.size w W) => ref13_Encode c x.code W (h.cs.below insR_stable hb) hl.2.2)
  obtain ⟨sa, ca, ea⟩ := row_get h.ps
  obtain ⟨sb, cb, eb⟩ := row_get h.ls
  obtain ⟨sc, cc, ec⟩ := row_get h.cs
  subst ea eb ec
  clear h
  cases hf : fitU x
  · rw [hf] at HF
    have hs := Lib.hid (putO_no hf)
    generalize (⟨x.name.toArray⟩ : ByteArray) = nm at *
    generalize x.params.length = n1 at *
    generalize x.locals.length = n2 at *
    generalize x.code.length = n3 at *
    generalize x.result = rs at *
    have hB0 : Below w.heap.size w (w.alloc (.cells #[.string nm, .slice sa n1 ca, .int .i64 rs, .slice sb n2 cb, .slice sc n3 cc] 25)) := (Below.refl _ _).alloc (Nat.le_refl _) _
    clear hf
    go_enter Tryd.func9, Tryd.ntmps9
    go_wp2_with fail
    refine (HF.out _ hB0).mono ?_; rintro e w1 ⟨rfl, hb1⟩
    have hB1 := hB0.trans (hb1.mono hB0.size)
    go_wp2_with fail
    go_returns
    exact ⟨_, rfl, by rw [hs.out]; exact row_nil_at _, hB1⟩
  rw [hf] at HF
  obtain ⟨hlen, hp, hq, hr, hc⟩ := fitU_is hf
  have hnm : (⟨x.name.toArray⟩ : ByteArray).size = x.name.length := by simp [ByteArray.size]
  have htn := text_nil ⟨x.name.toArray⟩ (by rw [hnm]; exact hlen.1)
  rw [hnm] at htn
  have hcut : (cut255 ⟨x.name.toArray⟩).size = x.name.length := by unfold cut255; rw [if_neg (by rw [hnm]; have := hlen.1; omega)]; exact hnm
  have HT := Lib.hid (fun W : World => (ref03_Text (.slice none 0 0) [] ⟨x.name.toArray⟩ W (row_nil_at W) (by simp)).mono (R' := fun e w' => ∃ r, e = .returned r ∧ w'.ownsRow W.heap.size 5 1 r (1 + x.name.length) (bytesV (UInt8.ofNat x.name.length :: x.name)) ∧ Below W.heap.size W w') (by rintro e w' ⟨r, h1, h2, h3⟩; rw [htn, hcut] at h2; exact ⟨r, h1, by simpa using h2, h3⟩))
  have HPO := Lib.hid (putO_yes hf)
  have HPU := Lib.hid (show putU x = (((((UInt8.ofNat x.name.length :: x.name) ++ [byteO x.params.length] ++ x.params.map byteO ++ [byteO x.result]) ++ putL 2 x.locals.length) ++ x.locals.map byteO) ++ putL 2 x.code.length) ++ encO x.code from rfl)
  rw [hc] at HE
  have hEl : (encO x.code).length ≤ 5000 := by rw [encO_yes hc, enc_len]; omega
  have hTl : (UInt8.ofNat x.name.length :: x.name).length = 1 + x.name.length := by simp; omega
  have hn0 : x.name.length ≤ 255 := hlen.1
  have hM1 : (x.params.map byteO).length = x.params.length := by simp
  have hM2 : (x.locals.map byteO).length = x.locals.length := by simp
  have hp2 : ∀ z : Int, (putL 2 z).length = 2 := fun z => putL_len 2 z
  have hn8 : (near8 2).toNat = 2 := by decide
  clear hf hlen hp hq hr hc hnm htn hcut
  generalize encO x.code = EC at *
  generalize (UInt8.ofNat x.name.length :: x.name) = T at *
  have HPL := Lib.hid (show x.params.length = x.params.length from rfl)
  have HMM1 : Hid (∀ k y, x.params[k]? = some y → (x.params.map byteO).take (k + 1) = (x.params.map byteO).take k ++ [byteO y]) := Lib.hid (fun k y hy => take_snoc (by simp [hy]))
  have HMM2 : Hid (∀ k y, x.locals[k]? = some y → (x.locals.map byteO).take (k + 1) = (x.locals.map byteO).take k ++ [byteO y]) := Lib.hid (fun k y hy => take_snoc (by simp [hy]))
  generalize x.params.map byteO = M1 at *
  generalize x.locals.map byteO = M2 at *
  generalize (⟨x.name.toArray⟩ : ByteArray) = nm at *
  generalize x.name.length = n0 at *
  generalize hP : x.params = P at *
  generalize hQ : x.locals = Q at *
  generalize hn1 : P.length = n1 at *
  generalize hn2 : Q.length = n2 at *
  generalize x.code.length = n3 at *
  generalize x.result = rs at *
  have HNP := Lib.hid hn1
  have HNQ := Lib.hid hn2
  clear hP hQ hn1 hn2
  obtain ⟨W0, hW0⟩ : ∃ W0, W0 = w.alloc (.cells #[.string nm, .slice sa n1 ca, .int .i64 rs, .slice sb n2 cb, .slice sc n3 cc] 25) := ⟨_, rfl⟩
  have hB0 : Below w.heap.size w W0 := by rw [hW0]; exact (Below.refl _ _).alloc (Nat.le_refl _) _
  have K0 := Lib.hid (show Boxed W0 w.heap.size [.string nm, .slice sa n1 ca, .int .i64 rs, .slice sb n2 cb, .slice sc n3 cc] by rw [hW0]; exact Boxed.new w _ _ (Below.refl _ _))
  have hz0 : w.heap.size < W0.heap.size := by rw [hW0]; simp
  have HW0 := Lib.hid hW0
  have HL := Lib.hid hl
  clear hW0 hl
  go_enter Tryd.func9, Tryd.ntmps9
  go_wp2_with fail
  refine (HF.out _ (by rw [← HW0.out]; exact hB0)).mono ?_; rintro e W1 ⟨rfl, hb1⟩
  rw [← HW0.out] at hb1
  have hB1 := hB0.trans (hb1.mono hB0.size)
  have hz1 : w.heap.size < W1.heap.size := Nat.lt_of_lt_of_le hz0 hb1.size
  have K := Lib.hid (K0.out.keep hz0 hb1)
  clear HW0 K0 HF hb1 hB0 hz0
  clear W0
  obtain ⟨l1, l2, l3⟩ := HL.out
  have hNE : (1 + n0 + 1 : Nat) ≤ 300 := by omega
  have e0 := K.out 0 _ rfl
  go_wp2_with fail
  refine (HT.out _).mono ?_; rintro e w2 ⟨r2, rfl, hr2, hH2⟩
  have HO2 := Lib.hid hr2
  have c1 := (K.out.keep hz1 hH2) 1 _ rfl
  clear hr2 HT e0
  go_wp2_with (first | (at_builtin; go_loud (refine wpList_append_src rfl (.tmp 15) (.tmp 20) 28 rfl W1.heap.size 5 i (.int .u8 0) 1 1 Tryd.underlying28 hi hz hsize hby rfl (by omega) _ (1 + n0) _ rfl (owns_below HO2.out ((Below.refl _ _).alloc (Nat.le_refl _) _)) _ 1 [.int .u8 ((n1 : Int) % 256)] rfl (src_new _ _ _) rfl (by intro u hu; simp at hu; rw [hu]; rfl) (by unfold maxLen; omega) (by omega) (by simp; have := hH2.size; omega) ?_; intro v3 w3 hO3 hG3; have hH3 := grown3 (hH2.alloc hH2.size _) (by simp; have := hH2.size; omega) (owns_below HO2.out ((Below.refl _ _).alloc (Nat.le_refl _) _)) hG3; have HO3 := Lib.hid hO3; clear hO3 hG3 c1)) | fail)
  obtain ⟨E1, hE1⟩ : ∃ E1, E1 = T ++ [byteO n1] := ⟨_, rfl⟩
  have hE1n : E1.length = 1 + n0 + 1 := by rw [hE1]; simp only [List.length_append, List.length_cons, List.length_nil, hTl]
  have HO3 := Lib.hid (show w3.ownsRow W1.heap.size 5 1 v3 E1.length (bytesV E1) by rw [hE1n, hE1, ← bytesV_byteO]; exact HO3.out)
  rw [← hE1] at HPU
  clear hE1
  have HHH := Lib.hid hH3
  clear hH2 hH3
  go_loopw [4, 5] (fun o j wr => ∃ k : Nat, k ≤ n1 ∧ j = .int .i64 k ∧ Hid (wr.ownsRow W1.heap.size 5 1 o (E1.length + k) (bytesV (E1 ++ M1.take k))) ∧ Hid (Below W1.heap.size W1 wr)) (fun _ j _ => n1 - (intOf j).toNat)
  case atStart => exact ⟨0, by omega, rfl, Lib.hid (by simpa using HO3.out), HHH⟩
  case round =>
    clear HO3 HHH
    obtain ⟨k, hk, rfl, hO, hHw⟩ := hrel
    have hH := hHw.out
    have c1 := (K.out.keep hz1 hH) 1 _ rfl
    by_cases hlt : k < n1
    · obtain ⟨y, hy⟩ : ∃ y, P[k]? = some y := get_some (by have := HNP.out; omega)
      have hBw := hB1.trans (hH.mono hB1.size)
      have hrow := HR1.out _ hBw
      obtain ⟨bb, off, rfl, hbw, hc⟩ := ints_at hrow (k := k) (lt_of_get hy)
      obtain ⟨d0, _⟩ := hc k y hy
      have hts := Lib.hid (HMM1.out k y hy)
      have HOk := hO
      clear hc hy hrow hBw
      go_wp2_with (first | (at_builtin; go_loud (refine wpList_append_src rfl (.tmp 29) (.tmp 36) 28 rfl W1.heap.size 5 i (.int .u8 0) 1 1 Tryd.underlying28 hi hz hsize hby rfl (by omega) _ (E1.length + k) _ rfl (owns_below HOk.out ((Below.refl _ _).alloc (Nat.le_refl _) _)) _ 1 [.int .u8 (y % 256)] rfl (src_new _ _ _) rfl (by intro u hu; simp at hu; rw [hu]; rfl) (by unfold maxLen; omega) (by omega) (by simp; have := hH.size; omega) ?_; intro v4 w4 hO4 hG4; have hH4 := grown3 (hH.alloc hH.size _) (by simp; have := hH.size; omega) (owns_below HOk.out ((Below.refl _ _).alloc (Nat.le_refl _) _)) hG4; have HO4 := Lib.hid hO4; clear hO4 hG4)) | fail)
      go_roundw
      case rel => exact ⟨k + 1, by omega, by simp, Lib.hid (own_eq2 HO4.out (by omega) (by rw [hts.out, ← List.append_assoc, ← bytesV_byteO])), Lib.hid hH4⟩
      case measure => first | (simp [intOf]; done) | (simp [intOf]; omega)
    · obtain rfl : k = n1 := by omega
      have c2 := (K.out.keep hz1 hH) 2 _ rfl
      have HO4 := Lib.hid (own_eq2 hO.out rfl (show bytesV (E1 ++ M1.take k) = bytesV (E1 ++ M1) by rw [List.take_of_length_le (by omega)]))
      clear hO hHw HR1 HMM1
      go_wp2_with (first | (at_builtin; go_loud (refine wpList_append_src rfl (.tmp 38) (.tmp 42) 28 rfl W1.heap.size 5 i (.int .u8 0) 1 1 Tryd.underlying28 hi hz hsize hby rfl (by omega) _ (E1.length + k) _ rfl (owns_below HO4.out ((Below.refl _ _).alloc (Nat.le_refl _) _)) _ 1 [.int .u8 (rs % 256)] rfl (src_new _ _ _) rfl (by intro u hu; simp at hu; rw [hu]; rfl) (by unfold maxLen; omega) (by omega) (by simp; have := hH.size; omega) ?_; intro v5 w5 hO5 hG5; have hH5 := grown3 (hH.alloc hH.size _) (by simp; have := hH.size; omega) (owns_below HO4.out ((Below.refl _ _).alloc (Nat.le_refl _) _)) hG5; have HO5 := Lib.hid hO5; clear hO5 hG5 c1 c2; have c3 := (K.out.keep hz1 hH5) 3 _ rfl)) | fail)
      obtain ⟨E2, hE2⟩ : ∃ E2, E2 = E1 ++ M1 ++ [byteO rs] := ⟨_, rfl⟩
      have hE2n : E2.length = E1.length + k + 1 := by rw [hE2]; simp only [List.length_append, List.length_cons, List.length_nil, hM1]
      have HO5 := Lib.hid (show w5.ownsRow W1.heap.size 5 1 v5 E2.length (bytesV E2) by rw [hE2n, hE2, ← bytesV_byteO]; exact HO5.out)
      rw [← hE2] at HPU
      have hE2b : E2.length ≤ 20000 := by omega
      have HRow5 := Lib.hid (owns_bytes HO5.out rfl)
      clear hE2 hE2n HO4 HO5 hlt
      refine (ref03_Put v5 E2 2 n2 w5 HRow5.out (by omega)).mono ?_; rintro e w6 ⟨r6, rfl, hr6, hb6⟩
      rw [hn8] at hr6
      have hH6 := hH5.trans (hb6.mono hH5.size)
      obtain ⟨E3, hE3⟩ : ∃ E3, E3 = E2 ++ putL 2 n2 := ⟨_, rfl⟩
      have hE3n : E3.length = E2.length + 2 := by rw [hE3]; simp only [List.length_append, hp2]
      have HO6 := Lib.hid (show w6.ownsRow W1.heap.size 5 1 r6 E3.length (bytesV E3) by rw [hE3n, hE3]; exact own_low hr6 hH5.size)
      rw [← hE3] at HPU
      have HHH := Lib.hid hH6
      clear hr6 hb6 hE3 hH6 hH5 HRow5 c3 hH
      go_wp2_with fail
      go_loopw [4, 6] (fun o j wr => ∃ q : Nat, q ≤ n2 ∧ j = .int .i64 q ∧ Hid (wr.ownsRow W1.heap.size 5 1 o (E3.length + q) (bytesV (E3 ++ M2.take q))) ∧ Hid (Below W1.heap.size W1 wr)) (fun _ j _ => n2 - (intOf j).toNat)
      case atStart => exact ⟨0, by omega, rfl, Lib.hid (by simpa using HO6.out), HHH⟩
      case round =>
        clear HO6 HHH
        obtain ⟨q, hq, rfl, hO, hHw⟩ := hrel
        have hH := hHw.out
        have c3 := (K.out.keep hz1 hH) 3 _ rfl
        by_cases hlt : q < n2
        · obtain ⟨y, hy⟩ : ∃ y, Q[q]? = some y := get_some (by have := HNQ.out; omega)
          have hBw := hB1.trans (hH.mono hB1.size)
          have hrow := HR2.out _ hBw
          obtain ⟨bb, off, rfl, hbw, hc⟩ := ints_at hrow (k := q) (lt_of_get hy)
          obtain ⟨d0, _⟩ := hc q y hy
          have hts := Lib.hid (HMM2.out q y hy)
          have HOk := hO
          clear hc hy hrow hBw
          go_wp2_with (first | (at_builtin; go_loud (refine wpList_append_src rfl (.tmp 56) (.tmp 63) 28 rfl W1.heap.size 5 i (.int .u8 0) 1 1 Tryd.underlying28 hi hz hsize hby rfl (by omega) _ (E3.length + q) _ rfl (owns_below HOk.out ((Below.refl _ _).alloc (Nat.le_refl _) _)) _ 1 [.int .u8 (y % 256)] rfl (src_new _ _ _) rfl (by intro u hu; simp at hu; rw [hu]; rfl) (by unfold maxLen; omega) (by omega) (by simp; have := hH.size; omega) ?_; intro v7 w7 hO7 hG7; have hH7 := grown3 (hH.alloc hH.size _) (by simp; have := hH.size; omega) (owns_below HOk.out ((Below.refl _ _).alloc (Nat.le_refl _) _)) hG7; have HO7 := Lib.hid hO7; clear hO7 hG7)) | fail)
          go_roundw
          case rel => exact ⟨q + 1, by omega, by simp, Lib.hid (own_eq2 HO7.out (by omega) (by rw [hts.out, ← List.append_assoc, ← bytesV_byteO])), Lib.hid hH7⟩
          case measure => first | (simp [intOf]; done) | (simp [intOf]; omega)
        · obtain rfl : q = n2 := by omega
          have HO7 := Lib.hid (own_eq2 hO.out rfl (show bytesV (E3 ++ M2.take q) = bytesV (E3 ++ M2) by rw [List.take_of_length_le (by omega)]))
          obtain ⟨E4, hE4⟩ : ∃ E4, E4 = E3 ++ M2 := ⟨_, rfl⟩
          have hE4n : E4.length = E3.length + q := by rw [hE4]; simp only [List.length_append, hM2]
          have HRow7 := Lib.hid (owns_bytes (L := E4) (own_eq2 HO7.out hE4n.symm (by rw [hE4])) rfl)
          rw [← hE4] at HPU
          have hE4b : E4.length ≤ 30000 := by omega
          have c4 := (K.out.keep hz1 hH) 4 _ rfl
          clear hO hHw HR2 HMM2 HO7 hE4 hE4n
          go_wp2_with fail
          refine (ref03_Put _ E4 2 n3 _ HRow7.out (by omega)).mono ?_; rintro e w8 ⟨r8, rfl, hr8, hb8⟩
          rw [hn8] at hr8
          have hH8 := hH.trans (hb8.mono hH.size)
          have hB8 := hB1.trans (hH8.mono hB1.size)
          have HO8 := Lib.hid hr8
          have hz8 := hb8.size
          have c4 := (K.out.keep hz1 hH8) 4 _ rfl
          clear hr8
          go_wp2_with fail
          refine (HE.out _ hB8).mono ?_; rintro e w9 ⟨r9, rfl, hr9, hb9⟩
          have hB9 := hB8.trans (hb9.mono hB8.size)
          have HO9 := Lib.hid (owns_below HO8.out hb9)
          have HR9 := Lib.hid hr9
          have hz9 : wr.heap.size ≤ w9.heap.size := Nat.le_trans hz8 hb9.size
          have hwr := hB1.trans (hH.mono hB1.size)
          have hb89 := hb8.trans (hb9.mono hz8)
          have HFL := Lib.hid (show (E4 ++ putL 2 n3 ++ EC).length = E4.length + 2 + EC.length by simp only [List.length_append, hp2])
          clear hr9 c4 HRow7
          generalize E4.length = fl at *
          generalize hel : EC.length = el at *
          have HEL := Lib.hid hel
          clear hel
          go_wp2_with (first | (at_builtin; go_loud (refine wpList_append_row1 rfl (.tmp 76) (.tmp 77) 28 rfl wr.heap.size 5 i (.int .u8 0) 1 Tryd.underlying28 hi hz hsize hby rfl _ (fl + 2) _ rfl HO9.out _ el (byteV EC) rfl HR9.out (fun _ _ => rfl) (by unfold maxLen; omega) (by omega) hz9 ?_; intro v10 w10 hO10 hG10; have hB10 := hwr.trans ((grown3 hb89 hz9 HO9.out hG10).mono hwr.size); have HO10 := Lib.hid hO10; clear hO10 hG10)) | fail)
          go_returns
          refine ⟨_, rfl, ?_, hB10⟩
          rw [HPO.out, HPU.out]
          exact owns_bytes (own_eq2 HO10.out rfl (by rw [bytesV_app (E4 ++ putL 2 n3), ← map_bytesV EC, HEL.out])) (by rw [HFL.out])
end Go.Proofs.YtpeogdbfhfkngaaDoor
