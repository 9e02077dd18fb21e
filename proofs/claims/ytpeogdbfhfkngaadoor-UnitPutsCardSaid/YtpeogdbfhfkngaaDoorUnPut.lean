/- Layer 15: a unit's bytes, by the program. -/
import Derived.Test.YtpeogdbfhfkngaaDoorUnPutA
namespace Go.Proofs.YtpeogdbfhfkngaaDoor
open Go.RowKit
set_option linter.unusedSimpArgs false
set_option linter.unusedVariables false
def putU (x : Un) : List UInt8 := (((((UInt8.ofNat x.name.length :: x.name) ++ [byteO x.params.length] ++ x.params.map byteO ++ [byteO x.result]) ++ putL 2 x.locals.length) ++ x.locals.map byteO) ++ putL 2 x.code.length) ++ encO x.code
def putO (x : Un) : List UInt8 := if fitU x = true then putU x else []
theorem putO_yes {x : Un} (h : fitU x = true) : putO x = putU x := if_pos h
theorem putO_no {x : Un} (h : fitU x = false) : putO x = [] := by unfold putO; rw [h]; exact if_neg (by decide)
theorem bytesV_byteO (L : List UInt8) (z : Int) : bytesV L ++ [.int .u8 (z % 256)] = bytesV (L ++ [byteO z]) := by rw [bytesV_snoc, byteO_val]
theorem row_nil_at (w : World) : RowAt w (.slice none 0 0) ([] : List UInt8).length (byteV []) := Or.inl ⟨none, 0, rfl, rfl, fun _ => rfl⟩
theorem text_nil (nm : ByteArray) (h : nm.size ≤ 255) : [] ++ [UInt8.ofNat (cut255 nm).size] ++ (cut255 nm).data.toList = UInt8.ofNat nm.size :: nm.data.toList := by
  have : cut255 nm = nm := by unfold cut255; rw [if_neg (by omega)]
  rw [this]; rfl
set_option maxHeartbeats 4000000 in
theorem unit_Put (a b c : Value) (x : Un) (w : World) (hT : STab w) (h : UnAt w a b c x) (hl : x.params.length ≤ 1000 ∧ x.locals.length ≤ 4000 ∧ x.code.length ≤ 1000) :
    Calls Tryd.prog 8 #[.agg #[.string ⟨x.name.toArray⟩, a, .int .i64 x.result, b, c]] w fun e w' => ∃ r, e = .returned (.tuple #[r, .bool (fitU x)]) ∧ RowAt w' r (putO x).length (byteV (putO x)) ∧ Below w.heap.size w w' := by
  obtain ⟨i, hi, hz, hsize, hby⟩ : ∃ i, Tryd.prog.info? 5 = some i ∧ i.zero = some (.int .u8 0) ∧ i.size = 1 ∧ i.bytes = 1 := ⟨(Tryd.prog.info? 5).get!, by kernel_rfl, by kernel_rfl, by kernel_rfl, by kernel_rfl⟩
  have HF := Lib.hid (fun W (hb : Below w.heap.size w W) => unit_Fits a b c x W (hT.below hb) (h.below hb))
  have HM1 := Lib.hid (fun W (hb : Below w.heap.size w W) => unit_bytesOf a x.params W (h.ps.below intR_stable hb) (by omega))
  have HM2 := Lib.hid (fun W (hb : Below w.heap.size w W) => unit_bytesOf b x.locals W (h.ls.below intR_stable hb) (by omega))
  have HE := Lib.hid (fun W (hb : Below w.heap.size w W) => code_Encode c x.code W (hT.below hb) (h.cs.below insR_stable hb) hl.2.2)
  obtain ⟨sa, ca, ea⟩ := row_get h.ps
  obtain ⟨sb, cb, eb⟩ := row_get h.ls
  obtain ⟨sc, cc, ec⟩ := row_get h.cs
  subst ea eb ec
  clear h hT
  cases hf : fitU x
  · rw [hf] at HF
    have hs := Lib.hid (putO_no hf)
    generalize (⟨x.name.toArray⟩ : ByteArray) = nm at *
    generalize x.params.length = n1 at *
    generalize x.locals.length = n2 at *
    generalize x.code.length = n3 at *
    generalize x.result = rs at *
    have hB0 : Below w.heap.size w (w.alloc (.cells #[.string nm, .slice sa n1 ca, .int .i64 rs, .slice sb n2 cb, .slice sc n3 cc] 25)) := (Below.refl _ _).alloc (Nat.le_refl _) _
    clear hf
    go_enter Tryd.func8, Tryd.ntmps8
    go_wp2_with fail
    refine (HF.out _ hB0).mono ?_; rintro e w1 ⟨rfl, hb1⟩
    have hB1 := hB0.trans (hb1.mono hB0.size)
    go_wp2_with fail
    go_returns
    exact ⟨_, rfl, by rw [hs.out]; exact row_nil_at _, hB1⟩
  rw [hf] at HF
  obtain ⟨hlen, hp, hq, hr, hc⟩ := fitU_is hf
  have hnm : (⟨x.name.toArray⟩ : ByteArray).size = x.name.length := by simp [ByteArray.size]
  have htn := text_nil ⟨x.name.toArray⟩ (by rw [hnm]; exact hlen.1)
  rw [hnm] at htn
  have hcut : (cut255 ⟨x.name.toArray⟩).size = x.name.length := by unfold cut255; rw [if_neg (by rw [hnm]; have := hlen.1; omega)]; exact hnm
  have HT := Lib.hid (fun W : World => (octet_Text (.slice none 0 0) [] ⟨x.name.toArray⟩ W (row_nil_at W) (by simp)).mono (R' := fun e w' => ∃ r, e = .returned r ∧ w'.ownsRow W.heap.size 5 1 r (1 + x.name.length) (bytesV (UInt8.ofNat x.name.length :: x.name)) ∧ Below W.heap.size W w') (by rintro e w' ⟨r, h1, h2, h3⟩; rw [htn, hcut] at h2; exact ⟨r, h1, by simpa using h2, h3⟩))
  have HPO := Lib.hid (putO_yes hf)
  have HPU := Lib.hid (show putU x = (((((UInt8.ofNat x.name.length :: x.name) ++ [byteO x.params.length] ++ x.params.map byteO ++ [byteO x.result]) ++ putL 2 x.locals.length) ++ x.locals.map byteO) ++ putL 2 x.code.length) ++ encO x.code from rfl)
  rw [hc] at HE
  have hEl : (encO x.code).length ≤ 5000 := by rw [encO_yes hc, enc_len]; omega
  have hTl : (UInt8.ofNat x.name.length :: x.name).length = 1 + x.name.length := by simp; omega
  have hn0 : x.name.length ≤ 255 := hlen.1
  have hM1 : (x.params.map byteO).length = x.params.length := by simp
  have hM2 : (x.locals.map byteO).length = x.locals.length := by simp
  have hp2 : ∀ z : Int, (putL 2 z).length = 2 := fun z => putL_len 2 z
  have hn8 : (near8 2).toNat = 2 := by decide
  clear hf hlen hp hq hr hc hnm htn hcut
  generalize encO x.code = EC at *
  generalize (UInt8.ofNat x.name.length :: x.name) = T at *
  generalize x.params.map byteO = M1 at *
  generalize x.locals.map byteO = M2 at *
  generalize (⟨x.name.toArray⟩ : ByteArray) = nm at *
  generalize x.name.length = n0 at *
  generalize x.params.length = n1 at *
  generalize x.locals.length = n2 at *
  generalize x.code.length = n3 at *
  generalize x.result = rs at *
  obtain ⟨W0, hW0⟩ : ∃ W0, W0 = w.alloc (.cells #[.string nm, .slice sa n1 ca, .int .i64 rs, .slice sb n2 cb, .slice sc n3 cc] 25) := ⟨_, rfl⟩
  have hB0 : Below w.heap.size w W0 := by rw [hW0]; exact (Below.refl _ _).alloc (Nat.le_refl _) _
  have K0 := Lib.hid (show Boxed W0 w.heap.size [.string nm, .slice sa n1 ca, .int .i64 rs, .slice sb n2 cb, .slice sc n3 cc] by rw [hW0]; exact Boxed.new w _ _ (Below.refl _ _))
  have hz0 : w.heap.size < W0.heap.size := by rw [hW0]; simp
  have HW0 := Lib.hid hW0
  have HL := Lib.hid hl
  clear hW0 hl
  go_enter Tryd.func8, Tryd.ntmps8
  go_wp2_with fail
  refine (HF.out _ (by rw [← HW0.out]; exact hB0)).mono ?_; rintro e W1 ⟨rfl, hb1⟩
  rw [← HW0.out] at hb1
  have hB1 := hB0.trans (hb1.mono hB0.size)
  have hz1 : w.heap.size < W1.heap.size := Nat.lt_of_lt_of_le hz0 hb1.size
  have K := Lib.hid (K0.out.keep hz0 hb1)
  clear HW0 K0 HF hb1 hB0 hz0
  clear W0
  go_wp2_with fail
  obtain ⟨l1, l2, l3⟩ := HL.out
  refine Code.wp_mono ?_ (unitPut_r3 W1 w.heap.size nm sa n1 ca (1 + n0) T hz1 (K.out 0 _ rfl) (K.out 1 _ rfl) (by omega) (by omega) hTl HT i hi hz hsize hby _ _ _ _ _ _ _ _ _ _ _ _ _ _ _ _ _ _ _ _ _ _ _ _ _ _ _ _ _ _ _ _ _ _ _ _ _ _ _ _ _ _ _ _ _ _ _ _ _ _ _)
  rintro e bb v2 ⟨rfl, u4, u10, u11, u12, u13, u14, u15, u16, u17, u18, rfl, hH2, g9⟩
  rw [bytesV_byteO] at g9
  have HO2 := Lib.hid g9
  have hB2 := hB1.trans (hH2.mono hB1.size)
  have c1 := (K.out.keep hz1 hH2) 1 _ rfl
  clear g9 HT l1 l2 l3
  go_wp2_with fail
  refine (HM1.out _ hB2).mono ?_; rintro e w3 ⟨r3, rfl, hr3, hb3⟩
  have hH3 := hH2.trans (hb3.mono hH2.size)
  have HO3 := Lib.hid (owns_below HO2.out hb3)
  have HR3 := Lib.hid hr3
  have hBw := hB1.trans (hH3.mono hB1.size)
  clear c1 hr3 hb3
  obtain ⟨l1, l2, l3⟩ := HL.out
  go_wp2_with (first | (at_builtin; go_loud (refine wpList_append_src rfl (.tmp 19) (.tmp 22) 28 rfl W1.heap.size 5 i (.int .u8 0) 1 1 Tryd.underlying28 hi hz hsize hby rfl (by omega) _ (1 + n0 + 1) _ rfl HO3.out _ n1 _ rfl (src_own HR3.out) (by have := HR3.out.1; omega) (bytesV_one _) (by unfold maxLen; omega) (by omega) hH3.size ?_; intro v4 w4 hO4 hG4; have hH4 := grown3 hH3 hH3.size HO3.out hG4; have HO4 := Lib.hid hO4; have c2 := (K.out.keep hz1 hH4) 2 _ rfl; clear hO4 hG4)) | (at_builtin; go_loud (refine wpList_append_src rfl (.tmp 24) (.tmp 28) 28 rfl W1.heap.size 5 i (.int .u8 0) 1 1 Tryd.underlying28 hi hz hsize hby rfl (by omega) _ (1 + n0 + 1 + n1) _ rfl (owns_below HO4.out ((Below.refl _ _).alloc (Nat.le_refl _) _)) _ 1 [.int .u8 (rs % 256)] rfl (src_new _ _ _) rfl (by intro u hu; simp at hu; rw [hu]; rfl) (by unfold maxLen; omega) (by omega) (by simp; have := hH4.size; omega) ?_; intro v5 w5 hO5 hG5; have hH5 := grown3 (hH4.alloc hH4.size _) (by simp; have := hH4.size; omega) (owns_below HO4.out ((Below.refl _ _).alloc (Nat.le_refl _) _)) hG5; have HO5 := Lib.hid hO5; clear hO5 hG5 c2)) | fail)
  have hB5 := hB1.trans (hH5.mono hB1.size)
  have hz5 : w.heap.size < w5.heap.size := Nat.lt_of_lt_of_le hz1 hH5.size
  have K5 := Lib.hid (K.out.keep hz1 hH5)
  obtain ⟨E, hE⟩ : ∃ E, E = T ++ [byteO n1] ++ M1 ++ [byteO rs] := ⟨_, rfl⟩
  have hEn : E.length = 1 + n0 + 1 + n1 + 1 := by rw [hE]; simp only [List.length_append, List.length_cons, List.length_nil, hTl, hM1]
  have HO5 := Lib.hid (show w5.ownsRow W1.heap.size 5 1 v5 E.length (bytesV E) by
    refine own_eq2 HO5.out (by omega) ?_
    rw [hE, bytesV_snoc (T ++ [byteO n1] ++ M1) (byteO rs), bytesV_app (T ++ [byteO n1]) M1, byteO_val])
  rw [← hE] at HPU
  clear hE
  refine Code.wp_mono ?_ (unitPut_r6 w5 w.heap.size v5 sb n2 cb E.length E M2 hz5 (K5.out 3 _ rfl) (by omega) (by omega) rfl (Lib.hid (fun W hW => by
    have := octet_Put v5 E 2 n2 W (owns_bytes (owns_below HO5.out hW) rfl) (by omega)
    rw [hn8] at this
    exact this)) (Lib.hid (fun W hW => HM2.out W (hB5.trans (hW.mono hB5.size)))) i hi hz hsize hby _ _ _ _ _ _ _ _ _ _ _ _ _ _ _ _ _ _ _ _ _ _ _ _ _ _ _ _ _ _ _ _ _ _ _ _ _ _ _ _ _ _ _ _ _ _ _ _ _ _)
  rintro e bb v6 ⟨rfl, u4, u30, u31, u32, u33, u34, u35, u36, u37, u38, rfl, hH6, g9⟩
  have hB6 := hB5.trans (hH6.mono hB5.size)
  have hz6 : w.heap.size < v6.heap.size := Nat.lt_of_lt_of_le hz5 hH6.size
  have K6 := Lib.hid (K5.out.keep hz5 hH6)
  obtain ⟨F, hF⟩ : ∃ F, F = E ++ putL 2 n2 ++ M2 := ⟨_, rfl⟩
  have hFn : F.length = E.length + 2 + n2 := by rw [hF]; simp only [List.length_append, hp2, hM2]
  have HF := Lib.hid (owns_bytes (L := F) (own_eq2 g9 (by omega) (by rw [hF, bytesV_app (E ++ putL 2 n2)])) rfl)
  rw [← hF] at HPU
  have c4 := K6.out 4 _ rfl
  clear hF g9
  go_wp2_with fail
  refine (HE.out _ hB6).mono ?_; rintro e w7 ⟨r7, rfl, hr7, hb7⟩
  have hB7 := hB6.trans (hb7.mono hB6.size)
  have HF7 := Lib.hid (HF.out.below hb7)
  have HR7 := Lib.hid hr7
  have c4 := (K6.out.keep hz6 hb7) 4 _ rfl
  clear hr7
  go_wp2_with fail
  refine (octet_Put u4 F 2 n3 w7 HF7.out (by omega)).mono ?_; rintro e w8 ⟨r8, rfl, hr8, hb8⟩
  rw [hn8] at hr8
  have HO8 := Lib.hid hr8
  have HR8 := Lib.hid (HR7.out.below hb8)
  have hB8 := hB7.trans (hb8.mono hB7.size)
  have hz8 := hb8.size
  have hFb : F.length ≤ 20000 := by omega
  have HFL := Lib.hid (show (F ++ putL 2 n3 ++ EC).length = F.length + 2 + EC.length by simp only [List.length_append, hp2])
  clear hr8 hFn hEn c4
  generalize F.length = fl at *
  have HEL0 := Lib.hid (show EC.length = EC.length from rfl)
  generalize hel : EC.length = el at *
  have HEL := Lib.hid hel
  clear hel HEL0
  go_wp2_with (first | (at_builtin; go_loud (refine wpList_append_row1 rfl (.tmp 49) (.tmp 50) 28 rfl w7.heap.size 5 i (.int .u8 0) 1 Tryd.underlying28 hi hz hsize hby rfl _ (fl + 2) _ rfl HO8.out _ el (byteV EC) rfl HR8.out (fun _ _ => rfl) (by unfold maxLen; omega) (by omega) hz8 ?_; intro v9 w9 hO9 hG9; have hB9 := hB7.trans ((grown3 hb8 hz8 HO8.out hG9).mono hB7.size); have HO9 := Lib.hid hO9; clear hO9 hG9)) | fail)
  go_returns
  refine ⟨_, rfl, ?_, hB9⟩
  rw [HPO.out, HPU.out]
  exact owns_bytes (own_eq2 HO9.out rfl (by rw [bytesV_app (F ++ putL 2 n3), ← map_bytesV EC, HEL.out])) (by rw [HFL.out])
end Go.Proofs.YtpeogdbfhfkngaaDoor
