/- Layer 5: names that are unlike: the answer's walk, its first loop. -/
import Derived.Test.YthammifbpdoggaaDoorIdHas
import Derived.Test.YthammifbpdoggaaDoorIdPrint
namespace Go.Proofs.YthammifbpdoggaaDoor
open Go.RowKit Go.Maps
set_option linter.unusedSimpArgs false
set_option linter.unusedVariables false
set_option maxHeartbeats 4000000 in
theorem ref05_Unique (v : Value) (L : List (List UInt8)) (w : World) (hv : RowAt w v L.length (strV L)) (hL : L.length ≤ 40) (hl : ∀ k, k < L.length → (L.getD k []).length ≤ 1000000) :
    Calls Tryd.prog 14 #[v] w fun e w' => ∃ r, e = .returned r ∧ RowAt w' r L.length (strV (uniqL L)) ∧ Below w.heap.size w w' := by
  obtain ⟨i, hi, hz, hsize, hby⟩ : ∃ i, Tryd.prog.info? 9 = some i ∧ i.zero = some (.string ⟨#[]⟩) ∧ i.size = 1 ∧ i.bytes = 16 := ⟨(Tryd.prog.info? 9).get!, by kernel_rfl, by kernel_rfl, by kernel_rfl, by kernel_rfl⟩
  obtain ⟨a, cap, rfl, hcell⟩ := row_any hv
  obtain ⟨N, hN⟩ : ∃ N, L.length = N := ⟨_, rfl⟩
  have HN := Lib.hid hN
  rw [hN] at hcell hL ⊢
  have HLn := Lib.hid (show ∀ k, k < N → (L.getD k []).length ≤ 1000000 from fun k hk => hl k (by omega))
  have HCl := Lib.hid hcell
  have q1 : (200 < (N : Int)) = False := eq_false (by omega)
  have q1' : (200 < N) = False := eq_false (by omega)
  clear hv hl hN hcell
  go_enter Tryd.func14, Tryd.ntmps14
  go_wp2_with fail
  go_loopw [3, 5] (fun o jj wr => ∃ k : Nat, k ≤ N ∧ jj = .int .i64 k ∧ Hid (wr.ownsRow w.heap.size 9 1 o k (sV ((L.map cleanL).take k))) ∧ Hid (Below w.heap.size w wr)) (fun _ jj _ => N - (intOf jj).toNat)
  case atStart => exact ⟨0, by omega, rfl, Lib.hid ⟨by simp [sV], Or.inl ⟨rfl, rfl⟩⟩, Lib.hid (Below.refl _ _)⟩
  case round =>
    obtain ⟨k, hk, rfl, hO, hB⟩ := hrel
    by_cases hlt : k < N
    · have qk : ((k : Int) < (N : Int)) = True := eq_true (by omega)
      have qk' : (k < N) = True := eq_true hlt
      obtain ⟨b, off, rfl, hc1, hc2, hbw, hcell0⟩ := HCl.out k hlt
      have hc3 : cap ≤ 9223372036854775807 := hc2
      have hcell : wr.cell? ⟨b, off + k, none⟩ = some (.string ⟨(L.getD k []).toArray⟩) := (hB.out.cell (p := ⟨b, off + k, none⟩) hbw).trans hcell0
      have hcl := ref05_Clean (L.getD k []) wr (HLn.out k hlt)
      have HTk := Lib.hid (show (L.map cleanL).take (k + 1) = (L.map cleanL).take k ++ [cleanL (L.getD k [])] from take_snoc (by simp [List.getD, show k < L.length by rw [HN.out]; exact hlt]))
      have HLT := Lib.hid hlt
      clear hcell0 hc2 hbw hlt
      generalize hx : L.getD k [] = x at *
      generalize hnm : cleanL x = nx at *
      clear hx hnm
      generalize (L.map cleanL).take k = Lk at *
      go_wp2_with fail
      refine hcl.mono ?_; rintro e w2 ⟨rfl, hb2⟩
      have HO2 := Lib.hid (owns_below hO.out hb2)
      have HB2 := Lib.hid (hB.out.trans (hb2.mono hB.out.size))
      clear hb2 hcl hO hB
      go_wp2_with (first | (at_builtin; go_loud (refine wpList_append_src rfl (.tmp 19) (.tmp 25) 25 rfl w.heap.size 9 i (.string ⟨#[]⟩) 1 16 Tryd.underlying25 hi hz hsize hby rfl (by omega) _ k _ rfl (owns_below HO2.out ((Below.refl _ _).alloc (Nat.le_refl _) _)) _ 1 [.string ⟨nx.toArray⟩] rfl (src_new _ _ _) rfl (by intro u hu; simp at hu; rw [hu]; rfl) (by unfold maxLen; omega) (by omega) (by have := HB2.out.size; simp; omega) ?_; intro v4 w4 hO4 hG4; have HB4 := Lib.hid (grown3 (HB2.out.alloc HB2.out.size _) (by have := HB2.out.size; simp; omega) (owns_below HO2.out ((Below.refl _ _).alloc (Nat.le_refl _) _)) hG4); have HO4 := Lib.hid hO4; clear hO4 hG4)) | fail)
      go_roundw
      case rel => exact ⟨k + 1, by have := HLT.out; omega, by simp, Lib.hid (by rw [HTk.out, sV_app]; exact HO4.out), HB4⟩
      case measure => have := HLT.out; first | (simp [intOf]; done) | (simp [intOf]; omega)
    · obtain rfl : N = k := by omega
      have qk : ((N : Int) < (N : Int)) = False := eq_false (by omega)
      have qk' : (N < N) = False := eq_false (by omega)
      --LOOP2
      rename World => A
      have hfull : (L.map cleanL).take N = L.map cleanL := List.take_of_length_le (by simp; have := HN.out; omega)
      rw [hfull] at hO
      have hrC := RowAt.owns (f := strV (L.map cleanL)) hO.out (fun i hi => sV_at (by rw [List.length_map, HN.out]; exact hi))
      obtain ⟨aC, cC, rfl, hcC⟩ := row_any hrC
      have HrC := Lib.hid hrC
      have HcC := Lib.hid hcC
      have HBA := hB
      clear hO hfull hrC hcC hB hlt hk
      go_wp2_with fail
      go_loopw [4, 6] (fun o jj wr => ∃ m : Nat, m ≤ N ∧ jj = .int .i64 m ∧ Hid (wr.ownsRow A.heap.size 9 1 o m (sV (uniqK L m))) ∧ Hid (Below A.heap.size A wr)) (fun _ jj _ => N - (intOf jj).toNat)
      case atStart => exact ⟨0, by omega, rfl, Lib.hid ⟨by rfl, Or.inl ⟨rfl, rfl⟩⟩, Lib.hid (Below.refl _ _)⟩
      case round =>
        obtain ⟨m, hm, rfl, HO, HB⟩ := hrel
        by_cases hlt : m < N
        · have qk : ((m : Int) < (N : Int)) = True := eq_true (by omega)
          have qk' : (m < N) = True := eq_true hlt
          obtain ⟨b, off, rfl, hc1, hc2, hbw, hcell0⟩ := HcC.out m hlt
          have hc3 : cC ≤ 9223372036854775807 := hc2
          have hmC : strV (L.map cleanL) m = .string ⟨(cleanL (L.getD m [])).toArray⟩ := by
            unfold strV
            simp [List.getD, show m < L.length by rw [HN.out]; exact hlt]
          have hcell : wr.cell? ⟨b, off + m, none⟩ = some (.string ⟨(cleanL (L.getD m [])).toArray⟩) := hmC ▸ (HB.out.cell (p := ⟨b, off + m, none⟩) hbw).trans hcell0
          have HU := Lib.hid (uniqK_succ (L := L) (k := m) (by rw [HN.out]; exact hlt))
          have hOl : (uniqK L m).length = m := uniqK_len L m (by rw [HN.out]; exact hm)
          have hCl : (L.map cleanL).length = N := by rw [List.length_map]; exact HN.out
          have hrO := RowAt.owns (f := strV (uniqK L m)) HO.out (fun i hi => sV_at (by rw [hOl]; exact hi))
          have HhO := Lib.hid (fun s => ref05_has _ (uniqK L m) s wr (by rw [hOl]; exact hrO))
          have HhC := Lib.hid (fun s => ref05_has _ (L.map cleanL) s wr (by rw [hCl]; exact HrC.out.below HB.out))
          have hnl := clean_len (L.getD m [])
          have HLT := Lib.hid hlt
          clear hcell0 hc2 hbw hlt hmC hrO
          generalize hU1 : uniqK L (m + 1) = U1 at *
          have HE1 := Lib.hid hU1
          clear hU1
          generalize cleanL (L.getD m []) = nm at *
          generalize uniqK L m = O at *
          generalize L.map cleanL = C at *
          have h1 := HhO.out nm
          cases hct : O.contains nm
          · have HU := Lib.hid (show U1 = O ++ [nm] by rw [HU.out]; unfold uniqS; rw [if_neg (by rw [hct]; simp)])
            rw [hct] at h1
            clear hct
            generalize hnx : nm = nx at *
            go_wp2_with fail
            refine h1.mono ?_; rintro e w5 ⟨rfl, rfl⟩
            go_wp2_with (first | (at_builtin; go_loud (refine wpList_append_src rfl (.tmp 73) (.tmp 75) 25 rfl A.heap.size 9 i (.string ⟨#[]⟩) 1 16 Tryd.underlying25 hi hz hsize hby rfl (by omega) _ m _ rfl (owns_below HO.out ((Below.refl _ _).alloc (Nat.le_refl _) _)) _ 1 [.string ⟨nx.toArray⟩] rfl (src_new _ _ _) rfl (by intro u hu; simp at hu; rw [hu]; rfl) (by unfold maxLen; omega) (by omega) (by have := HB.out.size; simp; omega) ?_; intro v4 w4 hO4 hG4; have HB4 := Lib.hid (grown3 (HB.out.alloc HB.out.size _) (by have := HB.out.size; simp; omega) (owns_below HO.out ((Below.refl _ _).alloc (Nat.le_refl _) _)) hG4); have HO4 := Lib.hid hO4; clear hO4 hG4)) | fail)
            go_roundw
            case rel => exact ⟨m + 1, by have := HLT.out; omega, by simp, Lib.hid (by rw [HE1.out, HU.out, sV_app]; exact HO4.out), HB4⟩
            case measure => have := HLT.out; first | (simp [intOf]; done) | (simp [intOf]; omega)
          · obtain ⟨f1, f2, f3, f4⟩ := free_spec (C := C) (O := O) nm (by omega)
            have HU := Lib.hid (show U1 = O ++ [nameL nm (freeN C O nm)] by rw [HU.out]; unfold uniqS; rw [if_pos hct])
            rw [hct] at h1
            have F3 := Lib.hid f3
            have F4 := Lib.hid f4
            clear hct f3 f4
            generalize freeN C O nm = M at *
            have HNf0 := Lib.hid (fun n => show nameL nm n = (nm.take 12 ++ [95]) ++ Lib.decDigits n from rfl)
            by_cases h12 : 12 < nm.length
            · have q6 : (12 < (nm.length : Int)) = True := eq_true (by omega)
              have q6' : (12 < nm.length) = True := eq_true h12
              have q7 : (12 ≤ (nm.length : Int)) = True := eq_true (by omega)
              have q7' : (12 ≤ nm.length) = True := eq_true (by omega)
              have q8 : ((nm.length : Int) < 12) = False := eq_false (by omega)
              have q8' : (nm.length < 12) = False := eq_false (by omega)
              obtain ⟨f, hf⟩ : ∃ f, nm.take 12 = f := ⟨_, rfl⟩
              have HNf := Lib.hid (show ∀ n, nameL nm n = f ++ [95] ++ Lib.decDigits n from fun n => by rw [HNf0.out n, hf])
              have HFl := Lib.hid (show f.length ≤ 12 by rw [← hf]; simp; omega)
              have HFA := Lib.hid (show (⟨nm.toArray⟩ : ByteArray).extract 0 12 = ⟨f.toArray⟩ by rw [bytes_cut, List.drop_zero, hf])
              clear hf h12
              go_wp2_with fail
              refine h1.mono ?_; rintro e w5 ⟨rfl, rfl⟩
              go_wp2_with fail
              rw [HFA.out]
              go_loopw [9] (fun jj W => ∃ n : Nat, 2 ≤ n ∧ n ≤ M ∧ jj = .int .i64 n ∧ W = w5) (fun jj _ => M - (intOf jj).toNat)
              case atStart => exact ⟨2, by omega, f1, rfl, rfl⟩
              case round =>
                obtain ⟨n, hn2, hnM, rfl, rfl⟩ := hrel
                have hp := fun W => ref04_Print n (by omega) W
                have hdl := dec_len (show n < 100 by omega)
                have q5 : ((n : Int) < 2002) = True := eq_true (by omega)
                have q5' : (n < 2002) = True := eq_true (by omega)
                have HXn := Lib.hid (HNf.out n)
                generalize Lib.decDigits n = d at *
                have hfl := HFl.out
                have hs1 : (9223372036854775807 < f.length + 1) = False := eq_false (by omega)
                have hs2 : (9223372036854775807 < f.length + 1 + d.length) = False := eq_false (by omega)
                have hs3 : (9223372036854775807 < f.length + (1 + d.length)) = False := eq_false (by omega)
                have HE := Lib.hid (show (⟨(f ++ [95] ++ d).toArray⟩ : ByteArray) = ⟨f.toArray⟩ ++ ⟨#[95]⟩ ++ ⟨d.toArray⟩ by rw [← byteCat, ← byteCat])
                have hh1 := HhO.out (f ++ [95] ++ d)
                have hh2 := HhC.out (f ++ [95] ++ d)
                rw [HE.out] at hh1 hh2
                clear hdl hfl
                by_cases hlt : n < M
                · have hb := F4.out n hn2 hlt
                  unfold busyB at hb
                  rw [HXn.out] at hb
                  have HL2 := Lib.hid hlt
                  clear hlt
                  cases ho : O.contains (f ++ [95] ++ d)
                  · rw [ho, Bool.false_or] at hb
                    rw [ho] at hh1
                    rw [hb] at hh2
                    clear ho hb
                    go_wp2_with fail
                    refine (hp _).mono ?_; rintro e w6 ⟨rfl, rfl⟩
                    go_wp2_with fail
                    refine hh1.mono ?_; rintro e w7 ⟨rfl, rfl⟩
                    go_wp2_with fail
                    refine (hp _).mono ?_; rintro e w8 ⟨rfl, rfl⟩
                    go_wp2_with fail
                    refine hh2.mono ?_; rintro e w9 ⟨rfl, rfl⟩
                    go_wp2_with fail
                    go_roundw
                    case rel => exact ⟨n + 1, by omega, by have := HL2.out; omega, by simp, by first | rfl | trivial⟩
                    case measure => have := HL2.out; first | (simp [intOf]; done) | (simp [intOf]; omega)
                  · rw [ho] at hh1
                    clear ho hb hh2
                    go_wp2_with fail
                    refine (hp _).mono ?_; rintro e w6 ⟨rfl, rfl⟩
                    go_wp2_with fail
                    refine hh1.mono ?_; rintro e w7 ⟨rfl, rfl⟩
                    go_wp2_with fail
                    go_roundw
                    case rel => exact ⟨n + 1, by omega, by have := HL2.out; omega, by simp, by first | rfl | trivial⟩
                    case measure => have := HL2.out; first | (simp [intOf]; done) | (simp [intOf]; omega)
                · have hM : n = M := by omega
                  have hb := F3.out
                  rw [← hM] at hb
                  unfold busyB at hb
                  rw [HXn.out, Bool.or_eq_false_iff] at hb
                  have HXM := Lib.hid (show nameL nm M = f ++ [95] ++ d by rw [← hM]; exact HXn.out)
                  rw [hb.1] at hh1
                  rw [hb.2] at hh2
                  clear hb hlt hM
                  go_wp2_with fail
                  refine (hp _).mono ?_; rintro e w6 ⟨rfl, rfl⟩
                  go_wp2_with fail
                  refine hh1.mono ?_; rintro e w7 ⟨rfl, rfl⟩
                  go_wp2_with fail
                  refine (hp _).mono ?_; rintro e w8 ⟨rfl, rfl⟩
                  go_wp2_with fail
                  refine hh2.mono ?_; rintro e w9 ⟨rfl, rfl⟩
                  go_wp2_with fail
                  refine (hp _).mono ?_; rintro e w10 ⟨rfl, rfl⟩
                  go_wp2_with (first | (at_builtin; go_loud (refine wpList_append_src rfl (.tmp 73) (.tmp 75) 25 rfl A.heap.size 9 i (.string ⟨#[]⟩) 1 16 Tryd.underlying25 hi hz hsize hby rfl (by omega) _ m _ rfl (owns_below HO.out ((Below.refl _ _).alloc (Nat.le_refl _) _)) _ 1 [.string (⟨f.toArray⟩ ++ ⟨#[95]⟩ ++ ⟨d.toArray⟩)] rfl (src_new _ _ _) rfl (by intro u hu; rcases List.mem_singleton.1 hu with rfl; rfl) (by unfold maxLen; omega) (by omega) (by have := HB.out.size; simp; omega) ?_; intro v4 w4 hO4 hG4; have HB4 := Lib.hid (grown3 (HB.out.alloc HB.out.size _) (by have := HB.out.size; simp; omega) (owns_below HO.out ((Below.refl _ _).alloc (Nat.le_refl _) _)) hG4); have HO4 := Lib.hid hO4; clear hO4 hG4)) | fail)
                  go_roundw
                  case rel => exact ⟨m + 1, by have := HLT.out; omega, by simp, Lib.hid (by have h := HO4.out; rw [← HE.out] at h; rw [HE1.out, HU.out, sV_app, HXM.out]; exact h), HB4⟩
                  case measure => have := HLT.out; first | (simp [intOf]; done) | (simp [intOf]; omega)
            · have q6 : (12 < (nm.length : Int)) = False := eq_false (by omega)
              have q6' : (12 < nm.length) = False := eq_false h12
              have hf : nm.take 12 = nm := List.take_of_length_le (by omega)
              have HNf := Lib.hid (show ∀ n, nameL nm n = nm ++ [95] ++ Lib.decDigits n from fun n => by rw [HNf0.out n, hf])
              have HFl := Lib.hid (show nm.length ≤ 12 by omega)
              clear hf h12
              go_wp2_with fail
              refine h1.mono ?_; rintro e w5 ⟨rfl, rfl⟩
              go_wp2_with fail
              go_loopw [9] (fun jj W => ∃ n : Nat, 2 ≤ n ∧ n ≤ M ∧ jj = .int .i64 n ∧ W = w5) (fun jj _ => M - (intOf jj).toNat)
              case atStart => exact ⟨2, by omega, f1, rfl, rfl⟩
              case round =>
                obtain ⟨n, hn2, hnM, rfl, rfl⟩ := hrel
                have hp := fun W => ref04_Print n (by omega) W
                have hdl := dec_len (show n < 100 by omega)
                have q5 : ((n : Int) < 2002) = True := eq_true (by omega)
                have q5' : (n < 2002) = True := eq_true (by omega)
                have HXn := Lib.hid (HNf.out n)
                generalize Lib.decDigits n = d at *
                have hfl := HFl.out
                have hs1 : (9223372036854775807 < nm.length + 1) = False := eq_false (by omega)
                have hs2 : (9223372036854775807 < nm.length + 1 + d.length) = False := eq_false (by omega)
                have hs3 : (9223372036854775807 < nm.length + (1 + d.length)) = False := eq_false (by omega)
                have HE := Lib.hid (show (⟨(nm ++ [95] ++ d).toArray⟩ : ByteArray) = ⟨nm.toArray⟩ ++ ⟨#[95]⟩ ++ ⟨d.toArray⟩ by rw [← byteCat, ← byteCat])
                have hh1 := HhO.out (nm ++ [95] ++ d)
                have hh2 := HhC.out (nm ++ [95] ++ d)
                rw [HE.out] at hh1 hh2
                clear hdl hfl
                by_cases hlt : n < M
                · have hb := F4.out n hn2 hlt
                  unfold busyB at hb
                  rw [HXn.out] at hb
                  have HL2 := Lib.hid hlt
                  clear hlt
                  cases ho : O.contains (nm ++ [95] ++ d)
                  · rw [ho, Bool.false_or] at hb
                    rw [ho] at hh1
                    rw [hb] at hh2
                    clear ho hb
                    go_wp2_with fail
                    refine (hp _).mono ?_; rintro e w6 ⟨rfl, rfl⟩
                    go_wp2_with fail
                    refine hh1.mono ?_; rintro e w7 ⟨rfl, rfl⟩
                    go_wp2_with fail
                    refine (hp _).mono ?_; rintro e w8 ⟨rfl, rfl⟩
                    go_wp2_with fail
                    refine hh2.mono ?_; rintro e w9 ⟨rfl, rfl⟩
                    go_wp2_with fail
                    go_roundw
                    case rel => exact ⟨n + 1, by omega, by have := HL2.out; omega, by simp, by first | rfl | trivial⟩
                    case measure => have := HL2.out; first | (simp [intOf]; done) | (simp [intOf]; omega)
                  · rw [ho] at hh1
                    clear ho hb hh2
                    go_wp2_with fail
                    refine (hp _).mono ?_; rintro e w6 ⟨rfl, rfl⟩
                    go_wp2_with fail
                    refine hh1.mono ?_; rintro e w7 ⟨rfl, rfl⟩
                    go_wp2_with fail
                    go_roundw
                    case rel => exact ⟨n + 1, by omega, by have := HL2.out; omega, by simp, by first | rfl | trivial⟩
                    case measure => have := HL2.out; first | (simp [intOf]; done) | (simp [intOf]; omega)
                · have hM : n = M := by omega
                  have hb := F3.out
                  rw [← hM] at hb
                  unfold busyB at hb
                  rw [HXn.out, Bool.or_eq_false_iff] at hb
                  have HXM := Lib.hid (show nameL nm M = nm ++ [95] ++ d by rw [← hM]; exact HXn.out)
                  rw [hb.1] at hh1
                  rw [hb.2] at hh2
                  clear hb hlt hM
                  go_wp2_with fail
                  refine (hp _).mono ?_; rintro e w6 ⟨rfl, rfl⟩
                  go_wp2_with fail
                  refine hh1.mono ?_; rintro e w7 ⟨rfl, rfl⟩
                  go_wp2_with fail
                  refine (hp _).mono ?_; rintro e w8 ⟨rfl, rfl⟩
                  go_wp2_with fail
                  refine hh2.mono ?_; rintro e w9 ⟨rfl, rfl⟩
                  go_wp2_with fail
                  refine (hp _).mono ?_; rintro e w10 ⟨rfl, rfl⟩
                  go_wp2_with (first | (at_builtin; go_loud (refine wpList_append_src rfl (.tmp 73) (.tmp 75) 25 rfl A.heap.size 9 i (.string ⟨#[]⟩) 1 16 Tryd.underlying25 hi hz hsize hby rfl (by omega) _ m _ rfl (owns_below HO.out ((Below.refl _ _).alloc (Nat.le_refl _) _)) _ 1 [.string (⟨nm.toArray⟩ ++ ⟨#[95]⟩ ++ ⟨d.toArray⟩)] rfl (src_new _ _ _) rfl (by intro u hu; rcases List.mem_singleton.1 hu with rfl; rfl) (by unfold maxLen; omega) (by omega) (by have := HB.out.size; simp; omega) ?_; intro v4 w4 hO4 hG4; have HB4 := Lib.hid (grown3 (HB.out.alloc HB.out.size _) (by have := HB.out.size; simp; omega) (owns_below HO.out ((Below.refl _ _).alloc (Nat.le_refl _) _)) hG4); have HO4 := Lib.hid hO4; clear hO4 hG4)) | fail)
                  go_roundw
                  case rel => exact ⟨m + 1, by have := HLT.out; omega, by simp, Lib.hid (by have h := HO4.out; rw [← HE.out] at h; rw [HE1.out, HU.out, sV_app, HXM.out]; exact h), HB4⟩
                  case measure => have := HLT.out; first | (simp [intOf]; done) | (simp [intOf]; omega)
        · obtain rfl : N = m := by omega
          have qk : ((N : Int) < (N : Int)) = False := eq_false (by omega)
          have qk' : (N < N) = False := eq_false (by omega)
          have HRow := Lib.hid (RowAt.owns (f := strV (uniqK L N)) HO.out (fun i hi => sV_at (by rw [uniqK_len L N (by rw [HN.out]; omega)]; exact hi)))
          have HUL := Lib.hid (show uniqL L = uniqK L N by unfold uniqL; rw [HN.out])
          go_wp2_with fail
          go_returns
          exact ⟨_, rfl, by rw [HUL.out]; exact HRow.out, HBA.out.trans (HB.out.mono HBA.out.size)⟩
      --END2
end Go.Proofs.YthammifbpdoggaaDoor
