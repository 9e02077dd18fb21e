/- Layer 5: the first name that is free. -/
import Derived.Test.YthammifbpdoggaaDoorIdUniq
namespace Go.Proofs.YthammifbpdoggaaDoor
open Go.RowKit Go.Maps
set_option linter.unusedSimpArgs false
set_option linter.unusedVariables false
theorem zero_int (w : World) : (zeroValue 3).run Tryd.prog w = .ok (.int .i64 0) w := by kernel_rfl
def Cnt (w : World) (b n : Nat) (L : List (List UInt8)) : Prop := CntMap Tryd.prog 9 3 w b n L
theorem Cnt.look {w : World} {b n : Nat} {L : List (List UInt8)} (h : Cnt w b n L) {s : ByteArray} {x : List UInt8} (hs : s = ⟨x.toArray⟩) (hl : x.length ≤ 1000000) : (Instr.lookup 34 (.map (some b)) (.string s) false).run Tryd.prog w = .ok (.int .i64 (L.count x : Int)) w :=
  CntMap.look h Tryd.underlying9 Tryd.underlying34 Tryd.underlying3 (zero_int w) hs hl
theorem cnt_zero {L : List (List UInt8)} {x : List UInt8} (h : L.contains x = false) : L.count x = 0 := List.count_eq_zero.2 (fun hm => by rw [List.contains_iff_mem.2 hm] at h; cases h)
theorem cnt_pos {L : List (List UInt8)} {x : List UInt8} (h : L.contains x = true) : 0 < L.count x := List.count_pos_iff.2 (List.contains_iff_mem.1 h)
set_option maxHeartbeats 2000000 in
theorem ident_free (s : List UInt8) (b1 b2 n1 n2 : Nat) (C O : List (List UInt8)) (w : World) (hC : Cnt w b1 n1 C) (hO : Cnt w b2 n2 O) (hs : s.length ≤ 16) (hlen : C.length + O.length ≤ 80) :
    Calls Tryd.prog 21 #[.string ⟨s.toArray⟩, .map (some b1), .map (some b2)] w fun e w' => e = .returned (.string ⟨(nameL s (freeN C O s)).toArray⟩) ∧ w' = w := by
  obtain ⟨m1, m2, m3, m4⟩ := free_spec s hlen
  have M3 := Lib.hid m3
  have M4 := Lib.hid m4
  clear m3 m4 hlen
  generalize freeN C O s = m at *
  obtain ⟨f, hf⟩ : ∃ f, s.take 12 ++ [95] = f := ⟨_, rfl⟩
  have HFl := Lib.hid (show f.length ≤ 13 by rw [← hf]; simp; omega)
  have HN := Lib.hid (fun n => show nameL s n = f ++ Lib.decDigits n by unfold nameL; rw [hf])
  have HI := Lib.hid (fun n (h : n < 100) (W : World) => strconv_Itoa n h W)
  have HLO := Lib.hid (fun (x d : List UInt8) (h : (x ++ d).length ≤ 1000000) => hO.look (byteCat x d) h)
  have HLC := Lib.hid (fun (x d : List UInt8) (h : (x ++ d).length ≤ 1000000) => hC.look (byteCat x d) h)
  have HF := Lib.hid (show (⟨s.toArray⟩ : ByteArray).extract 0 (min 12 (s.length : Int)).toNat ++ ⟨#[95]⟩ = ⟨f.toArray⟩ by
    have hm : s.take (min 12 (s.length : Int)).toNat = s.take 12 := by
      by_cases h12 : 12 ≤ s.length
      · rw [show (min 12 (s.length : Int)).toNat = 12 by omega]
      · rw [show (min 12 (s.length : Int)).toNat = s.length by omega, List.take_length, List.take_of_length_le (by omega)]
    rw [bytes_cut, List.drop_zero, ← hf, hm]
    exact ByteArray.mk_append_mk ..)
  clear hf hC hO
  go_enter Tryd.func21, Tryd.ntmps21
  go_wp2_with fail
  rw [HF.out]
  go_loopw [8] (fun j wr => ∃ k : Nat, 2 ≤ k ∧ k ≤ m ∧ j = .int .i64 k ∧ wr = w) (fun j _ => m - (intOf j).toNat)
  case atStart => exact ⟨2, by omega, m1, rfl, rfl⟩
  case round =>
    obtain ⟨k, hk2, hk, rfl, rfl⟩ := hrel
    have hit := HI.out k (by omega) wr
    have hdl := dec_len (show k < 100 by omega)
    have hfl := HFl.out
    have hsum : (9223372036854775807 < f.length + (Lib.decDigits k).length) = False := eq_false (by omega)
    have hlo := HLO.out f (Lib.decDigits k) (by rw [List.length_append]; omega)
    have hlc := HLC.out f (Lib.decDigits k) (by rw [List.length_append]; omega)
    have HNk := Lib.hid (HN.out k)
    have HK := Lib.hid (show 2 ≤ k ∧ k ≤ m from ⟨hk2, hk⟩)
    have HB := Lib.hid (show k < m → (O.contains (f ++ Lib.decDigits k) || C.contains (f ++ Lib.decDigits k)) = true from fun h => by have := M4.out k hk2 h; unfold busyB at this; rwa [HN.out k] at this)
    have HB2 := Lib.hid (show k = m → (O.contains (f ++ Lib.decDigits k) || C.contains (f ++ Lib.decDigits k)) = false from fun h => by have := M3.out; unfold busyB at this; rw [← h] at this; rwa [HN.out k] at this)
    clear hdl hfl
    generalize Lib.decDigits k = d at *
    by_cases hlt : k < m
    · have hb := HB.out hlt
      have HLT := Lib.hid hlt
      clear hlt
      cases ho : O.contains (f ++ d)
      · have e1 : ((O.count (f ++ d) : Nat) : Int) = 0 := by rw [cnt_zero ho]; rfl
        rw [ho, Bool.false_or] at hb
        have e2 : (((C.count (f ++ d) : Nat) : Int) == 0) = false := by have := cnt_pos hb; rw [beq_eq_false_iff_ne]; omega
        rw [e1] at hlo
        clear hb ho e1
        generalize ((C.count (f ++ d) : Nat) : Int) = c2 at *
        go_wp2_with fail
        refine hit.mono ?_; rintro e w3 ⟨rfl, rfl⟩
        go_wp2_with fail
        go_roundw
        case rel => exact ⟨k + 1, by omega, by have := HLT.out; omega, by simp, by first | rfl | trivial⟩
        case measure => have := HLT.out; first | (simp [intOf]; done) | (simp [intOf]; omega)
      · have e1 : (((O.count (f ++ d) : Nat) : Int) == 0) = false := by have := cnt_pos ho; rw [beq_eq_false_iff_ne]; omega
        clear hb ho hlc
        generalize ((O.count (f ++ d) : Nat) : Int) = c2 at *
        go_wp2_with fail
        refine hit.mono ?_; rintro e w3 ⟨rfl, rfl⟩
        go_wp2_with fail
        go_roundw
        case rel => exact ⟨k + 1, by omega, by have := HLT.out; omega, by simp, by first | rfl | trivial⟩
        case measure => have := HLT.out; first | (simp [intOf]; done) | (simp [intOf]; omega)
    · have hkm : k = m := by omega
      have hb := HB2.out hkm
      rw [Bool.or_eq_false_iff] at hb
      rw [cnt_zero hb.1] at hlo
      rw [cnt_zero hb.2] at hlc
      have hlo : (Instr.lookup 34 (.map (some b2)) (.string (⟨f.toArray⟩ ++ ⟨d.toArray⟩)) false).run Tryd.prog wr = .ok (.int .i64 0) wr := hlo
      have hlc : (Instr.lookup 34 (.map (some b1)) (.string (⟨f.toArray⟩ ++ ⟨d.toArray⟩)) false).run Tryd.prog wr = .ok (.int .i64 0) wr := hlc
      have HR := Lib.hid (show (⟨(nameL s m).toArray⟩ : ByteArray) = ⟨f.toArray⟩ ++ ⟨d.toArray⟩ by rw [← hkm, HNk.out]; exact (byteCat _ _).symm)
      clear hb hkm hlt
      go_wp2_with fail
      refine hit.mono ?_; rintro e w3 ⟨rfl, rfl⟩
      go_wp2_with fail
      go_returns
      exact ⟨by rw [HR.out]; rfl, rfl⟩
end Go.Proofs.YthammifbpdoggaaDoor
