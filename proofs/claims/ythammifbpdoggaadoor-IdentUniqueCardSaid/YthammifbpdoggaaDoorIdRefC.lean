/- Layer 5: the answer's name that is made of a text. -/
import Derived.Test.YthammifbpdoggaaDoorIdClean
namespace Go.Proofs.YthammifbpdoggaaDoor
open Go.RowKit
set_option linter.unusedSimpArgs false
set_option linter.unusedVariables false
theorem byteCat (a b : List UInt8) : ((⟨a.toArray⟩ : ByteArray) ++ ⟨b.toArray⟩) = ⟨(a ++ b).toArray⟩ := ByteArray.mk_append_mk ..
theorem one_back {P : Program} {src dst e : TypeId} (hs : P.underlying src = some (.slice e)) (he : P.underlying e = some (.int .u8)) (hd : P.underlying dst = some .string) (w : World) (c : UInt8) :
    (convert src dst (.slice (some ⟨w.heap.size, 0, none⟩) 1 1)).run P (w.alloc (.cells #[.int .u8 (c.toNat : Int)] e)) = .ok (.string ⟨[c].toArray⟩) (w.alloc (.cells #[.int .u8 (c.toNat : Int)] e)) :=
  run_convert_bytes_back (P := P) _ src dst e ⟨w.heap.size, 0, none⟩ 1 [c] hs he hd (fun j hj => by
    obtain rfl : j = 0 := by simp at hj; exact hj
    exact (World.cell?_alloc_at #[.int .u8 (c.toNat : Int)] e w.heap.size 0 rfl).trans rfl)
def outL (l : List UInt8) (k : Nat) : List UInt8 := [118, 95] ++ (l.take k).map cleanC
theorem outL_len (l : List UInt8) {k : Nat} (h : k ≤ 12) : (outL l k).length ≤ 14 := by
  unfold outL
  simp
  omega
theorem outL_step {l : List UInt8} {k : Nat} {c d : UInt8} (hk : l[k]? = some c) (hd : cleanC c = d) : outL l (k + 1) = outL l k ++ [d] := by
  unfold outL
  rw [take_snoc hk, List.map_append, ← List.append_assoc, ← hd]
  rfl
set_option maxHeartbeats 4000000 in
theorem ref05_Clean (l : List UInt8) (w : World) (hl : l.length ≤ 1000000) : Calls Tryd.prog 12 #[.string ⟨l.toArray⟩] w fun e w' => e = .returned (.string ⟨(cleanL l).toArray⟩) ∧ Below w.heap.size w w' := by
  have HR := ref05_Right l w hl
  cases hr : rightB l
  · rw [hr] at HR
    have hC := Lib.hid (show cleanL l = outL l 12 by unfold cleanL; rw [hr]; rfl)
    have HI := Lib.hid (fun (k : Nat) (h : k < l.length) W => idx_atI (P := Tryd.prog) (k := k) Tryd.underlying9 W h)
    have HG := Lib.hid (fun (k : Nat) (h : k < l.length) => show l[k]? = some (l.getD k 0) by simp [h])
    have HO := Lib.hid (fun (w : World) (c : UInt8) => one_back (P := Tryd.prog) Tryd.underlying28 Tryd.underlying5 Tryd.underlying9 w c)
    have HSG := Lib.hid (fun c w => ref05_sign c w)
    clear hr
    obtain ⟨N, hN⟩ : ∃ N, l.length = N := ⟨_, rfl⟩
    have HN := Lib.hid hN
    rw [hN] at hl
    obtain ⟨v0, hv0⟩ : ∃ v, outL l 0 = v := ⟨_, rfl⟩
    go_enter Tryd.func12, Tryd.ntmps12
    go_wp2_with fail
    refine HR.mono ?_; rintro e w2 ⟨rfl, hb2⟩
    have HB2 := Lib.hid hb2
    clear hb2
    go_wp2_with fail
    go_loopw [3, 4] (fun o jj wr => ∃ k : Nat, k ≤ N ∧ k ≤ 12 ∧ jj = .int .i64 k ∧ (∃ v : List UInt8, o = .string ⟨v.toArray⟩ ∧ Hid (outL l k = v) ∧ v.length ≤ 14) ∧ Hid (Below w.heap.size w wr)) (fun _ jj _ => 12 - (intOf jj).toNat)
    case atStart => exact ⟨0, by omega, by omega, rfl, ⟨[118, 95], rfl, Lib.hid (by unfold outL; simp), by simp⟩, HB2⟩
    case round =>
      obtain ⟨k, hk, hk12, rfl, ⟨v, rfl, HV, hv⟩, HB⟩ := hrel
      by_cases hlt : k < N
      · have qk : ((k : Int) < (N : Int)) = True := eq_true (by omega)
        have qk' : (k < N) = True := eq_true hlt
        by_cases hlt2 : k < 12
        · have q12 : ((k : Int) < 12) = True := eq_true (by omega)
          have q12' : (k < 12) = True := eq_true hlt2
          have hI := HI.out k (by rw [HN.out]; exact hlt)
          have HX := Lib.hid (HG.out k (by rw [HN.out]; exact hlt))
          have HL := Lib.hid (show k + 1 ≤ N ∧ k + 1 ≤ 12 by omega)
          have HV14 := Lib.hid (fun (v' : List UInt8) (h : outL l (k + 1) = v') => show v'.length ≤ 14 by rw [← h]; exact outL_len l (by omega))
          have hsum : (9223372036854775807 < v.length + 1) = False := eq_false (by omega)
          obtain ⟨c, hcc⟩ : ∃ c, l.getD k 0 = c := ⟨_, rfl⟩
          rw [hcc] at hI
          have HX2 := Lib.hid (show l[k]? = some c by rw [HX.out, hcc])
          clear hcc hlt hlt2 HX
          by_cases hu : upperC c = true
          · obtain ⟨u1, u2⟩ := upper_small hu
            have HS := Lib.hid ((outL_step HX2.out (show cleanC c = c + 32 by unfold cleanC; rw [if_pos hu])).trans (by rw [HV.out]))
            have hsc := HSG.out (c + 32)
            have hcv := fun W => HO.out W (c + 32)
            rw [show signC (c + 32) = true by unfold signC; rw [(upper_sign c hu).1]; rfl] at hsc
            rw [(upper_sign c hu).2] at hsc hcv
            have r1 : (65 ≤ (c.toNat : Int)) = True := eq_true (by omega)
            have r1' : (65 ≤ c.toNat) = True := eq_true u1
            have r2 : ((c.toNat : Int) ≤ 90) = True := eq_true (by omega)
            have r2' : (c.toNat ≤ 90) = True := eq_true u2
            clear hu u1
            generalize hd : c + 32 = d at *
            clear hd
            generalize c.toNat = n at *
            rw [show ((n + 32 : Nat) : Int) = (n : Int) + 32 from rfl] at hsc
            have hcv : ∀ W : World, (convert 28 9 (.slice (some ⟨W.heap.size, 0, none⟩) 1 1)).run Tryd.prog (W.alloc (.cells #[.int .u8 ((n : Int) + 32)] 5)) = .ok (.string ⟨[d].toArray⟩) (W.alloc (.cells #[.int .u8 ((n : Int) + 32)] 5)) := hcv
            go_wp2_with fail
            refine (hsc _).mono ?_; rintro e w3 ⟨rfl, rfl⟩
            go_wp2_with fail
            go_roundw
            case rel => exact ⟨k + 1, HL.out.1, HL.out.2, by simp, ⟨v ++ [d], by first | rfl | (rw [← byteCat]; rfl) | (simp; done), HS, HV14.out _ HS.out⟩, Lib.hid (HB.out.alloc (HB.out.size) _)⟩
            case measure => have := HL.out; first | (simp [intOf]; done) | (simp [intOf]; omega)
          · have hr12 : ((65 ≤ (c.toNat : Int)) = False ∧ (65 ≤ c.toNat) = False) ∨ ((65 ≤ (c.toNat : Int)) = True ∧ (65 ≤ c.toNat) = True ∧ ((c.toNat : Int) ≤ 90) = False ∧ (c.toNat ≤ 90) = False) := by
              have h3 : ¬ (65 ≤ c.toNat ∧ c.toNat ≤ 90) := fun h => hu (decide_eq_true h)
              rcases (show c.toNat < 65 ∨ ¬ c.toNat < 65 ∧ 90 < c.toNat by omega) with h | ⟨h, h'⟩
              · exact Or.inl ⟨eq_false (by omega), eq_false (by omega)⟩
              · exact Or.inr ⟨eq_true (by omega), eq_true (by omega), eq_false (by omega), eq_false (by omega)⟩
            have hsc := HSG.out c
            have hcv := fun W => HO.out W c
            cases hs : signC c
            · rw [hs] at hsc
              have HS := Lib.hid ((outL_step HX2.out (show cleanC c = 95 by unfold cleanC; rw [if_neg hu, hs]; rfl)).trans (by rw [HV.out]))
              clear hu hs hcv
              generalize c.toNat = n at *
              rcases hr12 with ⟨r1, r1'⟩ | ⟨r1, r1', r2, r2'⟩
              all_goals
                go_wp2_with fail
                refine (hsc _).mono ?_; rintro e w3 ⟨rfl, rfl⟩
                go_wp2_with fail
                go_roundw
                case rel => exact ⟨k + 1, HL.out.1, HL.out.2, by simp, ⟨v ++ [95], by first | rfl | (rw [← byteCat]; rfl) | (simp; done), HS, HV14.out _ HS.out⟩, HB⟩
                case measure => have := HL.out; first | (simp [intOf]; done) | (simp [intOf]; omega)
            · rw [hs] at hsc
              have HS := Lib.hid ((outL_step HX2.out (show cleanC c = c by unfold cleanC; rw [if_neg hu, if_pos hs])).trans (by rw [HV.out]))
              clear hu hs
              generalize hn : c.toNat = n at *
              clear hn
              rcases hr12 with ⟨r1, r1'⟩ | ⟨r1, r1', r2, r2'⟩
              all_goals
                go_wp2_with fail
                refine (hsc _).mono ?_; rintro e w3 ⟨rfl, rfl⟩
                go_wp2_with fail
                go_roundw
                case rel => exact ⟨k + 1, HL.out.1, HL.out.2, by simp, ⟨v ++ [c], by first | rfl | (rw [← byteCat]; rfl) | (simp; done), HS, HV14.out _ HS.out⟩, Lib.hid (HB.out.alloc (HB.out.size) _)⟩
                case measure => have := HL.out; first | (simp [intOf]; done) | (simp [intOf]; omega)
        · have q12 : ((k : Int) < 12) = False := eq_false (by omega)
          have q12' : (k < 12) = False := eq_false hlt2
          have hq := Lib.hid (show cleanL l = v by rw [hC.out, ← HV.out, show k = 12 by omega])
          go_wp2_with fail
          go_returns
          exact ⟨by rw [hq.out]; rfl, HB.out⟩
      · have qk : ((k : Int) < (N : Int)) = False := eq_false (by omega)
        have qk' : (k < N) = False := eq_false hlt
        have hq := Lib.hid (show cleanL l = v by
          rw [hC.out, ← HV.out]
          unfold outL
          rw [List.take_of_length_le (show l.length ≤ 12 by rw [HN.out]; omega), List.take_of_length_le (show l.length ≤ k by rw [HN.out]; omega)])
        go_wp2_with fail
        go_returns
        exact ⟨by rw [hq.out]; rfl, HB.out⟩
  · rw [hr] at HR
    have hC := Lib.hid (show cleanL l = l by unfold cleanL; rw [hr]; rfl)
    clear hr
    go_enter Tryd.func12, Tryd.ntmps12
    go_wp2_with fail
    refine HR.mono ?_; rintro e w2 ⟨rfl, hb⟩
    have HB := Lib.hid hb
    clear hb
    go_wp2_with fail
    go_returns
    exact ⟨by rw [hC.out]; rfl, HB.out⟩
end Go.Proofs.YthammifbpdoggaaDoor
