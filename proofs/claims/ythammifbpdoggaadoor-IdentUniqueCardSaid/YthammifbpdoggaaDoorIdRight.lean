/- Layer 5: what is a name, on both sides. -/
import Derived.Test.YthammifbpdoggaaDoorIdRefT
namespace Go.Proofs.YthammifbpdoggaaDoor
open Go.RowKit
set_option linter.unusedSimpArgs false
set_option linter.unusedVariables false
theorem not_sign {c : UInt8} : signC c = false ↔ (smallC c = false ∧ digitC c = false ∧ ((c.toNat : Int) != 95) = true) := by
  unfold signC
  rw [c95 rfl]
  cases smallC c <;> cases digitC c <;> simp
  · constructor <;> intro h <;> omega
theorem n95 {c : UInt8} (h : signC c = true) (h1 : smallC c = false) (h2 : digitC c = false) : ((c.toNat : Int) != 95) = false := by
  unfold signC at h
  rw [c95 rfl, h1, h2] at h
  simp at h
  rw [h]; rfl
set_option maxHeartbeats 2000000 in
theorem ident_Right (l : List UInt8) (w : World) (hT : IdTab w) (hl : l.length ≤ 1000000) : Calls Tryd.prog 8 #[.string ⟨l.toArray⟩] w fun e w' => e = .returned (.bool (rightB l)) ∧ w' = w := by
  have HT := ident_Taken l w hT hl
  clear hT
  by_cases h1 : l.length < 1
  · have q1 : ((l.length : Int) < 1) = True := eq_true (by omega)
    have q1' : (l.length < 1) = True := eq_true h1
    have q1'' : (l.length = 0) = True := eq_true (by omega)
    have hs := Lib.hid (show rightB l = false by unfold rightB; rw [decide_eq_false (by omega)]; rfl)
    clear h1
    go_enter Tryd.func8, Tryd.ntmps8
    go_wp2_with fail
    go_returns
    exact ⟨by rw [hs.out]; rfl, rfl⟩
  have q1 : ((l.length : Int) < 1) = False := eq_false (by omega)
  have q1' : (l.length < 1) = False := eq_false h1
  have q1'' : (l.length = 0) = False := eq_false (by omega)
  by_cases h2 : 16 < l.length
  · have q2 : (16 < (l.length : Int)) = True := eq_true (by omega)
    have q2' : (16 < l.length) = True := eq_true h2
    have hs := Lib.hid (show rightB l = false by unfold rightB; rw [decide_eq_false (by omega)]; rfl)
    clear h1 h2
    go_enter Tryd.func8, Tryd.ntmps8
    go_wp2_with fail
    go_returns
    exact ⟨by rw [hs.out]; rfl, rfl⟩
  have q2 : (16 < (l.length : Int)) = False := eq_false (by omega)
  have q2' : (16 < l.length) = False := eq_false h2
  have hI0 : ∀ W, (Instr.index 9 (.string ⟨l.toArray⟩) (.int .i64 0)).run Tryd.prog W = .ok (.int .u8 ((l.getD 0 0).toNat : Int)) W := fun W => idx_atI (k := 0) Tryd.underlying9 W (by omega)
  have HI := Lib.hid (fun (k : Nat) (h : k < l.length) W => idx_atI (P := Tryd.prog) (k := k) Tryd.underlying9 W h)
  have HG := Lib.hid (fun (k : Nat) (h : k < l.length) => show l[k]? = some (l.getD k 0) by simp [h])
  have HD := Lib.hid (show rightB l = (smallC (l.getD 0 0) && (l.all signC && !takenB l)) by unfold rightB; rw [decide_eq_true (by omega)]; rfl)
  have hsm := ident_small (l.getD 0 0) w
  have hl1 : 1 ≤ l.length := by omega
  clear h1 h2
  generalize l.getD 0 0 = c0 at *
  cases h3 : smallC c0
  · rw [h3] at hsm
    have hs := Lib.hid (show rightB l = false by rw [HD.out, h3]; rfl)
    clear h3
    go_enter Tryd.func8, Tryd.ntmps8
    go_wp2_with fail
    refine hsm.mono ?_; rintro e w2 ⟨rfl, rfl⟩
    go_wp2_with fail
    go_returns
    exact ⟨by rw [hs.out]; rfl, rfl⟩
  rw [h3] at hsm
  have HD2 := Lib.hid (show rightB l = (l.all signC && !takenB l) by rw [HD.out, h3]; rfl)
  clear h3 HD
  obtain ⟨N, hN⟩ : ∃ N, l.length = N := ⟨_, rfl⟩
  have HN := Lib.hid hN
  rw [hN] at hl q1 q1' q1'' q2 q2' hl1
  go_enter Tryd.func8, Tryd.ntmps8
  go_wp2_with fail
  refine hsm.mono ?_; rintro e w2 ⟨rfl, rfl⟩
  go_wp2_with fail
  go_loopw [20] (fun jj wr => ∃ k : Nat, k ≤ N ∧ jj = .int .i64 k ∧ Hid ((l.take k).all signC = true) ∧ wr = w2) (fun jj _ => N - (intOf jj).toNat)
  case atStart => exact ⟨0, by omega, rfl, Lib.hid (by simp), rfl⟩
  case round =>
    obtain ⟨k, hk, rfl, hall, rfl⟩ := hrel
    by_cases hlt : k < N
    · have qk : ((k : Int) < (N : Int)) = True := eq_true (by omega)
      have hI := HI.out k (by rw [HN.out]; exact hlt)
      have HX := Lib.hid (HG.out k (by rw [HN.out]; exact hlt))
      have HTs := Lib.hid (take_snoc HX.out)
      obtain ⟨c, hcc⟩ : ∃ c, l.getD k 0 = c := ⟨_, rfl⟩
      have HCC := Lib.hid hcc
      rw [hcc] at hI
      have hsc := ident_small c
      have hdc := ident_digit c
      clear hcc
      cases hd : signC c
      · have hno := Lib.hid (show rightB l = false by rw [HD2.out, List.all_eq_false.2 ⟨l.getD k 0, List.mem_of_getElem? HX.out, by rw [HCC.out, hd]; simp⟩]; rfl)
        obtain ⟨g1, g2, g3⟩ := not_sign.1 hd
        rw [g1] at hsc
        rw [g2] at hdc
        clear hd g1 g2
        generalize c.toNat = n at *
        go_wp2_with fail
        refine (hsc _).mono ?_; rintro e w2 ⟨rfl, rfl⟩
        go_wp2_with fail
        refine (hdc _).mono ?_; rintro e w2 ⟨rfl, rfl⟩
        go_wp2_with fail
        go_returns
        exact ⟨by rw [hno.out]; rfl, rfl⟩
      · have hgood := Lib.hid (show (l.take (k + 1)).all signC = true by
          rw [HTs.out, List.all_append, hall.out, HCC.out]; simp [hd])
        cases g1 : smallC c
        · rw [g1] at hsc
          cases g2 : digitC c
          · rw [g2] at hdc
            have g3 := n95 hd g1 g2
            clear hd g1 g2
            generalize c.toNat = n at *
            go_wp2_with fail
            refine (hsc _).mono ?_; rintro e w2 ⟨rfl, rfl⟩
            go_wp2_with fail
            refine (hdc _).mono ?_; rintro e w2 ⟨rfl, rfl⟩
            go_wp2_with fail
            go_roundw
            case rel => exact ⟨k + 1, by omega, by simp, hgood, by first | rfl | trivial⟩
            case measure => first | (simp [intOf]; done) | (simp [intOf]; omega)
          · rw [g2] at hdc
            clear hd g1 g2
            generalize c.toNat = n at *
            go_wp2_with fail
            refine (hsc _).mono ?_; rintro e w2 ⟨rfl, rfl⟩
            go_wp2_with fail
            refine (hdc _).mono ?_; rintro e w2 ⟨rfl, rfl⟩
            go_wp2_with fail
            go_roundw
            case rel => exact ⟨k + 1, by omega, by simp, hgood, by first | rfl | trivial⟩
            case measure => first | (simp [intOf]; done) | (simp [intOf]; omega)
        · rw [g1] at hsc
          clear hd g1
          generalize c.toNat = n at *
          go_wp2_with fail
          refine (hsc _).mono ?_; rintro e w2 ⟨rfl, rfl⟩
          go_wp2_with fail
          go_roundw
          case rel => exact ⟨k + 1, by omega, by simp, hgood, by first | rfl | trivial⟩
          case measure => first | (simp [intOf]; done) | (simp [intOf]; omega)
    · obtain rfl : k = N := by omega
      have qk : ((k : Int) < (k : Int)) = False := eq_false (by omega)
      have hyes := Lib.hid (show rightB l = !takenB l by
        rw [HD2.out]; have := hall.out; rw [List.take_of_length_le (by rw [HN.out]; omega)] at this; rw [this]; rfl)
      generalize takenB l = tb at *
      go_wp2_with fail
      refine HT.mono ?_; rintro e w3 ⟨rfl, rfl⟩
      go_wp2_with fail
      go_returns
      exact ⟨by rw [hyes.out]; rfl, rfl⟩
set_option maxHeartbeats 4000000 in
theorem ref05_Right (l : List UInt8) (w : World) (hl : l.length ≤ 1000000) : Calls Tryd.prog 9 #[.string ⟨l.toArray⟩] w fun e w' => e = .returned (.bool (rightB l)) ∧ Below w.heap.size w w' := by
  have HT := ref05_Taken l w hl
  have HI := Lib.hid (fun (k : Nat) (h : k < l.length) W => idx_atI (P := Tryd.prog) (k := k) Tryd.underlying9 W h)
  have HG := Lib.hid (fun (k : Nat) (h : k < l.length) => show l[k]? = some (l.getD k 0) by simp [h])
  have HD := Lib.hid (show rightB l = (decide (1 ≤ l.length ∧ l.length ≤ 16) && (smallC (l.getD 0 0) && (l.all signC && !takenB l))) from rfl)
  obtain ⟨N, hN⟩ : ∃ N, l.length = N := ⟨_, rfl⟩
  have HN := Lib.hid hN
  rw [hN] at hl
  go_enter Tryd.func9, Tryd.ntmps9
  go_wp2_with fail
  go_loopw [3] (fun jj wr => ∃ k : Nat, k ≤ N ∧ jj = .int .i64 k ∧ Hid ((l.take k).all signC = true) ∧ wr = w) (fun jj _ => N - (intOf jj).toNat)
  case atStart => exact ⟨0, by omega, rfl, Lib.hid (by simp), rfl⟩
  case round =>
    obtain ⟨k, hk, rfl, hall, rfl⟩ := hrel
    by_cases hlt : k < N
    · have qk : ((k : Int) < (N : Int)) = True := eq_true (by omega)
      have hI := HI.out k (by rw [HN.out]; exact hlt)
      have HX := Lib.hid (HG.out k (by rw [HN.out]; exact hlt))
      have HTs := Lib.hid (take_snoc HX.out)
      obtain ⟨c, hcc⟩ : ∃ c, l.getD k 0 = c := ⟨_, rfl⟩
      have HCC := Lib.hid hcc
      rw [hcc] at hI
      have hsc := ref05_sign c
      clear hcc
      cases hd : signC c
      · have hno := Lib.hid (show rightB l = false by rw [HD.out, List.all_eq_false.2 ⟨l.getD k 0, List.mem_of_getElem? HX.out, by rw [HCC.out, hd]; simp⟩]; simp)
        rw [hd] at hsc
        clear hd
        generalize c.toNat = n at *
        go_wp2_with fail
        refine (hsc _).mono ?_; rintro e w2 ⟨rfl, rfl⟩
        go_wp2_with fail
        go_returns
        exact ⟨by rw [hno.out]; rfl, Below.refl _ _⟩
      · have hgood := Lib.hid (show (l.take (k + 1)).all signC = true by
          rw [HTs.out, List.all_append, hall.out, HCC.out]; simp [hd])
        rw [hd] at hsc
        clear hd
        generalize c.toNat = n at *
        go_wp2_with fail
        refine (hsc _).mono ?_; rintro e w2 ⟨rfl, rfl⟩
        go_wp2_with fail
        go_roundw
        case rel => exact ⟨k + 1, by omega, by simp, hgood, by first | rfl | trivial⟩
        case measure => first | (simp [intOf]; done) | (simp [intOf]; omega)
    · obtain rfl : k = N := by omega
      have qk : ((k : Int) < (k : Int)) = False := eq_false (by omega)
      have HD2 := Lib.hid (show rightB l = (decide (1 ≤ k ∧ k ≤ 16) && (smallC (l.getD 0 0) && !takenB l)) by
        rw [HD.out, HN.out]; have := hall.out; rw [List.take_of_length_le (by rw [HN.out]; omega)] at this; rw [this]; rfl)
      by_cases h1 : k < 1
      · have q1 : (0 < (k : Int)) = False := eq_false (by omega)
        have q1' : (0 < k) = False := eq_false (by omega)
        have hs := Lib.hid (show rightB l = false by rw [HD2.out, decide_eq_false (by omega)]; rfl)
        clear h1
        go_wp2_with fail
        go_returns
        exact ⟨by rw [hs.out]; rfl, Below.refl _ _⟩
      have q1 : (0 < (k : Int)) = True := eq_true (by omega)
      have q1' : (0 < k) = True := eq_true (by omega)
      by_cases h2 : 16 < k
      · have q2 : ((k : Int) ≤ 16) = False := eq_false (by omega)
        have q2' : (k ≤ 16) = False := eq_false (by omega)
        have hs := Lib.hid (show rightB l = false by rw [HD2.out, decide_eq_false (by omega)]; rfl)
        clear h1 h2
        go_wp2_with fail
        go_returns
        exact ⟨by rw [hs.out]; rfl, Below.refl _ _⟩
      have q2 : ((k : Int) ≤ 16) = True := eq_true (by omega)
      have q2' : (k ≤ 16) = True := eq_true (by omega)
      have HD3 := Lib.hid (show rightB l = (smallC (l.getD 0 0) && !takenB l) by rw [HD2.out, decide_eq_true (by omega)]; rfl)
      have hI0 : ∀ W, (Instr.index 9 (.string ⟨l.toArray⟩) (.int .i64 0)).run Tryd.prog W = .ok (.int .u8 ((l.getD 0 0).toNat : Int)) W := fun W => HI.out 0 (by rw [HN.out]; omega) W
      clear h1 h2 HD2 HD
      generalize l.getD 0 0 = c0 at *
      by_cases h3 : smallC c0 = true
      · have hyes := Lib.hid (show rightB l = !takenB l by rw [HD3.out, h3]; rfl)
        have h3 := of_decide_eq_true h3
        have q3 : (97 ≤ (c0.toNat : Int)) = True := eq_true (by omega)
        have q3' : (97 ≤ c0.toNat) = True := eq_true (by omega)
        have q4 : ((c0.toNat : Int) ≤ 122) = True := eq_true (by omega)
        have q4' : (c0.toNat ≤ 122) = True := eq_true (by omega)
        clear h3
        generalize c0.toNat = n0 at *
        generalize takenB l = tb at *
        go_wp2_with fail
        refine HT.mono ?_; rintro e w3 ⟨rfl, hb⟩
        have HB := Lib.hid hb
        clear hb
        go_wp2_with fail
        go_returns
        exact ⟨by rw [hyes.out]; rfl, HB.out⟩
      · have hs := Lib.hid (show rightB l = false by rw [HD3.out, Bool.eq_false_iff.2 h3]; rfl)
        have h4 : c0.toNat < 97 ∨ (¬ c0.toNat < 97 ∧ 122 < c0.toNat) := by
          have h5 : ¬ (97 ≤ c0.toNat ∧ c0.toNat ≤ 122) := fun h => h3 (decide_eq_true h)
          omega
        clear h3
        generalize c0.toNat = n0 at *
        rcases h4 with h5 | ⟨h5, h6⟩
        · have q3 : (97 ≤ (n0 : Int)) = False := eq_false (by omega)
          have q3' : (97 ≤ n0) = False := eq_false (by omega)
          clear h5
          go_wp2_with fail
          go_returns
          exact ⟨by rw [hs.out]; rfl, Below.refl _ _⟩
        · have q3 : (97 ≤ (n0 : Int)) = True := eq_true (by omega)
          have q3' : (97 ≤ n0) = True := eq_true (by omega)
          have q4 : ((n0 : Int) ≤ 122) = False := eq_false (by omega)
          have q4' : (n0 ≤ 122) = False := eq_false (by omega)
          clear h5 h6
          go_wp2_with fail
          go_returns
          exact ⟨by rw [hs.out]; rfl, Below.refl _ _⟩
end Go.Proofs.YthammifbpdoggaaDoor
