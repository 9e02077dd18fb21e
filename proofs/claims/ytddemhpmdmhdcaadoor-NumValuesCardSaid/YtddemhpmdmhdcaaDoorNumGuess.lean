/- Layer 4: the contracts of guess and Value. -/
import Derived.Test.YtddemhpmdmhdcaaDoorNumCut
import Derived.Test.YtddemhpmdmhdcaaDoorMore
namespace Go.Proofs.YtddemhpmdmhdcaaDoor
open Go.RowKit
set_option linter.unusedSimpArgs false
set_option linter.unusedVariables false
theorem ex_end (a z : List UInt8) {k : Nat} (h : z.length = k) : ByteArray.extract ⟨(a ++ z).toArray⟩ a.length (a.length + k) = ⟨z.toArray⟩ := by
  apply ByteArray.ext
  simp
  exact List.take_of_length_le (by omega)
theorem ex_begin (a z : List UInt8) : ByteArray.extract ⟨(a ++ z).toArray⟩ 0 a.length = ⟨a.toArray⟩ := by
  apply ByteArray.ext
  simp
theorem tms_yes (a : List UInt8) : tms (a ++ [109, 115]) = a := tms_at a
theorem tms_no {l : List UInt8} (h : ∀ a, l ≠ a ++ [109, 115]) : tms l = l := by
  unfold tms
  rw [if_neg]
  intro hs
  obtain ⟨t, ht⟩ := List.isSuffixOf_iff_suffix.1 hs
  exact h t ht.symm
set_option maxHeartbeats 1000000 in
theorem strings_TrimSuffix (l : List UInt8) (hl : (l.length : Int) ≤ 9223372036854775807) (w : World) : Calls Tryd.prog 27 #[.string ⟨l.toArray⟩, .string ⟨#[109, 115]⟩] w fun e w' => e = .returned (.string ⟨(tms l).toArray⟩) ∧ w = w' := by
  by_cases h2 : 2 ≤ l.length
  · obtain ⟨a, x, y, rfl⟩ : ∃ a x y, l = a ++ [x, y] := by
      obtain ⟨a, z, rfl, hz⟩ : ∃ a z, l = a ++ z ∧ z.length = 2 := ⟨l.take (l.length - 2), l.drop (l.length - 2), (List.take_append_drop _ _).symm, by simp; omega⟩
      match z, hz with
      | [x, y], _ => exact ⟨a, x, y, rfl⟩
    have e1 := ex_end a [x, y] (k := 2) rfl
    have e2 := ex_begin a [x, y]
    simp only [List.length_append, List.length_cons, List.length_nil] at hl h2
    have hl' : (a.length : Int) ≤ 9223372036854775805 := by omega
    clear hl h2
    have w1 : IntKind.i64.wrap ((a.length : Int) + 2 - 2) = a.length := by rw [IntWalk.i64_in ((a.length : Int) + 2 - 2) (by omega)]; omega
    by_cases he : [x, y] = [109, 115]
    · obtain ⟨rfl, rfl⟩ : x = 109 ∧ y = 115 := by simpa using he
      clear he
      have ht := Lib.hid (tms_yes a)
      go_enter Tryd.func27, Tryd.ntmps27
      go_wp2
      go_ret
      exact ⟨by rw [ht.out]; rfl, rfl⟩
    · have ht := Lib.hid (tms_no (l := a ++ [x, y]) (fun b hb => he (List.append_inj_right' hb rfl)))
      have hb : (x == 109 && y == 115) = false := by
        rw [Bool.eq_false_iff]; intro h; apply he
        simp at h; rw [h.1, h.2]
      clear he
      go_enter Tryd.func27, Tryd.ntmps27
      go_wp2
      go_ret
      exact ⟨by rw [ht.out]; rfl, rfl⟩
  · have ht := Lib.hid (tms_no (l := l) (fun b hb => by rw [hb] at h2; simp at h2))
    go_enter Tryd.func27, Tryd.ntmps27
    go_wp2
    go_ret
    exact ⟨by rw [ht.out]; rfl, rfl⟩
theorem litS_list (t v : Int) : (litS t v).toList = lit t v := by simp [litS]
theorem guess_T {l : List UInt8} (h : l = sTRUE) : guess l = (1, 1) := by unfold guess; rw [if_pos h]
theorem guess_F {l : List UInt8} (h : l = sFALSE) : guess l = (1, 0) := by unfold guess; rw [h]; rw [if_neg (by decide), if_pos rfl]
theorem guess_6 {l : List UInt8} (h1 : ¬ l = sTRUE) (h2 : ¬ l = sFALSE) (h3 : cA 35 l = [84]) : guess l = (6, gn (tms (cB 35 l))) := by
  unfold guess; rw [if_neg h1, if_neg h2]; exact if_pos h3
theorem guess_m {l : List UInt8} (h1 : ¬ l = sTRUE) (h2 : ¬ l = sFALSE) (h3 : ¬ cA 35 l = [84]) : guess l = (kFind ⟨(cA 35 l).toArray⟩, gn (cB 35 l)) := by
  unfold guess; rw [if_neg h1, if_neg h2]; exact if_neg h3
theorem beqs_yes {a b : List UInt8} (h : a = b) : (a == b) = true := by rw [h]; simp
theorem beqs_no {a b : List UInt8} (h : ¬ a = b) : (a == b) = false := by rw [beq_eq_false_iff_ne]; exact h
theorem cB_len (c : UInt8) (l : List UInt8) : (cB c l).length ≤ l.length := by
  unfold cB
  rw [List.length_tail]
  have := (List.dropWhile_sublist (fun x => x != c) (l := l)).length_le
  omega
theorem tms_len (l : List UInt8) : (tms l).length ≤ l.length := by unfold tms; split <;> simp
set_option maxHeartbeats 1000000 in
theorem num_guess (l : List UInt8) (hl : (l.length : Int) ≤ 9223372036854775807) (w : World) (hN : KNames w) : Calls Tryd.prog 18 #[.string ⟨l.toArray⟩] w fun e w' => e = .returned (.tuple #[.int .i64 (guess l).1, .int .i64 (guess l).2]) ∧ Below w.heap.size w w' := by
  by_cases h1 : l = sTRUE
  · have hg := Lib.hid (guess_T h1)
    have hb := beqs_yes h1
    unfold sTRUE at hb
    clear h1
    go_enter Tryd.func18, Tryd.ntmps18
    go_wp2_with fail
    go_returns
    exact ⟨by rw [hg.out]; rfl, Below.refl _ _⟩
  by_cases h2 : l = sFALSE
  · have hg := Lib.hid (guess_F h2)
    have hb := beqs_yes h2
    have hb1 := beqs_no h1
    unfold sTRUE at hb1
    unfold sFALSE at hb
    clear h1 h2
    go_enter Tryd.func18, Tryd.ntmps18
    go_wp2_with fail
    go_returns
    exact ⟨by rw [hg.out]; rfl, Below.refl _ _⟩
  have hb1 := beqs_no h1
  have hb2 := beqs_no h2
  unfold sTRUE at hb1
  unfold sFALSE at hb2
  have hcl := cB_len 35 l
  have htl := tms_len (cB 35 l)
  by_cases h3 : cA 35 l = [84]
  · have hg := Lib.hid (guess_6 h1 h2 h3)
    have hb3 := beqs_yes h3
    clear h1 h2 h3
    go_enter Tryd.func18, Tryd.ntmps18
    go_wp2_with fail
    refine (strings_Cut l 35 _ hl).mono ?_; rintro e w1 ⟨rfl, m, rfl⟩
    generalize cA 35 l = a at *
    generalize cB 35 l = b at *
    go_wp2_with fail
    refine (strings_TrimSuffix b (by omega) _).mono ?_; rintro e w1 ⟨rfl, rfl⟩
    go_wp2_with fail
    refine (num_Parse (tms b) (by omega) _).mono ?_; rintro e w1 ⟨rfl, hb⟩
    have hB : Below w.heap.size w w1 := (below_drewN (Below.refl _ _) m).trans hb
    go_wp2_with fail
    go_returns
    exact ⟨by rw [hg.out]; rfl, hB⟩
  · have hg := Lib.hid (guess_m h1 h2 h3)
    have hb3 := beqs_no h3
    clear h1 h2 h3
    go_enter Tryd.func18, Tryd.ntmps18
    go_wp2_with fail
    refine (strings_Cut l 35 _ hl).mono ?_; rintro e w1 ⟨rfl, m, rfl⟩
    generalize cA 35 l = a at *
    generalize cB 35 l = b at *
    go_wp2_with fail
    refine (num_Parse b (by omega) _).mono ?_; rintro e w1 ⟨rfl, hb⟩
    have hB : Below w.heap.size w w1 := (below_drewN (Below.refl _ _) m).trans hb
    go_wp2_with fail
    refine (kind_Find _ _ (hN.below hB)).mono ?_; rintro e w2 ⟨rfl, rfl⟩
    go_wp2_with fail
    go_returns
    exact ⟨by rw [hg.out]; rfl, hB⟩
/-- what Value hands back -/
def v1 (l : List UInt8) : Int := if isLit l then (guess l).1 else 0
def v2 (l : List UInt8) : Int := if isLit l then (guess l).2 else 0
theorem v_no {l : List UInt8} (h : isLit l = false) : v1 l = 0 ∧ v2 l = 0 := by unfold v1 v2; rw [h]; exact ⟨if_neg (by decide), if_neg (by decide)⟩
theorem v_yes {l : List UInt8} (h : isLit l = true) : v1 l = (guess l).1 ∧ v2 l = (guess l).2 := by unfold v1 v2; rw [h]; exact ⟨if_pos rfl, if_pos rfl⟩
set_option maxHeartbeats 1000000 in
theorem num_Value (l : List UInt8) (hl : (l.length : Int) ≤ 9223372036854775807) (w : World) (hN : KNames w) : Calls Tryd.prog 11 #[.string ⟨l.toArray⟩] w fun e w' => e = .returned (.tuple #[.int .i64 (v1 l), .int .i64 (v2 l), .bool (isLit l)]) ∧ Below w.heap.size w w' := by
  have hr := guess_range l
  have hd : isLit l = ((guess l).1 != 0 && lit (guess l).1 (guess l).2 == l) := rfl
  have hv := v_no (l := l)
  have hv' := v_yes (l := l)
  have HV := Lib.hid hv
  have HV' := Lib.hid hv'
  clear hv hv'
  go_enter Tryd.func11, Tryd.ntmps11
  go_wp2_with fail
  refine (num_guess l hl _ hN).mono ?_; rintro e w1 ⟨rfl, hb1⟩
  generalize guess l = g at *
  obtain ⟨t, v⟩ := g
  by_cases h0 : t = 0
  · subst h0
    have hi : isLit l = false := by rw [hd]; rfl
    obtain ⟨q1, q2⟩ := HV.out hi
    have Q1 := Lib.hid q1
    have Q2 := Lib.hid q2
    have HI := Lib.hid hi
    clear hd hi q1 q2
    go_wp2_with fail
    go_returns
    exact ⟨by rw [Q1.out, Q2.out, HI.out]; rfl, hb1⟩
  · have hz : ((t : Int) == 0) = false := by simpa using h0
    have hd2 : isLit l = (lit t v == l) := by rw [hd]; simp [h0]
    have hls := litS_list t v
    cases hi : isLit l
    · rw [hi] at hd2
      have hd3 := hd2.symm
      obtain ⟨q1, q2⟩ := HV.out hi
      have Q1 := Lib.hid q1
      have Q2 := Lib.hid q2
      have HI := Lib.hid hi
      clear hd hi q1 q2 hd2
      go_wp2_with fail
      refine (num_Literal t v hr _ (hN.below hb1)).mono ?_; rintro e w2 ⟨rfl, hb2⟩
      have hB := hb1.trans (hb2.mono hb1.size)
      go_wp2_with fail
      go_returns
      exact ⟨by rw [Q1.out, Q2.out, HI.out]; rfl, hB⟩
    · rw [hi] at hd2
      have hd3 := hd2.symm
      obtain ⟨q1, q2⟩ := HV'.out hi
      have Q1 := Lib.hid q1
      have Q2 := Lib.hid q2
      have HI := Lib.hid hi
      clear hd hi q1 q2 hd2
      go_wp2_with fail
      refine (num_Literal t v hr _ (hN.below hb1)).mono ?_; rintro e w2 ⟨rfl, hb2⟩
      have hB := hb1.trans (hb2.mono hb1.size)
      go_wp2_with fail
      go_returns
      exact ⟨by rw [Q1.out, Q2.out, HI.out]; rfl, hB⟩
end Go.Proofs.YtddemhpmdmhdcaaDoor
