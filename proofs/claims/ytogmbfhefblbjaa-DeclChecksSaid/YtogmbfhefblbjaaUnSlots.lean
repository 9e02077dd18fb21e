/- Layer 15: a unit's slots, by the program. -/
import Derived.Test.YtogmbfhefblbjaaSlots
namespace Go.Proofs.Ytogmbfhefblbjaa
open Go.RowKit
set_option linter.unusedSimpArgs false
set_option linter.unusedVariables false
set_option maxHeartbeats 4000000 in
theorem unit_Slots (a b c : Value) (x : Un) (w : World) (h : UnAt w a b c x) (hf : fewU x = true) : Calls Try.prog 40 #[.agg #[.string ⟨x.name.toArray⟩, a, .int .i64 x.result, b, c]] w fun e w' => ∃ v, e = .returned v ∧ RowR 1 intR w' v (slotsL x) ∧ Below w.heap.size w w' := by
  obtain ⟨_, f1, f2, _⟩ : x.name.length ≤ 300 ∧ x.params.length ≤ 20 ∧ x.locals.length ≤ 1100 ∧ x.code.length ≤ 300 := of_decide_eq_true hf
  obtain ⟨i, hi, hz, hsize, hby⟩ : ∃ i, Try.prog.info? 3 = some i ∧ i.zero = some (.int .i64 0) ∧ i.size = 1 ∧ i.bytes = 8 := ⟨(Try.prog.info? 3).get!, by kernel_rfl, by kernel_rfl, by kernel_rfl, by kernel_rfl⟩
  have HI := Lib.hid (show ∀ z ∈ slotsL x, I64 z by
    intro z hz
    have hp := row_ints h.ps
    have hl := row_ints h.ls
    have hr := h.r64
    unfold slotsL at hz
    rcases List.mem_append.1 hz with hz | hz
    · rcases List.mem_append.1 hz with hz | hz
      · exact hp z hz
      · by_cases h0 : x.result = 0
        · rw [if_pos h0] at hz; cases hz
        · rw [if_neg h0] at hz
          have : z = x.result := by simpa using hz
          rw [this]; exact hr
    · exact hl z hz)
  have HS1 := Lib.hid (fun W (hb : Below w.heap.size w W) => (src_ints h.ps).below hb)
  have HS2 := Lib.hid (fun W (hb : Below w.heap.size w W) => (src_ints h.ls).below hb)
  obtain ⟨sa, ca, ea⟩ := row_get h.ps
  obtain ⟨sb, cb, eb⟩ := row_get h.ls
  subst ea eb
  have HD := Lib.hid (show slotsL x = x.params ++ (if x.result = 0 then [] else [x.result]) ++ x.locals from rfl)
  clear h hf
  generalize (⟨x.name.toArray⟩ : ByteArray) = nm at *
  generalize x.result = rs at *
  generalize hp : x.params = P at *
  generalize hq : x.locals = L at *
  obtain ⟨n1, hn1⟩ : ∃ n, P.length = n := ⟨_, rfl⟩
  obtain ⟨n2, hn2⟩ : ∃ n, L.length = n := ⟨_, rfl⟩
  have HN := Lib.hid (show P.length = n1 ∧ L.length = n2 from ⟨hn1, hn2⟩)
  rw [hn1] at f1 HS1 ⊢
  rw [hn2] at f2 HS2 ⊢
  clear hp hq hn1 hn2
  obtain ⟨W0, hW0⟩ : ∃ W0, W0 = w.alloc (.cells #[.string nm, .slice sa n1 ca, .int .i64 rs, .slice sb n2 cb, c] 41) := ⟨_, rfl⟩
  have hs0 : W0.heap.size = w.heap.size + 1 := by rw [hW0]; simp
  have hB0 : Below (w.heap.size + 1) W0 W0 := Below.refl _ _
  have hb0 : Below w.heap.size w W0 := by rw [hW0]; exact (Below.refl _ _).alloc (Nat.le_refl _) _
  have K := Lib.hid (fun W (hW : Below (w.heap.size + 1) W0 W) => Boxed.new w [.string nm, .slice sa n1 ca, .int .i64 rs, .slice sb n2 cb, c] 41 (by rw [hW0] at hW; exact hW))
  have hmk := run_make W0 35 3 i _ Try.underlying35 hi hz .i64 .i64 (0 : Int) (n1 + 1 + n2 : Int) (by omega) (by omega) (by rw [hby]; omega) (by omega)
  rw [hsize, Nat.mul_one, show ((0 : Int)).toNat = 0 from rfl, show (n1 + 1 + n2 : Int).toNat = n1 + 1 + n2 by omega] at hmk
  obtain ⟨Z, hZ⟩ : ∃ Z, madeCells (Value.int .i64 0).cells (n1 + 1 + n2) = Z := ⟨_, rfl⟩
  have hZs : Z.size = (n1 + 1 + n2) * 1 := by rw [← hZ]; simp [madeCells]
  rw [hZ] at hmk
  have HO0 := Lib.hid (own_base (owns_made W0 Z 3 1 (n1 + 1 + n2) hZs (by unfold maxLen; omega)) hs0)
  obtain ⟨W1, hW1⟩ : ∃ W1, W1 = W0.alloc (.cells Z 3) := ⟨_, rfl⟩
  have hB1 : Below (w.heap.size + 1) W0 W1 := by rw [hW1]; exact hB0.alloc (by omega) _
  have hz1 : w.heap.size + 1 ≤ W1.heap.size := by rw [hW1]; simp; omega
  rw [← hW1] at hmk HO0
  rw [hs0] at HO0 hmk
  rw [hW0] at hmk
  have HW0 := Lib.hid hW0
  have hw1 : IntKind.i64.wrap ((n1 : Int) + 1) = (n1 : Int) + 1 := IntWalk.i64_in _ (by omega)
  have hw2 : IntKind.i64.wrap ((n1 : Int) + 1 + n2) = (n1 : Int) + 1 + n2 := IntWalk.i64_in _ (by omega)
  have bx1 := K.out _ hB1
  have d1 := bx1 1 _ rfl
  clear hZ hZs hW0 hW1 bx1 hB0
  by_cases h0 : rs = 0
  · have q : (rs != 0) = false := by simp [h0]
    rw [if_pos h0, List.append_nil] at HD
    clear h0
    go_enter Try.func40, Try.ntmps40
    go_wp2_with (first | (at_builtin; go_loud (refine wpList_append_src rfl (.tmp 13) (.tmp 15) 35 rfl (w.heap.size + 1) 3 i (.int .i64 0) 1 8 Try.underlying35 hi hz hsize hby rfl (by omega) _ 0 [] rfl HO0.out _ n1 (iV P) rfl (HS1.out _ (hb0.trans (hB1.mono (by omega)))) (by rw [iV_len, HN.out.1]; omega) (iV_one P) (by unfold maxLen; omega) (by omega) (by omega) ?_; intro v2 w2 hO2 hG2; have hB2 := grown3 hB1 hz1 HO0.out hG2; have HO2 := Lib.hid (own_eq2 hO2 (Nat.zero_add n1) (List.nil_append _)); have z2 : w.heap.size + 1 ≤ w2.heap.size := Nat.le_trans hz1 hG2.size; have e2 := K.out _ hB2 2 _ rfl; have e3 := K.out _ hB2 3 _ rfl; clear hO2 hG2 d1)) | (at_builtin; go_loud (refine wpList_append_src rfl (.tmp 25) (.tmp 27) 35 rfl (w.heap.size + 1) 3 i (.int .i64 0) 1 8 Try.underlying35 hi hz hsize hby rfl (by omega) _ n1 _ rfl HO2.out _ n2 (iV L) rfl (HS2.out _ (hb0.trans (hB2.mono (by omega)))) (by rw [iV_len, HN.out.2]; omega) (iV_one L) (by unfold maxLen; omega) (by omega) (by omega) ?_; intro v3 w3 hO3 hG3; have hB3 := grown3 hB2 z2 HO2.out hG3; have HO3 := Lib.hid hO3; clear hO3 hG3)) | fail)
    trace_state
    go_ret
    exact ⟨_, rfl, row_of_owns (own_eq2 HO3.out (by rw [HD.out, List.length_append, HN.out.1, HN.out.2]) (by rw [HD.out, iV_app])) HI.out, hb0.trans (hB3.mono (by omega))⟩
  · have q : (rs != 0) = true := by simpa using h0
    rw [if_neg h0] at HD
    clear h0
    go_enter Try.func40, Try.ntmps40
    go_wp2_with (first | (at_builtin; go_loud (refine wpList_append_src rfl (.tmp 13) (.tmp 15) 35 rfl (w.heap.size + 1) 3 i (.int .i64 0) 1 8 Try.underlying35 hi hz hsize hby rfl (by omega) _ 0 [] rfl HO0.out _ n1 (iV P) rfl (HS1.out _ (hb0.trans (hB1.mono (by omega)))) (by rw [iV_len, HN.out.1]; omega) (iV_one P) (by unfold maxLen; omega) (by omega) (by omega) ?_; intro v2 w2 hO2 hG2; have hB2 := grown3 hB1 hz1 HO0.out hG2; have HO2 := Lib.hid (own_eq2 hO2 (Nat.zero_add n1) (List.nil_append _)); have z2 : w.heap.size + 1 ≤ w2.heap.size := Nat.le_trans hz1 hG2.size; have e2 := K.out _ hB2 2 _ rfl; have e3 := K.out _ hB2 3 _ rfl; clear hO2 hG2 d1)) | (at_builtin; go_loud (refine wpList_append_src rfl (.tmp 20) (.tmp 23) 35 rfl (w.heap.size + 1) 3 i (.int .i64 0) 1 8 Try.underlying35 hi hz hsize hby rfl (by omega) _ n1 _ rfl (owns_below HO2.out ((Below.refl _ _).alloc (Nat.le_refl _) _)) _ 1 [.int .i64 rs] rfl (src_new _ _ _) rfl (by intro u hu; simp at hu; rw [hu]; rfl) (by unfold maxLen; omega) (by omega) (by simp; omega) ?_; intro v3 w3 hO3 hG3; have hB3 := grown3 (hB2.alloc z2 _) (by simp; omega) (owns_below HO2.out ((Below.refl _ _).alloc (Nat.le_refl _) _)) hG3; have HO3 := Lib.hid hO3; have z3 : w.heap.size + 1 ≤ w3.heap.size := (by have := hG3.size; simp at this; omega); have g3 := K.out _ hB3 3 _ rfl; clear hO3 hG3 e2 e3)) | (at_builtin; go_loud (refine wpList_append_src rfl (.tmp 25) (.tmp 27) 35 rfl (w.heap.size + 1) 3 i (.int .i64 0) 1 8 Try.underlying35 hi hz hsize hby rfl (by omega) _ (n1 + 1) _ rfl HO3.out _ n2 (iV L) rfl (HS2.out _ (hb0.trans (hB3.mono (by omega)))) (by rw [iV_len, HN.out.2]; omega) (iV_one L) (by unfold maxLen; omega) (by omega) (by omega) ?_; intro v4 w4 hO4 hG4; have hB4 := grown3 hB3 z3 HO3.out hG4; have HO4 := Lib.hid hO4; clear hO4 hG4)) | fail)
    trace_state
    go_ret
    exact ⟨_, rfl, row_of_owns (own_eq2 HO4.out (by rw [HD.out]; simp only [List.length_append, List.length_cons, List.length_nil, HN.out.1, HN.out.2]) (by rw [HD.out, iV_app, iV_app]; rfl)) HI.out, hb0.trans (hB4.mono (by omega))⟩
end Go.Proofs.Ytogmbfhefblbjaa
