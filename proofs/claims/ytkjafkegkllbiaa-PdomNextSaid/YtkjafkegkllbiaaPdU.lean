/- pdom.up. -/
import Derived.Test.YtkjafkegkllbiaaPdG
import Derived.Test.YtkjafkegkllbiaaGrid
import Derived.Test.YtkjafkegkllbiaaDmIdom
namespace Go.Proofs.Ytkjafkegkllbiaa
open Go.RowKit
set_option linter.unusedSimpArgs false
set_option linter.unusedVariables false
open DM (upF)
set_option maxRecDepth 100000 in
set_option maxHeartbeats 8000000 in
theorem pdom_up (v : Value) (NP : List Int) (t : Int) (K : Nat) (L : List Int) (w : World) (hv : RowR 1 intR w v NP) (hu : upF NP K t = some L) (hL : L.length ≤ 4096) :
    Calls Try.prog 20 #[v, .int .i64 t] w fun r w' => ∃ u, r = .returned u ∧ w'.ownsRow w.heap.size 3 1 u L.length (iV L) ∧ Below w.heap.size w w' := by
  obtain ⟨i2, hi2, hz2, hsize2, hby2⟩ : ∃ i, Try.prog.info? 3 = some i ∧ i.zero = some (.int .i64 0) ∧ i.size = 1 ∧ i.bytes = 8 := ⟨(Try.prog.info? 3).get!, by kernel_rfl, by kernel_rfl, by kernel_rfl, by kernel_rfl⟩
  have hlen := hv.len
  have HV := Lib.hid hv
  obtain ⟨ad, cap, rfl⟩ := row_get hv
  obtain ⟨n, hN⟩ : ∃ n, NP.length = n := ⟨_, rfl⟩
  have HN := Lib.hid hN
  rw [hN] at hlen HV ⊢
  have HU := Lib.hid hu
  have HLl := Lib.hid hL
  clear hv hN hu hL
  go_enter Try.func20, Try.ntmps20
  go_wp2_with fail
  go_loopg [1, 5] K (fun k tv ov wr => ∃ (t : Int) (acc M : List Int) (m oc : Nat) (oa : Option Addr), tv = .int .i64 t ∧ ov = .slice oa m oc ∧ Hid (upF NP k t = some M ∧ acc ++ M = L ∧ acc.length = m) ∧ Hid (wr.ownsRow w.heap.size 3 1 (.slice oa m oc) m (iV acc) ∧ Below w.heap.size w wr))
  case atStart => exact ⟨t, [], L, 0, 0, none, rfl, rfl, Lib.hid ⟨HU.out, rfl, rfl⟩, Lib.hid ⟨World.ownsRow_nil _ _ _ _, Below.refl _ _⟩⟩
  case round =>
    obtain ⟨t, acc, M, m, oc, oa, rfl, rfl, hM, hO⟩ := hrel
    obtain ⟨k', hk⟩ : ∃ k', gk = k' + 1 := by
      cases gk with
      | zero => have := hM.out.1; simp [upF] at this
      | succ k => exact ⟨k, rfl⟩
    subst hk
    have hml : m + M.length = L.length := by rw [← hM.out.2.1, List.length_append, hM.out.2.2]
    have hE := hM.out.1
    unfold upF at hE
    rw [HN.out] at hE
    have HOO := hO
    by_cases hlt : t < (n : Int)
    · rw [if_pos hlt] at hE
      have h0 : 0 ≤ t := by
        by_cases h : 0 ≤ t
        · exact h
        · rw [if_neg h] at hE; cases hE
      rw [if_pos h0] at hE
      obtain ⟨tn, rfl⟩ : ∃ tn : Nat, t = (tn : Int) := ⟨t.toNat, by omega⟩
      rw [Int.toNat_natCast] at hE
      have q1 : ((tn : Int) < (n : Int)) = True := eq_true hlt
      have q1' : (tn < n) = True := eq_true (by omega)
      obtain ⟨b, o, rfl, hbw, hnc, hc, _, _⟩ := int_at HV.out (k := tn) (by rw [HN.out]; omega)
      have HCt := Lib.hid (show ∀ W, Below w.heap.size w W → W.cell? ⟨b, o + tn, none⟩ = some (.int .i64 (NP.getD tn 0)) from fun W h => by
        obtain ⟨b', o', e, _, _, _, cz, _⟩ := int_at (HV.out.below intR_stable h) (k := tn) (by rw [HN.out]; omega)
        cases e; exact cz)
      obtain ⟨M', hM', hMM⟩ : ∃ M', upF NP k' (NP.getD tn 0) = some M' ∧ (tn : Int) :: M' = M := by
        cases h : upF NP k' (NP.getD tn 0) with
        | none => rw [h] at hE; cases hE
        | some M' => rw [h] at hE; exact ⟨M', rfl, by simpa using hE⟩
      have HMn := Lib.hid (show upF NP k' (NP.getD tn 0) = some M' ∧ (acc ++ [(tn : Int)]) ++ M' = L ∧ (acc ++ [(tn : Int)]).length = m + 1 from ⟨hM', by rw [← hM.out.2.1, ← hMM, List.append_assoc]; rfl, by rw [List.length_append, hM.out.2.2]; rfl⟩)
      have HMl := Lib.hid (show m + 1 ≤ 4096 by have := HLl.out; rw [← hMM] at hml; simp at hml; omega)
      generalize NP.getD tn 0 = z at *
      clear hM hO hE hlt h0 hM' hMM hml
      go_wp2_with (first | (at_builtin; go_loud (refine wpList_append_near rfl (.tmp 10) (.tmp 12) 25 rfl w.heap.size 3 i2 (.int .i64 0) 1 8 Try.underlying25 hi2 hz2 hsize2 hby2 rfl (by omega) _ m _ rfl (owns_below HOO.out.1 ((Below.refl _ _).alloc (Nat.le_refl _) _)) ⟨wr.heap.size, 0, none⟩ 1 1 [.int .i64 (tn : Int)] rfl rfl (new_cells _ _ _) (by intro u hu; simp at hu; rw [hu]; rfl) (by have := HMl.out; unfold maxLen; omega) (by have := HMl.out; omega) (by have := HOO.out.2.size; simp; omega) ?_; intro v6 w6 hO6 hG6 hN6; have HB6 := Lib.hid (grown3 (HOO.out.2.alloc HOO.out.2.size _) (by have := HOO.out.2.size; simp; omega) (owns_below HOO.out.1 ((Below.refl _ _).alloc (Nat.le_refl _) _)) hG6); have c6 := HCt.out _ HB6.out; obtain ⟨av6, cv6, rfl⟩ := owns_form hO6; have HO6 := Lib.hid hO6; clear hO6 hG6 hN6)) | fail)
      go_roundg k'
      case measure => omega
      case rel => exact ⟨z, acc ++ [(tn : Int)], M', m + 1, cv6, av6, rfl, rfl, HMn, Lib.hid ⟨by rw [iV_app]; exact HO6.out, HB6.out⟩⟩
    · rw [if_neg hlt] at hE
      have q1 : (t < (n : Int)) = False := eq_false hlt
      have hMM : [t] = M := by simpa using hE
      have HMn := Lib.hid (show acc ++ [t] = L ∧ m + 1 = L.length from ⟨by rw [hMM]; exact hM.out.2.1, by rw [← hml, ← hMM]; rfl⟩)
      have HMl := Lib.hid (show m + 1 ≤ 4096 by have := HLl.out; rw [← hMM] at hml; simp at hml; omega)
      clear hM hO hE hlt hMM hml
      go_wp2_with (first | (at_builtin; go_loud (refine wpList_append_near rfl (.tmp 18) (.tmp 20) 25 rfl w.heap.size 3 i2 (.int .i64 0) 1 8 Try.underlying25 hi2 hz2 hsize2 hby2 rfl (by omega) _ m _ rfl (owns_below HOO.out.1 ((Below.refl _ _).alloc (Nat.le_refl _) _)) ⟨wr.heap.size, 0, none⟩ 1 1 [.int .i64 t] rfl rfl (new_cells _ _ _) (by intro u hu; simp at hu; rw [hu]; rfl) (by have := HMl.out; unfold maxLen; omega) (by have := HMl.out; omega) (by have := HOO.out.2.size; simp; omega) ?_; intro v6 w6 hO6 hG6 hN6; have HB6 := Lib.hid (grown3 (HOO.out.2.alloc HOO.out.2.size _) (by have := HOO.out.2.size; simp; omega) (owns_below HOO.out.1 ((Below.refl _ _).alloc (Nat.le_refl _) _)) hG6); obtain ⟨av6, cv6, rfl⟩ := owns_form hO6; have HO6 := Lib.hid hO6; clear hO6 hG6 hN6)) | fail)
      go_ret
      exact ⟨_, rfl, by rw [← HMn.out.2, ← HMn.out.1, iV_app]; exact HO6.out, HB6.out⟩
end Go.Proofs.Ytkjafkegkllbiaa
