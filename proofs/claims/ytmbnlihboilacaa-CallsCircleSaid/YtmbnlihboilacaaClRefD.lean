/- The document's depths of calls. -/
import Derived.Test.YtmbnlihboilacaaClRefO
import Derived.Test.YtmbnlihboilacaaClDepth
namespace Go.Proofs.Ytmbnlihboilacaa
open Go.RowKit
set_option linter.unusedSimpArgs false
set_option linter.unusedVariables false
open CL (depF topD cls ofN)
theorem topD_ofK (D : List Nat) (cs : List Ins) (k : Nat) : topD D (ofK cs (k + 1)) = if cls cs (k : Int) = true then max (topD D (ofK cs k)) (D.getD k 0) else topD D (ofK cs k) := by
  rw [ofK_succ]
  split
  · exact CL.topD_snoc _ _ _
  · rfl
set_option maxRecDepth 100000 in
set_option maxHeartbeats 8000000 in
theorem ref21_Depth (v vo : Value) (L : List Un) (o : List Nat) (w : World) (hv : RowR 5 unitR w v L) (hn : L.length ≤ 100) (ho : RowR 1 intR w vo (nI o)) (hg : CL.Good (calledF L) o) (hol : o.length = L.length) :
    Calls Try.prog 13 #[v, vo] w fun r w' => ∃ u, r = .returned u ∧ w'.ownsRow w.heap.size 3 1 u L.length (iV (nI (depF (calledF L) (List.replicate L.length 0) o))) ∧ Below w.heap.size w w' := by
  obtain ⟨i, hi, hz, hsize, hby⟩ : ∃ i, Try.prog.info? 3 = some i ∧ i.zero = some (.int .i64 0) ∧ i.size = 1 ∧ i.bytes = 8 := ⟨(Try.prog.info? 3).get!, by kernel_rfl, by kernel_rfl, by kernel_rfl, by kernel_rfl⟩
  obtain ⟨ad, cap, rfl⟩ := row_get hv
  have HCa := Lib.hid (fun (W : World) (h : Below w.heap.size w W) (u : Nat) (x : Un) (hx : L[u]? = some x) (c : Int) => ref21_Calls _ L u x c W (hv.below unitR_stable h) hx)
  have HO := Lib.hid (fun W (h : Below w.heap.size w W) => ho.below intR_stable h)
  obtain ⟨oa, oc, rfl⟩ := row_get ho
  rw [nI_len, hol] at HO ⊢
  obtain ⟨CF, hCF⟩ : ∃ CF, calledF L = CF := ⟨_, rfl⟩
  have HCA := Lib.hid (fun (k : Nat) (x : Un) (hx : L[k]? = some x) => by have h := calledF_at hx; rw [hCF] at h; exact h)
  have HCL := Lib.hid (show CF.length = L.length by rw [← hCF]; exact calledF_len L)
  rw [hCF] at hg ⊢
  have HGood := Lib.hid hg
  obtain ⟨n, hN⟩ : ∃ n, L.length = n := ⟨_, rfl⟩
  have HN := Lib.hid hN
  rw [hN] at hn HCa HCA HCL HO hol ⊢
  have HOl := Lib.hid hol
  clear hv hN hCF hg hol ho
  have hmk := fun W => run_make W 25 3 i _ Try.underlying25 hi hz .i64 .i64 (n : Int) (n : Int) (by omega) (by omega) (by rw [hby]; omega) (by omega)
  rw [hsize, Nat.mul_one, madeI, Int.toNat_natCast] at hmk
  have hn63 : n ≤ 9223372036854775807 := by omega
  obtain ⟨ZP, hZP⟩ : ∃ Z, (iV (List.replicate n 0)).toArray = Z := ⟨_, rfl⟩
  rw [hZP] at hmk
  obtain ⟨B, hB⟩ : ∃ B, w.heap.size = B := ⟨_, rfl⟩
  have HBs := Lib.hid hB
  have HD0 := Lib.hid (show DSt B n w (w.alloc (.cells ZP 3)) (List.replicate n 0) by
    subst hB
    have k1 := owns_arr w ZP 3 1 n (by rw [← hZP]; simp [iV]) (by unfold maxLen; omega)
    rw [← hZP] at k1 ⊢
    refine ⟨by (repeat' (first | (with_reducible exact Below.refl _ _) | (with_reducible assumption) | (with_reducible refine below_drewN ?_ _) | (with_reducible refine Below.alloc ?_ ?_ _) | (with_reducible refine Below.drew ?_) | (with_reducible refine Below.setCell ?_ ?_ _) | go_size)), ?_, by simp, by simp⟩
    have e : (iV (List.replicate n 0)) = iV (nI (List.replicate n 0)) := by simp [iV, nI]
    rw [← e]
    exact k1)
  clear hZP
  go_enter Try.func13, Try.ntmps13
  go_wp2_with fail
  clear hmk hB
  go_loopw [6] (fun jj wr => ∃ (k : Nat), jj = .int .i64 k ∧ k ≤ n ∧ Hid (DSt B n w wr (depF CF (List.replicate n 0) (o.take k)) ∧ ∀ x ∈ depF CF (List.replicate n 0) (o.take k), x ≤ k)) (fun jj _ => n - (intOf jj).toNat)
  case atStart => exact ⟨0, rfl, Nat.zero_le _, Lib.hid ⟨HD0.out, fun x hx => by have := List.eq_of_mem_replicate (show x ∈ List.replicate n 0 from hx); omega⟩⟩
  case round =>
    obtain ⟨k, rfl, hk, hD⟩ := hrel
    rename World => W1
    by_cases hlt : k < n
    case neg =>
      obtain rfl : n = k := by omega
      have q1 : ((n : Int) < (n : Int)) = False := eq_false (by omega)
      have q1' : (n < n) = False := eq_false (by omega)
      rw [List.take_of_length_le (by rw [HOl.out]; exact Nat.le_refl _)] at hD
      have HD := hD
      clear hD hlt hk
      go_wp2_with fail
      go_ret
      exact ⟨_, rfl, by rw [HBs.out]; exact HD.out.1.hd, by rw [HBs.out]; exact HD.out.1.hb⟩
    have q1 : ((k : Int) < (n : Int)) = True := eq_true (by omega)
    have q1' : (k < n) = True := eq_true hlt
    have hk62 : k ≤ 9223372036854775806 := by omega
    have HK := Lib.hid hlt
    obtain ⟨u, hu⟩ := get_some (L := o) (n := k) (by rw [HOl.out]; exact hlt)
    obtain ⟨hun, hnt, hnc⟩ := good_at HGood.out hu
    rw [HCL.out] at hun
    have HUn := Lib.hid hun
    have hBw : Below w.heap.size w W1 := by rw [HBs.out]; exact hD.out.1.hb
    obtain ⟨go, off, hse, hgo, ho1, ho2, co, _⟩ := int_at (HO.out _ hBw) (k := k) (by rw [nI_len, HOl.out]; exact hlt)
    cases hse
    rw [show (nI o).getD k 0 = (u : Int) by simp [nI, List.getD, hu]] at co
    have HSt := Lib.hid (show o.take (k + 1) = o.take k ++ [u] from take_snoc hu)
    have HD0u := Lib.hid (show (depF CF (List.replicate n 0) (o.take k)).getD u 0 = 0 by
      rw [CL.depF_other CF _ _ hnt]
      simp [List.getD, List.getElem?_replicate, hun])
    have HSn := Lib.hid (show depF CF (List.replicate n 0) (o.take (k + 1)) = (depF CF (List.replicate n 0) (o.take k)).set u (topD (depF CF (List.replicate n 0) (o.take k)) (CF.getD u []) + 1) by rw [HSt.out]; exact CL.depF_snoc _ _ _ _)
    obtain ⟨x, hx⟩ := get_some (L := L) (n := u) (by rw [HN.out]; exact hun)
    have hCu := HCA.out u x hx
    have HCu := Lib.hid (show CF.getD u [] = ofK x.code n by simp [List.getD, hCu, ofN, ofK])
    have HCx := Lib.hid (fun W h c => HCa.out W h u x hx c)
    have HNc := Lib.hid hnc
    generalize depF CF (List.replicate n 0) (o.take k) = D at *
    rw [HCu.out] at HSn HNc
    have HNu := Lib.hid (show cls x.code (u : Int) = false by
      cases h : cls x.code (u : Int)
      · rfl
      · exact absurd (List.mem_filter.2 ⟨List.mem_range.2 hun, h⟩) HNc.out)
    generalize x.code = cs at *
    have HD := hD
    have hl := hD.out.1.hl
    obtain ⟨cu0, fu0⟩ := hD.out.1.at_ hun
    have HD1 := Lib.hid (show DSt B n w (W1.setCell ⟨B, u, none⟩ (.int .i64 1)) (D.set u (topD D (ofK cs 0) + 1)) from hD.out.1.set u 1)
    have q4 : ((u : Int) < (n : Int)) = True := eq_true (by omega)
    have q4' : (u < n) = True := eq_true hun
    clear hD hlt hk hnt hnc hu hBw hx hCu hun hl
    go_wp2_with fail
    go_loopw [8] (fun jj wr2 => ∃ (j : Nat), jj = .int .i64 j ∧ j ≤ n ∧ Hid (DSt B n w wr2 (D.set u (topD D (ofK cs j) + 1)))) (fun jj _ => n - (intOf jj).toNat)
    case atStart => exact ⟨0, rfl, Nat.zero_le _, HD1⟩
    case round =>
      obtain ⟨j, rfl, hj, hE⟩ := hrel
      rename World => W2
      by_cases hlt : j < n
      case neg =>
        obtain rfl : n = j := by omega
        have q2 : ((n : Int) < (n : Int)) = False := eq_false (by omega)
        have q2' : (n < n) = False := eq_false (by omega)
        have hk := HK.out
        have hEE := hE
        clear hE hlt hj
        go_wp2_with fail
        go_roundw
        case rel => exact ⟨k + 1, by simp, by have := HK.out; omega, Lib.hid ⟨by rw [HSn.out]; exact hEE.out, fun x hx => by
          rw [HSn.out] at hx
          rcases List.mem_or_eq_of_mem_set hx with h | h
          · have := HD.out.2 x h; omega
          · have := topD_le (D := D) (l := ofK cs n) HD.out.2; omega⟩⟩
        case measure => have := HK.out; first | (simp [intOf]; done) | (simp [intOf]; omega)
      have q2 : ((j : Int) < (n : Int)) = True := eq_true (by omega)
      have q2' : (j < n) = True := eq_true hlt
      have hj62 : j ≤ 9223372036854775806 := by omega
      have HJ := Lib.hid hlt
      have HC := Lib.hid (fun m => HCx.out (World.drewN W2 m) (by rw [HBs.out]; exact hE.out.hb.trans (Below_drewN _ _ _)) (j : Int))
      have HTk := Lib.hid (topD_ofK D cs j)
      obtain ⟨c5, f5⟩ := hE.out.at_ HUn.out
      rw [getD_set_eq' (by rw [HD.out.1.hl]; exact HUn.out)] at c5
      have htl := topD_le (D := D) (l := ofK cs j) HD.out.2
      have hk := HK.out
      cases hcl : cls cs (j : Int)
      case false =>
        rw [hcl] at HC
        have HTk := Lib.hid (show topD D (ofK cs (j + 1)) = topD D (ofK cs j) by rw [HTk.out, hcl]; simp)
        have hEE := hE
        clear hE hlt hj htl hk hcl c5 f5
        go_wp2_with fail
        go_quiet ((go_at_call 14; exact Calls.quiet_of_same (HC.out _)))
        go_wp2_with fail
        go_roundw
        case rel => exact ⟨j + 1, by simp, by have := HJ.out; omega, Lib.hid (by rw [HTk.out]; exact hEE.out.below (Below_drewN _ _ _))⟩
        case measure => have := HJ.out; first | (simp [intOf]; done) | (simp [intOf]; omega)
      have hju : u ≠ j := fun e => by have := HNu.out; rw [e, hcl] at this; cases this
      obtain ⟨c6, f6⟩ := hE.out.at_ hlt
      rw [getD_set_ne' hju] at c6
      have hdj : D.getD j 0 ≤ k := by
        have hl : j < D.length := by rw [HD.out.1.hl]; exact hlt
        have : D.getD j 0 = D[j] := by simp [List.getD, hl]
        rw [this]; exact HD.out.2 _ (List.getElem_mem hl)
      have HTk := Lib.hid (show topD D (ofK cs (j + 1)) = max (topD D (ofK cs j)) (D.getD j 0) by rw [HTk.out, hcl]; simp)
      rw [hcl] at HC
      generalize topD D (ofK cs j) = t1 at *
      generalize D.getD j 0 = dj at *
      have HEE := hE
      have hd62 : dj ≤ 1000 := by omega
      by_cases hgt : t1 < dj
      · have q6 : ((t1 : Int) + 1 < (dj : Int) + 1) = True := eq_true (by omega)
        have q6' : ((t1 : Int) < (dj : Int)) = True := eq_true (by omega)
        have q6'' : (t1 < dj) = True := eq_true hgt
        have HTk := Lib.hid (show topD D (ofK cs (j + 1)) = dj by rw [HTk.out]; omega)
        have HSet := Lib.hid (fun m => by have h := (hE.out.below (Below_drewN W2.heap.size W2 m)).set u (dj + 1); rw [List.set_set] at h; exact h)
        clear hE hlt hj htl hk hcl hgt hju hdj
        go_wp2_with fail
        go_quiet ((go_at_call 14; exact Calls.quiet_of_same (HC.out _)))
        go_wp2_with fail
        go_roundw
        case rel => exact ⟨j + 1, by simp, by have := HJ.out; omega, Lib.hid (by rw [HTk.out]; simpa using HSet.out _)⟩
        case measure => have := HJ.out; first | (simp [intOf]; done) | (simp [intOf]; omega)
      · have q6 : ((t1 : Int) + 1 < (dj : Int) + 1) = False := eq_false (by omega)
        have q6' : ((t1 : Int) < (dj : Int)) = False := eq_false (by omega)
        have q6'' : (t1 < dj) = False := eq_false hgt
        have HTk := Lib.hid (show topD D (ofK cs (j + 1)) = t1 by rw [HTk.out]; omega)
        clear hE hlt hj htl hk hcl hgt hju hdj
        go_wp2_with fail
        go_quiet ((go_at_call 14; exact Calls.quiet_of_same (HC.out _)))
        go_wp2_with fail
        go_roundw
        case rel => exact ⟨j + 1, by simp, by have := HJ.out; omega, Lib.hid (by rw [HTk.out]; exact HEE.out.below (Below_drewN _ _ _))⟩
        case measure => have := HJ.out; first | (simp [intOf]; done) | (simp [intOf]; omega)
end Go.Proofs.Ytmbnlihboilacaa
