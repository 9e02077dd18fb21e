/- Layer 21: the walk of CallsTell. -/
import Derived.Test.YtmbnlihboilacaaClAw
namespace Go.Proofs.Ytmbnlihboilacaa
open Go.RowKit
set_option linter.unusedSimpArgs false
set_option linter.unusedVariables false
open CL (ordF depF)
theorem row_nat {w : World} {B : Nat} {v : Value} {l : List Nat} (h : w.ownsRow B 3 1 v l.length (iV (nI l))) (hl : ∀ x ∈ l, x ≤ 1000) : RowR 1 intR w v (nI l) := by
  refine row_of_owns (own_eq2 h (nI_len l).symm rfl) (fun z hz => ?_)
  obtain ⟨x, hx, rfl⟩ := List.mem_map.1 hz
  have := hl x hx
  show I64 (x : Int)
  unfold I64; omega
theorem ofC_lt {C : List (List Ins)} {z : Int} : ∀ x ∈ ofC C z, x < C.length := by
  intro x hx
  unfold ofC at hx
  split at hx
  · exact CL.ofN_lt hx
  · cases hx
theorem orI_good (L : List Un) : ∀ x ∈ orI (ordF (calledF L) L.length []), x < L.length := by
  intro x hx
  cases h : ordF (calledF L) L.length [] with
  | none => rw [h] at hx; cases hx
  | some o =>
    rw [h] at hx
    have := (CL.ordF_good (CL.Good.nil _) h).1.lt x hx
    rwa [calledF_len] at this
theorem dep_le (C : List (List Nat)) : ∀ (l D : List Nat) (b : Nat), (∀ x ∈ D, x ≤ b) → ∀ x ∈ depF C D l, x ≤ b + l.length
  | [], D, b, h, x, hx => h x hx
  | u :: t, D, b, h, x, hx => by
    have := dep_le C t (D.set u (CL.topD D (C.getD u []) + 1)) (b + 1) (fun y hy => by
      rcases List.mem_or_eq_of_mem_set hy with h1 | h1
      · have := h y h1; omega
      · have := topD_le (D := D) (l := C.getD u []) h; omega) x hx
    simp only [List.length_cons]
    omega
theorem depL_le {L : List Un} (hn : L.length ≤ 21) : ∀ x ∈ depL L, x ≤ 1000 := by
  intro x hx
  unfold depL at hx
  split at hx
  · cases hx
  · rename_i o ho
    have hl := (CL.ordF_good (CL.Good.nil _) ho).2
    have := dep_le (calledF L) o _ 0 (fun y hy => by have := List.eq_of_mem_replicate hy; omega) x hx
    simp at hl
    omega
def depR (C : List (List Nat)) (n : Nat) : Option (List Nat) → List Nat
  | none => []
  | some o => depF C (List.replicate n 0) o
theorem depL_eq (L : List Un) : depL L = depR (calledF L) L.length (ordF (calledF L) L.length []) := by
  unfold depL
  cases ordF (calledF L) L.length [] <;> rfl
set_option maxRecDepth 100000 in
set_option maxHeartbeats 8000000 in
theorem callsTell_walk (v : Value) (L : List Un) (z : Int) (w : World) (hv : RowR 5 unitR w v L) :
    Calls Try.prog 3 #[v, .int .i64 z] w fun r w' => r = .returned (.bool true) ∧ Below w.heap.size w w' := by
  have HF := Lib.hid (law21_few v L w hv)
  have HA := Lib.hid (fun W => law21_awake W)
  obtain ⟨ad, cap, rfl⟩ := row_get hv
  cases hf : fewC L
  · rw [hf] at HF
    clear hf hv
    go_enter Try.func3, Try.ntmps3
    go_wp2_with fail
    refine HF.out.mono ?_; rintro r w2 ⟨rfl, rfl⟩
    go_wp2_with fail
    refine (HA.out _).mono ?_; rintro r w3 ⟨rfl, hb⟩
    go_wp2_with fail
    go_ret
    exact ⟨rfl, hb⟩
  rw [hf] at HF
  have hfew := of_decide_eq_true hf
  have hn : L.length ≤ 100 := by omega
  have HV := Lib.hid (fun W (h : Below w.heap.size w W) => hv.below unitR_stable h)
  have HO := Lib.hid (fun W h => calls_Order _ L W (HV.out W h) hn hfew.2)
  have HRO := Lib.hid (fun W h => ref21_Order _ L W (HV.out W h) hn)
  have HD := Lib.hid (fun W h => calls_Depth _ L W (HV.out W h) hn hfew.2)
  have HOf := Lib.hid (fun W h => calls_Of _ L z W (HV.out W h) hn hfew.2)
  have HROf := Lib.hid (fun W h => ref21_Of _ L z W (HV.out W h) hn)
  have HRD := Lib.hid (fun W h vo o ho hg hol => ref21_Depth _ vo L o W (HV.out W h) hn ho hg hol)
  have HI := Lib.hid (fun (v u : Value) (A B : List Int) (W : World) (h1 : RowR 1 intR W v A) (h2 : RowR 1 intR W u B) => ref15_Ints v u A B W h1 h2)
  have HOl := Lib.hid (show ∀ x ∈ orI (ordF (calledF L) L.length []), x ≤ 1000 from fun x hx => by have := orI_good L x hx; omega)
  have HCl := Lib.hid (show ∀ x ∈ ofC (L.map Un.code) z, x ≤ 1000 from fun x hx => by have := ofC_lt x hx; rw [List.length_map] at this; omega)
  have HDl := Lib.hid (depL_le hfew.1)
  obtain ⟨n, hN⟩ : ∃ n, L.length = n := ⟨_, rfl⟩
  have HN := Lib.hid hN
  rw [hN] at HF hn HO HRO HD HOf HROf HRD HOl HV
  generalize hC : ofC (L.map Un.code) z = Cz at *
  obtain ⟨R, hR⟩ : ∃ R, ordF (calledF L) n [] = R := ⟨_, rfl⟩
  rw [hR] at HO HRO HOl
  have HDd := Lib.hid (show depL L = depR (calledF L) n R by rw [depL_eq, hN, hR])
  have HG := Lib.hid (show ∀ o, R = some o → CL.Good (calledF L) o ∧ o.length = n by
    intro o ho
    rw [ho] at hR
    obtain ⟨h1, h2⟩ := CL.ordF_good (CL.Good.nil _) hR
    exact ⟨h1, by simpa using h2⟩)
  generalize depL L = DL at *
  generalize calledF L = CF at *
  rw [hN]
  clear hf hfew hv hN hR hC
  go_enter Try.func3, Try.ntmps3
  go_wp2_with fail
  refine HF.out.mono ?_; rintro r w2 ⟨rfl, rfl⟩
  go_wp2_with fail
  refine (HO.out _ (Below.refl _ _)).mono ?_; rintro r w1 ⟨o1, ok1, rfl, hok1, hO1, hB1⟩
  have HB1 := Lib.hid hB1
  have HR1 := Lib.hid (row_nat hO1 HOl.out)
  have HK1 := Lib.hid hok1
  obtain ⟨a1, c1, rfl⟩ := owns_form hO1
  clear hO1 hB1 hok1
  go_wp2_with fail
  refine (HRO.out _ HB1.out).mono ?_; rintro r w2 ⟨o2, ok2, rfl, hok2, hO2, hB2⟩
  have HB2 := Lib.hid (HB1.out.trans (hB2.mono HB1.out.size))
  have HR2 := Lib.hid (row_nat hO2 HOl.out)
  have HR1 := Lib.hid (HR1.out.below intR_stable hB2)
  have HK2 := Lib.hid hok2
  obtain ⟨a2, c2, rfl⟩ := owns_form hO2
  clear hO2 hB2 hok2
  go_wp2_with fail
  refine (HD.out _ HB2.out).mono ?_; rintro r w3 ⟨o3, rfl, hO3, hB3⟩
  have HB3 := Lib.hid (HB2.out.trans (hB3.mono HB2.out.size))
  have HR3 := Lib.hid (row_nat hO3 HDl.out)
  have HR1 := Lib.hid (HR1.out.below intR_stable hB3)
  have HR2 := Lib.hid (HR2.out.below intR_stable hB3)
  obtain ⟨a3, c3, rfl⟩ := owns_form hO3
  clear hO3 hB3
  go_wp2_with fail
  refine (HOf.out _ HB3.out).mono ?_; rintro r w4 ⟨o4, rfl, hO4, hB4⟩
  have HB4 := Lib.hid (HB3.out.trans (hB4.mono HB3.out.size))
  have HR4 := Lib.hid (row_nat hO4 HCl.out)
  have HR1 := Lib.hid (HR1.out.below intR_stable hB4)
  have HR2 := Lib.hid (HR2.out.below intR_stable hB4)
  have HR3 := Lib.hid (HR3.out.below intR_stable hB4)
  clear hO4 hB4
  go_wp2_with fail
  refine (HROf.out _ HB4.out).mono ?_; rintro r w5 ⟨o5, rfl, hO5, hB5⟩
  have HB5 := Lib.hid (HB4.out.trans (hB5.mono HB4.out.size))
  have HR5 := Lib.hid (row_nat hO5 HCl.out)
  have HR1 := Lib.hid (HR1.out.below intR_stable hB5)
  have HR2 := Lib.hid (HR2.out.below intR_stable hB5)
  have HR3 := Lib.hid (HR3.out.below intR_stable hB5)
  have HR4 := Lib.hid (HR4.out.below intR_stable hB5)
  have HI1 := Lib.hid (HI.out _ _ _ _ _ HR4.out HR5.out)
  rw [decide_eq_true rfl] at HI1
  clear hO5 hB5
  go_wp2_with fail
  refine HI1.out.mono ?_; rintro r w6 ⟨rfl, m6, rfl⟩
  have HI2 := Lib.hid (HI.out _ _ _ _ _ (HR1.out.below intR_stable (Below_drewN _ _ m6)) (HR2.out.below intR_stable (Below_drewN _ _ m6)))
  rw [decide_eq_true rfl] at HI2
  go_wp2_with fail
  refine HI2.out.mono ?_; rintro r w7 ⟨rfl, m7, rfl⟩
  rw [World.drewN_drewN]
  have HBD := Lib.hid (HB5.out.trans ((Below_drewN w5.heap.size w5 (m6 + m7)).mono HB5.out.size))
  cases R with
  | none =>
    have hf1 : ok1 = false := HK1.out
    have hf2 : ok2 = false := HK2.out
    subst hf1 hf2
    have HDe := Lib.hid (show DL = [] from HDd.out)
    rw [HDe.out] at HR3 ⊢
    have e0 : ((0 : Int) == 0) = true := rfl
    have hl0 : ([] : List Nat).length = 0 := rfl
    rw [hl0]
    go_wp2_with fail
    refine (HA.out _).mono ?_; rintro r w8 ⟨rfl, hb8⟩
    have HB8 := Lib.hid (HBD.out.trans (hb8.mono HBD.out.size))
    clear hb8
    go_wp2_with fail
    go_ret
    exact ⟨rfl, HB8.out⟩
  | some o =>
    have hf1 : ok1 = true := HK1.out
    have hf2 : ok2 = true := HK2.out
    subst hf1 hf2
    have HDe := Lib.hid (show DL = depF CF (List.replicate n 0) o from HDd.out)
    obtain ⟨hg, hol⟩ := HG.out o rfl
    have HG := Lib.hid hg
    have HOL := Lib.hid hol
    have HRDD := Lib.hid (HRD.out _ HBD.out _ o (HR2.out.below intR_stable (Below_drewN _ _ _)) HG.out HOL.out)
    clear hg hol
    go_wp2_with fail
    refine HRDD.out.mono ?_; rintro r w8 ⟨o8, rfl, hO8, hB8⟩
    have HB8 := Lib.hid (HBD.out.trans (hB8.mono HBD.out.size))
    have HR8 := Lib.hid (show RowR 1 intR w8 o8 (nI DL) by
      rw [HDe.out]
      refine row_nat (own_eq2 hO8 (by rw [CL.depF_len]; simp) rfl) ?_
      rw [← HDe.out]; exact HDl.out)
    have HI3 := Lib.hid (HI.out _ _ _ _ _ ((HR3.out.below intR_stable (Below_drewN _ _ _)).below intR_stable hB8) HR8.out)
    rw [decide_eq_true rfl] at HI3
    clear hO8 hB8
    go_wp2_with fail
    refine HI3.out.mono ?_; rintro r w9 ⟨rfl, m9, rfl⟩
    go_wp2_with fail
    refine (HA.out _).mono ?_; rintro r w10 ⟨rfl, hb10⟩
    have HB10 := Lib.hid hb10
    clear hb10
    go_wp2_with fail
    go_ret
    exact ⟨rfl, HB8.out.trans (((Below_drewN w8.heap.size w8 m9).trans HB10.out).mono HB8.out.size)⟩
end Go.Proofs.Ytmbnlihboilacaa
