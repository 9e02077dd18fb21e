/- calls.Order: all units, each behind all that it calls. -/
import Derived.Test.YtmbnlihboilacaaClReady
namespace Go.Proofs.Ytmbnlihboilacaa
open Go.RowKit Go.Maps
set_option linter.unusedSimpArgs false
set_option linter.unusedVariables false
open CL (ordF readyF ofN)
/-- whom each unit calls -/
def calledF (L : List Un) : List (List Nat) := L.map fun x => ofN L.length x.code
theorem calledF_len (L : List Un) : (calledF L).length = L.length := by simp [calledF]
theorem calledF_at {L : List Un} {k : Nat} {x : Un} (hx : L[k]? = some x) : (calledF L)[k]? = some (ofN L.length x.code) := by simp [calledF, hx]
theorem ofC_at {L : List Un} {k : Nat} {x : Un} (hx : L[k]? = some x) : ofC (L.map Un.code) (k : Int) = ofN L.length x.code := by
  have hk := lt_of_get hx
  unfold ofC
  rw [List.length_map, if_pos (by omega), Int.toNat_natCast]
  congr 1
  simp [List.getD, hx]
structure CSt (s n k : Nat) (w wr : World) (U : List Value) (C : List (List Nat)) : Prop where
  hb : Below s w wr
  ho : wr.ownsRow s 25 1 (.slice (some ⟨s, 0, none⟩) n n) n (U ++ List.replicate (n - k) (.slice none 0 0))
  hr : OwnRows (s + 1) 3 wr U (C.map nI)
  hl : U.length = k
  hs : s + 1 ≤ wr.heap.size
theorem set_repl {α : Type} {U : List α} {n k : Nat} {u z : α} (hl : U.length = k) (hk : k < n) : (U ++ List.replicate (n - k) z).set k u = (U ++ [u]) ++ List.replicate (n - (k + 1)) z := by
  obtain ⟨m, hm⟩ : ∃ m, n - k = m + 1 := ⟨n - k - 1, by omega⟩
  rw [hm, show n - (k + 1) = m by omega, List.set_append_right _ _ (by omega), hl, Nat.sub_self, List.replicate_succ]
  simp
theorem CSt.next {s n k : Nat} {w wr w2 : World} {U : List Value} {C : List (List Nat)} {u : Value} {l : List Nat} (h : CSt s n k w wr U C) (hk : k < n) (hB : Below wr.heap.size wr w2) (hu : w2.ownsRow wr.heap.size 3 1 u l.length (iV (nI l))) :
    CSt s n (k + 1) w (w2.setCell ⟨s, k, none⟩ u) (U ++ [u]) (C ++ [l]) := by
  have ho := owns_below h.ho hB
  refine ⟨(h.hb.trans (hB.mono (by have := h.hs; omega))).setCell (p := ⟨s, k, none⟩) (Nat.le_refl _) _, ?_, ?_, by simp [h.hl], by have := h.hs; have := hB.size; simpa using (by omega : s + 1 ≤ w2.heap.size)⟩
  · have h2 := (ho.stored k u).1
    rw [set_repl h.hl hk] at h2
    exact h2
  · rw [List.map_append]
    exact rows_set (h.hr.snoc hB h.hs (by rw [nI_len]; exact hu)) (by omega)
theorem CSt.grid {s n : Nat} {w wr : World} {U : List Value} {C : List (List Nat)} (h : CSt s n n w wr U C) (hC : C.length = n) (hlt : ∀ l ∈ C, ∀ x ∈ l, x ≤ 1000) : RowR 1 gridR wr (.slice (some ⟨s, 0, none⟩) n n) (C.map nI) := by
  have ho := h.ho
  rw [Nat.sub_self, List.replicate_zero, List.append_nil] at ho
  have hlen : (C.map nI).length = n := by rw [List.length_map]; exact hC
  refine grid_own (own_eq2 ho hlen.symm rfl) (fun i u l hu hl => ?_)
  refine row_of_owns (h.hr.row i u l hu hl) (fun z hz => ?_)
  rw [List.getElem?_map] at hl
  cases hc : C[i]? with
  | none => rw [hc] at hl; cases hl
  | some m =>
    rw [hc] at hl
    cases hl
    obtain ⟨x, hx, rfl⟩ := List.mem_map.1 hz
    have := hlt m (List.mem_of_getElem? hc) x hx
    show I64 (x : Int)
    unfold I64; omega
structure PutSt (M : Nat) (W1 wr : World) (o : Value) (m : Nat) (out : List Nat) : Prop where
  hb : Below M W1 wr
  ho : wr.ownsRow (M + 1) 3 1 o m (iV (nI out))
  hm : PlMap Try.prog 3 3 wr M m out
  hs : M + 1 ≤ wr.heap.size
theorem PutSt.below {M : Nat} {W1 wr w2 : World} {o : Value} {m : Nat} {out : List Nat} (h : PutSt M W1 wr o m out) (hB : Below wr.heap.size wr w2) : PutSt M W1 w2 o m out :=
  ⟨h.hb.trans (hB.mono (by have := h.hs; omega)), owns_below h.ho hB, h.hm.below hB, Nat.le_trans h.hs hB.size⟩
def orI (R : Option (List Nat)) : List Nat := R.getD []
set_option maxRecDepth 100000 in
set_option maxHeartbeats 8000000 in
theorem calls_Order (v : Value) (L : List Un) (w : World) (hv : RowR 5 unitR w v L) (hn : L.length ≤ 100) (hc : ∀ x ∈ L, x.code.length ≤ 300) :
    Calls Try.prog 7 #[v] w fun r w' => ∃ u ok, r = .returned (.tuple #[u, .bool ok]) ∧ ok = (ordF (calledF L) L.length []).isSome ∧ w'.ownsRow w.heap.size 3 1 u (orI (ordF (calledF L) L.length [])).length (iV (nI (orI (ordF (calledF L) L.length [])))) ∧ Below w.heap.size w w' := by
  obtain ⟨i, hi, hz, hsize, hby⟩ : ∃ i, Try.prog.info? 3 = some i ∧ i.zero = some (.int .i64 0) ∧ i.size = 1 ∧ i.bytes = 8 := ⟨(Try.prog.info? 3).get!, by kernel_rfl, by kernel_rfl, by kernel_rfl, by kernel_rfl⟩
  obtain ⟨i3, hi3, hz3, hsize3, hby3⟩ : ∃ i, Try.prog.info? 25 = some i ∧ i.zero = some (.slice none 0 0) ∧ i.size = 1 ∧ i.bytes = 24 := ⟨(Try.prog.info? 25).get!, by kernel_rfl, by kernel_rfl, by kernel_rfl, by kernel_rfl⟩
  have HV := Lib.hid (fun W (h : Below w.heap.size w W) => hv.below unitR_stable h)
  obtain ⟨ad, cap, rfl⟩ := row_get hv
  have HOf := Lib.hid (fun (W : World) (h : Below w.heap.size w W) (k : Nat) (x : Un) (hx : L[k]? = some x) => by
    have h1 := calls_Of _ L (k : Int) W (hv.below unitR_stable h) hn hc
    rw [ofC_at hx] at h1
    exact h1)
  obtain ⟨CF, hCF⟩ : ∃ CF, calledF L = CF := ⟨_, rfl⟩
  have HCA := Lib.hid (fun (k : Nat) (x : Un) (hx : L[k]? = some x) => by have h := calledF_at hx; rw [hCF] at h; exact h)
  have HCL := Lib.hid (show CF.length = L.length by rw [← hCF]; exact calledF_len L)
  have HCS := Lib.hid (show ∀ l ∈ CF, ∀ x ∈ l, x ≤ 1000 by
    intro l hl x hx
    rw [← hCF] at hl
    unfold calledF at hl
    obtain ⟨y, hy, rfl⟩ := List.mem_map.1 hl
    have := CL.ofN_lt hx
    omega)
  obtain ⟨n, hN⟩ : ∃ n, L.length = n := ⟨_, rfl⟩
  have HN := Lib.hid hN
  rw [hCF]
  rw [hN] at hn HV HOf HCA HCL ⊢
  obtain ⟨R, hR⟩ : ∃ R, ordF CF n [] = R := ⟨_, rfl⟩
  rw [hR]
  have HR := Lib.hid hR
  clear hv hN hc hCF hR
  have hmp := fun W => run_make W 41 25 i3 _ Try.underlying41 hi3 hz3 .i64 .i64 (n : Int) (n : Int) (by omega) (by omega) (by rw [hby3]; omega) (by omega)
  rw [hsize3, Nat.mul_one, madeS, Int.toNat_natCast] at hmp
  have hn63 : n ≤ 9223372036854775807 := by omega
  obtain ⟨ZP, hZP⟩ : ∃ Z, (List.replicate n (Value.slice none 0 0)).toArray = Z := ⟨_, rfl⟩
  rw [hZP] at hmp
  obtain ⟨s, hs⟩ : ∃ s, w.heap.size = s := ⟨_, rfl⟩
  have HSz := Lib.hid hs
  have HP0 := Lib.hid (show CSt s n 0 w (w.alloc (.cells ZP 25)) [] (CF.take 0) by
    subst hs
    have k1 := owns_arr w ZP 25 1 n (by rw [← hZP]; simp) (by unfold maxLen; omega)
    rw [← hZP] at k1 ⊢
    exact ⟨by (repeat' (first | (with_reducible exact Below.refl _ _) | (with_reducible assumption) | (with_reducible refine below_drewN ?_ _) | (with_reducible refine Below.alloc ?_ ?_ _) | (with_reducible refine Below.drew ?_) | (with_reducible refine Below.setCell ?_ ?_ _) | go_size)), k1, OwnRows.nil _ _ _, rfl, by simp⟩)
  clear hZP hi3 hz3 hsize3 hby3
  go_enter Try.func7, Try.ntmps7
  go_wp2_with fail
  obtain ⟨W0, hW0⟩ : ∃ W, W = w.alloc (.cells ZP 25) := ⟨_, rfl⟩
  rw [← hW0] at HP0 ⊢
  clear hmp hW0 hs
  go_loopw [14] (fun jj wr => ∃ (k : Nat) (U : List Value), jj = .int .i64 k ∧ k ≤ n ∧ Hid (CSt s n k w wr U (CF.take k))) (fun jj _ => n - (intOf jj).toNat)
  case atStart => exact ⟨0, _, rfl, Nat.zero_le _, HP0⟩
  case round =>
    obtain ⟨k, U, rfl, hk, hP⟩ := hrel
    by_cases hlt : k < n
    case pos =>
      have q1 : ((k : Int) < (n : Int)) = True := eq_true (by omega)
      have q1' : (k < n) = True := eq_true hlt
      have hk62 : k ≤ 9223372036854775806 := by omega
      have HK := Lib.hid hlt
      obtain ⟨x, hx⟩ := get_some (L := L) (n := k) (by rw [HN.out]; exact hlt)
      have HC := Lib.hid (HOf.out wr (by rw [HSz.out]; exact hP.out.hb) k x hx)
      have HTk := Lib.hid (show CF.take (k + 1) = CF.take k ++ [ofN n x.code] from take_snoc (HCA.out k x hx))
      generalize ofN n x.code = l at *
      have HPP := hP
      have hsz := hP.out.hs
      clear hP hlt hk hx
      go_wp2_with fail
      refine HC.out.mono ?_; rintro r w2 ⟨u, rfl, hO2, hB2⟩
      have HPN := Lib.hid (HPP.out.next HK.out hB2 hO2)
      have hO3 := owns_below HPP.out.ho hB2
      have f3 := hO3.frozenAt k
      have c3 := hO3.cellAt k (by have := HK.out; omega)
      obtain ⟨z0, hz0⟩ := get_some (L := U ++ List.replicate (n - k) (Value.slice none 0 0)) (n := k) (by have := HK.out; simp [HPP.out.hl]; omega)
      rw [hz0] at c3
      have hf2 := owns_form hO2
      obtain ⟨ua, uc, rfl⟩ := hf2
      clear hO2 hB2 hO3 hz0
      go_wp2_with fail
      go_roundw
      case rel => exact ⟨k + 1, _, by simp, by have := HK.out; omega, Lib.hid (by rw [HTk.out]; exact HPN.out)⟩
      case measure => have := HK.out; first | (simp [intOf]; done) | (simp [intOf]; omega)
    case neg =>
      obtain rfl : n = k := by omega
      have q1 : ((n : Int) < (n : Int)) = False := eq_false (by omega)
      have q1' : (n < n) = False := eq_false (by omega)
      rw [List.take_of_length_le (by rw [HCL.out]; exact Nat.le_refl _)] at hP
      have HG := Lib.hid (hP.out.grid HCL.out HCS.out)
      rename World => W1
      obtain ⟨M, hM⟩ : ∃ M, W1.heap.size = M := ⟨_, rfl⟩
      have HM := Lib.hid hM
      have HBS := Lib.hid hP.out.hb
      have HSM := Lib.hid (show s ≤ M by rw [← hM]; have := hP.out.hs; omega)
      have HQ0 := Lib.hid (show PutSt M W1 (W1.alloc (.map #[] 0)) (.slice none 0 0) 0 [] by
        subst hM
        exact ⟨(Below.refl _ _).alloc (Nat.le_refl _) _, World.ownsRow_nil _ _ _ _, PlMap.made _ _ _ _, by simp⟩)
      have HRd := Lib.hid (fun (wr : World) (o : Value) (m : Nat) (out : List Nat) (h : PutSt M W1 wr o m out) => calls_ready _ CF M m out wr (HG.out.below gridR_stable (by rw [HM.out]; exact h.hb)) (by rw [HCL.out]; exact hn) h.hm)
      have hmm := @run_makeMap Try.prog
      clear hP hlt hk
      go_wp2_with fail
      clear hmm
      clear hM
      go_loopw [7] (fun oo wr => ∃ (m oc : Nat) (oa : Option Addr) (out : List Nat), oo = .slice oa m oc ∧ Hid (out.length = m ∧ m ≤ n ∧ ordF CF (n - m) out = R) ∧ Hid (PutSt M W1 wr (.slice oa m oc) m out)) (fun oo _ => n - (match oo with | .slice _ m _ => m | _ => 0))
      case atStart => exact ⟨0, 0, none, [], rfl, Lib.hid ⟨rfl, Nat.zero_le _, HR.out⟩, HQ0⟩
      case round =>
        obtain ⟨m, oc, oa, out, rfl, hT, hQ⟩ := hrel
        by_cases hlt : m < n
        case neg =>
          have hm : n = m := by have := hT.out.2.1; omega
          subst hm
          have q2 : ((n : Int) < (n : Int)) = False := eq_false (by omega)
          have q2' : (n < n) = False := eq_false (by omega)
          have HRe := Lib.hid (show R = some out by have h := hT.out.2.2; rw [Nat.sub_self] at h; exact h.symm)
          have HQQ := hQ
          have HT := hT
          clear hQ hT hlt
          go_wp2_with fail
          go_returns
          refine ⟨_, true, rfl, by rw [HRe.out]; rfl, ?_, ?_⟩
          · rw [HRe.out]
            exact own_eq2 (own_low HQQ.out.ho (by have := HSM.out; have := HSz.out; omega)) HT.out.1.symm rfl
          · rw [HSz.out]
            exact HBS.out.trans (HQQ.out.hb.mono HSM.out)
        have q2 : ((m : Int) < (n : Int)) = True := eq_true (by omega)
        have q2' : (m < n) = True := eq_true hlt
        have HK := Lib.hid hlt
        have HC := Lib.hid (HRd.out wr _ m out hQ.out)
        have HStep := Lib.hid (show ordF CF (n - m) out = match readyF CF out with | none => none | some u => ordF CF (n - (m + 1)) (out ++ [u]) by rw [show n - m = (n - (m + 1)) + 1 by omega]; rfl)
        have HT := hT
        have HQQ := hQ
        clear hT hQ hlt
        cases hF : readyF CF out with
        | none =>
          rw [hF] at HC
          have HE := Lib.hid (show R = none by have h := HT.out.2.2; rw [HStep.out, hF] at h; exact h.symm)
          clear hF
          go_wp2_with fail
          refine HC.out.mono ?_; rintro r w2 ⟨rfl, hB2⟩
          have HQ2 := Lib.hid (HQQ.out.below hB2)
          have qm : optI none = -1 := rfl
          rw [qm]
          clear hB2
          go_wp2_with fail
          go_returns
          refine ⟨_, false, rfl, by rw [HE.out]; rfl, by rw [HE.out]; exact World.ownsRow_nil _ _ _ _, ?_⟩
          rw [HSz.out]
          exact HBS.out.trans (HQ2.out.hb.mono HSM.out)
        | some u =>
          rw [hF] at HC
          have HE := Lib.hid (show ordF CF (n - (m + 1)) (out ++ [u]) = R by have h := HT.out.2.2; rw [HStep.out, hF] at h; exact h)
          have hu := (CL.ready_some hF).1
          rw [HCL.out] at hu
          clear hF
          go_wp2_with fail
          refine HC.out.mono ?_; rintro r w2 ⟨rfl, hB2⟩
          have HQ2 := Lib.hid (HQQ.out.below hB2)
          have qm : optI (some u) = (u : Int) := rfl
          rw [qm]
          have q3 : ((u : Int) < 0) = False := eq_false (by omega)
          have hwf : (Lit.int .i64 (m : Int)).wf = true := WalkArith.wf_i64 (by have := HK.out; omega)
          have hkey := key_int (P := Try.prog) (K := 3) Try.underlying3 (x := (u : Int)) (by unfold I64; omega)
          obtain ⟨D, hown, hI, hat⟩ := HQ2.out.hm
          have HAt := Lib.hid (And.intro hI hat)
          clear hB2 hI hat
          go_wp2_with (first | (at_mapUpdate; go_loud (refine wpList_mapUpdate_own _ rfl _ _ _ 42 rfl 3 3 (int_keyed Try.underlying3) Try.underlying42 _ M m D rfl hown (by have := HK.out; unfold maxLen; omega) _ _ (.int .i64 (u : Int)) rfl rfl hkey (.lit (.int .i64 (m : Int))) [] (plainElem_int Try.underlying3 hwf) ?_; intro w3 hown3 hgrow3; have HB3 := Lib.hid (show Below M W1 w3 from HQ2.out.hb.grown hgrow3 (by have := HQ2.out.hs; omega) (fun j hj => by cases hj; exact Nat.le_refl _)); have HO3 := Lib.hid (show w3.ownsRow (M + 1) 3 1 (.slice oa m oc) m (iV (nI out)) from owns_grown HQ2.out.ho hgrow3 (fun g hg he => by cases he; have := (owns_lt HQ2.out.ho hg).1; omega)); have HM3 := Lib.hid (PlMap.put HAt.out.1 HAt.out.2 hown3); have HS3 := Lib.hid (Nat.le_trans HQ2.out.hs hgrow3.size); clear hown3 hgrow3 hown)) | (at_builtin; go_loud (refine wpList_append_src rfl (.tmp 39) (.tmp 41) 25 rfl (M + 1) 3 i (.int .i64 0) 1 8 Try.underlying25 hi hz hsize hby rfl (by omega) _ m _ rfl (owns_below HO3.out ((Below.refl _ _).alloc (Nat.le_refl _) _)) _ 1 [.int .i64 (u : Int)] rfl (src_newE _ _ _ (by simp)) rfl (by intro u hu; simp at hu; rw [hu]; rfl) (by have := HK.out; unfold maxLen; omega) (by have := HK.out; omega) (by have := HS3.out; simp; omega) ?_; intro v4 w4 hO4 hG4; have HQ4 := Lib.hid (show PutSt M W1 w4 v4 (m + 1) (out ++ [u]) from ⟨grown3 (HB3.out.alloc (by have := HS3.out; omega) _) (by have := HS3.out; simp; omega) (own_low (owns_below HO3.out ((Below.refl _ _).alloc (Nat.le_refl _) _)) (Nat.le_succ _)) hG4, by rw [nI_app, iV_app]; exact hO4, (HM3.out.below ((Below.refl _ _).alloc (Nat.le_refl _) _)).kept hG4 (fun e => by have := (owns_lt HO3.out e.symm).1; omega), Nat.le_trans HS3.out (Nat.le_trans (by simp) hG4.size)⟩); have hf4 := owns_form hO4; clear hO4 hG4)) | fail)
          obtain ⟨ua, uc, rfl⟩ := hf4
          go_roundw
          case rel => exact ⟨m + 1, uc, ua, out ++ [u], rfl, Lib.hid ⟨by rw [List.length_append, HT.out.1]; rfl, by have := HK.out; omega, HE.out⟩, HQ4⟩
          case measure => have := HK.out; show n - (m + 1) < n - m; omega
end Go.Proofs.Ytmbnlihboilacaa
