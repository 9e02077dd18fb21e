/- pdom.Meets. -/
import Derived.Test.YtkjafkegkllbiaaPdU
import Derived.Test.YtkjafkegkllbiaaPdH
import Derived.Test.YtkjafkegkllbiaaPdN
import Derived.WalkMore
namespace Go.Proofs.Ytkjafkegkllbiaa
open Go.RowKit
set_option linter.unusedSimpArgs false
set_option linter.unusedVariables false
open DM (upF nearP addF cntF firstF metF okN)
theorem nodup_short {L : List Int} {n : Nat} (hn : L.Nodup) (hb : ∀ x ∈ L, ∃ a : Nat, x = (a : Int) ∧ a ≤ n) : L.length ≤ n + 1 := by
  have h1 : (L.map Int.toNat).Nodup := List.pairwise_map.2 (hn.imp_of_mem (fun {a b} ha hb' hne heq => by
    obtain ⟨x, rfl, _⟩ := hb a ha
    obtain ⟨y, rfl, _⟩ := hb b hb'
    apply hne; simp at heq; rw [heq]))
  have h2 := DM.nodup_le (n + 1) (L.map Int.toNat) h1 (fun x hx => by
    obtain ⟨y, hy, rfl⟩ := List.mem_map.1 hx
    obtain ⟨a, rfl, ha⟩ := hb y hy
    simp; omega)
  simpa using h2
set_option maxRecDepth 100000 in
set_option maxHeartbeats 8000000 in
theorem pdom_Meets (v ts : Value) (next : List (List Int)) (outs : List Nat) (K : Nat) (w : World) (hv : RowR 1 gridR w v next) (hts : RowR 1 intR w ts (nI outs)) (hn : next.length ≤ 20) (hrl : ∀ l ∈ next, l.length ≤ 40) (hne : outs ≠ []) (hol : outs.length ≤ 40)
    (hb : ∀ b ∈ outs, b < next.length ∧ 0 ≤ (nearP next).getD b 0) (hK : ∀ b ∈ outs, ∃ L, upF (nearP next) K (b : Int) = some L ∧ L.Nodup ∧ ∀ x ∈ L, ∃ a : Nat, x = (a : Int) ∧ a ≤ next.length) :
    Calls Try.prog 14 #[v, ts] w fun r w' => r = .returned (.int .i64 (metF (outs.map fun b : Nat => (upF (nearP next) K (b : Int)).getD []))) ∧ Below w.heap.size w w' := by
  obtain ⟨i2, hi2, hz2, hsize2, hby2⟩ : ∃ i, Try.prog.info? 3 = some i ∧ i.zero = some (.int .i64 0) ∧ i.size = 1 ∧ i.bytes = 8 := ⟨(Try.prog.info? 3).get!, by kernel_rfl, by kernel_rfl, by kernel_rfl, by kernel_rfl⟩
  have HNr := Lib.hid (pdom_Nearest v next w hv hn hrl)
  have HTh := Lib.hid (fun T W (h : Below w.heap.size w W) => pdom_there v next T W (hv.below gridR_stable h))
  have HTs := Lib.hid (fun W (h : Below w.heap.size w W) => hts.below intR_stable h)
  have hnl := DM.near_len next
  obtain ⟨ad, cap, rfl⟩ := row_get hv
  obtain ⟨td, tcap, rfl⟩ := row_get hts
  obtain ⟨n, hN⟩ : ∃ n, next.length = n := ⟨_, rfl⟩
  obtain ⟨M, hM⟩ : ∃ m, outs.length = m := ⟨_, rfl⟩
  have HM := Lib.hid hM
  have hnM : (nI outs).length = M := by rw [nI_len]; exact hM
  obtain ⟨NP, hNP⟩ : ∃ X, nearP next = X := ⟨_, rfl⟩
  rw [hN] at hn hb hK hnl HNr HTh ⊢
  rw [hNP] at hb hK hnl HNr ⊢
  rw [hnM] at HTs ⊢
  rw [hM] at hol
  obtain ⟨UL, hUL⟩ : ∃ f : Nat → List Int, f = fun b : Nat => (upF NP K (b : Int)).getD [] := ⟨_, rfl⟩
  have HUL := Lib.hid (show ∀ b ∈ outs, upF NP K (b : Int) = some (UL b) ∧ (UL b).Nodup ∧ ∀ x ∈ UL b, ∃ a : Nat, x = (a : Int) ∧ a < n + 1 from fun b hb' => by
    obtain ⟨L, h1, h2, h3⟩ := hK b hb'
    have : UL b = L := by rw [hUL]; show (upF NP K (b : Int)).getD [] = L; rw [h1]; rfl
    rw [this]
    exact ⟨h1, h2, fun x hx => by obtain ⟨a, e, ha⟩ := h3 x hx; exact ⟨a, e, by omega⟩⟩)
  have HUs := Lib.hid (show ∀ b ∈ outs, (UL b).length ≤ 21 from fun b hb' => by
    have h := HUL.out b hb'
    have := nodup_short (n := n) h.2.1 (fun x hx => by obtain ⟨a, e, ha⟩ := h.2.2 x hx; exact ⟨a, e, by omega⟩)
    omega)
  rw [show (outs.map fun b : Nat => (upF NP K (b : Int)).getD []) = outs.map UL by rw [hUL]]
  obtain ⟨Ls, hLs⟩ : ∃ X, outs.map UL = X := ⟨_, rfl⟩
  have hLp : ∀ L ∈ Ls, L.Nodup ∧ ∀ x ∈ L, ∃ a : Nat, x = (a : Int) ∧ a < n + 1 := fun L hL => by
    rw [← hLs] at hL
    obtain ⟨b, hb', rfl⟩ := List.mem_map.1 hL
    exact (HUL.out b hb').2
  have hLl : Ls.length = M := by rw [← hLs, List.length_map]; exact hM
  obtain ⟨b0, tl, hb0⟩ : ∃ b0 tl, outs = b0 :: tl := by
    cases outs with
    | nil => exact absurd rfl hne
    | cons b t => exact ⟨b, t, rfl⟩
  have hfm := DM.first_met (m := n + 1) hLp (by rw [← hLs, hb0]; simp)
  rw [hLl, show Ls.headD [] = UL b0 by rw [← hLs, hb0]; rfl] at hfm
  rw [hLs]
  have HLs := Lib.hid hLs
  generalize metF Ls = ANS at *
  obtain ⟨FIN, hFIN⟩ : ∃ X, cntF Ls (List.replicate (n + 1) 0) = X := ⟨_, rfl⟩
  rw [hFIN] at hfm
  have HFI := Lib.hid (And.intro hfm hFIN)
  have hmk := fun W => run_make W 25 3 i2 _ Try.underlying25 hi2 hz2 .i64 .i64 ((n : Int) + 1) ((n : Int) + 1) (by omega) (by omega) (by rw [hby2]; omega) (by omega)
  rw [hsize2, Nat.mul_one, madeI, show ((n : Int) + 1).toNat = n + 1 by omega] at hmk
  obtain ⟨ZI, hZI⟩ : ∃ Z, (iV (List.replicate (n + 1) 0)).toArray = Z := ⟨_, rfl⟩
  rw [hZI] at hmk
  have HZI := Lib.hid hZI
  have HB := Lib.hid (And.intro hn (And.intro hol (And.intro hb hnl)))
  have HB0 := Lib.hid (show outs[0]? = some b0 ∧ b0 ∈ outs by rw [hb0]; simp)
  have hM0 : 0 < M := by rw [← hM, hb0]; simp
  have HM0 := Lib.hid hM0
  have hn62 : n ≤ 9223372036854775806 := by omega
  have hM62 : M ≤ 9223372036854775806 := by omega
  clear hv hts hn hrl hne hol hb hK hnl hN hM hnM hNP hUL hLs hLp hLl hb0 hfm hFIN hZI hi2 hz2 hsize2 hby2 hM0
  go_enter Try.func14, Try.ntmps14
  go_wp2_with fail
  go_step3
  go_wp2_with fail
  refine HNr.out.mono ?_; rintro r W1 ⟨u1, rfl, hO1, hB1, hI1⟩
  have HR1 := Lib.hid (row_of_owns (own_owns hO1 HB.out.2.2.2.symm rfl) hI1)
  obtain ⟨ga, gc, rfl⟩ := owns_form hO1
  have HB1 := Lib.hid hB1
  clear hO1 hB1 hI1 HNr
  go_wp2_with fail
  go_loopw [21] (fun jj wr => ∃ j : Nat, jj = .int .i64 j ∧ j ≤ M ∧ wr = W1) (fun jj _ => M - (intOf jj).toNat)
  case atStart => exact ⟨0, rfl, Nat.zero_le _, rfl⟩
  case round =>
    obtain ⟨j, rfl, hj, hwr⟩ := hrel
    have hwr := hwr.symm
    subst hwr
    by_cases hlt : j < M
    case pos =>
      have q1 : ((j : Int) < (M : Int)) = True := eq_true (by omega)
      have q1' : (j < M) = True := eq_true hlt
      have hj62 : j ≤ 9223372036854775806 := by omega
      have HJ := Lib.hid hlt
      obtain ⟨b, hbj⟩ := get_some (L := outs) (n := j) (by rw [HM.out]; exact hlt)
      have hbm := List.mem_of_getElem? hbj
      obtain ⟨bt, ot, rfl, hbt, hnt, hct, ct, _⟩ := int_at (HTs.out _ HB1.out) (k := j) (by rw [nI_len, HM.out]; exact hlt)
      rw [show (nI outs).getD j 0 = (b : Int) by simp [List.getD, nI, hbj]] at ct
      have hbn := (HB.out.2.2.1 b hbm).1
      have hz0 := (HB.out.2.2.1 b hbm).2
      obtain ⟨bg, og, rfl, hbg, hng, hcg, cg, _⟩ := int_at HR1.out (k := b) (by rw [HB.out.2.2.2]; exact hbn)
      have HTT := Lib.hid (HTh.out (b : Int) _ HB1.out)
      rw [show okN n (b : Int) = true from decide_eq_true (by omega)] at HTT
      generalize NP.getD b 0 = z at *
      have q2 : (z < 0) = False := eq_false (by omega)
      have q3 : ((b : Int) < (n : Int)) = True := eq_true (by omega)
      have q3' : (b < n) = True := eq_true hbn
      clear hlt hj hbj hbm
      go_wp2_with fail
      refine HTT.out.mono ?_; rintro r w2 ⟨rfl, rfl⟩
      go_wp2_with fail
      go_roundw
      case rel => exact ⟨j + 1, by simp, by have := HJ.out; omega, by first | rfl | trivial⟩
      case measure => have := HJ.out; first | (simp [intOf]; done) | (simp [intOf]; omega)
    obtain rfl : M = j := by omega
    have q1 : ((M : Int) < (M : Int)) = False := eq_false (by omega)
    have q1' : (M < M) = False := eq_false (by omega)
    have q2 : ((M : Int) = 0) = False := eq_false (by have := HM0.out; omega)
    have q2' : (M = 0) = False := eq_false (by have := HM0.out; omega)
    have q2e : ((M : Int) == 0) = false := by have : ¬ (M : Int) = 0 := by have := HM0.out; omega
                                              simpa using this
    obtain ⟨s, hs⟩ : ∃ s, W1.heap.size = s := ⟨_, rfl⟩
    have HSz := Lib.hid hs
    have HP0 := Lib.hid (show (W1.alloc (.cells ZI 3)).ownsRow s 3 1 (.slice (some ⟨s, 0, none⟩) (n + 1) (n + 1)) (n + 1) (iV (List.replicate (n + 1) 0)) ∧ Below s W1 (W1.alloc (.cells ZI 3)) ∧ s + 1 ≤ (W1.alloc (.cells ZI 3)).heap.size by
      subst hs
      have k1 := owns_arr W1 ZI 3 1 (n + 1) (by rw [← HZI.out]; simp [iV]) (by have := HB.out.1; unfold maxLen; omega)
      rw [← HZI.out] at k1 ⊢
      exact ⟨k1, by (repeat' (first | (with_reducible exact Below.refl _ _) | (with_reducible assumption) | (with_reducible refine below_drewN ?_ _) | (with_reducible refine Below.alloc ?_ ?_ _) | (with_reducible refine Below.drew ?_) | (with_reducible refine Below.setCell ?_ ?_ _) | go_size)), by simp⟩)
    clear hlt hj
    go_upto_region 11 with fail
    obtain ⟨W2, hW2⟩ : ∃ W, W = W1.alloc (.cells ZI 3) := ⟨_, rfl⟩
    rw [← hW2] at HP0 ⊢
    have HR1b := Lib.hid (fun W (h : Below s W1 W) => HR1.out.below intR_stable (by rw [HSz.out]; exact h))
    have HB1s := Lib.hid (fun W (h : Below s W1 W) => HB1.out.trans (h.mono (by rw [← HSz.out]; exact HB1.out.size)))
    clear hmk hW2 hs q2 q2' q2e
    go_wp2_with fail
    go_loopw [46] (fun jj wr => ∃ (j : Nat) (C : List Int), jj = .int .i64 j ∧ j ≤ M ∧ Hid (cntF (Ls.drop j) C = FIN ∧ C.length = n + 1 ∧ ∀ z ∈ C, 0 ≤ z ∧ z ≤ 64 * (j : Int)) ∧ Hid (wr.ownsRow s 3 1 (.slice (some ⟨s, 0, none⟩) (n + 1) (n + 1)) (n + 1) (iV C) ∧ Below s W1 wr ∧ s + 1 ≤ wr.heap.size)) (fun jj _ => M - (intOf jj).toNat)
    case atStart => exact ⟨0, _, rfl, Nat.zero_le _, Lib.hid ⟨HFI.out.2, by simp, fun z hz => by have := List.eq_of_mem_replicate hz; subst this; omega⟩, HP0⟩
    case round =>
      obtain ⟨j, C, rfl, hj, hC, hP⟩ := hrel
      by_cases hlt : j < M
      case pos =>
        have q2 : ((j : Int) < (M : Int)) = True := eq_true (by omega)
        have q2' : (j < M) = True := eq_true hlt
        have hj62 : j ≤ 9223372036854775806 := by omega
        have HJ := Lib.hid hlt
        obtain ⟨b, hbj⟩ := get_some (L := outs) (n := j) (by rw [HM.out]; exact hlt)
        have hbm := List.mem_of_getElem? hbj
        obtain ⟨bt, ot, rfl, hbt, hnt, hct, ct, _⟩ := int_at (HTs.out _ (HB1s.out _ hP.out.2.1)) (k := j) (by rw [nI_len, HM.out]; exact hlt)
        rw [show (nI outs).getD j 0 = (b : Int) by simp [List.getD, nI, hbj]] at ct
        have hLj : Ls[j]? = some (UL b) := by rw [← HLs.out, List.getElem?_map, hbj]; rfl
        have hdr : Ls.drop j = UL b :: Ls.drop (j + 1) := by
          have hl := lt_of_get hLj
          rw [List.drop_eq_getElem_cons hl]
          rw [List.getElem?_eq_getElem hl] at hLj
          injection hLj with hLj
          rw [hLj]
        have HUb := Lib.hid (HUL.out b hbm)
        have hul := HUs.out b hbm
        have HUP := Lib.hid (pdom_up _ NP (b : Int) K (UL b) wr (HR1b.out _ hP.out.2.1) HUb.out.1 (by omega))
        have HCj := Lib.hid (show cntF (Ls.drop (j + 1)) (addF (UL b) C) = FIN ∧ C.length = n + 1 ∧ ∀ z ∈ C, 0 ≤ z ∧ z ≤ 64 * (j : Int) from ⟨by have h := hC.out.1; rw [hdr] at h; exact h, hC.out.2⟩)
        generalize UL b = L at *
        obtain ⟨Lr, hLr⟩ : ∃ l, L.length = l := ⟨_, rfl⟩
        have HLr := Lib.hid hLr
        rw [hLr] at HUP
        rw [hLr] at hul
        have HPP := hP
        clear hC hP hlt hj hbj hbm hLj hdr hLr
        go_wp2_with fail
        refine HUP.out.mono ?_; rintro r w3 ⟨u3, rfl, hO3, hB3⟩
        obtain ⟨ua, uc, rfl⟩ := owns_form hO3
        have HP3 := Lib.hid (show w3.ownsRow s 3 1 (.slice (some ⟨s, 0, none⟩) (n + 1) (n + 1)) (n + 1) (iV C) ∧ Below s W1 w3 ∧ s + 1 ≤ w3.heap.size ∧ w3.ownsRow (s + 1) 3 1 (.slice ua Lr uc) Lr (iV L) from ⟨owns_below HPP.out.1 hB3, HPP.out.2.1.trans (hB3.mono (by have := HPP.out.2.2; omega)), Nat.le_trans HPP.out.2.2 hB3.size, own_low hO3 HPP.out.2.2⟩)
        clear hO3 hB3 HPP
        obtain ⟨C1, hC1⟩ : ∃ X, addF L C = X := ⟨_, rfl⟩
        rw [hC1] at HCj
        have HC1 := Lib.hid hC1
        clear hC1
        go_wp2_with fail
        go_loopw [54] (fun qq wr3 => ∃ (q : Nat) (C : List Int), qq = .int .i64 q ∧ q ≤ Lr ∧ Hid (addF (L.drop q) C = C1 ∧ C.length = n + 1 ∧ ∀ z ∈ C, 0 ≤ z ∧ z ≤ 64 * (j : Int) + q) ∧ Hid (wr3.ownsRow s 3 1 (.slice (some ⟨s, 0, none⟩) (n + 1) (n + 1)) (n + 1) (iV C) ∧ Below s W1 wr3 ∧ s + 1 ≤ wr3.heap.size ∧ wr3.ownsRow (s + 1) 3 1 (.slice ua Lr uc) Lr (iV L))) (fun qq _ => Lr - (intOf qq).toNat)
        case atStart => exact ⟨0, C, rfl, Nat.zero_le _, Lib.hid ⟨HC1.out, HCj.out.2.1, fun z hz => by have := HCj.out.2.2 z hz; omega⟩, HP3⟩
        case round =>
          obtain ⟨q, C, rfl, hq, hC, hP⟩ := hrel
          by_cases hlt : q < Lr
          case neg =>
            obtain rfl : Lr = q := by omega
            have q4 : ((Lr : Int) < (Lr : Int)) = False := eq_false (by omega)
            have q4' : (Lr < Lr) = False := eq_false (by omega)
            have hCe : C = C1 := by
              have h := hC.out.1
              rw [List.drop_of_length_le (by rw [HLr.out]; exact Nat.le_refl _)] at h
              exact h
            subst hCe
            have HCn := Lib.hid (show cntF (Ls.drop (j + 1)) C = FIN ∧ C.length = n + 1 ∧ ∀ z ∈ C, 0 ≤ z ∧ z ≤ 64 * ((j + 1 : Nat) : Int) from ⟨HCj.out.1, hC.out.2.1, fun z hz => by have := hC.out.2.2 z hz; omega⟩)
            have HPn := Lib.hid (show wr.ownsRow s 3 1 (.slice (some ⟨s, 0, none⟩) (n + 1) (n + 1)) (n + 1) (iV C) ∧ Below s W1 wr ∧ s + 1 ≤ wr.heap.size from ⟨hP.out.1, hP.out.2.1, hP.out.2.2.1⟩)
            clear hC hP hlt hq
            go_wp2_with fail
            go_roundw
            case rel => exact ⟨j + 1, C, by simp, by have := HJ.out; omega, HCn, HPn⟩
            case measure => have := HJ.out; first | (simp [intOf]; done) | (simp [intOf]; omega)
          have q4 : ((q : Int) < (Lr : Int)) = True := eq_true (by omega)
          have q4' : (q < Lr) = True := eq_true hlt
          have hq62 : q ≤ 9223372036854775806 := by omega
          have HQ := Lib.hid hlt
          obtain ⟨y, hy⟩ := get_some (L := L) (n := q) (by rw [HLr.out]; exact hlt)
          obtain ⟨a, rfl, ham⟩ := HUb.out.2.2 y (List.mem_of_getElem? hy)
          obtain ⟨g, hg, cq, hc1, hc2, _⟩ := own_at hP.out.2.2.2 hlt hy
          subst hg
          obtain ⟨z, hz⟩ := get_some (L := C) (n := a) (by rw [hC.out.2.1]; exact ham)
          obtain ⟨g', hg', cz, _, _, fz⟩ := own_at hP.out.1 ham hz
          cases hg'
          have hzb := hC.out.2.2 z (List.mem_of_getElem? hz)
          have HCn := Lib.hid (show addF (L.drop (q + 1)) (C.set a (z + 1)) = C1 ∧ (C.set a (z + 1)).length = n + 1 ∧ ∀ x ∈ C.set a (z + 1), 0 ≤ x ∧ x ≤ 64 * (j : Int) + ((q + 1 : Nat) : Int) by
            refine ⟨?_, by rw [List.length_set]; exact hC.out.2.1, fun x hx => ?_⟩
            · have h := hC.out.1
              have hl := lt_of_get hy
              rw [List.drop_eq_getElem_cons hl] at h
              rw [List.getElem?_eq_getElem hl] at hy
              injection hy with hy
              rw [hy] at h
              unfold addF at h
              rw [Int.toNat_natCast, show C.getD a 0 = z by simp [List.getD, hz]] at h
              exact h
            · rcases List.mem_or_eq_of_mem_set hx with hx | rfl
              · have := hC.out.2.2 x hx; omega
              · omega)
          have HPn := Lib.hid (show (wr.setCell ⟨s, a, none⟩ (.int .i64 (z + 1))).ownsRow s 3 1 (.slice (some ⟨s, 0, none⟩) (n + 1) (n + 1)) (n + 1) (iV (C.set a (z + 1))) ∧ Below s W1 (wr.setCell ⟨s, a, none⟩ (.int .i64 (z + 1))) ∧ s + 1 ≤ (wr.setCell ⟨s, a, none⟩ (.int .i64 (z + 1))).heap.size ∧ (wr.setCell ⟨s, a, none⟩ (.int .i64 (z + 1))).ownsRow (s + 1) 3 1 (.slice (some ⟨g, 0, none⟩) Lr uc) Lr (iV L) from
            ⟨by rw [iV_set]; exact (hP.out.1.stored a _).1, hP.out.2.1.setCell (p := ⟨s, a, none⟩) (Nat.le_refl _) _, by simpa using hP.out.2.2.1, owns_set hP.out.2.2.2 (fun hh => by have := (owns_lt hP.out.2.2.2 hh).1; omega)⟩)
          obtain ⟨zn, rfl⟩ : ∃ zn : Nat, z = (zn : Int) := ⟨z.toNat, by omega⟩
          have hz62 : zn ≤ 9223372036854775806 := by have := HB.out.2.1; have := HJ.out; omega
          have qa : ((a : Int) < (n : Int) + 1) = True := eq_true (by omega)
          have qa' : (a < n + 1) = True := eq_true ham
          clear hC hP hlt hq hy hz hzb ham
          go_wp2_with fail
          go_roundw
          case rel => exact ⟨q + 1, _, by simp, by have := HQ.out; omega, HCn, HPn⟩
          case measure => have := HQ.out; first | (simp [intOf]; done) | (simp [intOf]; omega)
      obtain rfl : M = j := by omega
      have q2 : ((M : Int) < (M : Int)) = False := eq_false (by omega)
      have q2' : (M < M) = False := eq_false (by omega)
      have hCe : C = FIN := by
        have h := hC.out.1
        rw [List.drop_of_length_le (by rw [← HLs.out, List.length_map, HM.out]; exact Nat.le_refl _)] at h
        exact h
      subst hCe
      obtain ⟨bt, ot, rfl, hbt, hnt, hct, ct, _⟩ := int_at (HTs.out _ (HB1s.out _ hP.out.2.1)) (k := 0) (by rw [nI_len, HM.out]; exact HM0.out)
      rw [show (nI outs).getD 0 0 = (b0 : Int) by simp [List.getD, nI, HB0.out.1], Nat.add_zero] at ct
      have hm0 : (0 < M) = True := eq_true HM0.out
      have hm0' : ((0 : Int) < (M : Int)) = True := eq_true (by have := HM0.out; omega)
      have HUb := Lib.hid (HUL.out b0 HB0.out.2)
      have hul := HUs.out b0 HB0.out.2
      have HUP := Lib.hid (pdom_up _ NP (b0 : Int) K (UL b0) wr (HR1b.out _ hP.out.2.1) HUb.out.1 (by omega))
      have HFI := Lib.hid HFI.out.1
      have HCb := Lib.hid hC.out.2
      generalize UL b0 = L at *
      obtain ⟨Lr, hLr⟩ : ∃ l, L.length = l := ⟨_, rfl⟩
      have HLr := Lib.hid hLr
      rw [hLr] at HUP
      rw [hLr] at hul
      have HPP := hP
      clear hC hP hlt hj hLr
      go_wp2_with fail
      refine HUP.out.mono ?_; rintro r w3 ⟨u3, rfl, hO3, hB3⟩
      obtain ⟨ua, uc, rfl⟩ := owns_form hO3
      have HP3 := Lib.hid (show w3.ownsRow s 3 1 (.slice (some ⟨s, 0, none⟩) (n + 1) (n + 1)) (n + 1) (iV C) ∧ Below s W1 w3 ∧ w3.ownsRow (s + 1) 3 1 (.slice ua Lr uc) Lr (iV L) from ⟨owns_below HPP.out.1 hB3, HPP.out.2.1.trans (hB3.mono (by have := HPP.out.2.2; omega)), own_low hO3 HPP.out.2.2⟩)
      clear hO3 hB3 HPP
      go_wp2_with fail
      go_step3
      go_wp2_with fail
      go_loopw [73, 13] (fun qq mm wr => ∃ q : Nat, qq = .int .i64 q ∧ mm = .int .i64 (-1) ∧ q ≤ Lr ∧ Hid (firstF C (M : Int) (L.drop q) = ANS) ∧ wr = w3) (fun qq _ _ => Lr - (intOf qq).toNat)
      case atStart => exact ⟨0, rfl, rfl, Nat.zero_le _, HFI, rfl⟩
      case round =>
        obtain ⟨q, rfl, rfl, hq, hF, hwr⟩ := hrel
        have hwr := hwr.symm
        subst hwr
        have HBf := Lib.hid (HB1s.out _ HP3.out.2.1)
        by_cases hlt : q < Lr
        case neg =>
          obtain rfl : Lr = q := by omega
          have q4 : ((Lr : Int) < (Lr : Int)) = False := eq_false (by omega)
          have q4' : (Lr < Lr) = False := eq_false (by omega)
          have hA : -1 = ANS := by
            have h := hF.out
            rw [List.drop_of_length_le (by rw [HLr.out]; exact Nat.le_refl _)] at h
            exact h
          subst hA
          clear hF hlt hq
          go_wp2_with fail
          try rw [Exit.noGoto_ret]
          go_ret
          exact ⟨rfl, HBf.out⟩
        have q4 : ((q : Int) < (Lr : Int)) = True := eq_true (by omega)
        have q4' : (q < Lr) = True := eq_true hlt
        have hq62 : q ≤ 9223372036854775806 := by omega
        have HQ := Lib.hid hlt
        obtain ⟨y, hy⟩ := get_some (L := L) (n := q) (by rw [HLr.out]; exact hlt)
        obtain ⟨a, rfl, ham⟩ := HUb.out.2.2 y (List.mem_of_getElem? hy)
        obtain ⟨g, hg, cq, hc1, hc2, _⟩ := own_at HP3.out.2.2 hlt hy
        subst hg
        obtain ⟨z, hz⟩ := get_some (L := C) (n := a) (by rw [HCb.out.1]; exact ham)
        obtain ⟨g', hg', cz, _, _, _⟩ := own_at HP3.out.1 ham hz
        cases hg'
        have hstep : (if z = (M : Int) then (a : Int) else firstF C (M : Int) (L.drop (q + 1))) = ANS := by
          have h := hF.out
          have hl := lt_of_get hy
          rw [List.drop_eq_getElem_cons hl] at h
          rw [List.getElem?_eq_getElem hl] at hy
          injection hy with hy
          rw [hy] at h
          unfold firstF at h
          rw [Int.toNat_natCast, show C.getD a 0 = z by simp [List.getD, hz]] at h
          exact h
        have qa : ((a : Int) < (n : Int) + 1) = True := eq_true (by omega)
        have qa' : (a < n + 1) = True := eq_true ham
        by_cases hzm : z = (M : Int)
        · rw [if_pos hzm] at hstep
          subst hstep
          have ez : (z == (M : Int)) = true := by simpa using hzm
          clear hF hlt hq hy hz hzm ham
          go_wp2_with fail
          try rw [Exit.noGoto_ret]
          go_ret
          exact ⟨rfl, HBf.out⟩
        · rw [if_neg hzm] at hstep
          have HFn := Lib.hid hstep
          have ez : (z == (M : Int)) = false := by simpa using hzm
          clear hF hlt hq hy hz hzm ham hstep
          go_wp2_with fail
          go_roundw
          case rel => exact ⟨q + 1, by simp, rfl, by have := HQ.out; omega, HFn, by first | rfl | trivial⟩
          case measure => have := HQ.out; first | (simp [intOf]; done) | (simp [intOf]; omega)
end Go.Proofs.Ytkjafkegkllbiaa
