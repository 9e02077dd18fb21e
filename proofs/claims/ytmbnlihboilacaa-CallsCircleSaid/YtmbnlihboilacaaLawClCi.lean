/- Layer 21: the walk of CallsCircle. -/
import Derived.Test.YtmbnlihboilacaaLawClTe
import Derived.Test.YtmbnlihboilacaaClMat
import Derived.Test.YtmbnlihboilacaaStillBy
namespace Go.Proofs.Ytmbnlihboilacaa
open Go.RowKit
set_option linter.unusedSimpArgs false
set_option linter.unusedVariables false
open CL (ordF Ec Inv TG upM wX)
theorem Ec_at {L : List Un} {u c : Nat} {x : Un} (hx : L[u]? = some x) (hc : c < L.length) : Ec (calledF L) u c = CL.cls x.code (c : Int) := by
  unfold Ec
  have : (calledF L).getD u [] = CL.ofN L.length x.code := by simp [List.getD, calledF_at hx]
  rw [this]
  cases h : CL.cls x.code (c : Int)
  · rw [List.contains_eq_mem]
    apply decide_eq_false
    intro hm
    rw [(List.mem_filter.1 hm).2] at h
    cases h
  · rw [List.contains_eq_mem]
    exact decide_eq_true (List.mem_filter.2 ⟨List.mem_range.2 hc, h⟩)
def anyD (M : Nat → Nat → Bool) (u : Nat) : Bool := (List.range u).any fun i => M i i
theorem anyD_succ (M : Nat → Nat → Bool) (u : Nat) : anyD M (u + 1) = (anyD M u || M u u) := by simp [anyD, List.range_succ]
set_option maxRecDepth 100000 in
set_option maxHeartbeats 16000000 in
theorem callsCircle_walk (v : Value) (L : List Un) (w : World) (hv : RowR 5 unitR w v L) :
    Calls Try.prog 4 #[v] w fun r w' => r = .returned (.bool true) ∧ Below w.heap.size w w' := by
  obtain ⟨i3, hi3, hz3, hsize3, hby3⟩ : ∃ i, Try.prog.info? 4 = some i ∧ i.zero = some (.bool false) ∧ i.size = 1 ∧ i.bytes = 1 := ⟨(Try.prog.info? 4).get!, by kernel_rfl, by kernel_rfl, by kernel_rfl, by kernel_rfl⟩
  obtain ⟨i4, hi4, hz4, hsize4, hby4⟩ : ∃ i, Try.prog.info? 34 = some i ∧ i.zero = some (.slice none 0 0) ∧ i.size = 1 ∧ i.bytes = 24 := ⟨(Try.prog.info? 34).get!, by kernel_rfl, by kernel_rfl, by kernel_rfl, by kernel_rfl⟩
  have HF := Lib.hid (law21_few v L w hv)
  have HA := Lib.hid (fun W => law21_awake W)
  obtain ⟨ad, cap, rfl⟩ := row_get hv
  cases hf : fewC L
  · rw [hf] at HF
    clear hf hv
    go_enter Try.func4, Try.ntmps4
    go_wp2_with fail
    refine HF.out.mono ?_; rintro r w2 ⟨rfl, rfl⟩
    go_wp2_with fail
    refine (HA.out _).mono ?_; rintro r w3 ⟨rfl, hb⟩
    go_wp2_with fail
    go_ret
    exact ⟨rfl, hb⟩
  rw [hf] at HF
  have hfew := of_decide_eq_true hf
  have hn : L.length ≤ 100 := by omega
  have HV := Lib.hid (fun W (h : Below w.heap.size w W) => hv.below unitR_stable h)
  have HO := Lib.hid (fun W h => calls_Order _ L W (HV.out W h) hn hfew.2)
  have HCe := Lib.hid (fun (W : World) (h : Below w.heap.size w W) (u c : Nat) (hu : u < L.length) (hc : c < L.length) => by
    obtain ⟨x, hx⟩ := get_some hu
    have h1 := ref21_Calls _ L u x (c : Int) W (HV.out W h) hx
    rw [← Ec_at hx hc] at h1
    exact h1)
  have HOl := Lib.hid (show ∀ x ∈ orI (ordF (calledF L) L.length []), x < L.length from orI_good L)
  have HCc := Lib.hid (show (ordF (calledF L) L.length []).isSome = true ↔ ¬ ∃ u, u < L.length ∧ TG (Ec (calledF L)) L.length u u by
    have h := CL.circle_iff (C := calledF L) (fun l hl x hx => by
      rw [calledF_len]
      unfold calledF at hl
      obtain ⟨y, hy, rfl⟩ := List.mem_map.1 hl
      exact CL.ofN_lt hx)
    rw [calledF_len] at h
    exact h)
  have HAp := Lib.hid (show ∀ o, ordF (calledF L) L.length [] = some o → o.length = L.length ∧ ∀ i k (hk : k < o.length) (hik : i ≤ k), ¬ TG (Ec (calledF L)) L.length (o[i]'(by omega)) o[k] by
    intro o ho
    obtain ⟨h1, h2⟩ := CL.ordF_good (CL.Good.nil _) ho
    exact ⟨by simpa using h2, fun i k hk hik => CL.good_apart h1 hik hk⟩)
  obtain ⟨n, hN⟩ : ∃ n, L.length = n := ⟨_, rfl⟩
  rw [hN] at HF hn HO HCe HOl HCc HAp HV
  obtain ⟨R, hR⟩ : ∃ R, ordF (calledF L) n [] = R := ⟨_, rfl⟩
  rw [hR] at HO HOl HCc HAp
  generalize Ec (calledF L) = E at *
  generalize calledF L = CF at *
  rw [hN]
  clear hf hfew hv hN hR
  have hmp := fun W => run_make W 33 34 i4 _ Try.underlying33 hi4 hz4 .i64 .i64 (n : Int) (n : Int) (by omega) (by omega) (by rw [hby4]; omega) (by omega)
  rw [hsize4, Nat.mul_one, madeS, Int.toNat_natCast] at hmp
  have hmk := fun W => run_make W 34 4 i3 _ Try.underlying34 hi3 hz3 .i64 .i64 (n : Int) (n : Int) (by omega) (by omega) (by rw [hby3]; omega) (by omega)
  rw [hsize3, Nat.mul_one, made_false, Int.toNat_natCast] at hmk
  have hn63 : n ≤ 9223372036854775807 := by omega
  have HNn := Lib.hid hn
  obtain ⟨ZP, hZP⟩ : ∃ Z, (List.replicate n (Value.slice none 0 0)).toArray = Z := ⟨_, rfl⟩
  rw [hZP] at hmp
  obtain ⟨ZB, hZB⟩ : ∃ Z, (bV1 (List.replicate n false)).toArray = Z := ⟨_, rfl⟩
  rw [hZB] at hmk
  have HZB := Lib.hid hZB
  obtain ⟨B, hB⟩ : ∃ B, w.heap.size = B := ⟨_, rfl⟩
  have HBs := Lib.hid hB
  have HP0 := Lib.hid (show MSt B n 0 w (w.alloc (.cells ZP 34)) (fun _ => 0) (fun _ _ => false) by
    subst hB
    have k1 := owns_arr w ZP 34 1 n (by rw [← hZP]; simp) (by unfold maxLen; omega)
    rw [← hZP] at k1 ⊢
    refine ⟨by (repeat' (first | (with_reducible exact Below.refl _ _) | (with_reducible assumption) | (with_reducible refine below_drewN ?_ _) | (with_reducible refine Below.alloc ?_ ?_ _) | (with_reducible refine Below.drew ?_) | (with_reducible refine Below.setCell ?_ ?_ _) | go_size)), ?_, fun i h => by omega, fun i j h => by omega, by simp⟩
    have e : ptrL n 0 (fun _ => 0) = List.replicate n (.slice none 0 0) := by
      apply List.ext_getElem?
      intro i
      by_cases hi : i < n <;> simp [ptrL, hi]
    rw [e]
    exact k1)
  clear hi3 hz3 hsize3 hby3 hi4 hz4 hsize4 hby4 hZP hZB
  go_enter Try.func4, Try.ntmps4
  go_wp2_with fail
  refine HF.out.mono ?_; rintro r w2 ⟨rfl, rfl⟩
  go_wp2_with fail
  obtain ⟨W0, hW0⟩ : ∃ W, W = w2.alloc (.cells ZP 34) := ⟨_, rfl⟩
  rw [← hW0] at HP0 ⊢
  clear hmp hW0 hB
  go_loopw [5] (fun jj wr => ∃ (u : Nat) (G : Nat → Nat) (M : Nat → Nat → Bool), jj = .int .i64 u ∧ u ≤ n ∧ Hid (MSt B n u w2 wr G M) ∧ Hid (∀ i j, i < u → j < n → M i j = E i j)) (fun jj _ => n - (intOf jj).toNat)
  case atStart => exact ⟨0, _, _, rfl, Nat.zero_le _, HP0, Lib.hid (fun i j h => by omega)⟩
  case round =>
    obtain ⟨u, G, M, rfl, hu, hP, hE⟩ := hrel
    rename World => W1
    by_cases hlt : u < n
    case pos =>
      have q1 : ((u : Int) < (n : Int)) = True := eq_true (by omega)
      have q1' : (u < n) = True := eq_true hlt
      have hu62 : u ≤ 9223372036854775806 := by omega
      have HU := Lib.hid hlt
      have HP1 := Lib.hid (hP.out.row (Z := ZB) hlt HZB.out.symm (by have := HNn.out; omega))
      have HE := hE
      have hba := (Below.refl W1.heap.size W1).alloc (Nat.le_refl _) (.cells ZB 4)
      have fB := (owns_below hP.out.ho hba).frozenAt u
      have cB := (owns_below hP.out.ho hba).cellAt u (by omega)
      obtain ⟨z0, hz0⟩ := get_some (L := ptrL n u G) (n := u) (by simp [ptrL]; omega)
      rw [hz0] at cB
      clear hP hE hlt hu hba hz0
      go_wp2_with fail
      obtain ⟨W2, hW2⟩ : ∃ W, W = (W1.alloc (.cells ZB 4)).setCell ⟨B, u, none⟩ (.slice (some ⟨W1.heap.size, 0, none⟩) n n) := ⟨_, rfl⟩
      rw [← hW2] at HP1 ⊢
      clear hW2 fB cB
      go_loopw [6] (fun jj wr => ∃ (c : Nat) (G : Nat → Nat) (M : Nat → Nat → Bool), jj = .int .i64 c ∧ c ≤ n ∧ Hid (MSt B n (u + 1) w2 wr G M) ∧ Hid (∀ i j, i < u + 1 → j < n → (i < u ∨ j < c) → M i j = E i j)) (fun jj _ => n - (intOf jj).toNat)
      case atStart => exact ⟨0, _, _, rfl, Nat.zero_le _, HP1, Lib.hid (fun i j hi hj h => by
        have : ¬ i = u := by omega
        simp only [this, if_false]
        exact HE.out i j (by omega) hj)⟩
      case round =>
        obtain ⟨c, G, M, rfl, hc, hP, hE⟩ := hrel
        rename World => W3
        by_cases hlt : c < n
        case neg =>
          obtain rfl : n = c := by omega
          have q2 : ((n : Int) < (n : Int)) = False := eq_false (by omega)
          have q2' : (n < n) = False := eq_false (by omega)
          have HPP := hP
          have HEE := Lib.hid (show ∀ i j, i < u + 1 → j < n → M i j = E i j from fun i j hi hj => hE.out i j hi hj (Or.inr hj))
          clear hP hE hlt hc
          go_wp2_with fail
          go_roundw
          case rel => exact ⟨u + 1, G, M, by simp, by have := HU.out; omega, HPP, HEE⟩
          case measure => have := HU.out; first | (simp [intOf]; done) | (simp [intOf]; omega)
        have q2 : ((c : Int) < (n : Int)) = True := eq_true (by omega)
        have q2' : (c < n) = True := eq_true hlt
        have hc62 : c ≤ 9223372036854775806 := by omega
        have HC := Lib.hid hlt
        have hcp := hP.out.ptr (i := u) (by omega) HU.out
        obtain ⟨c1, f1⟩ := hP.out.cell (i := u) (j := c) (by omega) hlt
        have HCall := Lib.hid (HCe.out W3.drew (by rw [HBs.out]; exact hP.out.hb.drew) u c HU.out hlt)
        have HPn := Lib.hid (hP.out.put (u := u) (c := c) (by omega) hlt (E u c))
        have HEn := Lib.hid (show ∀ i j, i < u + 1 → j < n → (i < u ∨ j < c + 1) → upM M u c (E u c) i j = E i j from fun i j hi hj h => by
          unfold upM
          split
          · rename_i e; rw [e.1, e.2]
          · rename_i e; exact hE.out i j hi hj (by omega))
        generalize E u c = x at *
        generalize hgu : G u = g at *
        clear hP hE hlt hc
        go_wp2_with fail
        refine wp_region_still_tail 10 (by kernel_rfl) (by kernel_rfl) ?_
        simp only [List.take_succ_cons, List.take_zero, List.drop_succ_cons, List.drop_zero]
        repeat still_step
        still_call HCall.out
        repeat still_step
        refine wpStill_nil ?_
        have c1 : W3.drew.cell? ⟨g, c, none⟩ = some (.bool (M u c)) := c1
        have f1 : W3.drew.frozen? ⟨g, c, none⟩ = false := f1
        go_wp2_with fail
        go_roundw
        case rel => exact ⟨c + 1, G, _, by simp, by have := HC.out; omega, Lib.hid (HPn.out.below ((Below.refl _ _).drew)), HEn⟩
        case measure => have := HC.out; first | (simp [intOf]; done) | (simp [intOf]; omega)
    case neg =>
      obtain rfl : n = u := by omega
      have q1 : ((n : Int) < (n : Int)) = False := eq_false (by omega)
      have q1' : (n < n) = False := eq_false (by omega)
      have HP0 := hP
      have HI0 := Lib.hid (Inv.start (E := E) (n := n) hE.out)
      clear hP hE hlt hu hmk
      go_wp2_with fail
      go_loopw [7] (fun jj wr => ∃ (k : Nat) (M : Nat → Nat → Bool), jj = .int .i64 k ∧ k ≤ n ∧ Hid (MSt B n n w2 wr G M) ∧ Hid (Inv E n k 0 0 M)) (fun jj _ => n - (intOf jj).toNat)
      case atStart => exact ⟨0, M, rfl, Nat.zero_le _, HP0, HI0⟩
      case round =>
        obtain ⟨k, M, rfl, hk, hP, hI⟩ := hrel
        rename World => W3
        by_cases hlt : k < n
        case pos =>
          have q2 : ((k : Int) < (n : Int)) = True := eq_true (by omega)
          have q2' : (k < n) = True := eq_true hlt
          have hk62 : k ≤ 9223372036854775806 := by omega
          have HK := Lib.hid hlt
          have HPk := hP
          have HIk := hI
          clear hP hI hlt hk
          go_wp2_with fail
          go_loopw [8] (fun jj wr => ∃ (u : Nat) (M : Nat → Nat → Bool), jj = .int .i64 u ∧ u ≤ n ∧ Hid (MSt B n n w2 wr G M) ∧ Hid (Inv E n k u 0 M)) (fun jj _ => n - (intOf jj).toNat)
          case atStart => exact ⟨0, M, rfl, Nat.zero_le _, HPk, HIk⟩
          case round =>
            obtain ⟨u, M, rfl, hu, hP, hI⟩ := hrel
            rename World => W4
            by_cases hlt : u < n
            case neg =>
              obtain rfl : n = u := by omega
              have q3 : ((n : Int) < (n : Int)) = False := eq_false (by omega)
              have q3' : (n < n) = False := eq_false (by omega)
              have HPP := hP
              have HII := Lib.hid hI.out.next
              clear hP hI hlt hu
              go_wp2_with fail
              go_roundw
              case rel => exact ⟨k + 1, M, by simp, by have := HK.out; omega, HPP, HII⟩
              case measure => have := HK.out; first | (simp [intOf]; done) | (simp [intOf]; omega)
            have q3 : ((u : Int) < (n : Int)) = True := eq_true (by omega)
            have q3' : (u < n) = True := eq_true hlt
            have hu62 : u ≤ 9223372036854775806 := by omega
            have HU := Lib.hid hlt
            have HPu := hP
            have HIu := hI
            clear hP hI hlt hu
            go_wp2_with fail
            go_loopw [9] (fun jj wr => ∃ (c : Nat) (M : Nat → Nat → Bool), jj = .int .i64 c ∧ c ≤ n ∧ Hid (MSt B n n w2 wr G M) ∧ Hid (Inv E n k u c M)) (fun jj _ => n - (intOf jj).toNat)
            case atStart => exact ⟨0, M, rfl, Nat.zero_le _, HPu, HIu⟩
            case round =>
              obtain ⟨c, M, rfl, hc, hP, hI⟩ := hrel
              rename World => W5
              by_cases hlt : c < n
              case neg =>
                obtain rfl : n = c := by omega
                have q4 : ((n : Int) < (n : Int)) = False := eq_false (by omega)
                have q4' : (n < n) = False := eq_false (by omega)
                have HPP := hP
                have HII := Lib.hid hI.out.row
                clear hP hI hlt hc
                go_wp2_with fail
                go_roundw
                case rel => exact ⟨u + 1, M, by simp, by have := HU.out; omega, HPP, HII⟩
                case measure => have := HU.out; first | (simp [intOf]; done) | (simp [intOf]; omega)
              have q4 : ((c : Int) < (n : Int)) = True := eq_true (by omega)
              have q4' : (c < n) = True := eq_true hlt
              have hc62 : c ≤ 9223372036854775806 := by omega
              have HC := Lib.hid hlt
              have pu := hP.out.ptr HU.out HU.out
              have pk := hP.out.ptr HK.out HK.out
              obtain ⟨c1, f1⟩ := hP.out.cell (i := u) (j := c) HU.out hlt
              obtain ⟨c2, _⟩ := hP.out.cell (i := u) (j := k) HU.out HK.out
              obtain ⟨c3, _⟩ := hP.out.cell (i := k) (j := c) HK.out hlt
              have HPn := Lib.hid (hP.out.put (u := u) (c := c) HU.out hlt (wX M k u c))
              have HIn := Lib.hid (hI.out.step HK.out HU.out hlt)
              have HX := Lib.hid (show wX M k u c = (M u c || (M u k && M k c)) from rfl)
              generalize wX M k u c = x at *
              obtain ⟨M2, hM2⟩ : ∃ M2, upM M u c x = M2 := ⟨_, rfl⟩
              rw [hM2] at HPn HIn
              generalize M u c = x1 at *
              generalize M u k = x2 at *
              generalize M k c = x3 at *
              generalize G u = gu at *
              generalize G k = gk at *
              clear hP hI hlt hc hM2
              go_wp2_with fail
              refine wp_region_still_tail 31 (by kernel_rfl) (lex_tail (by kernel_rfl) (by kernel_rfl) (by kernel_rfl) (by kernel_rfl) ?_) ?_
              · refine lex_step (listed' := #[true, false, false, false, false, false, false, false, false, false, false, false, false, false, false, false, false, false, false, false, false, false, false, false, false, false, false, false, false, false, false, false]) (by kernel_rfl) (by kernel_rfl) (by kernel_rfl) ?_
                refine lex_step (listed' := #[true, true, false, false, false, false, false, false, false, false, false, false, false, false, false, false, false, false, false, false, false, false, false, false, false, false, false, false, false, false, false, false]) (by kernel_rfl) (by kernel_rfl) (by kernel_rfl) ?_
                refine lex_step (listed' := #[true, true, true, false, false, false, false, false, false, false, false, false, false, false, false, false, false, false, false, false, false, false, false, false, false, false, false, false, false, false, false, false]) (by kernel_rfl) (by kernel_rfl) (by kernel_rfl) ?_
                refine lex_step (listed' := #[true, true, true, true, false, false, false, false, false, false, false, false, false, false, false, false, false, false, false, false, false, false, false, false, false, false, false, false, false, false, false, false]) (by kernel_rfl) (by kernel_rfl) (by kernel_rfl) ?_
                refine lex_step (listed' := #[true, true, true, true, true, false, false, false, false, false, false, false, false, false, false, false, false, false, false, false, false, false, false, false, false, false, false, false, false, false, false, false]) (by kernel_rfl) (by kernel_rfl) (by kernel_rfl) ?_
                refine lex_step (listed' := #[true, true, true, true, true, true, false, false, false, false, false, false, false, false, false, false, false, false, false, false, false, false, false, false, false, false, false, false, false, false, false, false]) (by kernel_rfl) (by kernel_rfl) (by kernel_rfl) ?_
                refine lex_step (listed' := #[true, true, true, true, true, true, true, false, false, false, false, false, false, false, false, false, false, false, false, false, false, false, false, false, false, false, false, false, false, false, false, false]) (by kernel_rfl) (by kernel_rfl) (by kernel_rfl) ?_
                refine lex_step (listed' := #[true, true, true, true, true, true, true, true, false, false, false, false, false, false, false, false, false, false, false, false, false, false, false, false, false, false, false, false, false, false, false, false]) (by kernel_rfl) (by kernel_rfl) (by kernel_rfl) ?_
                refine lex_step (listed' := #[true, true, true, true, true, true, true, true, true, false, false, false, false, false, false, false, false, false, false, false, false, false, false, false, false, false, false, false, false, false, false, false]) (by kernel_rfl) (by kernel_rfl) (by kernel_rfl) ?_
                refine lex_step (listed' := #[true, true, true, true, true, true, true, true, true, true, false, false, false, false, false, false, false, false, false, false, false, false, false, false, false, false, false, false, false, false, false, false]) (by kernel_rfl) (by kernel_rfl) (by kernel_rfl) ?_
                refine lex_step (listed' := #[true, true, true, true, true, true, true, true, true, true, true, false, false, false, false, false, false, false, false, false, false, false, false, false, false, false, false, false, false, false, false, false]) (by kernel_rfl) (by kernel_rfl) (by kernel_rfl) ?_
                refine lex_step (listed' := #[true, true, true, true, true, true, true, true, true, true, true, true, false, false, false, false, false, false, false, false, false, false, false, false, false, false, false, false, false, false, false, false]) (by kernel_rfl) (by kernel_rfl) (by kernel_rfl) ?_
                refine lex_step (listed' := #[true, true, true, true, true, true, true, true, true, true, true, true, true, false, false, false, false, false, false, false, false, false, false, false, false, false, false, false, false, false, false, false]) (by kernel_rfl) (by kernel_rfl) (by kernel_rfl) ?_
                refine lex_step (listed' := #[true, true, true, true, true, true, true, true, true, true, true, true, true, true, false, false, false, false, false, false, false, false, false, false, false, false, false, false, false, false, false, false]) (by kernel_rfl) (by kernel_rfl) (by kernel_rfl) ?_
                refine lex_step (listed' := #[true, true, true, true, true, true, true, true, true, true, true, true, true, true, true, false, false, false, false, false, false, false, false, false, false, false, false, false, false, false, false, false]) (by kernel_rfl) (by kernel_rfl) (by kernel_rfl) ?_
                refine lex_step (listed' := #[true, true, true, true, true, true, true, true, true, true, true, true, true, true, true, true, false, false, false, false, false, false, false, false, false, false, false, false, false, false, false, false]) (by kernel_rfl) (by kernel_rfl) (by kernel_rfl) ?_
                refine lex_step (listed' := #[true, true, true, true, true, true, true, true, true, true, true, true, true, true, true, true, true, false, false, false, false, false, false, false, false, false, false, false, false, false, false, false]) (by kernel_rfl) (by kernel_rfl) (by kernel_rfl) ?_
                refine lex_step (listed' := #[true, true, true, true, true, true, true, true, true, true, true, true, true, true, true, true, true, true, false, false, false, false, false, false, false, false, false, false, false, false, false, false]) (by kernel_rfl) (by kernel_rfl) (by kernel_rfl) ?_
                refine lex_step (listed' := #[true, true, true, true, true, true, true, true, true, true, true, true, true, true, true, true, true, true, true, false, false, false, false, false, false, false, false, false, false, false, false, false]) (by kernel_rfl) (by kernel_rfl) (by kernel_rfl) ?_
                refine lex_step (listed' := #[true, true, true, true, true, true, true, true, true, true, true, true, true, true, true, true, true, true, true, true, false, false, false, false, false, false, false, false, false, false, false, false]) (by kernel_rfl) (by kernel_rfl) (by kernel_rfl) ?_
                refine lex_step (listed' := #[true, true, true, true, true, true, true, true, true, true, true, true, true, true, true, true, true, true, true, true, true, false, false, false, false, false, false, false, false, false, false, false]) (by kernel_rfl) (by kernel_rfl) (by kernel_rfl) ?_
                refine lex_step (listed' := #[true, true, true, true, true, true, true, true, true, true, true, true, true, true, true, true, true, true, true, true, true, true, false, false, false, false, false, false, false, false, false, false]) (by kernel_rfl) (by kernel_rfl) (by kernel_rfl) ?_
                refine lex_step (listed' := #[true, true, true, true, true, true, true, true, true, true, true, true, true, true, true, true, true, true, true, true, true, true, true, false, false, false, false, false, false, false, false, false]) (by kernel_rfl) (by kernel_rfl) (by kernel_rfl) ?_
                refine lex_step (listed' := #[true, true, true, true, true, true, true, true, true, true, true, true, true, true, true, true, true, true, true, true, true, true, true, true, false, false, false, false, false, false, false, false]) (by kernel_rfl) (by kernel_rfl) (by kernel_rfl) ?_
                refine lex_step (listed' := #[true, true, true, true, true, true, true, true, true, true, true, true, true, true, true, true, true, true, true, true, true, true, true, true, true, false, false, false, false, false, false, false]) (by kernel_rfl) (by kernel_rfl) (by kernel_rfl) ?_
                refine lex_step (listed' := #[true, true, true, true, true, true, true, true, true, true, true, true, true, true, true, true, true, true, true, true, true, true, true, true, true, true, false, false, false, false, false, false]) (by kernel_rfl) (by kernel_rfl) (by kernel_rfl) ?_
                refine lex_step (listed' := #[true, true, true, true, true, true, true, true, true, true, true, true, true, true, true, true, true, true, true, true, true, true, true, true, true, true, true, false, false, false, false, false]) (by kernel_rfl) (by kernel_rfl) (by kernel_rfl) ?_
                refine lex_step (listed' := #[true, true, true, true, true, true, true, true, true, true, true, true, true, true, true, true, true, true, true, true, true, true, true, true, true, true, true, true, false, false, false, false]) (by kernel_rfl) (by kernel_rfl) (by kernel_rfl) ?_
                refine lex_step (listed' := #[true, true, true, true, true, true, true, true, true, true, true, true, true, true, true, true, true, true, true, true, true, true, true, true, true, true, true, true, true, false, false, false]) (by kernel_rfl) (by kernel_rfl) (by kernel_rfl) ?_
                refine lex_step (listed' := #[true, true, true, true, true, true, true, true, true, true, true, true, true, true, true, true, true, true, true, true, true, true, true, true, true, true, true, true, true, true, false, false]) (by kernel_rfl) (by kernel_rfl) (by kernel_rfl) ?_
                refine lex_step (listed' := #[true, true, true, true, true, true, true, true, true, true, true, true, true, true, true, true, true, true, true, true, true, true, true, true, true, true, true, true, true, true, true, false]) (by kernel_rfl) (by kernel_rfl) (by kernel_rfl) ?_
                kernel_rfl
              simp only [List.take_succ_cons, List.take_zero, List.drop_succ_cons, List.drop_zero]
              refine still_take (v := ?_) (want_free rfl) ?_ ?_
              rotate_left
              · first | (go_simp; done) | (go_simp; with_reducible rfl) | (trace_state; fail)
              try simp only [Act.put, List.setIfInBounds_toArray, List.set_cons_zero, List.set_cons_succ]
              refine still_take (v := ?_) (want_free rfl) ?_ ?_
              rotate_left
              · first | (go_simp; done) | (go_simp; with_reducible rfl) | (trace_state; fail)
              try simp only [Act.put, List.setIfInBounds_toArray, List.set_cons_zero, List.set_cons_succ]
              refine still_take (v := ?_) (want_free rfl) ?_ ?_
              rotate_left
              · first | (go_simp; done) | (go_simp; with_reducible rfl) | (trace_state; fail)
              try simp only [Act.put, List.setIfInBounds_toArray, List.set_cons_zero, List.set_cons_succ]
              refine still_take (v := ?_) (want_free rfl) ?_ ?_
              rotate_left
              · first | (go_simp; done) | (go_simp; with_reducible rfl) | (trace_state; fail)
              try simp only [Act.put, List.setIfInBounds_toArray, List.set_cons_zero, List.set_cons_succ]
              refine still_take (v := ?_) (want_free rfl) ?_ ?_
              rotate_left
              · first | (go_simp; done) | (go_simp; with_reducible rfl) | (trace_state; fail)
              try simp only [Act.put, List.setIfInBounds_toArray, List.set_cons_zero, List.set_cons_succ]
              refine still_take (v := ?_) (want_free rfl) ?_ ?_
              rotate_left
              · first | (go_simp; done) | (go_simp; with_reducible rfl) | (trace_state; fail)
              try simp only [Act.put, List.setIfInBounds_toArray, List.set_cons_zero, List.set_cons_succ]
              refine still_take (v := ?_) (want_free rfl) ?_ ?_
              rotate_left
              · first | (go_simp; done) | (go_simp; with_reducible rfl) | (trace_state; fail)
              try simp only [Act.put, List.setIfInBounds_toArray, List.set_cons_zero, List.set_cons_succ]
              refine still_take (v := ?_) (want_free rfl) ?_ ?_
              rotate_left
              · first | (go_simp; done) | (go_simp; with_reducible rfl) | (trace_state; fail)
              try simp only [Act.put, List.setIfInBounds_toArray, List.set_cons_zero, List.set_cons_succ]
              refine still_take (v := ?_) (want_free rfl) ?_ ?_
              rotate_left
              · first | (go_simp; done) | (go_simp; with_reducible rfl) | (trace_state; fail)
              try simp only [Act.put, List.setIfInBounds_toArray, List.set_cons_zero, List.set_cons_succ]
              refine still_take (v := ?_) (want_free rfl) ?_ ?_
              rotate_left
              · first | (go_simp; done) | (go_simp; with_reducible rfl) | (trace_state; fail)
              try simp only [Act.put, List.setIfInBounds_toArray, List.set_cons_zero, List.set_cons_succ]
              refine still_take (v := ?_) (want_free rfl) ?_ ?_
              rotate_left
              · first | (go_simp; done) | (go_simp; with_reducible rfl) | (trace_state; fail)
              try simp only [Act.put, List.setIfInBounds_toArray, List.set_cons_zero, List.set_cons_succ]
              refine still_take (v := ?_) (want_free rfl) ?_ ?_
              rotate_left
              · first | (go_simp; done) | (go_simp; with_reducible rfl) | (trace_state; fail)
              try simp only [Act.put, List.setIfInBounds_toArray, List.set_cons_zero, List.set_cons_succ]
              refine still_take (v := ?_) (want_free rfl) ?_ ?_
              rotate_left
              · first | (go_simp; done) | (go_simp; with_reducible rfl) | (trace_state; fail)
              try simp only [Act.put, List.setIfInBounds_toArray, List.set_cons_zero, List.set_cons_succ]
              cases x1
              case true =>
                have hh := @still_skip
                refine hh ?_ ?_
                · exact want_out true rfl (by kernel_rfl) rfl
                clear hh
                try simp only [Act.put, List.setIfInBounds_toArray, List.set_cons_zero, List.set_cons_succ]
                have hh := @still_skip
                refine hh ?_ ?_
                · exact want_out true rfl (by kernel_rfl) rfl
                clear hh
                try simp only [Act.put, List.setIfInBounds_toArray, List.set_cons_zero, List.set_cons_succ]
                have hh := @still_skip
                refine hh ?_ ?_
                · exact want_out true rfl (by kernel_rfl) rfl
                clear hh
                try simp only [Act.put, List.setIfInBounds_toArray, List.set_cons_zero, List.set_cons_succ]
                have hh := @still_skip
                refine hh ?_ ?_
                · exact want_out true rfl (by kernel_rfl) rfl
                clear hh
                try simp only [Act.put, List.setIfInBounds_toArray, List.set_cons_zero, List.set_cons_succ]
                have hh := @still_skip
                refine hh ?_ ?_
                · exact want_out true rfl (by kernel_rfl) rfl
                clear hh
                try simp only [Act.put, List.setIfInBounds_toArray, List.set_cons_zero, List.set_cons_succ]
                have hh := @still_skip
                refine hh ?_ ?_
                · exact want_out true rfl (by kernel_rfl) rfl
                clear hh
                try simp only [Act.put, List.setIfInBounds_toArray, List.set_cons_zero, List.set_cons_succ]
                have hh := @still_skip
                refine hh ?_ ?_
                · exact want_out true rfl (by kernel_rfl) rfl
                clear hh
                try simp only [Act.put, List.setIfInBounds_toArray, List.set_cons_zero, List.set_cons_succ]
                have hh := @still_skip
                refine hh ?_ ?_
                · exact want_out true rfl (by kernel_rfl) rfl
                clear hh
                try simp only [Act.put, List.setIfInBounds_toArray, List.set_cons_zero, List.set_cons_succ]
                have hh := @still_skip
                refine hh ?_ ?_
                · exact want_undef rfl (by kernel_rfl)
                clear hh
                try simp only [Act.put, List.setIfInBounds_toArray, List.set_cons_zero, List.set_cons_succ]
                have hh := @still_skip
                refine hh ?_ ?_
                · exact want_undef rfl (by kernel_rfl)
                clear hh
                try simp only [Act.put, List.setIfInBounds_toArray, List.set_cons_zero, List.set_cons_succ]
                have hh := @still_skip
                refine hh ?_ ?_
                · exact want_undef rfl (by kernel_rfl)
                clear hh
                try simp only [Act.put, List.setIfInBounds_toArray, List.set_cons_zero, List.set_cons_succ]
                have hh := @still_skip
                refine hh ?_ ?_
                · exact want_undef rfl (by kernel_rfl)
                clear hh
                try simp only [Act.put, List.setIfInBounds_toArray, List.set_cons_zero, List.set_cons_succ]
                have hh := @still_skip
                refine hh ?_ ?_
                · exact want_undef rfl (by kernel_rfl)
                clear hh
                try simp only [Act.put, List.setIfInBounds_toArray, List.set_cons_zero, List.set_cons_succ]
                have hh := @still_skip
                refine hh ?_ ?_
                · exact want_undef rfl (by kernel_rfl)
                clear hh
                try simp only [Act.put, List.setIfInBounds_toArray, List.set_cons_zero, List.set_cons_succ]
                have hh := @still_skip
                refine hh ?_ ?_
                · exact want_undef rfl (by kernel_rfl)
                clear hh
                try simp only [Act.put, List.setIfInBounds_toArray, List.set_cons_zero, List.set_cons_succ]
                have hh := @still_skip
                refine hh ?_ ?_
                · exact want_out true rfl (by kernel_rfl) rfl
                clear hh
                try simp only [Act.put, List.setIfInBounds_toArray, List.set_cons_zero, List.set_cons_succ]
                have hh := @still_takeE
                refine hh ?_ ?_ ?_ ?_
                rotate_left
                · exact want_free rfl
                · first | (go_simp; done) | (go_simp; with_reducible rfl) | (trace_state; fail)
                clear hh
                try simp only [Act.put, List.setIfInBounds_toArray, List.set_cons_zero, List.set_cons_succ]
                have hh := @still_takeE
                refine hh ?_ ?_ ?_ ?_
                rotate_left
                · exact want_free rfl
                · first | (go_simp; done) | (go_simp; with_reducible rfl) | (trace_state; fail)
                clear hh
                try simp only [Act.put, List.setIfInBounds_toArray, List.set_cons_zero, List.set_cons_succ]
                have hh := @wpStill_nil
                refine hh ?_
                clear hh
                have c1 : W5.drew.cell? ⟨gu, c, none⟩ = some (.bool true) := c1
                have f1 : W5.drew.frozen? ⟨gu, c, none⟩ = false := f1
                go_wp2_with fail
                go_roundw
                case rel => exact ⟨c + 1, M2, by simp, by have := HC.out; omega, Lib.hid (by have h := HPn.out.below ((Below.refl _ _).drew); rw [HX.out] at h; exact h), HIn⟩
                case measure => have := HC.out; first | (simp [intOf]; done) | (simp [intOf]; omega)
              case false =>
                have hh := @still_takeE
                refine hh ?_ ?_ ?_ ?_
                rotate_left
                · exact want_in false rfl (by kernel_rfl) rfl
                · first | (go_simp; done) | (go_simp; with_reducible rfl) | (trace_state; fail)
                clear hh
                try simp only [Act.put, List.setIfInBounds_toArray, List.set_cons_zero, List.set_cons_succ]
                have hh := @still_takeE
                refine hh ?_ ?_ ?_ ?_
                rotate_left
                · exact want_in false rfl (by kernel_rfl) rfl
                · first | (go_simp; done) | (go_simp; with_reducible rfl) | (trace_state; fail)
                clear hh
                try simp only [Act.put, List.setIfInBounds_toArray, List.set_cons_zero, List.set_cons_succ]
                have hh := @still_takeE
                refine hh ?_ ?_ ?_ ?_
                rotate_left
                · exact want_in false rfl (by kernel_rfl) rfl
                · first | (go_simp; done) | (go_simp; with_reducible rfl) | (trace_state; fail)
                clear hh
                try simp only [Act.put, List.setIfInBounds_toArray, List.set_cons_zero, List.set_cons_succ]
                have hh := @still_takeE
                refine hh ?_ ?_ ?_ ?_
                rotate_left
                · exact want_in false rfl (by kernel_rfl) rfl
                · first | (go_simp; done) | (go_simp; with_reducible rfl) | (trace_state; fail)
                clear hh
                try simp only [Act.put, List.setIfInBounds_toArray, List.set_cons_zero, List.set_cons_succ]
                have hh := @still_takeE
                refine hh ?_ ?_ ?_ ?_
                rotate_left
                · exact want_in false rfl (by kernel_rfl) rfl
                · first | (go_simp; done) | (go_simp; with_reducible rfl) | (trace_state; fail)
                clear hh
                try simp only [Act.put, List.setIfInBounds_toArray, List.set_cons_zero, List.set_cons_succ]
                have hh := @still_takeE
                refine hh ?_ ?_ ?_ ?_
                rotate_left
                · exact want_in false rfl (by kernel_rfl) rfl
                · first | (go_simp; done) | (go_simp; with_reducible rfl) | (trace_state; fail)
                clear hh
                try simp only [Act.put, List.setIfInBounds_toArray, List.set_cons_zero, List.set_cons_succ]
                have hh := @still_takeE
                refine hh ?_ ?_ ?_ ?_
                rotate_left
                · exact want_in false rfl (by kernel_rfl) rfl
                · first | (go_simp; done) | (go_simp; with_reducible rfl) | (trace_state; fail)
                clear hh
                try simp only [Act.put, List.setIfInBounds_toArray, List.set_cons_zero, List.set_cons_succ]
                have hh := @still_takeE
                refine hh ?_ ?_ ?_ ?_
                rotate_left
                · exact want_in false rfl (by kernel_rfl) rfl
                · first | (go_simp; done) | (go_simp; with_reducible rfl) | (trace_state; fail)
                clear hh
                try simp only [Act.put, List.setIfInBounds_toArray, List.set_cons_zero, List.set_cons_succ]
                cases x2
                case false =>
                  have hh := @still_skip
                  refine hh ?_ ?_
                  · exact want_out false rfl (by kernel_rfl) rfl
                  clear hh
                  try simp only [Act.put, List.setIfInBounds_toArray, List.set_cons_zero, List.set_cons_succ]
                  have hh := @still_skip
                  refine hh ?_ ?_
                  · exact want_out false rfl (by kernel_rfl) rfl
                  clear hh
                  try simp only [Act.put, List.setIfInBounds_toArray, List.set_cons_zero, List.set_cons_succ]
                  have hh := @still_skip
                  refine hh ?_ ?_
                  · exact want_out false rfl (by kernel_rfl) rfl
                  clear hh
                  try simp only [Act.put, List.setIfInBounds_toArray, List.set_cons_zero, List.set_cons_succ]
                  have hh := @still_skip
                  refine hh ?_ ?_
                  · exact want_out false rfl (by kernel_rfl) rfl
                  clear hh
                  try simp only [Act.put, List.setIfInBounds_toArray, List.set_cons_zero, List.set_cons_succ]
                  have hh := @still_skip
                  refine hh ?_ ?_
                  · exact want_out false rfl (by kernel_rfl) rfl
                  clear hh
                  try simp only [Act.put, List.setIfInBounds_toArray, List.set_cons_zero, List.set_cons_succ]
                  have hh := @still_skip
                  refine hh ?_ ?_
                  · exact want_out false rfl (by kernel_rfl) rfl
                  clear hh
                  try simp only [Act.put, List.setIfInBounds_toArray, List.set_cons_zero, List.set_cons_succ]
                  have hh := @still_skip
                  refine hh ?_ ?_
                  · exact want_out false rfl (by kernel_rfl) rfl
                  clear hh
                  try simp only [Act.put, List.setIfInBounds_toArray, List.set_cons_zero, List.set_cons_succ]
                  have hh := @still_takeE
                  refine hh ?_ ?_ ?_ ?_
                  rotate_left
                  · exact want_in false rfl (by kernel_rfl) rfl
                  · first | (go_simp; done) | (go_simp; with_reducible rfl) | (trace_state; fail)
                  clear hh
                  try simp only [Act.put, List.setIfInBounds_toArray, List.set_cons_zero, List.set_cons_succ]
                  have hh := @still_takeE
                  refine hh ?_ ?_ ?_ ?_
                  rotate_left
                  · exact want_free rfl
                  · first | (go_simp; done) | (go_simp; with_reducible rfl) | (trace_state; fail)
                  clear hh
                  try simp only [Act.put, List.setIfInBounds_toArray, List.set_cons_zero, List.set_cons_succ]
                  have hh := @still_takeE
                  refine hh ?_ ?_ ?_ ?_
                  rotate_left
                  · exact want_free rfl
                  · first | (go_simp; done) | (go_simp; with_reducible rfl) | (trace_state; fail)
                  clear hh
                  try simp only [Act.put, List.setIfInBounds_toArray, List.set_cons_zero, List.set_cons_succ]
                  have hh := @wpStill_nil
                  refine hh ?_
                  clear hh
                  have c1 : W5.drew.cell? ⟨gu, c, none⟩ = some (.bool false) := c1
                  have f1 : W5.drew.frozen? ⟨gu, c, none⟩ = false := f1
                  go_wp2_with fail
                  go_roundw
                  case rel => exact ⟨c + 1, M2, by simp, by have := HC.out; omega, Lib.hid (by have h := HPn.out.below ((Below.refl _ _).drew); rw [HX.out] at h; exact h), HIn⟩
                  case measure => have := HC.out; first | (simp [intOf]; done) | (simp [intOf]; omega)
                case true =>
                  have hh := @still_takeE
                  refine hh ?_ ?_ ?_ ?_
                  rotate_left
                  · exact want_in true rfl (by kernel_rfl) rfl
                  · first | (go_simp; done) | (go_simp; with_reducible rfl) | (trace_state; fail)
                  clear hh
                  try simp only [Act.put, List.setIfInBounds_toArray, List.set_cons_zero, List.set_cons_succ]
                  have hh := @still_takeE
                  refine hh ?_ ?_ ?_ ?_
                  rotate_left
                  · exact want_in true rfl (by kernel_rfl) rfl
                  · first | (go_simp; done) | (go_simp; with_reducible rfl) | (trace_state; fail)
                  clear hh
                  try simp only [Act.put, List.setIfInBounds_toArray, List.set_cons_zero, List.set_cons_succ]
                  have hh := @still_takeE
                  refine hh ?_ ?_ ?_ ?_
                  rotate_left
                  · exact want_in true rfl (by kernel_rfl) rfl
                  · first | (go_simp; done) | (go_simp; with_reducible rfl) | (trace_state; fail)
                  clear hh
                  try simp only [Act.put, List.setIfInBounds_toArray, List.set_cons_zero, List.set_cons_succ]
                  have hh := @still_takeE
                  refine hh ?_ ?_ ?_ ?_
                  rotate_left
                  · exact want_in true rfl (by kernel_rfl) rfl
                  · first | (go_simp; done) | (go_simp; with_reducible rfl) | (trace_state; fail)
                  clear hh
                  try simp only [Act.put, List.setIfInBounds_toArray, List.set_cons_zero, List.set_cons_succ]
                  have hh := @still_takeE
                  refine hh ?_ ?_ ?_ ?_
                  rotate_left
                  · exact want_in true rfl (by kernel_rfl) rfl
                  · first | (go_simp; done) | (go_simp; with_reducible rfl) | (trace_state; fail)
                  clear hh
                  try simp only [Act.put, List.setIfInBounds_toArray, List.set_cons_zero, List.set_cons_succ]
                  have hh := @still_takeE
                  refine hh ?_ ?_ ?_ ?_
                  rotate_left
                  · exact want_in true rfl (by kernel_rfl) rfl
                  · first | (go_simp; done) | (go_simp; with_reducible rfl) | (trace_state; fail)
                  clear hh
                  try simp only [Act.put, List.setIfInBounds_toArray, List.set_cons_zero, List.set_cons_succ]
                  have hh := @still_takeE
                  refine hh ?_ ?_ ?_ ?_
                  rotate_left
                  · exact want_in true rfl (by kernel_rfl) rfl
                  · first | (go_simp; done) | (go_simp; with_reducible rfl) | (trace_state; fail)
                  clear hh
                  try simp only [Act.put, List.setIfInBounds_toArray, List.set_cons_zero, List.set_cons_succ]
                  have hh := @still_takeE
                  refine hh ?_ ?_ ?_ ?_
                  rotate_left
                  · exact want_in false rfl (by kernel_rfl) rfl
                  · first | (go_simp; done) | (go_simp; with_reducible rfl) | (trace_state; fail)
                  clear hh
                  try simp only [Act.put, List.setIfInBounds_toArray, List.set_cons_zero, List.set_cons_succ]
                  have hh := @still_takeE
                  refine hh ?_ ?_ ?_ ?_
                  rotate_left
                  · exact want_free rfl
                  · first | (go_simp; done) | (go_simp; with_reducible rfl) | (trace_state; fail)
                  clear hh
                  try simp only [Act.put, List.setIfInBounds_toArray, List.set_cons_zero, List.set_cons_succ]
                  have hh := @still_takeE
                  refine hh ?_ ?_ ?_ ?_
                  rotate_left
                  · exact want_free rfl
                  · first | (go_simp; done) | (go_simp; with_reducible rfl) | (trace_state; fail)
                  clear hh
                  try simp only [Act.put, List.setIfInBounds_toArray, List.set_cons_zero, List.set_cons_succ]
                  have hh := @wpStill_nil
                  refine hh ?_
                  clear hh
                  have c1 : W5.drew.cell? ⟨gu, c, none⟩ = some (.bool false) := c1
                  have f1 : W5.drew.frozen? ⟨gu, c, none⟩ = false := f1
                  go_wp2_with fail
                  go_roundw
                  case rel => exact ⟨c + 1, M2, by simp, by have := HC.out; omega, Lib.hid (by have h := HPn.out.below ((Below.refl _ _).drew); rw [HX.out] at h; exact h), HIn⟩
                  case measure => have := HC.out; first | (simp [intOf]; done) | (simp [intOf]; omega)
        case neg =>
          obtain rfl : n = k := by omega
          have q2 : ((n : Int) < (n : Int)) = False := eq_false (by omega)
          have q2' : (n < n) = False := eq_false (by omega)
          have HM := Lib.hid (fun i j (hi : i < n) (hj : j < n) => hI.out.fin hi hj)
          have HPf := hP
          clear hP hI hlt hk
          go_wp2_with fail
          go_loopw [10, 11] (fun cc jj wr => ∃ (u : Nat), jj = .int .i64 u ∧ u ≤ n ∧ cc = .bool (anyD M u) ∧ wr = W3) (fun _ jj _ => n - (intOf jj).toNat)
          case atStart => exact ⟨0, rfl, Nat.zero_le _, rfl, rfl⟩
          case round =>
            obtain ⟨u, rfl, hu, rfl, hwr⟩ := hrel
            subst hwr
            rename World => W4
            by_cases hlt : u < n
            case pos =>
              have q3 : ((u : Int) < (n : Int)) = True := eq_true (by omega)
              have q3' : (u < n) = True := eq_true hlt
              have hu62 : u ≤ 9223372036854775806 := by omega
              have HU := Lib.hid hlt
              have pu := HPf.out.ptr hlt hlt
              obtain ⟨c1, _⟩ := HPf.out.cell (i := u) (j := u) hlt hlt
              have HS := Lib.hid (anyD_succ M u)
              generalize anyD M u = au at *
              generalize M u u = mu at *
              generalize G u = gu at *
              clear hlt hu
              cases au
              · go_wp2_with fail
                go_roundw
                case rel => exact ⟨u + 1, by simp, by have := HU.out; omega, by rw [HS.out]; simp, by simp⟩
                case measure => have := HU.out; first | (simp [intOf]; done) | (simp [intOf]; omega)
              · go_wp2_with fail
                go_roundw
                case rel => exact ⟨u + 1, by simp, by have := HU.out; omega, by rw [HS.out]; simp, by simp⟩
                case measure => have := HU.out; first | (simp [intOf]; done) | (simp [intOf]; omega)
            case neg =>
              obtain rfl : n = u := by omega
              have q3 : ((n : Int) < (n : Int)) = False := eq_false (by omega)
              have q3' : (n < n) = False := eq_false (by omega)
              have HBW := Lib.hid (show Below w2.heap.size w2 W4 by rw [HBs.out]; exact HPf.out.hb)
              have HOr := Lib.hid (HO.out W4 HBW.out)
              have HCi := Lib.hid (show R.isSome = !anyD M n by
                have h1 : anyD M n = true ↔ ∃ u, u < n ∧ TG E n u u := by
                  unfold anyD
                  rw [List.any_eq_true]
                  constructor
                  · rintro ⟨x, hx, h⟩
                    have hx := List.mem_range.1 hx
                    exact ⟨x, hx, (HM.out x x hx hx).1 h⟩
                  · rintro ⟨x, hx, h⟩
                    exact ⟨x, List.mem_range.2 hx, (HM.out x x hx hx).2 h⟩
                have h2 := HCc.out
                rw [← h1] at h2
                cases ha : anyD M n
                · rw [ha] at h2; rw [h2.2 (by simp)]; rfl
                · rw [ha] at h2
                  cases hr : R.isSome
                  · rfl
                  · exact absurd rfl (h2.1 hr))
              generalize anyD M n = ci at *
              clear hlt hu
              go_wp2_with fail
              refine HOr.out.mono ?_; rintro r w4 ⟨uo, ok, rfl, hok, hOo, hB4⟩
              have HB4 := Lib.hid (HBW.out.trans (hB4.mono HBW.out.size))
              have HP4 := Lib.hid (HPf.out.below hB4)
              have HOo := Lib.hid hOo
              have HAw := Lib.hid (fun m => HA.out (w4.drewN m))
              cases R with
              | none =>
                have h1 : ok = false := hok
                have h2 : ci = true := by have h := HCi.out; cases ci <;> simp_all
                subst h1 h2
                have hOl : (orI none).length = 0 := rfl
                rw [hOl] at hOo
                obtain ⟨oa, oc, rfl⟩ := owns_form hOo
                have q0 : ((0 : Int) < 0) = False := eq_false (by omega)
                clear hok hOo hB4 hOl
                go_wp2_with fail
                go_loopw [14] (fun jj wr => jj = .int .i64 0 ∧ wr = w4) (fun _ _ => 0)
                case atStart => exact ⟨rfl, rfl⟩
                case round =>
                  obtain ⟨rfl, hwr⟩ := hrel
                  have hwr := hwr.symm
                  subst hwr
                  go_wp2_with fail
                  refine (HAw.out 0).mono ?_; rintro r w5 ⟨rfl, hb5⟩
                  have HB5 := Lib.hid hb5
                  clear hb5
                  go_wp2_with fail
                  go_ret
                  exact ⟨rfl, HB4.out.trans (HB5.out.mono HB4.out.size)⟩
              | some o =>
                have h1 : ok = true := hok
                have h2 : ci = false := by have h := HCi.out; cases ci <;> simp_all
                subst h1 h2
                obtain ⟨hol, hap⟩ := HAp.out o rfl
                have hOl : (orI (some o)).length = n := hol
                rw [hOl] at hOo
                obtain ⟨oa, oc, rfl⟩ := owns_form hOo
                have HOw := Lib.hid (show w4.ownsRow W4.heap.size 3 1 (.slice oa n oc) n (iV (nI o)) from hOo)
                have HOol := Lib.hid hol
                have HFa := Lib.hid (show ∀ i k, i ≤ k → k < n → o.getD i 0 < n ∧ o.getD k 0 < n ∧ M (o.getD i 0) (o.getD k 0) = false by
                  intro i k hik hkn
                  have hk' : k < o.length := by omega
                  have e1 : o.getD i 0 = o[i]'(by omega) := by simp [List.getD, show i < o.length by omega]
                  have e2 : o.getD k 0 = o[k] := by simp [List.getD, hk']
                  have l1 : o.getD i 0 < n := HOl.out _ (by show _ ∈ o; rw [e1]; exact List.getElem_mem _)
                  have l2 : o.getD k 0 < n := HOl.out _ (by show _ ∈ o; rw [e2]; exact List.getElem_mem _)
                  refine ⟨l1, l2, ?_⟩
                  cases hm : M (o.getD i 0) (o.getD k 0)
                  · rfl
                  · have h := (HM.out _ _ l1 l2).1 hm
                    rw [e1, e2] at h
                    exact absurd h (hap i k hk' hik))
                have en : ((n : Int) != (n : Int)) = false := by simp
                clear hok hOo hB4 hOl hol hap
                go_wp2_with fail
                go_loopw [14] (fun jj wr => ∃ i m : Nat, jj = .int .i64 i ∧ i ≤ n ∧ wr = w4.drewN m) (fun jj _ => n - (intOf jj).toNat)
                case atStart => exact ⟨0, 0, rfl, Nat.zero_le _, rfl⟩
                case round =>
                  obtain ⟨i, m, rfl, hi, rfl⟩ := hrel
                  by_cases hlt : i < n
                  case neg =>
                    obtain rfl : n = i := by omega
                    have q4 : ((n : Int) < (n : Int)) = False := eq_false (by omega)
                    have q4' : (n < n) = False := eq_false (by omega)
                    clear hlt hi
                    go_wp2_with fail
                    refine (HAw.out m).mono ?_; rintro r w5 ⟨rfl, hb5⟩
                    have HB5 := Lib.hid (HB4.out.trans (((Below_drewN w4.heap.size w4 m).trans hb5).mono HB4.out.size))
                    clear hb5
                    go_wp2_with fail
                    go_ret
                    exact ⟨rfl, HB5.out⟩
                  have q4 : ((i : Int) < (n : Int)) = True := eq_true (by omega)
                  have q4' : (i < n) = True := eq_true hlt
                  have hi62 : i ≤ 9223372036854775806 := by omega
                  have HI := Lib.hid hlt
                  clear hlt hi
                  go_wp2_with fail
                  go_loopw [15] (fun jj wr => ∃ k m : Nat, jj = .int .i64 k ∧ i ≤ k ∧ k ≤ n ∧ wr = w4.drewN m) (fun jj _ => n - (intOf jj).toNat)
                  case atStart => exact ⟨i, m, rfl, Nat.le_refl _, by have := HI.out; omega, rfl⟩
                  case round =>
                    obtain ⟨k, m, rfl, hik, hk, rfl⟩ := hrel
                    by_cases hlt : k < n
                    case neg =>
                      obtain rfl : n = k := by omega
                      have q5 : ((n : Int) < (n : Int)) = False := eq_false (by omega)
                      have q5' : (n < n) = False := eq_false (by omega)
                      clear hlt hk
                      go_wp2_with fail
                      go_roundw
                      case rel => exact ⟨i + 1, m, by simp, by have := HI.out; omega, rfl⟩
                      case measure => have := HI.out; first | (simp [intOf]; done) | (simp [intOf]; omega)
                    have q5 : ((k : Int) < (n : Int)) = True := eq_true (by omega)
                    have q5' : (k < n) = True := eq_true hlt
                    have hk62 : k ≤ 9223372036854775806 := by omega
                    have HK := Lib.hid (And.intro hik hlt)
                    obtain ⟨hl1, hl2, hm0⟩ := HFa.out i k hik hlt
                    obtain ⟨go, hse, ci1, hn1, hn2, _⟩ := own_at HOw.out HI.out (z := ((o.getD i 0 : Nat) : Int)) (by simp [nI, List.getD, show i < o.length by rw [HOol.out]; exact HI.out])
                    obtain ⟨go2, hse2, ci2, _, _, _⟩ := own_at HOw.out hlt (z := ((o.getD k 0 : Nat) : Int)) (by simp [nI, List.getD, show k < o.length by rw [HOol.out]; exact hlt])
                    subst hse
                    obtain rfl : go = go2 := by injection hse2 with h; injection h
                    have pu := HP4.out.ptr hl1 hl1
                    obtain ⟨cc, _⟩ := HP4.out.cell (i := o.getD i 0) (j := o.getD k 0) hl1 hl2
                    rw [hm0] at cc
                    generalize hx1 : o.getD i 0 = x1 at *
                    generalize hx2 : o.getD k 0 = x2 at *
                    generalize G x1 = g1 at *
                    have r1 : ((x1 : Int) < 0) = False := eq_false (by omega)
                    have r2 : ((n : Int) ≤ (x1 : Int)) = False := eq_false (by omega)
                    have r2' : (n ≤ x1) = False := eq_false (by omega)
                    have r3 : ((x2 : Int) < 0) = False := eq_false (by omega)
                    have r4 : ((n : Int) ≤ (x2 : Int)) = False := eq_false (by omega)
                    have r4' : (n ≤ x2) = False := eq_false (by omega)
                    have r5 : ((x1 : Int) < (n : Int)) = True := eq_true (by omega)
                    have r5' : (x1 < n) = True := eq_true hl1
                    have r6 : ((x2 : Int) < (n : Int)) = True := eq_true (by omega)
                    have r6' : (x2 < n) = True := eq_true hl2
                    clear hlt hk hik hl1 hl2 hm0 hse2 hx1 hx2
                    go_wp2_with fail
                    go_quiet (fail)
                    go_wp2_with fail
                    go_roundw
                    case rel => exact ⟨k + 1, _, by simp, by have := HK.out.1; omega, by have := HK.out.2; omega, rfl⟩
                    case measure => have := HK.out.2; first | (simp [intOf]; done) | (simp [intOf]; omega)
end Go.Proofs.Ytmbnlihboilacaa
