/- The document's reaching, from any place. -/
import Derived.Test.YtkjafkegkllbiaaDmIdom
import Derived.Test.YtkjafkegkllbiaaPdB
namespace Go.Proofs.Ytkjafkegkllbiaa
open Go.RowKit
set_option linter.unusedSimpArgs false
set_option linter.unusedVariables false
open DM (rowN okN gI markF sweepF roundsF reachG)
set_option maxRecDepth 100000 in
set_option maxHeartbeats 8000000 in
theorem ref31_ReachG (v : Value) (next : List (List Int)) (s0 : Nat) (wo : Int) (w : World) (hv : RowR 1 gridR w v next) (hn : next.length ≤ 1024) (hs0 : s0 < next.length) :
    Calls Try.prog 24 #[v, .int .i64 (s0 : Int), .int .i64 wo] w fun r w' => ∃ u, r = .returned u ∧ w'.ownsRow w.heap.size 4 1 u next.length (bV1 (reachG next s0 wo)) ∧ Below w.heap.size w w' := by
  obtain ⟨i, hi, hz, hsize, hby⟩ : ∃ i, Try.prog.info? 4 = some i ∧ i.zero = some (.bool false) ∧ i.size = 1 ∧ i.bytes = 1 := ⟨(Try.prog.info? 4).get!, by kernel_rfl, by kernel_rfl, by kernel_rfl, by kernel_rfl⟩
  have HV := Lib.hid (fun W (h : Below w.heap.size w W) => hv.below gridR_stable h)
  have HV0 := Lib.hid hv
  obtain ⟨ad, cap, rfl⟩ := row_get hv
  obtain ⟨n, hN⟩ : ∃ n, next.length = n := ⟨_, rfl⟩
  have HN := Lib.hid hN
  have HRe := Lib.hid (show reachG next s0 wo = if n ≤ s0 ∨ (s0 : Int) = wo then List.replicate n false else roundsF next wo n ((List.replicate n false).set s0 true) by unfold reachG; rw [hN])
  rw [hN] at hn HV HV0 hs0 ⊢
  have hmk := fun W => run_make W 27 4 i _ Try.underlying27 hi hz .i64 .i64 (n : Int) (n : Int) (by omega) (by omega) (by rw [hby]; omega) (by omega)
  rw [hsize, Nat.mul_one, made_false, Int.toNat_natCast] at hmk
  have hF := owns_arr w (bV1 (List.replicate n false)).toArray 4 1 n (by simp [bV1]) (by unfold maxLen; omega)
  have HNB := Lib.hid hn
  have hn63 : n ≤ 9223372036854775807 := by omega
  obtain ⟨Z, hZ⟩ : ∃ Z, (bV1 (List.replicate n false)).toArray = Z := ⟨_, rfl⟩
  have HZ := Lib.hid (show Z.toList = bV1 (List.replicate n false) by rw [← hZ])
  rw [hZ] at hmk hF
  rw [HZ.out] at hF
  generalize reachG next s0 wo = RR at *
  clear hv hN hZ hn hi hz hsize hby
  have hZn : Z.size = n := by have := congrArg List.length HZ.out; simpa [bV1] using this
  have q00 : ((s0 : Int) < 0) = False := eq_false (by omega)
  have q0 : ((n : Int) ≤ (s0 : Int)) = False := eq_false (by omega)
  have q0' : (n ≤ s0) = False := eq_false (by omega)
  have q1 : ((s0 : Int) < (n : Int)) = True := eq_true (by omega)
  have q1' : (s0 < n) = True := eq_true hs0
  have h0 : ¬ n ≤ s0 := by omega
  by_cases hw0 : (s0 : Int) = wo
  · subst hw0
    have HF := Lib.hid (show (w.alloc (.cells Z 4)).ownsRow w.heap.size 4 1 (.slice (some ⟨w.heap.size, 0, none⟩) n n) n (bV1 RR) by rw [HRe.out, if_pos (.inr rfl)]; exact hF)
    clear hF h0 hs0 HRe
    go_enter Try.func24, Try.ntmps24
    go_wp2_with fail
    go_ret
    exact ⟨_, rfl, HF.out, by (repeat' (first | (with_reducible exact Below.refl _ _) | (with_reducible assumption) | (with_reducible refine below_drewN ?_ _) | (with_reducible refine Below.alloc ?_ ?_ _) | (with_reducible refine Below.drew ?_) | (with_reducible refine Below.setCell ?_ ?_ _) | go_size))⟩
  have ew : ((s0 : Int) == wo) = false := by simpa using hw0
  have HRe := Lib.hid (show RR = roundsF next wo n ((List.replicate n false).set s0 true) by rw [HRe.out, if_neg (by rintro (h | h); exact h0 h; exact hw0 h)])
  have f0 := hF.frozenAt s0
  have c0 := hF.cellAt s0 (by omega)
  have HO := Lib.hid (show (w.alloc (.cells (Z.setIfInBounds s0 (.bool true)) 4)).ownsRow w.heap.size 4 1 (.slice (some ⟨w.heap.size, 0, none⟩) n n) n (bV1 ((List.replicate n false).set s0 true)) by
    have k1 := owns_arr w (Z.setIfInBounds s0 (.bool true)) 4 1 n (by simp [hZn]) (by have := HNB.out; unfold maxLen; omega)
    rw [Array.toList_setIfInBounds, HZ.out, bV1_set] at k1
    exact k1)
  obtain ⟨z0, hz0⟩ : ∃ z0, (bV1 (List.replicate n false))[s0]? = some z0 := ⟨.bool false, by simp [bV1, List.getElem?_replicate]; omega⟩
  rw [hz0] at c0
  generalize (List.replicate n false).set s0 true = o0 at *
  clear hF h0 hs0 hw0 hz0 hZn
  go_enter Try.func24, Try.ntmps24
  go_upto_region 5 with fail
  obtain ⟨W0, hW0⟩ : ∃ W, W = w.alloc (.cells (Z.setIfInBounds s0 (.bool true)) 4) := ⟨_, rfl⟩
  rw [← hW0] at HO ⊢
  have HB0 := Lib.hid (show Below w.heap.size w W0 by rw [hW0]; exact by (repeat' (first | (with_reducible exact Below.refl _ _) | (with_reducible assumption) | (with_reducible refine below_drewN ?_ _) | (with_reducible refine Below.alloc ?_ ?_ _) | (with_reducible refine Below.drew ?_) | (with_reducible refine Below.setCell ?_ ?_ _) | go_size)))
  clear hW0 hmk f0 c0 q00 q0 q0' q1 q1' ew
  go_wp2_with fail
  go_loopw [8] (fun jj wr => ∃ t : Nat, t ≤ n ∧ jj = .int .i64 t ∧ Hid (wr.ownsRow w.heap.size 4 1 (.slice (some ⟨w.heap.size, 0, none⟩) n n) n (bV1 (roundsF next wo t o0))) ∧ Hid (Below w.heap.size w wr)) (fun jj _ => n - (intOf jj).toNat)
  case atStart => exact ⟨0, Nat.zero_le _, rfl, HO, HB0⟩
  case round =>
    obtain ⟨t, ht, rfl, hO, hB⟩ := hrel
    by_cases hlt : t < n
    case neg =>
      obtain rfl : n = t := by omega
      have q1 : ((n : Int) < (n : Int)) = False := eq_false (by omega)
      have q1' : (n < n) = False := eq_false (by omega)
      have HOo := Lib.hid (show wr.ownsRow w.heap.size 4 1 (.slice (some ⟨w.heap.size, 0, none⟩) n n) n (bV1 RR) by rw [HRe.out]; exact hO.out)
      clear hO hlt ht HRe
      go_wp2_with fail
      go_ret
      exact ⟨_, rfl, HOo.out, hB.out⟩
    have q1 : ((t : Int) < (n : Int)) = True := eq_true (by omega)
    have q1' : (t < n) = True := eq_true hlt
    have ht62 : t ≤ 9223372036854775806 := by omega
    have HT := Lib.hid hlt
    have HSt := Lib.hid (show sweepF next wo n (roundsF next wo t o0) = roundsF next wo (t + 1) o0 by show _ = sweepF next wo next.length _; rw [HN.out])
    have HO1 := hO
    have HB1 := hB
    generalize roundsF next wo t o0 = oc at *
    clear hlt ht hO hB
    go_wp2_with fail
    go_loopw [9] (fun jj wr2 => ∃ i : Nat, i ≤ n ∧ jj = .int .i64 i ∧ Hid (wr2.ownsRow w.heap.size 4 1 (.slice (some ⟨w.heap.size, 0, none⟩) n n) n (bV1 (sweepF next wo i oc))) ∧ Hid (Below w.heap.size w wr2)) (fun jj _ => n - (intOf jj).toNat)
    case atStart => exact ⟨0, Nat.zero_le _, rfl, HO1, HB1⟩
    case round =>
      obtain ⟨i, hi, rfl, hO, hB⟩ := hrel
      by_cases hlt : i < n
      case neg =>
        obtain rfl : n = i := by omega
        have q3 : ((n : Int) < (n : Int)) = False := eq_false (by omega)
        have q3' : (n < n) = False := eq_false (by omega)
        rw [HSt.out] at hO
        clear hlt hi
        go_wp2_with fail
        go_roundw
        case rel => exact ⟨t + 1, by have := HT.out; omega, by simp, hO, hB⟩
        case measure => have := HT.out; first | (simp [intOf]; done) | (simp [intOf]; omega)
      have q3 : ((i : Int) < (n : Int)) = True := eq_true (by omega)
      have q3' : (i < n) = True := eq_true hlt
      have hi62 : i ≤ 9223372036854775806 := by omega
      have HI := Lib.hid hlt
      obtain ⟨l, hl⟩ := get_some (L := next) (n := i) (by rw [HN.out]; exact hlt)
      have hrowN : rowN next i = l := by unfold rowN; simp [List.getD, hl]
      obtain ⟨bn, on', sl, sc, rfl, hbn, hnN, hcN, cn0, hL⟩ := grid_at HV0.out hl
      have HCn := Lib.hid (fun (W : World) (h : Below w.heap.size w W) => (h.cell (p := ⟨bn, on' + i, none⟩) hbn).trans cn0)
      have HLr := Lib.hid (fun (W : World) (h : Below w.heap.size w W) => hL.below intR_stable h)
      obtain ⟨Lr, hLr⟩ : ∃ L, l.length = L := ⟨_, rfl⟩
      have HLl := Lib.hid hLr
      have hLr63 := hL.len
      rw [hLr] at HCn HLr hLr63
      have HSw := Lib.hid (show sweepF next wo (i + 1) oc = if (sweepF next wo i oc).getD i false = true then markF n wo l (sweepF next wo i oc) else sweepF next wo i oc by
        show (let p := sweepF next wo i oc; if p.getD i false = true then markF next.length wo (rowN next i) p else p) = _
        rw [HN.out, hrowN])
      have HO2 := hO
      have HB2 := hB
      generalize hsw : sweepF next wo i oc = p at *
      obtain ⟨p', hp'⟩ : ∃ X, sweepF next wo (i + 1) oc = X := ⟨_, rfl⟩
      have HPp := Lib.hid hp'
      rw [hp'] at HSw
      clear hp'
      clear hsw hlt hi hO hB hL hLr hl hrowN cn0
      go_wp2_with fail
      go_loopw [10] (fun jj wr3 => ∃ (k : Nat) (cur : List Bool), k ≤ Lr ∧ jj = .int .i64 k ∧ Hid ((if cur.getD i false = true then markF n wo (l.drop k) cur else cur) = p' ∧ cur.length = n) ∧ Hid (wr3.ownsRow w.heap.size 4 1 (.slice (some ⟨w.heap.size, 0, none⟩) n n) n (bV1 cur)) ∧ Hid (Below w.heap.size w wr3)) (fun jj _ => Lr - (intOf jj).toNat)
      case atStart => exact ⟨0, p, Nat.zero_le _, rfl, Lib.hid ⟨HSw.out.symm, by have := HO2.out.1; rw [bV1_len] at this; omega⟩, HO2, HB2⟩
      case round =>
        obtain ⟨k, cur, hk, rfl, hC, hO, hB⟩ := hrel
        have cn := HCn.out _ hB.out
        have ci := owns_bool_at hO.out HI.out false
        by_cases hlt : k < Lr
        case neg =>
          obtain rfl : Lr = k := by omega
          have q4 : ((Lr : Int) < (Lr : Int)) = False := eq_false (by omega)
          have q4' : (Lr < Lr) = False := eq_false (by omega)
          have hce : cur = p' := by
            have h := hC.out.1
            rw [List.drop_of_length_le (by rw [HLl.out]; exact Nat.le_refl _)] at h
            split at h <;> exact h
          have HOo := Lib.hid (show wr.ownsRow w.heap.size 4 1 (.slice (some ⟨w.heap.size, 0, none⟩) n n) n (bV1 (sweepF next wo (i + 1) oc)) by rw [HPp.out, ← hce]; exact hO.out)
          clear hC hlt hk hce
          go_wp2_with fail
          go_roundw
          case rel => exact ⟨i + 1, by have := HI.out; omega, by simp, HOo, hB⟩
          case measure => have := HI.out; first | (simp [intOf]; done) | (simp [intOf]; omega)
        have q4 : ((k : Int) < (Lr : Int)) = True := eq_true (by omega)
        have q4' : (k < Lr) = True := eq_true hlt
        have hk62 : k ≤ 9223372036854775806 := by omega
        have HK := Lib.hid hlt
        cases hci : cur.getD i false
        case false =>
          rw [hci] at ci
          have hce : cur = p' := by have h := hC.out.1; rw [hci, if_neg (by simp)] at h; exact h
          have HOo := Lib.hid (show wr.ownsRow w.heap.size 4 1 (.slice (some ⟨w.heap.size, 0, none⟩) n n) n (bV1 (sweepF next wo (i + 1) oc)) by rw [HPp.out, ← hce]; exact hO.out)
          clear hC hlt hk hce hci
          go_wp2_with fail
          go_roundw
          case rel => exact ⟨i + 1, by have := HI.out; omega, by simp, HOo, hB⟩
          case measure => have := HI.out; first | (simp [intOf]; done) | (simp [intOf]; omega)
        rw [hci] at ci
        obtain ⟨bl, ol, hse, hbl, hnl, hcl, cl1, _⟩ := int_at (HLr.out _ hB.out) (k := k) (by rw [HLl.out]; exact hlt)
        subst hse
        obtain ⟨T, hT⟩ : ∃ T, l.getD k 0 = T := ⟨_, rfl⟩
        have HC := Lib.hid (show markF n wo (l.drop (k + 1)) (if okN n T = true ∧ T ≠ wo then cur.set T.toNat true else cur) = p' by
          have h := hC.out.1
          rw [hci, if_pos rfl, List.drop_eq_getElem_cons (by rw [HLl.out]; exact hlt)] at h
          have : l[k]'(by rw [HLl.out]; exact hlt) = T := by rw [← hT]; simp [List.getD, HLl.out, hlt]
          rw [this] at h
          exact h)
        have HCI := Lib.hid hci
        have HCL := Lib.hid hC.out.2
        rw [hT] at cl1
        clear hT hC hci hlt hk
        by_cases h0 : 0 ≤ T
        case neg =>
          have p0 : (0 ≤ T) = False := eq_false h0
          have HC := Lib.hid (show markF n wo (l.drop (k + 1)) cur = p' by
            have h := HC.out
            rwa [if_neg (fun h => h0 (of_decide_eq_true h.1).1)] at h)
          clear h0
          go_wp2_with fail
          go_roundw
          case rel => exact ⟨k + 1, cur, by have := HK.out; omega, by simp, Lib.hid ⟨by rw [if_pos HCI.out]; exact HC.out, HCL.out⟩, hO, hB⟩
          case measure => have := HK.out; first | (simp [intOf]; done) | (simp [intOf]; omega)
        obtain ⟨u, rfl⟩ : ∃ u : Nat, T = (u : Int) := ⟨T.toNat, by omega⟩
        rw [Int.toNat_natCast] at HC
        by_cases hun : u < n
        case neg =>
          have p1 : ((u : Int) < (n : Int)) = False := eq_false (by omega)
          have p1' : (u < n) = False := eq_false hun
          have HC := Lib.hid (show markF n wo (l.drop (k + 1)) cur = p' by
            have h := HC.out
            rwa [if_neg (fun h => hun (by have := (of_decide_eq_true h.1).2; omega))] at h)
          clear h0 hun
          go_wp2_with fail
          go_roundw
          case rel => exact ⟨k + 1, cur, by have := HK.out; omega, by simp, Lib.hid ⟨by rw [if_pos HCI.out]; exact HC.out, HCL.out⟩, hO, hB⟩
          case measure => have := HK.out; first | (simp [intOf]; done) | (simp [intOf]; omega)
        have p1 : ((u : Int) < (n : Int)) = True := eq_true (by omega)
        have p1' : (u < n) = True := eq_true hun
        have hok : okN n (u : Int) = true := decide_eq_true (by omega)
        by_cases huw : (u : Int) = wo
        case pos =>
          have p2 : ((u : Int) != wo) = false := by simpa using huw
          have HC := Lib.hid (show markF n wo (l.drop (k + 1)) cur = p' by
            have h := HC.out
            rwa [if_neg (fun h => h.2 huw)] at h)
          clear h0 hun hok huw
          go_wp2_with fail
          go_roundw
          case rel => exact ⟨k + 1, cur, by have := HK.out; omega, by simp, Lib.hid ⟨by rw [if_pos HCI.out]; exact HC.out, HCL.out⟩, hO, hB⟩
          case measure => have := HK.out; first | (simp [intOf]; done) | (simp [intOf]; omega)
        have p2 : ((u : Int) != wo) = true := by simpa using huw
        have HC := Lib.hid (show markF n wo (l.drop (k + 1)) (cur.set u true) = p' by
          have h := HC.out
          rwa [if_pos ⟨hok, huw⟩] at h)
        have cu := owns_bool_at hO.out hun false
        have fu := hO.out.frozenAt u
        generalize cur.getD u false = zu at *
        have HO3 := Lib.hid (show (wr.setCell ⟨w.heap.size, u, none⟩ (.bool true)).ownsRow w.heap.size 4 1 (.slice (some ⟨w.heap.size, 0, none⟩) n n) n (bV1 (cur.set u true)) by rw [← bV1_set]; exact (hO.out.stored u (.bool true)).1)
        have HB3 := Lib.hid (show Below w.heap.size w (wr.setCell ⟨w.heap.size, u, none⟩ (.bool true)) from hB.out.setCell (p := ⟨w.heap.size, u, none⟩) (Nat.le_refl _) _)
        have HCI3 := Lib.hid (show (cur.set u true).getD i false = true from DM.getD_set_f.2 (.inl HCI.out))
        clear h0 hun hok huw hO hB
        go_wp2_with fail
        go_roundw
        case rel => exact ⟨k + 1, cur.set u true, by have := HK.out; omega, by simp, Lib.hid ⟨by rw [if_pos HCI3.out]; exact HC.out, by rw [List.length_set]; exact HCL.out⟩, HO3, HB3⟩
        case measure => have := HK.out; first | (simp [intOf]; done) | (simp [intOf]; omega)
end Go.Proofs.Ytkjafkegkllbiaa
