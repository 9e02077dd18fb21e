/- pdom.Nearest, pdom.Ends. -/
import Derived.Test.YtkjafkegkllbiaaPdT
import Derived.Test.YtkjafkegkllbiaaPdE
namespace Go.Proofs.Ytkjafkegkllbiaa
open Go.RowKit
set_option linter.unusedSimpArgs false
set_option linter.unusedVariables false
open DM (turnF nearP upN Fine gI okN)
/-- the first k are there -/
def fillT {α : Type} (L : List α) (z : α) (k : Nat) : List α := L.take k ++ List.replicate (L.length - k) z
theorem fill_zero {α : Type} (L : List α) (z : α) : fillT L z 0 = List.replicate L.length z := by simp [fillT]
theorem fill_all {α : Type} (L : List α) (z : α) {k : Nat} (h : L.length ≤ k) : fillT L z k = L := by
  unfold fillT
  rw [List.take_of_length_le h, show L.length - k = 0 by omega]; simp
theorem fill_set {α : Type} {L : List α} {z x : α} {k : Nat} (h : L[k]? = some x) : (fillT L z k).set k x = fillT L z (k + 1) := by
  have hk := lt_of_get h
  obtain ⟨m, hm⟩ : ∃ m, L.length - k = m + 1 := ⟨L.length - k - 1, by omega⟩
  unfold fillT
  rw [hm, show L.length - (k + 1) = m by omega, List.replicate_succ, List.set_append_right _ _ (by simp; omega), List.length_take, show k - min k L.length = 0 by omega, List.set_cons_zero, List.take_add_one, h, List.append_assoc]
  rfl
set_option maxRecDepth 100000 in
set_option maxHeartbeats 8000000 in
theorem pdom_Nearest (v : Value) (next : List (List Int)) (w : World) (hv : RowR 1 gridR w v next) (hn : next.length ≤ 20) (hrl : ∀ l ∈ next, l.length ≤ 40) :
    Calls Try.prog 7 #[v] w fun r w' => ∃ u, r = .returned u ∧ w'.ownsRow w.heap.size 3 1 u next.length (iV (nearP next)) ∧ Below w.heap.size w w' ∧ ∀ z ∈ nearP next, I64 z := by
  obtain ⟨i2, hi2, hz2, hsize2, hby2⟩ : ∃ i, Try.prog.info? 3 = some i ∧ i.zero = some (.int .i64 0) ∧ i.size = 1 ∧ i.bytes = 8 := ⟨(Try.prog.info? 3).get!, by kernel_rfl, by kernel_rfl, by kernel_rfl, by kernel_rfl⟩
  obtain ⟨K, d, K2, N2, DF, t0, t1, t2, t3, t4, t5, t6⟩ := DM.turned_told next
  have hlen := DM.turn_len next
  have HTu := Lib.hid (fun W (h : Below w.heap.size w W) => pdom_Turned 40 v next W (hv.below gridR_stable h) (by omega) (by omega) hrl)
  have HId := Lib.hid (fun u W (hu : RowR 1 gridR W u (turnF next)) (hb : ∀ l ∈ turnF next, l.length ≤ 1024) => dom_Idom u (turnF next) W hu (by omega) hb K d (.inr ⟨t0, t1⟩) t2 t3 K2 N2 DF t4)
  obtain ⟨ad, cap, rfl⟩ := row_get hv
  obtain ⟨n, hN⟩ : ∃ n, next.length = n := ⟨_, rfl⟩
  have HN := Lib.hid hN
  have hnl := DM.near_len next
  rw [hlen] at HId
  rw [hN] at hn hnl HId HTu t5 t6 ⊢
  have hmk := fun W => run_make W 25 3 i2 _ Try.underlying25 hi2 hz2 .i64 .i64 (n : Int) (n : Int) (by omega) (by omega) (by rw [hby2]; omega) (by omega)
  rw [hsize2, Nat.mul_one, madeI, Int.toNat_natCast] at hmk
  have HB := Lib.hid hn
  have hn62 : n ≤ 9223372036854775806 := by omega
  obtain ⟨ZI, hZI⟩ : ∃ Z, (iV (List.replicate n 0)).toArray = Z := ⟨_, rfl⟩
  rw [hZI] at hmk
  obtain ⟨s, hs⟩ : ∃ s, w.heap.size = s := ⟨_, rfl⟩
  have HSz := Lib.hid hs
  have HNP := Lib.hid (And.intro hnl t6)
  obtain ⟨NP, hNP⟩ : ∃ X, nearP next = X := ⟨_, rfl⟩
  rw [hNP] at HNP ⊢
  have HP0 := Lib.hid (show (w.alloc (.cells ZI 3)).ownsRow s 3 1 (.slice (some ⟨s, 0, none⟩) n n) n (iV (fillT NP 0 0)) ∧ Below s w (w.alloc (.cells ZI 3)) ∧ s + 1 ≤ (w.alloc (.cells ZI 3)).heap.size by
    subst hs
    have k1 := owns_arr w ZI 3 1 n (by rw [← hZI]; simp [iV]) (by unfold maxLen; omega)
    rw [← hZI] at k1 ⊢
    refine ⟨?_, by (repeat' (first | (with_reducible exact Below.refl _ _) | (with_reducible assumption) | (with_reducible refine below_drewN ?_ _) | (with_reducible refine Below.alloc ?_ ?_ _) | (with_reducible refine Below.drew ?_) | (with_reducible refine Below.setCell ?_ ?_ _) | go_size)), by simp⟩
    rw [fill_zero, HNP.out.1]; exact k1)
  clear hv hlen hN hn hnl t0 t1 t2 t3 t4 t6 hZI hNP hrl hi2 hz2 hsize2 hby2
  go_enter Try.func7, Try.ntmps7
  go_upto_region 2 with fail
  obtain ⟨W0, hW0⟩ : ∃ W, W = w.alloc (.cells ZI 3) := ⟨_, rfl⟩
  rw [← hW0] at HP0 ⊢
  clear hmk hW0
  go_wp2_with fail
  refine (HTu.out _ (by rw [HSz.out]; exact HP0.out.2.1)).mono ?_; rintro r W1 ⟨u1, rfl, hG1, hB1, hbd⟩
  have HId1 := Lib.hid (HId.out u1 W1 hG1 (fun l hl => by have := hbd l hl; have := HB.out; omega))
  have HP1 := Lib.hid (show W1.ownsRow s 3 1 (.slice (some ⟨s, 0, none⟩) n n) n (iV (fillT NP 0 0)) ∧ Below s w W1 ∧ s + 1 ≤ W1.heap.size from ⟨owns_below HP0.out.1 hB1, HP0.out.2.1.trans (hB1.mono (by have := HP0.out.2.2; omega)), Nat.le_trans HP0.out.2.2 hB1.size⟩)
  clear hG1 hB1 hbd
  go_wp2_with fail
  refine HId1.out.mono ?_; rintro r W2 ⟨u2, rfl, hO2, hB2, hF2, hL2⟩
  have HP2 := Lib.hid (show W2.ownsRow s 3 1 (.slice (some ⟨s, 0, none⟩) n n) n (iV (fillT NP 0 0)) ∧ Below s w W2 ∧ W2.ownsRow (s + 1) 3 1 u2 (n + 1) (iV DF) from ⟨owns_below HP1.out.1 hB2, HP1.out.2.1.trans (hB2.mono (by have := HP1.out.2.2; omega)), own_low hO2 HP1.out.2.2⟩)
  have HFi := Lib.hid (And.intro hF2 hL2)
  obtain ⟨g, c, rfl, hc1, hc2⟩ : ∃ g c, u2 = .slice (some ⟨g, 0, none⟩) (n + 1) c ∧ n + 1 ≤ c ∧ c ≤ 9223372036854775807 := by
    rcases hO2.2 with ⟨_, h0⟩ | ⟨g, cap, cur, h1, _, _, h2, h3, _⟩
    · omega
    · exact ⟨g, cap, h1, h2, h3⟩
  clear hO2 hB2 hF2 hL2 HP0 HP1
  have HI64 := Lib.hid (show ∀ z ∈ NP, I64 z from fun z hz => by
    rw [HNP.out.2] at hz
    obtain ⟨y, hy, rfl⟩ := List.mem_map.1 hz
    have h1 := fine_i64 HFi.out.1 HFi.out.2 (by have := HB.out; omega) y (List.mem_of_mem_drop hy)
    have := HB.out
    unfold upN I64 at *
    split
    · omega
    · split <;> omega)
  have HFn := Lib.hid (show ∀ y ∈ DF, y = -1 ∨ ∃ p : Nat, y = (p : Int) ∧ p ≤ n from fun y hy => by
    obtain ⟨i, hi, rfl⟩ := List.getElem_of_mem hy
    have h := HFi.out.1 i hi
    have e : gI DF i = DF[i] := by unfold gI; simp [List.getD, hi]
    rw [e] at h
    rcases h with h | h
    · exact .inl h
    · have h := of_decide_eq_true h
      rw [HFi.out.2] at h
      exact .inr ⟨(DF[i]).toNat, by omega, by omega⟩)
  clear hs
  by_cases h0 : n = 0
  · subst h0
    go_wp2_with fail
    all_goals (
      go_loopw [14] (fun jj wr => jj = .int .i64 0 ∧ wr = W2) (fun _ _ => 0)
      case atStart => exact ⟨rfl, rfl⟩
      case round =>
        obtain ⟨rfl, hwr⟩ := hrel
        have hwr := hwr.symm
        subst hwr
        have HOo := Lib.hid (show W2.ownsRow w.heap.size 3 1 (.slice (some ⟨s, 0, none⟩) 0 0) 0 (iV NP) ∧ Below w.heap.size w W2 by
          have h := HP2.out.1
          rw [fill_all _ _ (by rw [HNP.out.1]; exact Nat.zero_le _)] at h
          rw [HSz.out]
          exact ⟨h, HP2.out.2.1⟩)
        clear HP2
        go_wp2_with fail
        go_ret
        exact ⟨_, rfl, HOo.out.1, HOo.out.2, HI64.out⟩)
  have hc3 : (c = 1) = False := eq_false (by omega)
  have hc4 : (1 = c) = False := eq_false (by omega)
  clear h0
  go_wp2_with fail
  go_loopw [14] (fun jj wr => ∃ k : Nat, jj = .int .i64 k ∧ k ≤ n ∧ Hid (wr.ownsRow s 3 1 (.slice (some ⟨s, 0, none⟩) n n) n (iV (fillT NP 0 k)) ∧ Below s w wr ∧ wr.ownsRow (s + 1) 3 1 (.slice (some ⟨g, 0, none⟩) (n + 1) c) (n + 1) (iV DF))) (fun jj _ => n - (intOf jj).toNat)
  case atStart => exact ⟨0, rfl, Nat.zero_le _, HP2⟩
  case round =>
    obtain ⟨k, rfl, hk, hP⟩ := hrel
    by_cases hlt : k < n
    case neg =>
      obtain rfl : n = k := by omega
      have q1 : ((n : Int) < (n : Int)) = False := eq_false (by omega)
      have q1' : (n < n) = False := eq_false (by omega)
      have HOo := Lib.hid (show wr.ownsRow w.heap.size 3 1 (.slice (some ⟨s, 0, none⟩) n n) n (iV NP) ∧ Below w.heap.size w wr by
        have h := hP.out.1
        rw [fill_all _ _ (by rw [HNP.out.1]; exact Nat.le_refl _)] at h
        rw [HSz.out]
        exact ⟨h, hP.out.2.1⟩)
      clear hP hlt hk
      go_wp2_with fail
      go_ret
      exact ⟨_, rfl, HOo.out.1, HOo.out.2, HI64.out⟩
    have q1 : ((k : Int) < (n : Int)) = True := eq_true (by omega)
    have q1' : (k < n) = True := eq_true hlt
    have hk62 : k ≤ 9223372036854775806 := by omega
    have HK := Lib.hid hlt
    obtain ⟨z, hz⟩ := get_some (L := DF) (n := 1 + k) (by omega)
    obtain ⟨g', hg', cz, _, _, _⟩ := own_at hP.out.2.2 (show 1 + k < n + 1 by omega) hz
    cases hg'
    have hNz : NP[k]? = some (upN n z) := by rw [HNP.out.2, List.getElem?_map, List.getElem?_drop, hz]; rfl
    have fo := hP.out.1.frozenAt k
    obtain ⟨y, cy⟩ : ∃ y, wr.cell? ⟨s, k, none⟩ = some y := by
      obtain ⟨y, hy⟩ := get_some (L := iV (fillT NP 0 k)) (n := k) (by have := hP.out.1.1; omega)
      exact ⟨y, by rw [hP.out.1.cellAt k (by omega), hy]⟩
    have HN2 := Lib.hid (show ∀ x, x = upN n z → (wr.setCell ⟨s, k, none⟩ (.int .i64 x)).ownsRow s 3 1 (.slice (some ⟨s, 0, none⟩) n n) n (iV (fillT NP 0 (k + 1))) ∧ Below s w (wr.setCell ⟨s, k, none⟩ (.int .i64 x)) ∧ (wr.setCell ⟨s, k, none⟩ (.int .i64 x)).ownsRow (s + 1) 3 1 (.slice (some ⟨g, 0, none⟩) (n + 1) c) (n + 1) (iV DF) from fun x hx => by
      subst hx
      refine ⟨?_, hP.out.2.1.setCell (p := ⟨s, k, none⟩) (Nat.le_refl _) _, owns_set hP.out.2.2 (fun hh => by have := (owns_lt hP.out.2.2 hh).1; omega)⟩
      rw [← fill_set hNz, iV_set]
      exact (hP.out.1.stored k _).1)
    rcases HFn.out z (List.mem_of_getElem? hz) with rfl | ⟨p, rfl, hp⟩
    · have HN3 := Lib.hid (HN2.out (-1) (by unfold upN; rfl))
      clear hP hlt hk hz hNz HN2
      go_wp2_with fail
      go_roundw
      case rel => exact ⟨k + 1, by simp, by have := HK.out; omega, HN3⟩
      case measure => have := HK.out; first | (simp [intOf]; done) | (simp [intOf]; omega)
    · have p0 : ((p : Int) < 0) = False := eq_false (by omega)
      cases p with
      | zero =>
        have HN3 := Lib.hid (HN2.out (n : Int) (by unfold upN; rfl))
        clear hP hlt hk hz hNz HN2
        go_wp2_with fail
        go_roundw
        case rel => exact ⟨k + 1, by simp, by have := HK.out; omega, HN3⟩
        case measure => have := HK.out; first | (simp [intOf]; done) | (simp [intOf]; omega)
      | succ p =>
        have p1 : (((p + 1 : Nat) : Int) = 0) = False := eq_false (by omega)
        have p2 : ((p + 1 : Nat) : Int) - 1 = (p : Int) := by omega
        have HN3 := Lib.hid (HN2.out (p : Int) (by unfold upN; rw [if_neg (by omega), if_neg (by omega)]; omega))
        have hp62 : p ≤ 9223372036854775806 := by omega
        clear hP hlt hk hz hNz HN2 hp
        go_wp2_with fail
        go_roundw
        case rel => exact ⟨k + 1, by simp, by have := HK.out; omega, HN3⟩
        case measure => have := HK.out; first | (simp [intOf]; done) | (simp [intOf]; omega)
set_option maxHeartbeats 4000000 in
theorem pdom_Ends (v : Value) (next : List (List Int)) (w : World) (hv : RowR 1 gridR w v next) (hn : next.length ≤ 20) (hrl : ∀ l ∈ next, l.length ≤ 40) :
    Calls Try.prog 9 #[v] w fun r w' => ∃ u, r = .returned u ∧ w'.ownsRow w.heap.size 4 1 u next.length (bV1 ((nearP next).map fun z => decide (0 ≤ z))) ∧ Below w.heap.size w w' := by
  obtain ⟨i, hi, hz, hsize, hby⟩ : ∃ i, Try.prog.info? 4 = some i ∧ i.zero = some (.bool false) ∧ i.size = 1 ∧ i.bytes = 1 := ⟨(Try.prog.info? 4).get!, by kernel_rfl, by kernel_rfl, by kernel_rfl, by kernel_rfl⟩
  have HNr := Lib.hid (fun W (h : Below w.heap.size w W) => pdom_Nearest v next W (hv.below gridR_stable h) hn hrl)
  obtain ⟨ad, cap, rfl⟩ := row_get hv
  obtain ⟨n, hN⟩ : ∃ n, next.length = n := ⟨_, rfl⟩
  have hnl := DM.near_len next
  rw [hN] at hn hnl HNr ⊢
  have hmk := fun W => run_make W 27 4 i _ Try.underlying27 hi hz .i64 .i64 (n : Int) (n : Int) (by omega) (by omega) (by rw [hby]; omega) (by omega)
  rw [hsize, Nat.mul_one, made_false, Int.toNat_natCast] at hmk
  have hn62 : n ≤ 9223372036854775806 := by omega
  obtain ⟨Z, hZ⟩ : ∃ Z, (bV1 (List.replicate n false)).toArray = Z := ⟨_, rfl⟩
  rw [hZ] at hmk
  obtain ⟨s, hs⟩ : ∃ s, w.heap.size = s := ⟨_, rfl⟩
  have HSz := Lib.hid hs
  obtain ⟨NP, hNP⟩ : ∃ X, nearP next = X := ⟨_, rfl⟩
  rw [hNP] at HNr hnl ⊢
  obtain ⟨BP, hBP⟩ : ∃ X, (NP.map fun z => decide (0 ≤ z)) = X := ⟨_, rfl⟩
  have HBP := Lib.hid hBP
  have hbl : BP.length = n := by rw [← hBP, List.length_map]; exact hnl
  rw [hBP]
  have HNl := Lib.hid (And.intro hnl hbl)
  have HP0 := Lib.hid (show (w.alloc (.cells Z 4)).ownsRow s 4 1 (.slice (some ⟨s, 0, none⟩) n n) n (bV1 (fillT BP false 0)) ∧ Below s w (w.alloc (.cells Z 4)) ∧ s + 1 ≤ (w.alloc (.cells Z 4)).heap.size by
    subst hs
    have k1 := owns_arr w Z 4 1 n (by rw [← hZ]; simp [bV1]) (by unfold maxLen; omega)
    rw [← hZ] at k1 ⊢
    refine ⟨?_, by (repeat' (first | (with_reducible exact Below.refl _ _) | (with_reducible assumption) | (with_reducible refine below_drewN ?_ _) | (with_reducible refine Below.alloc ?_ ?_ _) | (with_reducible refine Below.drew ?_) | (with_reducible refine Below.setCell ?_ ?_ _) | go_size)), by simp⟩
    rw [fill_zero, hbl]; exact k1)
  clear hv hN hn hnl hbl hZ hNP hBP hrl hi hz hsize hby
  go_enter Try.func9, Try.ntmps9
  go_upto_region 2 with fail
  obtain ⟨W0, hW0⟩ : ∃ W, W = w.alloc (.cells Z 4) := ⟨_, rfl⟩
  rw [← hW0] at HP0 ⊢
  clear hmk hW0
  go_wp2_with fail
  refine (HNr.out _ (by rw [HSz.out]; exact HP0.out.2.1)).mono ?_; rintro r W1 ⟨u1, rfl, hO1, hB1, hI1⟩
  have HP1 := Lib.hid (show W1.ownsRow s 4 1 (.slice (some ⟨s, 0, none⟩) n n) n (bV1 (fillT BP false 0)) ∧ Below s w W1 ∧ W1.ownsRow (s + 1) 3 1 u1 n (iV NP) from ⟨owns_below HP0.out.1 hB1, HP0.out.2.1.trans (hB1.mono (by have := HP0.out.2.2; omega)), own_low hO1 HP0.out.2.2⟩)
  obtain ⟨ua, uc, rfl⟩ := owns_form hO1
  clear hO1 hB1 hI1 HP0 hs
  go_wp2_with fail
  go_loopw [12] (fun jj wr => ∃ k : Nat, jj = .int .i64 k ∧ k ≤ n ∧ Hid (wr.ownsRow s 4 1 (.slice (some ⟨s, 0, none⟩) n n) n (bV1 (fillT BP false k)) ∧ Below s w wr ∧ wr.ownsRow (s + 1) 3 1 (.slice ua n uc) n (iV NP))) (fun jj _ => n - (intOf jj).toNat)
  case atStart => exact ⟨0, rfl, Nat.zero_le _, HP1⟩
  case round =>
    obtain ⟨k, rfl, hk, hP⟩ := hrel
    by_cases hlt : k < n
    case neg =>
      obtain rfl : n = k := by omega
      have q1 : ((n : Int) < (n : Int)) = False := eq_false (by omega)
      have q1' : (n < n) = False := eq_false (by omega)
      have HOo := Lib.hid (show wr.ownsRow w.heap.size 4 1 (.slice (some ⟨s, 0, none⟩) n n) n (bV1 BP) ∧ Below w.heap.size w wr by
        have h := hP.out.1
        rw [fill_all _ _ (by rw [HNl.out.2]; exact Nat.le_refl _)] at h
        rw [HSz.out]
        exact ⟨h, hP.out.2.1⟩)
      clear hP hlt hk
      go_wp2_with fail
      go_ret
      exact ⟨_, rfl, HOo.out.1, HOo.out.2⟩
    have q1 : ((k : Int) < (n : Int)) = True := eq_true (by omega)
    have q1' : (k < n) = True := eq_true hlt
    have hk62 : k ≤ 9223372036854775806 := by omega
    have HK := Lib.hid hlt
    obtain ⟨z, hz⟩ := get_some (L := NP) (n := k) (by rw [HNl.out.1]; exact hlt)
    obtain ⟨g, rfl, cz, hc1, hc2, _⟩ := own_at hP.out.2.2 hlt hz
    have hNz : BP[k]? = some (decide (0 ≤ z)) := by rw [← HBP.out, List.getElem?_map, hz]; rfl
    have fo := hP.out.1.frozenAt k
    obtain ⟨y, cy⟩ : ∃ y, wr.cell? ⟨s, k, none⟩ = some y := by
      obtain ⟨y, hy⟩ := get_some (L := bV1 (fillT BP false k)) (n := k) (by have := hP.out.1.1; omega)
      exact ⟨y, by rw [hP.out.1.cellAt k (by omega), hy]⟩
    have HN2 := Lib.hid (show (wr.setCell ⟨s, k, none⟩ (.bool (decide (0 ≤ z)))).ownsRow s 4 1 (.slice (some ⟨s, 0, none⟩) n n) n (bV1 (fillT BP false (k + 1))) ∧ Below s w (wr.setCell ⟨s, k, none⟩ (.bool (decide (0 ≤ z)))) ∧ (wr.setCell ⟨s, k, none⟩ (.bool (decide (0 ≤ z)))).ownsRow (s + 1) 3 1 (.slice (some ⟨g, 0, none⟩) n uc) n (iV NP) from by
      refine ⟨?_, hP.out.2.1.setCell (p := ⟨s, k, none⟩) (Nat.le_refl _) _, owns_set hP.out.2.2 (fun hh => by have := (owns_lt hP.out.2.2 hh).1; omega)⟩
      rw [← fill_set hNz, ← bV1_set]
      exact (hP.out.1.stored k _).1)
    clear hP hlt hk hz hNz
    go_wp2_with fail
    go_roundw
    case rel => exact ⟨k + 1, by simp, by have := HK.out; omega, HN2⟩
    case measure => have := HK.out; first | (simp [intOf]; done) | (simp [intOf]; omega)
end Go.Proofs.Ytkjafkegkllbiaa
