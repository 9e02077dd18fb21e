/- Layer 30: the walk of FlowCovers. -/
import Derived.Test.YtckcgaggdeaagaaFlAw
import Derived.Test.YtckcgaggdeaagaaInts
namespace Go.Proofs.Ytckcgaggdeaagaa
open Go.RowKit
set_option linter.unusedSimpArgs false
set_option linter.unusedVariables false
open FL (opA aA goesP endF blks cnt inB)
theorem blks_head {F : Nat → Bool} {E : Nat → Nat} (h0 : F 0 = true) : ∀ n, 0 < n → (blks n F E)[0]? = some (0, E 0)
  | 0, h => by omega
  | 1, _ => by rw [FL.blks_succ, if_pos h0]; rfl
  | n + 2, _ => by
    have ih := blks_head (E := E) h0 (n + 1) (by omega)
    rw [FL.blks_succ]
    split
    · rw [List.getElem?_append_left (lt_of_get ih)]; exact ih
    · exact ih
set_option maxRecDepth 100000 in
set_option maxHeartbeats 8000000 in
theorem flowCovers_walk (v : Value) (L : List Ins) (w : World) (hv : RowR 3 insR w v L) :
    Calls Try.prog 3 #[v] w fun e w' => e = .returned (.bool true) ∧ Below w.heap.size w w' := by
  have HA := Lib.hid law30_awake
  by_cases hl : L.length ≤ 150
  case neg =>
    obtain ⟨s, t, rfl⟩ := row_get hv
    obtain ⟨n, hN⟩ : ∃ n, L.length = n := ⟨_, rfl⟩
    rw [hN] at hl ⊢
    have q0 : ((n : Int) ≤ 150) = False := eq_false (by omega)
    have q0' : ((150 : Int) < (n : Int)) = True := eq_true (by omega)
    have q0'' : (150 < n) = True := eq_true (by omega)
    clear hl hN hv
    go_enter Try.func3, Try.ntmps3
    go_wp2_with fail
    refine (HA.out _).mono ?_; rintro e w1 ⟨rfl, hb1⟩
    go_wp2_with fail
    go_ret
    exact ⟨rfl, hb1⟩
  have HMt := Lib.hid (flow_Met v L w hv (by omega))
  have HNd := Lib.hid (fun (W : World) (h : Below w.heap.size w W) => flow_Nodes v L W (hv.below insR_stable h) (by omega))
  have HGo := Lib.hid (fun (W : World) (h : Below w.heap.size w W) (z : Int) => flow_Goes v L z W (hv.below insR_stable h) (by omega))
  cases hs : seenB L
  · obtain ⟨s, t, rfl⟩ := row_get hv
    obtain ⟨n, hN⟩ : ∃ n, L.length = n := ⟨_, rfl⟩
    rw [hN] at hl HMt HNd ⊢
    have q0 : ((n : Int) ≤ 150) = True := eq_true (by omega)
    have q0' : ((150 : Int) < (n : Int)) = False := eq_false (by omega)
    have q0'' : (150 < n) = False := eq_false (by omega)
    have HS := Lib.hid hs
    clear hl hN hv hs HGo
    go_enter Try.func3, Try.ntmps3
    go_wp2_with fail
    refine HMt.out.mono ?_; rintro r w1 ⟨hb1, ⟨_, rfl⟩ | ⟨h, _⟩⟩
    · have HB1 := Lib.hid hb1
      clear hb1
      go_wp2_with fail
      refine (HNd.out _ HB1.out).mono ?_; rintro r w2 ⟨hb2, ⟨_, rfl⟩ | ⟨h, _⟩⟩
      · have HB2 := Lib.hid (HB1.out.trans (hb2.mono HB1.out.size))
        clear hb2
        go_wp2_with fail
        refine (HA.out _).mono ?_; rintro e w3 ⟨rfl, hb3⟩
        have HB3 := Lib.hid (HB2.out.trans (hb3.mono HB2.out.size))
        clear hb3
        go_wp2_with fail
        go_ret
        exact ⟨rfl, HB3.out⟩
      · rw [HS.out] at h; cases h
    · rw [HS.out] at h; cases h
  obtain ⟨h0, hj, hw⟩ := seen_parts hs
  have HI := Lib.hid (fun (v u : Value) (A B : List Int) (W : World) (h1 : RowR 1 intR W v A) (h2 : RowR 1 intR W u B) => ref15_Ints v u A B W h1 h2)
  have HGz := Lib.hid (show ∀ pc : Nat, pc < L.length → goesZ L (pc : Int) = goesP L pc from fun pc hp => by
    unfold goesZ
    rw [if_pos ⟨by omega, by omega, hj⟩]
    simp)
  have HS := Lib.hid hs
  obtain ⟨s, t, rfl⟩ := row_get hv
  obtain ⟨n, hN⟩ : ∃ n, L.length = n := ⟨_, rfl⟩
  have HN := Lib.hid hN
  rw [hN] at hl h0 HMt HNd HGo HGz ⊢
  have q0 : ((n : Int) ≤ 150) = True := eq_true (by omega)
  have q0' : ((150 : Int) < (n : Int)) = False := eq_false (by omega)
  have q0'' : (150 < n) = False := eq_false (by omega)
  have qn : ((n : Int) == 0) = false := by simp; omega
  have qn' : (n == 0) = false := by simp; omega
  have qn'' : (n = 0) = False := eq_false (by omega)
  have HL := Lib.hid (And.intro hl h0)
  clear hl hN hv hs hj hw h0
  go_enter Try.func3, Try.ntmps3
  go_wp2_with fail
  refine HMt.out.mono ?_; rintro r w1 ⟨hb1, ⟨h, _⟩ | ⟨_, mb, rfl, hmb, hO1⟩⟩
  · rw [HS.out] at h; cases h
  rw [HN.out] at hO1 ⊢
  have HB1 := Lib.hid hb1
  have HO1 := Lib.hid hO1
  clear hb1 hO1 hmb
  go_wp2_with fail
  refine (HNd.out _ HB1.out).mono ?_; rintro r w2 ⟨hb2, ⟨h, _⟩ | ⟨_, F, u, N, rfl, hLe, hMe, hMp, ho, _, _, _⟩⟩
  · rw [HS.out] at h; cases h
  have HB2 := Lib.hid (HB1.out.trans (hb2.mono HB1.out.size))
  have HO2 := Lib.hid (owns_below HO1.out hb2)
  have HIs := Lib.hid (show ∀ f, f < L.length → F f = true → FL.IsEnd L F f (endF L F f) from fun f hf hF => FL.endF_is hMe hf (FL.Lead.met hMe hLe hf hF))
  have HCt := Lib.hid (fun (p : Nat) (hp : p < L.length) => FL.counted hMe hLe HIs.out hp)
  have hhd := blks_head (E := endF L F) hLe.zero L.length (by rw [HN.out]; exact HL.out.2)
  have HBm := Lib.hid (show ∀ b ∈ blks L.length F (endF L F), ∃ f, f < L.length ∧ F f = true ∧ b = (f, endF L F f) from fun b hb => FL.blks_mem.1 hb)
  obtain ⟨m, hm⟩ : ∃ m, N.length = m := ⟨_, rfl⟩
  have hml : (blks L.length F (endF L F)).length = m := by rw [← hMp, List.length_map, hm]
  have hm150 : m ≤ 150 := by have h1 := FL.blks_len L.length F (endF L F); rw [hml, HN.out] at h1; have := HL.out.1; omega
  generalize hBL : blks L.length F (endF L F) = BL at *
  have hm0 : 0 < m := by rw [← hml]; exact lt_of_get hhd
  obtain ⟨x0, hx0⟩ := get_some (L := N) (n := 0) (by omega)
  obtain ⟨g, gc, rfl, hg1, hg, hgc1, hgc2⟩ := node_at ho hx0
  have hx00 : x0.1 = 0 := by
    have h1 : (N.map (fun x => (x.1, x.2.1)))[0]? = some (x0.1, x0.2.1) := by rw [List.getElem?_map, hx0]; rfl
    rw [hMp, hhd] at h1
    injection h1 with h1; injection h1 with h1 _; exact h1.symm
  have HCs := Lib.hid (fun (i : Nat) (x : ND) (hx : N[i]? = some x) => node_cells ho hx)
  have HBx := Lib.hid (show ∀ (i : Nat) (x : ND), N[i]? = some x → BL[i]? = some (x.1, x.2.1) from fun i x hx => by rw [← hMp, List.getElem?_map, hx]; rfl)
  have HX0 := Lib.hid (And.intro hx0 hx00)
  have HM := Lib.hid hm
  have HMl := Lib.hid hml
  rw [hm] at hgc1 ⊢
  have HNf := Lib.hid (show ∀ p, FL.stopB L F p = false → goesP L p = [(p : Int) + 1] from fun p h => FL.goes_near (by unfold FL.stopB at h; rw [Bool.or_eq_false_iff] at h; exact h.1))
  have HNl := Lib.hid HL.out.1
  have qm : ((m : Int) ≤ 0) = False := eq_false (by omega)
  have qm' : ((0 : Int) < (m : Int)) = True := eq_true (by omega)
  have qm'' : (0 < m) = True := eq_true hm0
  have hmbl := (owns_lt HO2.out (g := mb) rfl).2
  have Hmb := Lib.hid hmbl
  clear hb2 hLe hMe hMp ho hhd hml hm hBL hx0 hx00 hg1 hm0 hmbl
  have Hg := Lib.hid hg
  have Hm150 := Lib.hid hm150
  clear hg hm150
  go_wp2_with fail
  go_loopw [5] (fun jj wr => ∃ k : Nat, jj = .int .i64 k ∧ k ≤ n ∧ Hid (Below w2.heap.size w2 wr)) (fun jj _ => n - (intOf jj).toNat)
  case atStart => exact ⟨0, rfl, Nat.zero_le _, Lib.hid (Below.refl _ _)⟩
  case round =>
    obtain ⟨k, rfl, hk, hB⟩ := hrel
    rename World => W3
    by_cases hlt : k < n
    case neg =>
      obtain rfl : n = k := by omega
      have q1 : ((n : Int) < (n : Int)) = False := eq_false (by omega)
      have q1' : (n < n) = False := eq_false (by omega)
      have HBB := Lib.hid (HB2.out.trans (hB.out.mono HB2.out.size))
      have e0 := (hB.out.cell (p := ⟨g, 0 * 3, none⟩) Hg.out).trans ((HCs.out 0 x0 HX0.out.1).1)
      rw [HX0.out.2] at e0
      have e0 : W3.cell? ⟨g, 0, none⟩ = some (.int .i64 0) := by simpa using e0
      clear hB hlt hk
      go_wp2_with fail
      refine (HA.out _).mono ?_; rintro e w4 ⟨rfl, hb4⟩
      have HB4 := Lib.hid (HBB.out.trans (hb4.mono HBB.out.size))
      clear hb4
      go_wp2_with fail
      go_ret
      exact ⟨rfl, HB4.out⟩
    have q1 : ((k : Int) < (n : Int)) = True := eq_true (by omega)
    have q1' : (k < n) = True := eq_true hlt
    have hk62 : k ≤ 9223372036854775806 := by have := HNl.out; omega
    have HK := Lib.hid hlt
    have HCk := Lib.hid (HCt.out k (by rw [HN.out]; exact hlt))
    have HBB := hB
    clear hB hlt hk
    go_wp2_with fail
    go_loopw [6, 7] (fun cc jj wr => ∃ i : Nat, jj = .int .i64 i ∧ i ≤ m ∧ cc = .int .i64 (cnt (BL.take i) k : Nat) ∧ Hid (Below w2.heap.size w2 wr)) (fun _ jj _ => m - (intOf jj).toNat)
    case atStart => exact ⟨0, rfl, Nat.zero_le _, rfl, HBB⟩
    case round =>
      obtain ⟨i, rfl, hi, rfl, hB⟩ := hrel
      rename World => W4
      by_cases hlt : i < m
      case neg =>
        obtain rfl : m = i := by omega
        have q2 : ((m : Int) < (m : Int)) = False := eq_false (by omega)
        have q2' : (m < m) = False := eq_false (by omega)
        have hc : BL.take m = BL := List.take_of_length_le (by rw [HMl.out]; exact Nat.le_refl _)
        rw [hc]
        have hcc := HCk.out
        have cm := owns_bool_at (owns_below HO2.out (hB.out.mono (Nat.le_refl _))) HK.out false
        rw [rowF_at HK.out] at cm
        obtain ⟨c, hce⟩ : ∃ c, cnt BL k = c := ⟨_, rfl⟩
        rw [hce] at hcc ⊢
        have HBf := hB
        rcases (show c = 0 ∨ c = 1 by omega) with rfl | rfl
        · rw [hcc.2, show decide (0 = 1) = false from rfl] at cm
          rw [show ((0 : Nat) : Int) = 0 from rfl]
          clear hB hlt hi hc hcc hce
          go_wp2_with fail
          go_roundw
          case rel => exact ⟨k + 1, by simp, by have := HK.out; omega, HBf⟩
          case measure => have := HK.out; first | (simp [intOf]; done) | (simp [intOf]; omega)
        · rw [hcc.2, show decide (1 = 1) = true from rfl] at cm
          rw [show ((1 : Nat) : Int) = 1 from rfl]
          clear hB hlt hi hc hcc hce
          go_wp2_with fail
          go_roundw
          case rel => exact ⟨k + 1, by simp, by have := HK.out; omega, HBf⟩
          case measure => have := HK.out; first | (simp [intOf]; done) | (simp [intOf]; omega)
      have q2 : ((i : Int) < (m : Int)) = True := eq_true (by omega)
      have q2' : (i < m) = True := eq_true hlt
      have hi62 : i ≤ 9223372036854775806 := by have := Hm150.out; omega
      have HJ := Lib.hid hlt
      obtain ⟨x, hx⟩ := get_some (L := N) (n := i) (by rw [HM.out]; exact hlt)
      have hbx := HBx.out i x hx
      have hcs := FL.cnt_snoc (BL.take i) (x.1, x.2.1) k
      rw [← take_snoc hbx] at hcs
      obtain ⟨c0, c1, _⟩ := HCs.out i x hx
      have c0 := (hB.out.cell (p := ⟨g, i * 3, none⟩) Hg.out).trans c0
      have c1 := (hB.out.cell (p := ⟨g, i * 3 + 1, none⟩) Hg.out).trans c1
      obtain ⟨f', hf', hFf, hxe⟩ := HBm.out _ (List.mem_of_getElem? hbx)
      have hend := HIs.out f' hf' hFf
      obtain ⟨f, tt, U⟩ := x
      simp only at hxe c0 c1 hcs
      injection hxe with e1 e2
      subst e1
      rw [← e2] at hend
      have htn : tt ≤ n := by have := hend.le; rw [HN.out] at this; exact this
      obtain ⟨c, hce⟩ : ∃ c, cnt (BL.take i) k = c := ⟨_, rfl⟩
      have hcb : c ≤ 150 := by
        rw [← hce]; unfold FL.cnt
        have h1 := List.length_filter_le (fun b => inB b k) (BL.take i)
        rw [List.length_take] at h1
        have := Hm150.out; omega
      rw [hce] at hcs ⊢
      have hc62 : c ≤ 9223372036854775806 := by omega
      have HBf := hB
      by_cases h1 : f ≤ k
      case neg =>
        have r1 : ((f : Int) ≤ (k : Int)) = False := eq_false (by omega)
        have r1' : (f ≤ k) = False := eq_false h1
        have HCn := Lib.hid (show cnt (BL.take (i + 1)) k = c by rw [hcs, if_neg (by unfold FL.inB; simp; omega)])
        clear hB hlt hi hx hbx hcs hf' hFf e2 hend htn hce hcb h1
        go_wp2_with fail
        go_roundw
        case rel => exact ⟨i + 1, by simp, by have := HJ.out; omega, by rw [HCn.out], HBf⟩
        case measure => have := HJ.out; first | (simp [intOf]; done) | (simp [intOf]; omega)
      have r1 : ((f : Int) ≤ (k : Int)) = True := eq_true (by omega)
      have r1' : (f ≤ k) = True := eq_true h1
      by_cases h2 : k < tt
      case neg =>
        have r2 : ((k : Int) < (tt : Int)) = False := eq_false (by omega)
        have r2' : (k < tt) = False := eq_false h2
        have HCn := Lib.hid (show cnt (BL.take (i + 1)) k = c by rw [hcs, if_neg (by unfold FL.inB; simp; omega)])
        clear hB hlt hi hx hbx hcs hf' hFf e2 hend htn hce hcb h1 h2
        go_wp2_with fail
        go_roundw
        case rel => exact ⟨i + 1, by simp, by have := HJ.out; omega, by rw [HCn.out], HBf⟩
        case measure => have := HJ.out; first | (simp [intOf]; done) | (simp [intOf]; omega)
      have r2 : ((k : Int) < (tt : Int)) = True := eq_true (by omega)
      have r2' : (k < tt) = True := eq_true h2
      have HCn := Lib.hid (show cnt (BL.take (i + 1)) k = c + 1 by rw [hcs, if_pos (by unfold FL.inB; simp; omega)])
      by_cases h3 : k + 1 < tt
      case neg =>
        have r3 : ((k : Int) + 1 < (tt : Int)) = False := eq_false (by omega)
        have r3' : (k + 1 < tt) = False := eq_false h3
        clear hB hlt hi hx hbx hcs hf' hFf e2 hend htn hce hcb h1 h2 h3
        go_wp2_with fail
        go_roundw
        case rel => exact ⟨i + 1, by simp, by have := HJ.out; omega, by rw [HCn.out]; simp, HBf⟩
        case measure => have := HJ.out; first | (simp [intOf]; done) | (simp [intOf]; omega)
      have r3 : ((k : Int) + 1 < (tt : Int)) = True := eq_true (by omega)
      have r3' : (k + 1 < tt) = True := eq_true h3
      have HGk := Lib.hid (fun (W : World) (h : Below w.heap.size w W) => by
        have h5 := HGo.out W h (k : Int)
        rw [HGz.out k HK.out, HNf.out k (hend.go k h1 h3)] at h5
        exact h5)
      have HBw := Lib.hid (HB2.out.trans (hB.out.mono HB2.out.size))
      have hIk : ∀ z ∈ [(k : Int) + 1], I64 z := fun z hz => by simp at hz; have := HNl.out; have := HK.out; unfold I64; omega
      have HIk := Lib.hid hIk
      clear hB hlt hi hx hbx hcs hf' hFf e2 hend htn hce hcb h1 h2 h3 hIk
      go_wp2_with fail
      refine (HGk.out _ HBw.out).mono ?_; rintro r w5 ⟨gu, rfl, hO5, hb5⟩
      have HR5 := Lib.hid (row_of_owns hO5 HIk.out)
      have HB5 := Lib.hid (HBf.out.trans (hb5.mono HBf.out.size))
      clear hO5 hb5
      have HRb := Lib.hid (show RowR 1 intR (w5.alloc (.cells #[.int .i64 ((k : Int) + 1)] 3)) (.slice (some ⟨w5.heap.size, 0, none⟩) 1 1) [(k : Int) + 1] from by
        have k1 := owns_arr w5 #[.int .i64 ((k : Int) + 1)] 3 1 1 (by simp) (by unfold maxLen; omega)
        exact row_of_owns (l := [(k : Int) + 1]) k1 HIk.out)
      have HRa := Lib.hid (HR5.out.below intR_stable ((Below.refl _ _).alloc (Nat.le_refl _) (.cells #[.int .i64 ((k : Int) + 1)] 3)))
      go_wp2_with fail
      refine (HI.out _ _ _ _ _ HRa.out HRb.out).mono ?_; rintro e w6 ⟨rfl, m6, rfl⟩
      rw [decide_eq_true rfl]
      have HB6 := Lib.hid (HB5.out.trans (((Below.refl _ _).alloc (Nat.le_refl _) (.cells #[.int .i64 ((k : Int) + 1)] 3)).mono HB5.out.size |>.trans ((Below_drewN _ _ m6).mono (by have := HB5.out.size; simp; omega))))
      go_wp2_with fail
      go_roundw
      case rel => exact ⟨i + 1, by simp, by have := HJ.out; omega, by rw [HCn.out]; simp, HB6⟩
      case measure => have := HJ.out; first | (simp [intOf]; done) | (simp [intOf]; omega)
end Go.Proofs.Ytckcgaggdeaagaa
