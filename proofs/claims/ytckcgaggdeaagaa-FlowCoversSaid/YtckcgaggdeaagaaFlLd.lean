/- flow.leaders, flow.end. -/
import Derived.Test.YtckcgaggdeaagaaFlMet
import Derived.Test.YtckcgaggdeaagaaFlC
namespace Go.Proofs.Ytckcgaggdeaagaa
open Go.RowKit
set_option linter.unusedSimpArgs false
set_option linter.unusedVariables false
open FL (opA aA goesP brB farB upF only0 LeadK LeadI Lead endF stopB)
structure LSt (B n : Nat) (w wr : World) (F : Nat → Bool) : Prop where
  hb : Below B w wr
  hm : wr.ownsRow B 4 1 (.slice (some ⟨B, 0, none⟩) n n) n (bV1 (rowF n F))
  hs : B + 1 ≤ wr.heap.size
theorem LSt.below {B n : Nat} {w wr w2 : World} {F : Nat → Bool} (h : LSt B n w wr F) (hB : Below wr.heap.size wr w2) : LSt B n w w2 F :=
  ⟨h.hb.trans (hB.mono (by have := h.hs; omega)), owns_below h.hm hB, Nat.le_trans h.hs hB.size⟩
theorem LSt.mark {B n : Nat} {w wr : World} {F : Nat → Bool} (h : LSt B n w wr F) {u : Nat} (hu : u < n) : LSt B n w (wr.setCell ⟨B, u, none⟩ (.bool true)) (upF F u) := by
  refine ⟨h.hb.setCell (p := ⟨B, u, none⟩) (Nat.le_refl _) _, ?_, by simpa using h.hs⟩
  have h2 := (h.hm.stored u (.bool true)).1
  rw [bV1_set, rowF_set hu] at h2
  exact h2
set_option maxRecDepth 100000 in
set_option maxHeartbeats 8000000 in
theorem flow_leaders (v : Value) (L : List Ins) (M : Nat → Bool) (mb : Nat) (C : Nat) (w : World) (hv : RowR 3 insR w v L) (hn : L.length ≤ 300) (h0 : 0 < L.length) (hj : jumpsB L = true) (hM : FL.Met L M)
    (hm : w.ownsRow C 4 1 (.slice (some ⟨mb, 0, none⟩) L.length L.length) L.length (bV1 (rowF L.length M))) :
    Calls Try.prog 11 #[v, .slice (some ⟨mb, 0, none⟩) L.length L.length] w fun r w' => ∃ F, r = .returned (.slice (some ⟨w.heap.size, 0, none⟩) L.length L.length) ∧ Lead L M F ∧ LSt w.heap.size L.length w w' F := by
  obtain ⟨i3, hi3, hz3, hsize3, hby3⟩ : ∃ i, Try.prog.info? 4 = some i ∧ i.zero = some (.bool false) ∧ i.size = 1 ∧ i.bytes = 1 := ⟨(Try.prog.info? 4).get!, by kernel_rfl, by kernel_rfl, by kernel_rfl, by kernel_rfl⟩
  have HG := Lib.hid (fun (W : World) (h : Below w.heap.size w W) (pc : Nat) (hp : pc < L.length) => flow_goes v L pc W (hv.below insR_stable h) hp hn (jumps_sw hj hp))
  have HMr := Lib.hid (fun (W : World) (h : Below w.heap.size w W) => owns_below hm h)
  have HMe := Lib.hid hM
  have HV := Lib.hid hv
  have hGl : ∀ pc, pc < L.length → (goesP L pc).length ≤ 301 := fun pc hp => by
    have h2 := jumps_sw hj hp
    unfold goesP
    split
    · simp
    split
    · simp
    split
    · rename_i h32
      have : (aA L pc).toNat ≤ 300 := by
        by_cases hz : (aA L pc).toNat = 0
        · omega
        · have := h2 h32 ((aA L pc).toNat - 1) (by omega); omega
      simp; omega
    split <;> simp
  have HGl := Lib.hid hGl
  have HL0 := Lib.hid (LeadK.start L M)
  obtain ⟨s, t, rfl⟩ := row_get hv
  obtain ⟨n, hN⟩ : ∃ n, L.length = n := ⟨_, rfl⟩
  have HN := Lib.hid hN
  rw [hN] at hn h0 HG HGl HV HMr ⊢
  clear hv hN hj hm hM hGl
  have hmp := fun W => run_make W 24 4 i3 _ Try.underlying24 hi3 hz3 .i64 .i64 (n : Int) (n : Int) (by omega) (by omega) (by rw [hby3]; omega) (by omega)
  rw [hsize3, Nat.mul_one, made_false, Int.toNat_natCast] at hmp
  have hn63 : n ≤ 9223372036854775807 := by omega
  have q0 : ((0 : Int) < (n : Int)) = True := eq_true (by omega)
  have q0' : (0 < n) = True := eq_true h0
  obtain ⟨ZP, hZP⟩ : ∃ Z, (bV1 (List.replicate n false)).toArray = Z := ⟨_, rfl⟩
  rw [hZP] at hmp
  have k1 := owns_arr w ZP 4 1 n (by rw [← hZP]; simp [bV1]) (by unfold maxLen; omega)
  have fz := k1.frozenAt 0
  have cz := k1.cellAt 0 (by omega)
  obtain ⟨z0, hz0⟩ := get_some (L := ZP.toList) (n := 0) (by rw [← hZP]; simp [bV1]; omega)
  rw [hz0] at cz
  have HP0 := Lib.hid (show LSt w.heap.size n w (w.alloc (.cells (ZP.setIfInBounds 0 (.bool true)) 4)) only0 by
    have k2 := owns_arr w (ZP.setIfInBounds 0 (.bool true)) 4 1 n (by rw [← hZP]; simp [bV1]) (by unfold maxLen; omega)
    have e : (ZP.setIfInBounds 0 (.bool true)).toList = bV1 (rowF n only0) := by
      rw [Array.toList_setIfInBounds, ← hZP, List.toList_toArray, bV1_set, rowF_zero h0]
    rw [e] at k2
    exact ⟨by (repeat' (first | (with_reducible exact Below.refl _ _) | (with_reducible assumption) | (with_reducible refine below_drewN ?_ _) | (with_reducible refine Below.alloc ?_ ?_ _) | (with_reducible refine Below.drew ?_) | (with_reducible refine Below.setCell ?_ ?_ _) | go_size)), k2, by simp⟩)
  clear hi3 hz3 hsize3 hby3 hZP hz0 k1 h0
  go_enter Try.func11, Try.ntmps11
  go_wp2_with fail
  obtain ⟨W0, hW0⟩ : ∃ W, W = w.alloc (.cells (ZP.setIfInBounds 0 (.bool true)) 4) := ⟨_, rfl⟩
  rw [← hW0] at HP0 ⊢
  clear hW0 hmp fz cz q0 q0'
  go_loopw [17] (fun jj wr => ∃ (k : Nat) (F : Nat → Bool), jj = .int .i64 k ∧ k ≤ n ∧ Hid (LeadK L M F k) ∧ Hid (LSt w.heap.size n w wr F)) (fun jj _ => n - (intOf jj).toNat)
  case atStart => exact ⟨0, only0, rfl, Nat.zero_le _, HL0, HP0⟩
  case round =>
    obtain ⟨k, F, rfl, hk, hF, hP⟩ := hrel
    rename World => W1
    by_cases hlt : k < n
    case neg =>
      obtain rfl : n = k := by omega
      have q1 : ((n : Int) < (n : Int)) = False := eq_false (by omega)
      have q1' : (n < n) = False := eq_false (by omega)
      have HFf := Lib.hid (show Lead L M F from LeadK.fin (by rw [HN.out]; exact hF.out))
      have HPf := hP
      clear hF hP hlt hk
      go_wp2_with fail
      go_ret
      exact ⟨F, rfl, HFf.out, HPf.out⟩
    have q1 : ((k : Int) < (n : Int)) = True := eq_true (by omega)
    have q1' : (k < n) = True := eq_true hlt
    have hk62 : k ≤ 9223372036854775806 := by omega
    have HK := Lib.hid hlt
    obtain ⟨x, hx⟩ := get_some (L := L) (n := k) (by rw [HN.out]; exact hlt)
    obtain ⟨b, off, hse, hbw, hc⟩ := code_at HV.out (k := k) (by rw [HN.out]; exact hlt)
    cases hse
    obtain ⟨c0, c1, c2, _, _, _⟩ := hc k x hx
    have c0 := (hP.out.hb.cell (p := ⟨b, off + k * 3, none⟩) hbw).trans c0
    have c1 := (hP.out.hb.cell (p := ⟨b, off + k * 3 + 1, none⟩) hbw).trans c1
    have c2 := (hP.out.hb.cell (p := ⟨b, off + k * 3 + 2, none⟩) hbw).trans c2
    have hop := FL.opA_get hx
    have hbm := (owns_lt (HMr.out w (Below.refl _ _)) (g := mb) rfl).2
    have cm := owns_bool_at (HMr.out _ hP.out.hb) hlt false
    rw [rowF_at hlt] at cm
    have hsz := hP.out.hb.size
    have hbm1 : mb < W1.heap.size := by omega
    have cp := @cell_past
    have HPa := Lib.hid (fun o => hP.out.below ((Below.refl W1.heap.size W1).alloc (Nat.le_refl _) o))
    obtain ⟨o, a, bb⟩ := x
    simp only at hop c0 c1 c2
    cases hmk : M k
    case false =>
      rw [hmk] at cm
      have HFn := Lib.hid (hF.out.pass (Or.inl hmk))
      clear hF hP hlt hk hx hc hop hmk
      go_wp2_with fail
      go_roundw
      case rel => exact ⟨k + 1, F, by simp, by have := HK.out; omega, HFn, Lib.hid (HPa.out _)⟩
      case measure => have := HK.out; first | (simp [intOf]; done) | (simp [intOf]; omega)
    rw [hmk] at cm
    have HBr := Lib.hid (fun W => flow_branches o W)
    cases hbr : brB o
    case false =>
      rw [hbr] at HBr
      have HFn := Lib.hid (hF.out.pass (Or.inr (by rw [hop]; exact hbr)))
      clear hF hP hlt hk hx hc hop hmk hbr
      go_wp2_with fail
      refine (HBr.out _).mono ?_; rintro r w2 ⟨rfl, rfl⟩
      go_wp2_with fail
      go_roundw
      case rel => exact ⟨k + 1, F, by simp, by have := HK.out; omega, HFn, Lib.hid (HPa.out _)⟩
      case measure => have := HK.out; first | (simp [intOf]; done) | (simp [intOf]; omega)
    rw [hbr] at HBr
    have HFi := Lib.hid (hF.out.open (by rw [HN.out]; exact hlt) hmk (by rw [hop]; exact hbr))
    have HC := Lib.hid (fun ob => HG.out _ (HPa.out ob).hb k hlt)
    have HGn := Lib.hid (HGl.out k hlt)
    have HOn := Lib.hid (fun z hz => HMe.out.on k (by rw [HN.out]; exact hlt) hmk z hz)
    generalize hG1 : goesP L k = G1 at *
    have HGe := Lib.hid hG1
    clear hF hP hlt hk hx hc hop hmk hbr hG1
    go_wp2_with fail
    refine (HBr.out _).mono ?_; rintro r w2 ⟨rfl, rfl⟩
    clear cp
    go_wp2_with fail
    refine (HC.out _).mono ?_; rintro r w3 ⟨gu, rfl, hO2, hB2⟩
    obtain ⟨Lr, hLr⟩ : ∃ z, G1.length = z := ⟨_, rfl⟩
    have HLr := Lib.hid hLr
    rw [hLr] at hO2 HGn
    obtain ⟨ga, gc, rfl⟩ := owns_form hO2
    have hLr62 : Lr ≤ 9223372036854775806 := by have := HGn.out; omega
    have HP2 := Lib.hid ((HPa.out _).below hB2)
    have HQ0 := Lib.hid (own_low hO2 (show w.heap.size + 1 ≤ _ from (HPa.out _).hs))
    clear hO2 hB2 hLr
    go_wp2_with fail
    go_loopw [37] (fun jj wr => ∃ (j : Nat) (F : Nat → Bool), jj = .int .i64 j ∧ j ≤ Lr ∧ Hid (LeadI L M F k j) ∧ Hid (LSt w.heap.size n w wr F) ∧ Hid (wr.ownsRow (w.heap.size + 1) 3 1 (.slice ga Lr gc) Lr (iV G1))) (fun jj _ => Lr - (intOf jj).toNat)
    case atStart => exact ⟨0, F, rfl, Nat.zero_le _, HFi, HP2, HQ0⟩
    case round =>
      obtain ⟨j, F, rfl, hj, hF, hP, hQ⟩ := hrel
      by_cases hlt : j < Lr
      case neg =>
        obtain rfl : Lr = j := by omega
        have q3 : ((Lr : Int) < (Lr : Int)) = False := eq_false (by omega)
        have q3' : (Lr < Lr) = False := eq_false (by omega)
        have HFn := Lib.hid (hF.out.fin (by rw [HGe.out, HLr.out]; exact Nat.le_refl _))
        have HPf := hP
        clear hF hP hQ hlt hj
        go_wp2_with fail
        go_roundw
        case rel => exact ⟨k + 1, F, by simp, by have := HK.out; omega, HFn, HPf⟩
        case measure => have := HK.out; first | (simp [intOf]; done) | (simp [intOf]; omega)
      have q3 : ((j : Int) < (Lr : Int)) = True := eq_true (by omega)
      have q3' : (j < Lr) = True := eq_true hlt
      have hj62 : j ≤ 9223372036854775806 := by omega
      have HJ := Lib.hid hlt
      obtain ⟨z, hz⟩ := get_some (L := G1) (n := j) (by rw [HLr.out]; exact hlt)
      obtain ⟨u, hzu, hun, _⟩ := HOn.out z (List.mem_of_getElem? hz)
      subst hzu
      rw [HN.out] at hun
      obtain ⟨go, hse, cz, hz1, hz2, _⟩ := own_at hQ.out hlt hz
      subst hse
      have r2 : ((u : Int) < (n : Int)) = True := eq_true (by omega)
      have r2' : (u < n) = True := eq_true hun
      have cu := owns_bool_at hP.out.hm hun false
      rw [rowF_at hun] at cu
      have fu := hP.out.hm.frozenAt u
      have HFn := Lib.hid (hF.out.mark (by rw [HGe.out]; exact hz))
      have HPn := Lib.hid (hP.out.mark hun)
      have HQn := Lib.hid (owns_set (o := u) (x := .bool true) hQ.out (fun hg => by have h1 := (owns_lt hQ.out hg).1; omega : _ ≠ some w.heap.size))
      clear hF hP hQ hlt hj hz hun
      go_wp2_with fail
      go_roundw
      case rel => exact ⟨j + 1, upF F u, by simp, by have := HJ.out; omega, HFn, HPn, HQn⟩
      case measure => have := HJ.out; first | (simp [intOf]; done) | (simp [intOf]; omega)
end Go.Proofs.Ytckcgaggdeaagaa
