/- flow.met, flow.Met. -/
import Derived.Test.YtckcgaggdeaagaaFlGs
import Derived.Test.YtckcgaggdeaagaaFlB
import Derived.Deep.LoopGhost
import Derived.Deep.CutBlock
import Derived.WalkMore
namespace Go.Proofs.Ytckcgaggdeaagaa
open Go.RowKit
set_option linter.unusedSimpArgs false
set_option linter.unusedVariables false
open FL (opA aA goesP Srch SrchI upF unm only0)
def rowF (n : Nat) (M : Nat → Bool) : List Bool := (List.range n).map M
theorem rowF_len (n : Nat) (M : Nat → Bool) : (rowF n M).length = n := by simp [rowF]
theorem rowF_at {n : Nat} {M : Nat → Bool} {c : Nat} (h : c < n) (d : Bool) : (rowF n M).getD c d = M c := by simp [rowF, List.getD, h]
theorem rowF_set {n : Nat} {M : Nat → Bool} {u : Nat} (h : u < n) : (rowF n M).set u true = rowF n (upF M u) := by
  apply List.ext_getElem?
  intro i
  rw [List.getElem?_set]
  unfold rowF upF
  by_cases e : u = i
  · subst e; simp [h]
  · have e' : ¬ i = u := fun h => e h.symm
    by_cases hi : i < n <;> simp [hi, e, e']
theorem rowF_zero {n : Nat} (h : 0 < n) : (List.replicate n false).set 0 true = rowF n only0 := by
  apply List.ext_getElem?
  intro i
  rw [List.getElem?_set]
  unfold rowF only0
  by_cases e : 0 = i
  · subst e; simp [h]
  · have e' : ¬ i = 0 := fun h => e h.symm
    by_cases hi : i < n <;> simp [hi, e, e']
structure WSt (B n : Nat) (w wr : World) (o : Value) (M : Nat → Bool) (S : List Nat) : Prop where
  hb : Below B w wr
  hm : wr.ownsRow B 4 1 (.slice (some ⟨B, 0, none⟩) n n) n (bV1 (rowF n M))
  ho : wr.ownsRow (B + 1) 3 1 o S.length (iV (nI S.reverse))
  hs : B + 1 ≤ wr.heap.size
theorem WSt.below {B n : Nat} {w wr w2 : World} {o : Value} {M : Nat → Bool} {S : List Nat} (h : WSt B n w wr o M S) (hB : Below wr.heap.size wr w2) : WSt B n w w2 o M S :=
  ⟨h.hb.trans (hB.mono (by have := h.hs; omega)), owns_below h.hm hB, owns_below h.ho hB, Nat.le_trans h.hs hB.size⟩
/-- the topmost taken off -/
theorem WSt.pop {B n : Nat} {w wr : World} {o : Value} {M : Nat → Bool} {S : List Nat} {t : Nat} (h : WSt B n w wr o M (t :: S)) :
    ∃ g c, o = .slice (some ⟨g, 0, none⟩) (S.length + 1) c ∧ S.length + 1 ≤ c ∧ c ≤ 9223372036854775807 ∧ wr.cell? ⟨g, S.length, none⟩ = some (.int .i64 (t : Int)) ∧ WSt B n w wr (.slice (some ⟨g, 0, none⟩) S.length c) M S := by
  have ho := h.ho
  rcases ho.2 with ⟨_, h0⟩ | ⟨g, c, cur, rfl, hBg, hg, hnc, hcm, hcs, htake⟩
  · simp at h0
  have hl : (iV (nI S.reverse)).length = S.length := by simp [iV, nI]
  have hst : iV (nI (t :: S).reverse) = iV (nI S.reverse) ++ [.int .i64 (t : Int)] := by simp [iV, nI]
  refine ⟨g, c, rfl, hnc, hcm, ?_, ⟨h.hb, h.hm, ⟨by rw [hl]; omega, Or.inr ⟨g, c, cur, rfl, hBg, hg, Nat.le_of_succ_le hnc, hcm, hcs, ?_⟩⟩, h.hs⟩⟩
  · have c1 := ho.cellAt S.length (by simp only [List.length_cons]; omega)
    rw [hst, List.getElem?_append_right (by omega), hl, Nat.sub_self] at c1
    exact c1
  · rw [hst] at htake
    have := congrArg (List.take (S.length * 1)) htake
    rw [List.take_take, List.take_append_of_le_length (by omega), List.take_of_length_le (by omega : (iV (nI S.reverse)).length ≤ S.length * 1)] at this
    rw [← this]
    congr 1
    simp only [List.length_cons]; omega
theorem WSt.mark {B n : Nat} {w wr : World} {o : Value} {M : Nat → Bool} {S : List Nat} (h : WSt B n w wr o M S) {u : Nat} (hu : u < n) : WSt B n w (wr.setCell ⟨B, u, none⟩ (.bool true)) o (upF M u) S := by
  refine ⟨h.hb.setCell (p := ⟨B, u, none⟩) (Nat.le_refl _) _, ?_, owns_set h.ho (fun hg => by have := (owns_lt h.ho hg).1; omega), by simpa using h.hs⟩
  have h2 := (h.hm.stored u (.bool true)).1
  rw [bV1_set, rowF_set hu] at h2
  exact h2
theorem WSt.push {B n : Nat} {w wr w6 : World} {o v6 : Value} {M : Nat → Bool} {S : List Nat} {u : Nat} {ob : Obj} (h : WSt B n w wr o M S)
    (hO : w6.ownsRow (B + 1) 3 1 v6 (S.length + 1) (iV (nI S.reverse) ++ [.int .i64 (u : Int)])) (hG : (wr.alloc ob).grownBy w6 o.ownBlock) : WSt B n w w6 v6 M (u :: S) := by
  have hba := (Below.refl wr.heap.size wr).alloc (Nat.le_refl _) ob
  have hs := h.hs
  have ho := owns_below h.ho hba
  refine ⟨grown3 (h.hb.trans (hba.mono (by omega))) (by simp; omega) (own_low ho (Nat.le_succ _)) hG, ?_, ?_, Nat.le_trans hs (Nat.le_trans (by simp) hG.size)⟩
  · exact owns_grown (owns_below h.hm hba) hG (fun g hg he => by have h1 := (owns_lt ho he).1; have h2 : B = g := Option.some.inj hg; omega)
  · exact own_eq2 hO (by simp) (by simp [iV, nI])
def MetPost (B n : Nat) (L : List Ins) (w : World) (r : Ending) (w' : World) : Prop :=
  ∃ (ok : Bool) (M : Nat → Bool), r = .returned (.tuple #[.slice (some ⟨B, 0, none⟩) n n, .bool ok]) ∧ (ok = true → FL.Met L M ∧ ∀ t, M t = true → FL.Rc L t) ∧ (ok = false → ∃ q, q < L.length ∧ FL.Rc L q ∧ ∃ z ∈ goesP L q, z < 0 ∨ (L.length : Int) ≤ z) ∧ w'.ownsRow B 4 1 (.slice (some ⟨B, 0, none⟩) n n) n (bV1 (rowF n M)) ∧ Below B w w'
set_option maxRecDepth 100000 in
set_option maxHeartbeats 8000000 in
theorem flow_met (v : Value) (L : List Ins) (w : World) (hv : RowR 3 insR w v L) (hn : L.length ≤ 300) (h0 : 0 < L.length) (hj : jumpsB L = true) :
    Calls Try.prog 10 #[v] w (MetPost w.heap.size L.length L w) := by
  obtain ⟨i, hi, hz, hsize, hby⟩ : ∃ i, Try.prog.info? 3 = some i ∧ i.zero = some (.int .i64 0) ∧ i.size = 1 ∧ i.bytes = 8 := ⟨(Try.prog.info? 3).get!, by kernel_rfl, by kernel_rfl, by kernel_rfl, by kernel_rfl⟩
  obtain ⟨i3, hi3, hz3, hsize3, hby3⟩ : ∃ i, Try.prog.info? 4 = some i ∧ i.zero = some (.bool false) ∧ i.size = 1 ∧ i.bytes = 1 := ⟨(Try.prog.info? 4).get!, by kernel_rfl, by kernel_rfl, by kernel_rfl, by kernel_rfl⟩
  have HG := Lib.hid (fun (W : World) (h : Below w.heap.size w W) (pc : Nat) (hp : pc < L.length) => flow_goes v L pc W (hv.below insR_stable h) hp hn (jumps_sw hj hp))
  have HS0 := Lib.hid (Srch.start h0)
  obtain ⟨s, t, rfl⟩ := row_get hv
  have HGl := Lib.hid (show ∀ pc, pc < L.length → (goesP L pc).length ≤ 301 from fun pc hp => by
    have h2 := jumps_sw hj hp
    unfold goesP
    split
    · simp
    split
    · simp
    split
    · rename_i h32
      have : (aA L pc).toNat ≤ 300 := by
        by_cases hz : (aA L pc).toNat = 0
        · omega
        · have := h2 h32 ((aA L pc).toNat - 1) (by omega); omega
      simp; omega
    split <;> simp)
  obtain ⟨n, hN⟩ : ∃ n, L.length = n := ⟨_, rfl⟩
  have HN := Lib.hid hN
  rw [hN] at hn h0 HG HGl ⊢
  clear hv hN hj
  have hmp := fun W => run_make W 24 4 i3 _ Try.underlying24 hi3 hz3 .i64 .i64 (n : Int) (n : Int) (by omega) (by omega) (by rw [hby3]; omega) (by omega)
  rw [hsize3, Nat.mul_one, made_false, Int.toNat_natCast] at hmp
  have hn63 : n ≤ 9223372036854775807 := by omega
  have q0 : ((0 : Int) < (n : Int)) = True := eq_true (by omega)
  have q0' : (0 < n) = True := eq_true h0
  have HNn := Lib.hid (And.intro hn h0)
  obtain ⟨ZP, hZP⟩ : ∃ Z, (bV1 (List.replicate n false)).toArray = Z := ⟨_, rfl⟩
  rw [hZP] at hmp
  have k1 := owns_arr w ZP 4 1 n (by rw [← hZP]; simp [bV1]) (by unfold maxLen; omega)
  have fz := k1.frozenAt 0
  have cz := k1.cellAt 0 (by omega)
  obtain ⟨z0, hz0⟩ := get_some (L := ZP.toList) (n := 0) (by rw [← hZP]; simp [bV1]; omega)
  rw [hz0] at cz
  have HP0 := Lib.hid (show WSt w.heap.size n w ((w.alloc (.cells (ZP.setIfInBounds 0 (.bool true)) 4)).alloc (.cells #[.int .i64 0] 3)) (.slice (some ⟨w.heap.size + 1, 0, none⟩) 1 1) only0 [0] by
    have k2 := owns_arr w (ZP.setIfInBounds 0 (.bool true)) 4 1 n (by rw [← hZP]; simp [bV1]) (by unfold maxLen; omega)
    have e : (ZP.setIfInBounds 0 (.bool true)).toList = bV1 (rowF n only0) := by
      rw [Array.toList_setIfInBounds, ← hZP, List.toList_toArray, bV1_set, rowF_zero h0]
    rw [e] at k2
    have k3 := owns_arr (w.alloc (.cells (ZP.setIfInBounds 0 (.bool true)) 4)) #[.int .i64 0] 3 1 1 rfl (by unfold maxLen; omega)
    simp only [World.size_alloc] at k3
    exact ⟨by (repeat' (first | (with_reducible exact Below.refl _ _) | (with_reducible assumption) | (with_reducible refine below_drewN ?_ _) | (with_reducible refine Below.alloc ?_ ?_ _) | (with_reducible refine Below.drew ?_) | (with_reducible refine Below.setCell ?_ ?_ _) | go_size)), owns_below k2 ((Below.refl _ _).alloc (Nat.le_refl _) _), k3, by simp⟩)
  clear hi3 hz3 hsize3 hby3 hZP hz0 k1 h0
  go_enter Try.func10, Try.ntmps10
  go_wp2_with fail
  go_step3
  go_wp2_with fail
  go_step3
  go_wp2_with fail
  obtain ⟨W0, hW0⟩ : ∃ W, W = (w.alloc (.cells (ZP.setIfInBounds 0 (.bool true)) 4)).alloc (.cells #[.int .i64 0] 3) := ⟨_, rfl⟩
  rw [← hW0] at HP0 ⊢
  have HU0 := Lib.hid (show unm n only0 + 1 ≤ n by
    have h1 := FL.unm_up (M := fun _ => false) (t := 0) rfl n HNn.out.2
    have h2 : upF (fun _ => false) 0 = only0 := by funext i; simp [upF, only0]
    rw [h2] at h1
    have h3 := FL.unm_le n (fun _ => false)
    omega)
  clear hW0 hmp fz cz q0 q0'
  go_loopg [5, 6] (2 * n + 1) (fun g oo ww wr => ∃ (M : Nat → Bool) (S : List Nat), ww = .bool true ∧ Hid (2 * unm n M + S.length ≤ g ∧ unm n M + S.length ≤ n) ∧ Hid (Srch L M S) ∧ Hid (WSt w.heap.size n w wr oo M S))
  case atStart => exact ⟨only0, [0], rfl, Lib.hid ⟨by have := HU0.out; simp; omega, by have := HU0.out; simp; omega⟩, HS0, HP0⟩
  case round =>
    obtain ⟨M, S, rfl, hC, hS, hP⟩ := hrel
    match S, hC, hS, hP with
    | [], hC, hS, hP =>
      have HM := Lib.hid (And.intro hS.out.fin hS.out.rch)
      have hf := owns_form hP.out.ho
      obtain ⟨a5, c5, rfl⟩ := hf
      have hl0 : ([] : List Nat).length = 0 := rfl
      rw [hl0] at hP ⊢
      have q1 : ((0 : Int) < 0) = False := eq_false (by omega)
      have HPP := Lib.hid (And.intro hP.out.hm hP.out.hb)
      clear hC hS hP hl0
      go_wp2_with fail
      try rw [Exit.noGoto_ret]
      go_returns
      exact ⟨true, M, rfl, fun _ => HM.out, fun h => absurd h (by decide), HPP.out.1, HPP.out.2⟩
    | t1 :: S1, hC, hS, hP =>
      obtain ⟨g5, c5, rfl, hc1, hc2, ct, hpop⟩ := hP.out.pop
      obtain ⟨ht, htm⟩ := hS.out.wt t1 (by simp)
      rw [HN.out] at ht
      have HT := Lib.hid ht
      have HSI := Lib.hid hS.out.pop
      have HCn := Lib.hid (show 2 * unm n M + S1.length + 1 ≤ gk ∧ unm n M + S1.length + 1 ≤ n by have h := hC.out; simp only [List.length_cons] at h; omega)
      have HC := Lib.hid (HG.out _ hpop.hb t1 ht)
      have HGn := Lib.hid (HGl.out t1 ht)
      generalize hG1 : goesP L t1 = G1 at *
      have HGe := Lib.hid hG1
      obtain ⟨m, hm⟩ : ∃ m, S1.length = m := ⟨_, rfl⟩
      have HMm := Lib.hid hm
      rw [hm] at hc1 ct hpop ⊢
      have HP := Lib.hid hpop
      have hmn : m ≤ 300 := by have h := HCn.out.2; rw [hm] at h; omega
      have q1 : ((0 : Int) < (m : Int) + 1) = True := eq_true (by omega)
      have q1' : (0 < m + 1) = True := eq_true (by omega)
      have q2 : ((m : Int) < (m : Int) + 1) = True := eq_true (by omega)
      have q2' : (m < m + 1) = True := eq_true (by omega)
      clear hC hS hP hpop hm ht htm hG1
      go_wp2_with fail
      rename World => W1
      refine HC.out.mono ?_; rintro r w2 ⟨gu, rfl, hO2, hB2⟩
      obtain ⟨Lr, hLr⟩ : ∃ z, G1.length = z := ⟨_, rfl⟩
      have HLr := Lib.hid hLr
      rw [hLr] at hO2 HGn
      obtain ⟨ga, gc, rfl⟩ := owns_form hO2
      have hLr62 : Lr ≤ 9223372036854775806 := by have := HGn.out; omega
      have HQ0 := Lib.hid (show w2.ownsRow W1.heap.size 3 1 (.slice ga Lr gc) Lr (iV G1) ∧ (∀ g, (Value.slice ga Lr gc).ownBlock = some g → (Value.slice (some ⟨g5, 0, none⟩) m c5).ownBlock ≠ some g) ∧ w.heap.size + 1 ≤ W1.heap.size from ⟨hO2, fun g hg he => by
        have h1 := (owns_lt hO2 hg).1
        have h2 := (owns_lt HP.out.ho he).2
        omega, HP.out.hs⟩)
      have HP2 := Lib.hid (HP.out.below hB2)
      clear hO2 hB2 hLr
      go_wp2_with fail
      go_loopw [5, 6, 34] (fun oo ww jj wr => ∃ (j m2 oc : Nat) (oa : Option Addr) (M : Nat → Bool) (S : List Nat), jj = .int .i64 j ∧ j ≤ Lr ∧ ww = .bool true ∧ oo = .slice oa m2 oc ∧ Hid (S.length = m2) ∧ Hid (2 * unm n M + S.length + 1 ≤ gk ∧ unm n M + S.length ≤ n) ∧ Hid (SrchI L M S t1 j) ∧ Hid (WSt w.heap.size n w wr (.slice oa m2 oc) M S) ∧ Hid (wr.ownsRow W1.heap.size 3 1 (.slice ga Lr gc) Lr (iV G1) ∧ (∀ g, (Value.slice ga Lr gc).ownBlock = some g → (Value.slice oa m2 oc).ownBlock ≠ some g) ∧ w.heap.size + 1 ≤ W1.heap.size)) (fun _ _ jj _ => Lr - (intOf jj).toNat)
      case atStart => exact ⟨0, m, c5, _, M, S1, rfl, Nat.zero_le _, rfl, rfl, HMm, Lib.hid ⟨HCn.out.1, by have := HCn.out.2; omega⟩, HSI, HP2, HQ0⟩
      case round =>
        obtain ⟨j, m2, oc, oa, M, S, rfl, hj, rfl, rfl, hm2, hC, hS, hP, hQ⟩ := hrel
        by_cases hlt : j < Lr
        case neg =>
          obtain rfl : Lr = j := by omega
          have q3 : ((Lr : Int) < (Lr : Int)) = False := eq_false (by omega)
          have q3' : (Lr < Lr) = False := eq_false (by omega)
          have HSf := Lib.hid (hS.out.fin (by rw [HGe.out, HLr.out]; exact Nat.le_refl _))
          have HPf := hP
          have HCf := hC
          obtain ⟨k', hk'⟩ : ∃ k', gk = k' + 1 := ⟨gk - 1, by have := hC.out.1; omega⟩
          subst hk'
          clear hC hS hP hQ hlt hj hm2
          go_wp2_with fail
          go_roundg k'
          case measure => omega
          case rel => exact ⟨M, S, rfl, Lib.hid ⟨by have := HCf.out.1; omega, HCf.out.2⟩, HSf, HPf⟩
        have q3 : ((j : Int) < (Lr : Int)) = True := eq_true (by omega)
        have q3' : (j < Lr) = True := eq_true hlt
        have hj62 : j ≤ 9223372036854775806 := by omega
        have HJ := Lib.hid hlt
        obtain ⟨z, hz⟩ := get_some (L := G1) (n := j) (by rw [HLr.out]; exact hlt)
        obtain ⟨go, hse, cz, hz1, hz2, _⟩ := own_at hQ.out.1 hlt hz
        subst hse
        have HZ := Lib.hid hz
        have HBx := Lib.hid (And.intro hP.out.hm hP.out.hb)
        by_cases hz0 : z < 0
        · have r0 : (z < 0) = True := eq_true hz0
          have HOu := Lib.hid (show ∃ q, q < L.length ∧ FL.Rc L q ∧ ∃ z ∈ goesP L q, z < 0 ∨ (L.length : Int) ≤ z from ⟨t1, hS.out.ht.1, hS.out.rch _ hS.out.ht.2, z, by rw [HGe.out]; exact List.mem_of_getElem? hz, Or.inl hz0⟩)
          clear hC hS hP hQ hlt hj hm2 hz hz0
          go_wp2_with fail
          try rw [Exit.noGoto_ret]
          go_returns
          exact ⟨false, M, rfl, fun h => absurd h (by decide), fun _ => HOu.out, HBx.out.1, HBx.out.2⟩
        have r0 : (z < 0) = False := eq_false hz0
        by_cases hzn : (n : Int) ≤ z
        · have r1 : ((n : Int) ≤ z) = True := eq_true hzn
          have HOu := Lib.hid (show ∃ q, q < L.length ∧ FL.Rc L q ∧ ∃ z ∈ goesP L q, z < 0 ∨ (L.length : Int) ≤ z from ⟨t1, hS.out.ht.1, hS.out.rch _ hS.out.ht.2, z, by rw [HGe.out]; exact List.mem_of_getElem? hz, Or.inr (by rw [HN.out]; exact hzn)⟩)
          clear hC hS hP hQ hlt hj hm2 hz hz0 hzn
          go_wp2_with fail
          try rw [Exit.noGoto_ret]
          go_returns
          exact ⟨false, M, rfl, fun h => absurd h (by decide), fun _ => HOu.out, HBx.out.1, HBx.out.2⟩
        obtain ⟨u, rfl⟩ : ∃ u : Nat, z = (u : Int) := ⟨z.toNat, by omega⟩
        have r1 : ((n : Int) ≤ (u : Int)) = False := eq_false hzn
        have r1' : (n ≤ u) = False := eq_false (by omega)
        have hun : u < n := by omega
        have r2 : ((u : Int) < (n : Int)) = True := eq_true (by omega)
        have r2' : (u < n) = True := eq_true hun
        have cu := owns_bool_at hP.out.hm hun false
        rw [rowF_at hun] at cu
        have fu := hP.out.hm.frozenAt u
        have HUn := Lib.hid hun
        cases hmu : M u
        case true =>
          rw [hmu] at cu
          have HSn := Lib.hid (hS.out.skip (by rw [HGe.out]; exact hz) (by rw [HN.out]; exact hun) hmu)
          have HCC := hC
          have HPP := hP
          have HQQ := hQ
          have HMM := hm2
          clear hC hS hP hQ hlt hj hm2 hz hz0 hzn hun hmu
          go_wp2_with fail
          go_roundw
          case rel => exact ⟨j + 1, m2, oc, oa, M, S, by simp, by have := HJ.out; omega, rfl, rfl, HMM, HCC, HSn, HPP, HQQ⟩
          case measure => have := HJ.out; first | (simp [intOf]; done) | (simp [intOf]; omega)
        case false =>
          rw [hmu] at cu
          have HSn := Lib.hid (hS.out.mark (by rw [HGe.out]; exact hz) (by rw [HN.out]; exact hun) hmu)
          have hun2 := FL.unm_up hmu n hun
          have HCC := Lib.hid (show 2 * unm n (upF M u) + (u :: S).length + 1 ≤ gk ∧ unm n (upF M u) + (u :: S).length ≤ n by have h := hC.out; simp only [List.length_cons]; omega)
          have HMM := hm2
          have HP2 := Lib.hid (hP.out.mark hun)
          rename World => W3
          have HQ2 := Lib.hid (show (W3.setCell ⟨w.heap.size, u, none⟩ (.bool true)).ownsRow W1.heap.size 3 1 (.slice (some ⟨go, 0, none⟩) Lr gc) Lr (iV G1) ∧ (∀ g, (Value.slice (some ⟨go, 0, none⟩) Lr gc).ownBlock = some g → (Value.slice oa m2 oc).ownBlock ≠ some g) ∧ w.heap.size + 1 ≤ W1.heap.size from
            ⟨owns_set hQ.out.1 (fun hg => by have h1 := (owns_lt hQ.out.1 hg).1; have := hQ.out.2.2; omega), hQ.out.2.1, hQ.out.2.2⟩)
          obtain ⟨W4, hW4⟩ : ∃ W, W = W3.setCell ⟨w.heap.size, u, none⟩ (.bool true) := ⟨_, rfl⟩
          rw [← hW4] at HP2 HQ2
          have HW4 := Lib.hid hW4
          have HB4 := Lib.hid (show m2 ≤ 1000 by have := hC.out.2; have := hm2.out; have := HNn.out.1; omega)
          clear hC hS hP hQ hlt hj hm2 hz hz0 hzn hun hmu hun2 hW4
          go_wp2_with (first | (at_builtin; rw [← HW4.out]; go_loud (refine wpList_append_near rfl (.tmp 54) (.tmp 56) 28 rfl (w.heap.size + 1) 3 i (.int .i64 0) 1 8 Try.underlying28 hi hz hsize hby rfl (by omega) _ m2 (iV (nI S.reverse)) rfl (owns_below (own_eq2 HP2.out.ho HMM.out rfl) ((Below.refl _ _).alloc (Nat.le_refl _) _)) ⟨W3.heap.size, 0, none⟩ 1 1 [.int .i64 (u : Int)] rfl rfl (new_cellsE _ _ _ (by rw [HW4.out]; simp)) (by intro u hu; simp at hu; rw [hu]; rfl) (by have := HB4.out; unfold maxLen; omega) (by have := HB4.out; omega) (by have := HP2.out.hs; simp; omega) ?_; intro v4 w4 hO4 hG4 hN4; have HQ4 := Lib.hid (show w4.ownsRow W1.heap.size 3 1 (.slice (some ⟨go, 0, none⟩) Lr gc) Lr (iV G1) ∧ (∀ g, (Value.slice (some ⟨go, 0, none⟩) Lr gc).ownBlock = some g → v4.ownBlock ≠ some g) ∧ w.heap.size + 1 ≤ W1.heap.size from ⟨owns_grown (owns_below HQ2.out.1 ((Below.refl _ _).alloc (Nat.le_refl _) _)) hG4 (fun g hg => HQ2.out.2.1 g hg), fun g hg he => by
            rcases hN4 with hN4 | ⟨g', hN4, hge⟩
            · rw [hN4] at he; exact HQ2.out.2.1 g hg he
            · rw [hN4] at he; cases he; have h1 := (owns_lt HQ2.out.1 hg).2; simp at hge; omega, HQ2.out.2.2⟩); have HP4 := Lib.hid (HP2.out.push (by rw [HMM.out]; exact hO4) hG4); have hf4 := owns_form hO4; clear hO4 hG4 hN4)) | fail)
          obtain ⟨a4, c4, rfl⟩ := hf4
          go_roundw
          case rel => exact ⟨j + 1, m2 + 1, c4, a4, upF M u, u :: S, by simp, by have := HJ.out; omega, rfl, rfl, Lib.hid (by simp [HMM.out]), HCC, HSn, HP4, HQ4⟩
          case measure => have := HJ.out; first | (simp [intOf]; done) | (simp [intOf]; omega)
/-- whether there is something -/
noncomputable def seenB (L : List Ins) : Bool := @decide (0 < L.length ∧ jumpsB L = true ∧ FL.Whole L) (Classical.propDecidable _)
def MetQ (L : List Ins) (w : World) (r : Ending) (w' : World) : Prop :=
  Below w.heap.size w w' ∧ ((seenB L = false ∧ r = .returned (.slice none 0 0)) ∨ (seenB L = true ∧ ∃ B, r = .returned (.slice (some ⟨B, 0, none⟩) L.length L.length) ∧ w.heap.size ≤ B ∧ w'.ownsRow B 4 1 (.slice (some ⟨B, 0, none⟩) L.length L.length) L.length (bV1 (rowF L.length (FL.rcB L)))))
set_option maxHeartbeats 2000000 in
theorem flow_Met (v : Value) (L : List Ins) (w : World) (hv : RowR 3 insR w v L) (hn : L.length ≤ 300) : Calls Try.prog 5 #[v] w (MetQ L w) := by
  have HJ := Lib.hid (flow_jumpsRight v L w hv hn)
  by_cases h0 : L.length = 0
  · have HS := Lib.hid (show seenB L = false from @decide_eq_false _ (Classical.propDecidable _) (fun h => by omega))
    obtain ⟨s, t, rfl⟩ := row_get hv
    rw [h0] at HJ ⊢
    clear h0 hv hn
    go_enter Try.func5, Try.ntmps5
    go_wp2_with fail
    go_ret
    exact ⟨Below.refl _ _, Or.inl ⟨HS.out, rfl⟩⟩
  have hp : 0 < L.length := by omega
  have e0 : ((L.length : Int) == 0) = false := by have : ¬ (L.length : Int) = 0 := by omega
                                                  simpa using this
  cases hj : jumpsB L
  · have HS := Lib.hid (show seenB L = false from @decide_eq_false _ (Classical.propDecidable _) (fun h => by rw [hj] at h; exact absurd h.2.1 (by decide)))
    rw [hj] at HJ
    obtain ⟨s, t, rfl⟩ := row_get hv
    clear h0 hv hn hp hj
    go_enter Try.func5, Try.ntmps5
    go_wp2_with fail
    refine HJ.out.mono ?_; rintro r w2 ⟨rfl, hb2⟩
    have HB := Lib.hid hb2
    clear hb2
    go_wp2_with fail
    go_ret
    exact ⟨HB.out, Or.inl ⟨HS.out, rfl⟩⟩
  have HMt := Lib.hid (fun (W : World) (h : Below w.heap.size w W) => flow_met v L W (hv.below insR_stable h) hn hp hj)
  have HJj := Lib.hid (And.intro hp hj)
  rw [hj] at HJ
  obtain ⟨s, t, rfl⟩ := row_get hv
  clear h0 hv hn hp hj
  go_enter Try.func5, Try.ntmps5
  go_wp2_with fail
  refine HJ.out.mono ?_; rintro r w2 ⟨rfl, hb2⟩
  have HB := Lib.hid hb2
  have HM2 := Lib.hid (HMt.out w2 hb2)
  clear hb2
  go_wp2_with fail
  refine HM2.out.mono ?_; rintro r w3 ⟨ok, M, rfl, hy, hno, hO, hb3⟩
  have HB3 := Lib.hid (HB.out.trans (hb3.mono HB.out.size))
  cases ok with
  | false =>
    have HS := Lib.hid (show seenB L = false from @decide_eq_false _ (Classical.propDecidable _) (fun h => by
      obtain ⟨q, hq, hr, z, hz, hzz⟩ := hno rfl
      have := h.2.2 q hq hr z hz
      omega))
    clear hy hno hO hb3
    go_wp2_with fail
    go_ret
    exact ⟨HB3.out, Or.inl ⟨HS.out, rfl⟩⟩
  | true =>
    obtain ⟨h1, h2⟩ := hy rfl
    have HS := Lib.hid (show seenB L = true from @decide_eq_true _ (Classical.propDecidable _) ⟨HJj.out.1, HJj.out.2, h1.whole⟩)
    have e : rowF L.length M = rowF L.length (FL.rcB L) := List.map_congr_left fun t _ => h1.same h2 t
    rw [e] at hO
    have HO := Lib.hid hO
    clear hy hno hO hb3 h1 h2 e
    go_wp2_with fail
    go_ret
    exact ⟨HB3.out, Or.inr ⟨HS.out, _, rfl, HB.out.size, HO.out⟩⟩
end Go.Proofs.Ytckcgaggdeaagaa
