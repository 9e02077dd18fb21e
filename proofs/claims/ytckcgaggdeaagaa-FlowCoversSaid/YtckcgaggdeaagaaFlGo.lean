/- flow.goes, flow.branches, flow.jumpsRight, flow.Goes. -/
import Derived.Test.YtckcgaggdeaagaaFlJump
import Derived.Test.YtckcgaggdeaagaaFlA
import Derived.Test.YtckcgaggdeaagaaGridOwn
namespace Go.Proofs.Ytckcgaggdeaagaa
open Go.RowKit
set_option linter.unusedSimpArgs false
set_option linter.unusedVariables false
open FL (opA aA goesP brB farB)
theorem src_newE (w : World) (C : List Value) (t : TypeId) {b : Nat} (hb : w.heap.size = b) : Src (w.alloc (.cells C.toArray t)) (.slice (some ⟨b, 0, none⟩) 1 1) 1 C := by subst hb; exact src_new w C t
theorem flow_branches (o : Int) (w : World) : Calls Try.prog 15 #[.int .i64 o] w fun r w' => r = .returned (.bool (brB o)) ∧ w' = w := by
  have HB := Lib.hid (show brB o = (decide (o = 30) || decide (o = 31) || decide (o = 32)) by
    unfold brB
    by_cases h1 : o = 30
    · subst h1; rfl
    · by_cases h2 : o = 31
      · subst h2; rfl
      · by_cases h3 : o = 32
        · subst h3; rfl
        · simp [h1, h2, h3]; omega)
  generalize brB o = Z at *
  by_cases h1 : o = 30
  · have e1 : (o == 30) = true := by simpa using h1
    have HZ := Lib.hid (show Z = true by rw [HB.out]; simp [h1])
    clear h1
    go_enter Try.func15, Try.ntmps15
    go_wp2_with fail
    go_ret
    exact ⟨by rw [HZ.out]; rfl, rfl⟩
  have e1 : (o == 30) = false := by simpa using h1
  by_cases h2 : o = 31
  · have e2 : (o == 31) = true := by simpa using h2
    have HZ := Lib.hid (show Z = true by rw [HB.out]; simp [h2])
    clear h1 h2
    go_enter Try.func15, Try.ntmps15
    go_wp2_with fail
    go_ret
    exact ⟨by rw [HZ.out]; rfl, rfl⟩
  have e2 : (o == 31) = false := by simpa using h2
  by_cases h3 : o = 32
  · have e3 : (o == 32) = true := by simpa using h3
    have HZ := Lib.hid (show Z = true by rw [HB.out]; simp [h3])
    clear h1 h2 h3
    go_enter Try.func15, Try.ntmps15
    go_wp2_with fail
    go_ret
    exact ⟨by rw [HZ.out]; rfl, rfl⟩
  have e3 : (o == 32) = false := by simpa using h3
  have HZ := Lib.hid (show Z = false by rw [HB.out]; simp [h1, h2, h3])
  clear h1 h2 h3
  go_enter Try.func15, Try.ntmps15
  go_wp2_with fail
  go_ret
  exact ⟨by rw [HZ.out]; rfl, rfl⟩
def swOk (L : List Ins) (pc : Nat) : Prop := opA L pc = 32 → ∀ k, k < (aA L pc).toNat → pc + 1 + k < L.length
theorem iV_row (w : World) (o : Obj) (C : List Int) (n : Nat) (hn : C.length = n) (hm : n ≤ 1000) : ((w.alloc o).alloc (.cells (iV C).toArray 3)).ownsRow w.heap.size 3 1 (.slice (some ⟨w.heap.size + 1, 0, none⟩) n n) n (iV C) := by
  have h := owns_arr (w.alloc o) (iV C).toArray 3 1 n (by simp [iV, hn]) (by unfold maxLen; omega)
  simp only [World.size_alloc, List.toList_toArray] at h
  exact own_low h (by omega)
set_option maxRecDepth 100000 in
set_option maxHeartbeats 4000000 in
theorem flow_goes (v : Value) (L : List Ins) (pc : Nat) (w : World) (hv : RowR 3 insR w v L) (hpc : pc < L.length) (hn : L.length ≤ 300) (hsw : swOk L pc) :
    Calls Try.prog 13 #[v, .int .i64 (pc : Int)] w fun r w' => ∃ u, r = .returned u ∧ w'.ownsRow w.heap.size 3 1 u (goesP L pc).length (iV (goesP L pc)) ∧ Below w.heap.size w w' := by
  obtain ⟨i, hi, hz, hsize, hby⟩ : ∃ i, Try.prog.info? 3 = some i ∧ i.zero = some (.int .i64 0) ∧ i.size = 1 ∧ i.bytes = 8 := ⟨(Try.prog.info? 3).get!, by kernel_rfl, by kernel_rfl, by kernel_rfl, by kernel_rfl⟩
  obtain ⟨s, t, rfl⟩ := row_get hv
  obtain ⟨b, off, rfl, hbw, hc⟩ := code_at hv hpc
  obtain ⟨x, hx⟩ := get_some hpc
  obtain ⟨c0, c1, c2, i0, i1, i2⟩ := hc pc x hx
  have ho : opA L pc = x.1 := by unfold opA; simp [List.getD, hx]
  have ha : aA L pc = x.2.1 := by unfold aA; simp [List.getD, hx]
  obtain ⟨o, a, bb⟩ := x
  simp only at ho ha c0 c1 c2 i0 i1 i2
  have HG := Lib.hid (show goesP L pc = if o = 30 then [a] else if o = 31 then [(pc : Int) + 1, a] else if o = 32 then ((List.range a.toNat).map fun k => aA L (pc + 1 + k)) ++ [(pc : Int) + 1 + a.toNat] else if o = 34 then [] else [(pc : Int) + 1] by unfold goesP; rw [ho, ha])
  unfold swOk at hsw
  rw [ho, ha] at hsw
  generalize goesP L pc = Z at *
  obtain ⟨n, hN⟩ : ∃ n, L.length = n := ⟨_, rfl⟩
  rw [hN] at hpc hn hsw hv ⊢
  have q2 : ((pc : Int) < (n : Int)) = True := eq_true (by omega)
  have q2' : (pc < n) = True := eq_true hpc
  have hp62 : pc ≤ 9223372036854775806 := by omega
  have HC := Lib.hid hc
  have HPc := Lib.hid hpc
  have HN := Lib.hid hN
  have HSw := Lib.hid hsw
  clear hv hc hx ho ha hN hsw
  by_cases h1 : o = 30
  · have e1 : (o == 30) = true := by simpa using h1
    have HZ := Lib.hid (show Z = [a] by rw [HG.out, if_pos h1])
    have HR := Lib.hid (iV_row w (.cells #[.int .i64 o, .int .i64 a, .int .i64 bb] 35) [a] 1 rfl (by omega))
    clear h1 hpc
    go_enter Try.func13, Try.ntmps13
    go_wp2_with fail
    go_ret
    exact ⟨_, rfl, by rw [HZ.out]; exact HR.out, by (repeat' (first | (with_reducible exact Below.refl _ _) | (with_reducible assumption) | (with_reducible refine below_drewN ?_ _) | (with_reducible refine Below.alloc ?_ ?_ _) | (with_reducible refine Below.drew ?_) | (with_reducible refine Below.setCell ?_ ?_ _) | go_size))⟩
  have e1 : (o == 30) = false := by simpa using h1
  by_cases h2 : o = 31
  · have e2 : (o == 31) = true := by simpa using h2
    have HZ := Lib.hid (show Z = [(pc : Int) + 1, a] by rw [HG.out, if_neg h1, if_pos h2])
    have HR := Lib.hid (iV_row w (.cells #[.int .i64 o, .int .i64 a, .int .i64 bb] 35) [(pc : Int) + 1, a] 2 rfl (by omega))
    clear h1 h2 hpc
    go_enter Try.func13, Try.ntmps13
    go_wp2_with fail
    go_ret
    exact ⟨_, rfl, by rw [HZ.out]; exact HR.out, by (repeat' (first | (with_reducible exact Below.refl _ _) | (with_reducible assumption) | (with_reducible refine below_drewN ?_ _) | (with_reducible refine Below.alloc ?_ ?_ _) | (with_reducible refine Below.drew ?_) | (with_reducible refine Below.setCell ?_ ?_ _) | go_size))⟩
  have e2 : (o == 31) = false := by simpa using h2
  by_cases h3 : o = 32
  case neg =>
    have e3 : (o == 32) = false := by simpa using h3
    by_cases h4 : o = 34
    · have e4 : (o == 34) = true := by simpa using h4
      have HZ := Lib.hid (show Z = [] by rw [HG.out, if_neg h1, if_neg h2, if_neg h3, if_pos h4])
      clear h1 h2 h3 h4 hpc
      go_enter Try.func13, Try.ntmps13
      go_wp2_with fail
      go_ret
      exact ⟨_, rfl, by rw [HZ.out]; exact World.ownsRow_nil _ _ _ _, by (repeat' (first | (with_reducible exact Below.refl _ _) | (with_reducible assumption) | (with_reducible refine below_drewN ?_ _) | (with_reducible refine Below.alloc ?_ ?_ _) | (with_reducible refine Below.drew ?_) | (with_reducible refine Below.setCell ?_ ?_ _) | go_size))⟩
    · have e4 : (o == 34) = false := by simpa using h4
      have HZ := Lib.hid (show Z = [(pc : Int) + 1] by rw [HG.out, if_neg h1, if_neg h2, if_neg h3, if_neg h4])
      have HR := Lib.hid (iV_row w (.cells #[.int .i64 o, .int .i64 a, .int .i64 bb] 35) [(pc : Int) + 1] 1 rfl (by omega))
      clear h1 h2 h3 h4 hpc
      go_enter Try.func13, Try.ntmps13
      go_wp2_with fail
      go_ret
      exact ⟨_, rfl, by rw [HZ.out]; exact HR.out, by (repeat' (first | (with_reducible exact Below.refl _ _) | (with_reducible assumption) | (with_reducible refine below_drewN ?_ _) | (with_reducible refine Below.alloc ?_ ?_ _) | (with_reducible refine Below.drew ?_) | (with_reducible refine Below.setCell ?_ ?_ _) | go_size))⟩
  have e3 : (o == 32) = true := by simpa using h3
  have HSw := Lib.hid (HSw.out h3)
  have HZ := Lib.hid (show Z = ((List.range a.toNat).map fun k => aA L (pc + 1 + k)) ++ [(pc : Int) + 1 + a.toNat] by rw [HG.out, if_neg h1, if_neg h2, if_pos h3])
  by_cases h0 : a < 0
  · have r0 : (a < 0) = True := eq_true h0
    have r1 : ((0 : Int) < a) = False := eq_false (by omega)
    have r2 : (a ≤ 0) = True := eq_true (by omega)
    have r3 : (0 ≤ a) = False := eq_false (by omega)
    have HZ := Lib.hid (show Z = [(pc : Int) + 1] by rw [HZ.out, show a.toNat = 0 by omega]; simp)
    clear h1 h2 h3 hpc h0
    go_enter Try.func13, Try.ntmps13
    go_wp2_with fail
    obtain ⟨W0, hW0⟩ : ∃ W, W = w.alloc (.cells #[.int .i64 o, .int .i64 a, .int .i64 bb] 35) := ⟨_, rfl⟩
    have hb0 : Below w.heap.size w W0 := by rw [hW0]; exact by (repeat' (first | (with_reducible exact Below.refl _ _) | (with_reducible assumption) | (with_reducible refine below_drewN ?_ _) | (with_reducible refine Below.alloc ?_ ?_ _) | (with_reducible refine Below.drew ?_) | (with_reducible refine Below.setCell ?_ ?_ _) | go_size))
    rw [← hW0]
    have HB0 := Lib.hid hb0
    clear hW0 hb0 c0 c1 c2
    go_loopw [6, 33] (fun oo jj wr => oo = .slice none 0 0 ∧ jj = .int .i64 0 ∧ wr = W0) (fun _ _ _ => 0)
    case atStart => exact ⟨rfl, rfl, rfl⟩
    case round =>
      obtain ⟨rfl, rfl, hwr⟩ := hrel
      have hwr := hwr.symm
      subst hwr
      have hsz := HB0.out.size
      go_wp2_with (first | (at_builtin; go_loud (refine wpList_append_src rfl (.tmp 48) (.tmp 53) 28 rfl w.heap.size 3 i (.int .i64 0) 1 8 Try.underlying28 hi hz hsize hby rfl (by omega) _ 0 [] rfl (World.ownsRow_nil _ _ _ _) _ 1 [.int .i64 ((pc : Int) + 1)] rfl (src_newE _ _ _ (by simp)) rfl (by intro u hu; simp at hu; rw [hu]; rfl) (by unfold maxLen; omega) (by omega) (by simp; omega) ?_; intro v3 w3 hO3 hG3; have hB3 := Lib.hid (grown3 (HB0.out.alloc hsz _) (by simp; omega) (World.ownsRow_nil _ w.heap.size 3 1) hG3); have HO3 := Lib.hid hO3; clear hO3 hG3)) | fail)
      go_ret
      exact ⟨_, rfl, by rw [HZ.out]; exact own_eq2 HO3.out rfl rfl, hB3.out⟩
  obtain ⟨m, rfl⟩ : ∃ m : Nat, a = (m : Int) := ⟨a.toNat, by omega⟩
  rw [Int.toNat_natCast] at HZ HSw
  have r0 : ((m : Int) < 0) = False := eq_false (by omega)
  have hm300 : m ≤ 300 := by
    by_cases h0 : m = 0
    · omega
    · have := HSw.out (m - 1) (by omega); omega
  clear h1 h2 h3 hpc h0
  go_enter Try.func13, Try.ntmps13
  go_wp2_with fail
  obtain ⟨W0, hW0⟩ : ∃ W, W = w.alloc (.cells #[.int .i64 o, .int .i64 (m : Int), .int .i64 bb] 35) := ⟨_, rfl⟩
  have hb0 : Below w.heap.size w W0 := by rw [hW0]; exact by (repeat' (first | (with_reducible exact Below.refl _ _) | (with_reducible assumption) | (with_reducible refine below_drewN ?_ _) | (with_reducible refine Below.alloc ?_ ?_ _) | (with_reducible refine Below.drew ?_) | (with_reducible refine Below.setCell ?_ ?_ _) | go_size))
  rw [← hW0]
  have HB0 := Lib.hid hb0
  clear hW0 hb0 c0 c1 c2
  go_loopw [6, 33] (fun oo jj wr => ∃ k : Nat, k ≤ m ∧ jj = .int .i64 k ∧ Hid (wr.ownsRow w.heap.size 3 1 oo k (iV ((List.range k).map fun k => aA L (pc + 1 + k)))) ∧ Hid (Below w.heap.size w wr)) (fun _ jj _ => m - (intOf jj).toNat)
  case atStart => exact ⟨0, by omega, rfl, Lib.hid (World.ownsRow_nil _ _ _ _), HB0⟩
  case round =>
    obtain ⟨k, hk, rfl, hO, hB⟩ := hrel
    have hsz := hB.out.size
    by_cases hlt : k < m
    case neg =>
      obtain rfl : m = k := by omega
      have q3 : ((m : Int) < (m : Int)) = False := eq_false (by omega)
      have q3' : (m < m) = False := eq_false (by omega)
      have HOO := hO
      have HBB := hB
      have HM := Lib.hid hm300
      have hpm : ((pc : Int) + 1 + (m : Int)) ≤ 9223372036854775807 := by have := HPc.out; omega
      clear hO hB hlt hk
      go_wp2_with (first | (at_builtin; go_loud (refine wpList_append_src rfl (.tmp 48) (.tmp 53) 28 rfl w.heap.size 3 i (.int .i64 0) 1 8 Try.underlying28 hi hz hsize hby rfl (by omega) _ m _ rfl (owns_below HOO.out ((Below.refl _ _).alloc (Nat.le_refl _) _)) _ 1 [.int .i64 ((pc : Int) + 1 + (m : Int))] rfl (src_newE _ _ _ (by simp)) rfl (by intro u hu; simp at hu; rw [hu]; rfl) (by have := HM.out; unfold maxLen; omega) (by have := HM.out; omega) (by simp; omega) ?_; intro v3 w3 hO3 hG3; have hB3 := Lib.hid (grown3 (HBB.out.alloc hsz _) (by simp; omega) (owns_below HOO.out ((Below.refl _ _).alloc (Nat.le_refl _) _)) hG3); have HO3 := Lib.hid hO3; clear hO3 hG3)) | fail)
      go_ret
      exact ⟨_, rfl, by rw [HZ.out]; exact own_eq2 HO3.out (by simp) (by simp [iV]), hB3.out⟩
    have q3 : ((k : Int) < (m : Int)) = True := eq_true (by omega)
    have q3' : (k < m) = True := eq_true hlt
    have hk62 : k ≤ 9223372036854775806 := by omega
    have HK := Lib.hid hlt
    have hin := HSw.out k hlt
    have hs0 : (pc : Int) + 1 + (k : Int) ≤ 9223372036854775807 := by omega
    have hs1 : pc + 1 + k ≤ 9223372036854775807 := by omega
    have q5 : (0 ≤ (pc : Int) + 1 + (k : Int)) = True := eq_true (by omega)
    have q6 : ((pc : Int) + 1 + (k : Int)).toNat = pc + 1 + k := by omega
    have q4 : ((pc : Int) + 1 + (k : Int) < (n : Int)) = True := eq_true (by omega)
    have q4' : (pc + 1 + k < n) = True := eq_true hin
    obtain ⟨y, hy⟩ := get_some (L := L) (n := pc + 1 + k) (by rw [HN.out]; exact hin)
    obtain ⟨_, d1, _, _⟩ := HC.out (pc + 1 + k) y hy
    have d1 := (hB.out.cell (p := ⟨b, off + (pc + 1 + k) * 3 + 1, none⟩) hbw).trans d1
    have HTk := Lib.hid (show ((List.range (k + 1)).map fun k => aA L (pc + 1 + k)) = ((List.range k).map fun k => aA L (pc + 1 + k)) ++ [y.2.1] by
      rw [List.range_succ, List.map_append]
      congr 1
      simp [aA, List.getD, hy])
    obtain ⟨y0, y1, y2⟩ := y
    simp only at d1 HTk
    have HOO := hO
    have HBB := hB
    have HM := Lib.hid hm300
    clear hO hB hlt hk hin hy
    go_wp2_with (first | (at_builtin; go_loud (refine wpList_append_src rfl (.tmp 36) (.tmp 45) 28 rfl w.heap.size 3 i (.int .i64 0) 1 8 Try.underlying28 hi hz hsize hby rfl (by omega) _ k _ rfl (owns_below HOO.out ((Below.refl _ _).alloc (Nat.le_refl _) _)) _ 1 [.int .i64 y1] rfl (src_newE _ _ _ (by simp)) rfl (by intro u hu; simp at hu; rw [hu]; rfl) (by have := HM.out; have := HK.out; unfold maxLen; omega) (by have := HM.out; have := HK.out; omega) (by simp; omega) ?_; intro v3 w3 hO3 hG3; have hB3 := Lib.hid (grown3 (HBB.out.alloc hsz _) (by simp; omega) (owns_below HOO.out ((Below.refl _ _).alloc (Nat.le_refl _) _)) hG3); have HO3 := Lib.hid hO3; clear hO3 hG3)) | fail)
    go_roundw
    case rel => exact ⟨k + 1, by have := HK.out; omega, by simp, Lib.hid (by rw [HTk.out]; exact own_eq2 HO3.out rfl (by simp [iV])), hB3⟩
    case measure => have := HK.out; first | (simp [intOf]; done) | (simp [intOf]; omega)
end Go.Proofs.Ytckcgaggdeaagaa
