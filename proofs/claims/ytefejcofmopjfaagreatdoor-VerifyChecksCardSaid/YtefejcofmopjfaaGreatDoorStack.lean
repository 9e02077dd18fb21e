/- Layer 19: stacks of types: the program's small functions. -/
import Derived.Test.YtefejcofmopjfaaGreatDoorRefsTwo
import Derived.Test.YtefejcofmopjfaaGreatDoorSlots
import Derived.Deep.RegionWith
namespace Go.Proofs.YtefejcofmopjfaaGreatDoor
open Go.RowKit
set_option linter.unusedSimpArgs false
set_option linter.unusedVariables false
theorem I64_2 : I64 2 := by unfold I64; omega
theorem I64_0 : I64 0 := by unfold I64; omega
theorem I64_1 : I64 1 := by unfold I64; omega
set_option maxHeartbeats 2000000 in
theorem stack_put (v u : Value) (L M : List Int) (w : World) (hv : RowR 1 intR w v L) (hu : RowR 1 intR w u M) (hl : L.length ≤ 2000) (hm : M.length ≤ 2000) :
    Calls Tryz.prog 105 #[v, u] w fun e w' => ∃ r, e = .returned r ∧ RowR 1 intR w' r (L ++ M) ∧ Below w.heap.size w w' := by
  obtain ⟨i, hi, hz, hsize, hby⟩ : ∃ i, Tryz.prog.info? 3 = some i ∧ i.zero = some (.int .i64 0) ∧ i.size = 1 ∧ i.bytes = 8 := ⟨(Tryz.prog.info? 3).get!, by kernel_rfl, by kernel_rfl, by kernel_rfl, by kernel_rfl⟩
  have HI := Lib.hid (show ∀ z ∈ L ++ M, I64 z from fun z hz => (List.mem_append.1 hz).elim (row_ints hv z) (row_ints hu z))
  have HS1 := Lib.hid (fun W (hb : Below w.heap.size w W) => (src_ints hv).below hb)
  have HS2 := Lib.hid (fun W (hb : Below w.heap.size w W) => (src_ints hu).below hb)
  obtain ⟨sa, ca, rfl⟩ := row_get hv
  obtain ⟨sb, cb, rfl⟩ := row_get hu
  clear hv hu
  obtain ⟨n1, hn1⟩ : ∃ n, L.length = n := ⟨_, rfl⟩
  obtain ⟨n2, hn2⟩ : ∃ n, M.length = n := ⟨_, rfl⟩
  have HN := Lib.hid (show L.length = n1 ∧ M.length = n2 from ⟨hn1, hn2⟩)
  rw [hn1] at hl HS1 ⊢
  rw [hn2] at hm HS2 ⊢
  clear hn1 hn2
  have hmk := fun W => run_make W 35 3 i _ Tryz.underlying35 hi hz .i64 .i64 (0 : Int) ((n1 : Int) + n2) (by omega) (by omega) (by rw [hby]; omega) (by omega)
  rw [hsize, Nat.mul_one, show ((n1 : Int) + n2).toNat = n1 + n2 by omega, show ((0 : Int)).toNat = 0 from rfl] at hmk
  obtain ⟨Z, hZ⟩ : ∃ Z, madeCells (Value.int .i64 0).cells (n1 + n2) = Z := ⟨_, rfl⟩
  have hZs : Z.size = n1 + n2 := by rw [← hZ]; simp [madeCells]
  rw [hZ] at hmk
  clear hZ
  have HE := Lib.hid (owns_made w Z 3 1 (n1 + n2) (by omega) (by unfold maxLen; omega))
  go_enter Tryz.func105, Tryz.ntmps105
  go_wp2_with (first | (at_builtin; go_loud (refine wpList_append_src rfl (.tmp 12) (.tmp 13) 35 rfl w.heap.size 3 i (.int .i64 0) 1 8 Tryz.underlying35 hi hz hsize hby rfl (by omega) _ 0 [] rfl HE.out _ n1 (iV L) rfl (HS1.out _ (by (repeat' (first | (with_reducible exact Below.refl _ _) | (with_reducible assumption) | (with_reducible refine below_drewN ?_ _) | (with_reducible refine Below.alloc ?_ ?_ _) | (with_reducible refine Below.drew ?_) | (with_reducible refine Below.setCell ?_ ?_ _) | go_size)))) (by rw [iV_len, HN.out.1]; omega) (iV_one L) (by unfold maxLen; omega) (by omega) (by simp) ?_; intro v2 w2 hO2 hG2; have hB2 := grown3 (show Below w.heap.size w (w.alloc (.cells Z 3)) from by (repeat' (first | (with_reducible exact Below.refl _ _) | (with_reducible assumption) | (with_reducible refine below_drewN ?_ _) | (with_reducible refine Below.alloc ?_ ?_ _) | (with_reducible refine Below.drew ?_) | (with_reducible refine Below.setCell ?_ ?_ _) | go_size))) (by simp) HE.out hG2; have HO2 := Lib.hid hO2; clear hO2 hG2)) | (at_builtin; go_loud (refine wpList_append_src rfl (.tmp 15) (.tmp 16) 35 rfl w.heap.size 3 i (.int .i64 0) 1 8 Tryz.underlying35 hi hz hsize hby rfl (by omega) _ (0 + n1) _ rfl HO2.out _ n2 (iV M) rfl (HS2.out _ hB2) (by rw [iV_len, HN.out.2]; omega) (iV_one M) (by unfold maxLen; omega) (by omega) hB2.size ?_; intro v3 w3 hO3 hG3; have hB3 := grown3 hB2 hB2.size HO2.out hG3; have HO3 := Lib.hid hO3; clear hO3 hG3)) | fail)
  go_returns
  exact ⟨_, rfl, row_of_owns (own_eq2 HO3.out (by rw [List.length_append, HN.out.1, HN.out.2]; omega) (by rw [iV_app]; rfl)) HI.out, hB3⟩
def slotAt (x : Un) (n : Int) : Int := (slotsL x).getD n.toNat 0
set_option maxHeartbeats 4000000 in
theorem stack_slot (a b c : Value) (x : Un) (n : Int) (w : World) (h : UnAt w a b c x) (hf : fewU x = true) (hn : 0 ≤ n) (hn2 : n < slotsN x) : Calls Tryz.prog 120 #[.agg #[.string ⟨x.name.toArray⟩, a, .int .i64 x.result, b, c], .int .i64 n] w fun e w' => e = .returned (.int .i64 (slotAt x n)) ∧ Below w.heap.size w w' := by
  obtain ⟨k, rfl⟩ := Int.eq_ofNat_of_zero_le hn
  obtain ⟨_, f1, f2, _⟩ := fewU_is hf
  have hps := h.ps
  have hls := h.ls
  obtain ⟨sa, ca, rfl⟩ := row_get h.ps
  obtain ⟨sb, cb, rfl⟩ := row_get h.ls
  have cp := @cell_past
  have HD := Lib.hid (show slotAt x k = (x.params ++ (if x.result = 0 then [] else [x.result]) ++ x.locals).getD k 0 by unfold slotAt slotsL; simp)
  have hN : slotsN x = x.params.length + x.locals.length + (if x.result = 0 then 0 else 1) := rfl
  have hkb : k < 5000 := by
    have hh := hn2
    rw [hN] at hh
    split at hh <;> omega
  clear h hf
  generalize (⟨x.name.toArray⟩ : ByteArray) = nm at *
  generalize x.result = rs at *
  generalize x.params = P at *
  generalize x.locals = L at *
  by_cases g : k < P.length
  · obtain ⟨z, hz⟩ := get_some g
    obtain ⟨b3, off3, rfl, hbw3, hg⟩ := ints_at hps g
    obtain ⟨g0, _⟩ := hg k z hz
    have hs := Lib.hid (show slotAt x k = z by rw [HD.out, List.getD_eq_getElem?_getD, List.getElem?_append_left (by simp; omega), List.getElem?_append_left g, hz]; rfl)
    have q1 : ((k : Int) < (P.length : Int)) = True := eq_true (by omega)
    generalize P.length = n1 at *
    generalize L.length = n2 at *
    clear hg hz hps hls hN
    go_enter Tryz.func120, Tryz.ntmps120
    go_wp2_with fail
    go_ret
    exact ⟨by rw [hs.out]; rfl, by (repeat' (first | (with_reducible exact Below.refl _ _) | (with_reducible assumption) | (with_reducible refine below_drewN ?_ _) | (with_reducible refine Below.alloc ?_ ?_ _) | (with_reducible refine Below.drew ?_) | (with_reducible refine Below.setCell ?_ ?_ _) | go_size))⟩
  have q1 : ((k : Int) < (P.length : Int)) = False := eq_false (by omega)
  by_cases h0 : rs = 0
  · rw [if_pos h0] at hN HD
    rw [List.append_nil] at HD
    obtain ⟨z, hz⟩ := get_some (L := L) (n := k - P.length) (by omega)
    obtain ⟨b3, off3, rfl, hbw3, hg⟩ := ints_at hls (lt_of_get hz)
    obtain ⟨g0, _⟩ := hg _ z hz
    have hs := Lib.hid (show slotAt x k = z by rw [HD.out, List.getD_eq_getElem?_getD, List.getElem?_append_right (by omega), hz]; rfl)
    have q : (rs != 0) = false := by simp [h0]
    have m2 : (0 ≤ (k : Int) - (P.length : Int)) = True := eq_true (by omega)
    have m3 : ((k : Int) - (P.length : Int) < (L.length : Int)) = True := eq_true (by omega)
    have m4 : ((k : Int) - (P.length : Int)).toNat = k - P.length := by omega
    generalize P.length = n1 at *
    generalize L.length = n2 at *
    clear hg hz hps hls hN h0
    go_enter Tryz.func120, Tryz.ntmps120
    go_wp2_with fail
    go_ret
    exact ⟨by rw [hs.out]; rfl, by (repeat' (first | (with_reducible exact Below.refl _ _) | (with_reducible assumption) | (with_reducible refine below_drewN ?_ _) | (with_reducible refine Below.alloc ?_ ?_ _) | (with_reducible refine Below.drew ?_) | (with_reducible refine Below.setCell ?_ ?_ _) | go_size))⟩
  rw [if_neg h0] at hN HD
  have q : (rs != 0) = true := by simpa using h0
  by_cases hk : k = P.length
  · have hs := Lib.hid (show slotAt x k = rs by rw [HD.out, List.getD_eq_getElem?_getD, List.getElem?_append_left (by simp; omega), List.getElem?_append_right (by omega), hk]; simp)
    have m5 : ((k : Int) - (P.length : Int) == 0) = true := by simp; omega
    generalize P.length = n1 at *
    generalize L.length = n2 at *
    clear hps hls hN h0 hk
    go_enter Tryz.func120, Tryz.ntmps120
    go_wp2_with fail
    go_ret
    exact ⟨by rw [hs.out]; rfl, by (repeat' (first | (with_reducible exact Below.refl _ _) | (with_reducible assumption) | (with_reducible refine below_drewN ?_ _) | (with_reducible refine Below.alloc ?_ ?_ _) | (with_reducible refine Below.drew ?_) | (with_reducible refine Below.setCell ?_ ?_ _) | go_size))⟩
  · obtain ⟨z, hz⟩ := get_some (L := L) (n := k - P.length - 1) (by omega)
    obtain ⟨b3, off3, rfl, hbw3, hg⟩ := ints_at hls (lt_of_get hz)
    obtain ⟨g0, _⟩ := hg _ z hz
    have hs := Lib.hid (show slotAt x k = z by rw [HD.out, List.getD_eq_getElem?_getD, List.getElem?_append_right (by simp; omega), List.length_append, show k - (P.length + [rs].length) = k - P.length - 1 by simp; omega, hz]; rfl)
    have m5 : ((k : Int) - (P.length : Int) == 0) = false := by simp; omega
    have m2 : (0 ≤ (k : Int) - (P.length : Int) - 1) = True := eq_true (by omega)
    have m6 : ((k : Int) - (P.length : Int) < 1) = False := eq_false (by omega)
    have m7 : (1 ≤ (k : Int) - (P.length : Int)) = True := eq_true (by omega)
    have m3 : ((k : Int) - (P.length : Int) - 1 < (L.length : Int)) = True := eq_true (by omega)
    have m4 : ((k : Int) - (P.length : Int) - 1).toNat = k - P.length - 1 := by omega
    generalize P.length = n1 at *
    generalize L.length = n2 at *
    clear hg hz hps hls hN h0 hk
    go_enter Tryz.func120, Tryz.ntmps120
    go_wp2_with fail
    go_ret
    exact ⟨by rw [hs.out]; rfl, by (repeat' (first | (with_reducible exact Below.refl _ _) | (with_reducible assumption) | (with_reducible refine below_drewN ?_ _) | (with_reducible refine Below.alloc ?_ ?_ _) | (with_reducible refine Below.drew ?_) | (with_reducible refine Below.setCell ?_ ?_ _) | go_size))⟩
end Go.Proofs.YtefejcofmopjfaaGreatDoor
