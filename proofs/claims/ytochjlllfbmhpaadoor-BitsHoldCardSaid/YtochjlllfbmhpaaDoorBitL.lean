/- Sets: the places, rising. -/
import Derived.Test.YtochjlllfbmhpaaDoorBitH
import Derived.Test.YtochjlllfbmhpaaDoorOwn
namespace Go.Proofs.YtochjlllfbmhpaaDoor
open Go.RowKit
set_option linter.unusedSimpArgs false
set_option linter.unusedVariables false
theorem low_bit (y : Nat) (h0 : y ≠ 0) (h : y < 18446744073709551616) : ∃ q, Lib.ctz 64 y = q ∧ q < 64 ∧ y.testBit q = true ∧ (∀ j, j < q → y.testBit j = false) ∧ (∀ j, (y &&& (y - 1)).testBit j = (y.testBit j && decide (j ≠ q))) := by
  obtain ⟨m, hm, hk⟩ := Lib.ctzFrom_spec 64 y (by omega) h
  have hc : Lib.ctz 64 y = Lib.ctzFrom 64 y := by unfold Lib.ctz; rw [if_neg h0]
  rw [hc]
  generalize Lib.ctzFrom 64 y = q at *
  have hp : 0 < 2 ^ q := Nat.pow_pos (by decide)
  have e1 : y = 2 ^ q * (2 * m + 1) + 0 := by rw [Nat.add_zero]; exact hm
  have e2 : y - 1 = 2 ^ q * (2 * m) + (2 ^ q - 1) := by rw [hm, Nat.mul_add, Nat.mul_one]; omega
  have t1 : ∀ j, y.testBit j = if j < q then false else (2 * m + 1).testBit (j - q) := fun j => by
    rw [e1, Nat.testBit_two_pow_mul_add _ hp]; simp
  have t2 : ∀ j, (y - 1).testBit j = if j < q then true else (2 * m).testBit (j - q) := fun j => by
    rw [e2, Nat.testBit_two_pow_mul_add _ (by omega), Nat.testBit_two_pow_sub_one]
    by_cases hj : j < q <;> simp [hj]
  refine ⟨q, rfl, hk, ?_, fun j hj => ?_, fun j => ?_⟩
  · rw [t1, if_neg (by omega), Nat.sub_self, Nat.testBit_zero]; simp
  · rw [t1, if_pos hj]
  · rw [Nat.testBit_and, t1, t2]
    by_cases hj : j < q
    · simp [hj]
    · by_cases he : j = q
      · subst he; simp [Nat.testBit_zero]
      · obtain ⟨i, rfl⟩ : ∃ i, j = q + (i + 1) := ⟨j - q - 1, by omega⟩
        have e3 : q + (i + 1) - q = i + 1 := by omega
        rw [if_neg hj, if_neg hj, e3, Nat.testBit_succ, Nat.testBit_succ, show (2 * m + 1) / 2 = m by omega, show 2 * m / 2 = m by omega]
        simp [he]
def lstI (x : List Bool) (n : Nat) : List Int := (lstN x n).map fun (i : Nat) => (i : Int)
theorem lstI_len (x : List Bool) (n : Nat) : (lstI x n).length = (lstN x n).length := by simp [lstI]
/-- what is left of a word: its bits from p on -/
def Rest (n y p : Nat) : Prop := ∀ j, y.testBit j = (n.testBit j && decide (p ≤ j))
theorem rest_start (n : Nat) : Rest n n 0 := fun j => by simp
theorem rest_end {x : List Bool} {n k p : Nat} (h : Rest n 0 p) (hp : p ≤ 64) (hx : ∀ j, j < 64 → n.testBit j = x.getD (64 * k + j) false) : lstI x (64 * (k + 1)) = lstI x (64 * k + p) := by
  unfold lstI
  rw [show 64 * (k + 1) = 64 * k + 64 by omega, lstN_none x (64 * k + p) (64 * k + 64) (by omega) fun i h1 h2 => ?_]
  have := h (i - 64 * k)
  rw [Nat.zero_testBit, hx _ (by omega), show 64 * k + (i - 64 * k) = i by omega, decide_eq_true (by omega), Bool.and_true] at this
  exact this.symm
theorem rest_step {x : List Bool} {n y k p : Nat} (h : Rest n y p) (h0 : y ≠ 0) (hy : y < 18446744073709551616) (hx : ∀ j, j < 64 → n.testBit j = x.getD (64 * k + j) false) :
    ∃ q, Lib.ctz 64 y = q ∧ q < 64 ∧ p ≤ q ∧ Rest n (y &&& (y - 1)) (q + 1) ∧ lstI x (64 * k + (q + 1)) = lstI x (64 * k + p) ++ [((64 * k + q : Nat) : Int)] ∧ (y &&& (y - 1)) < y := by
  obtain ⟨q, h1, h2, h3, h4, h5⟩ := low_bit y h0 hy
  have hq := h q
  rw [h3] at hq
  have hpq : p ≤ q := by
    by_cases hpq : p ≤ q
    · exact hpq
    · rw [decide_eq_false hpq] at hq; simp at hq
  have hnq : n.testBit q = true := by rw [decide_eq_true hpq, Bool.and_true] at hq; exact hq.symm
  have hfalse : ∀ j, p ≤ j → j < q → n.testBit j = false := fun j hj hjq => by
    have := h j
    rw [h4 j hjq, decide_eq_true hj, Bool.and_true] at this
    exact this.symm
  refine ⟨q, h1, h2, hpq, fun j => ?_, ?_, ?_⟩
  · rw [h5, h j]
    by_cases hj : q + 1 ≤ j
    · have e1 : p ≤ j := by omega
      have e2 : j ≠ q := by omega
      simp [hj, e1, e2]
    · by_cases hjq : j = q
      · subst hjq; simp
      · by_cases hpj : p ≤ j
        · rw [hfalse j hpj (by omega)]; simp
        · simp [hpj, hj]
  · unfold lstI
    rw [show 64 * k + (q + 1) = (64 * k + q) + 1 by omega, lstN_succ, ← hx q h2, hnq, lstN_none x (64 * k + p) (64 * k + q) (by omega) fun i i1 i2 => ?_]
    · simp
    · rw [show i = 64 * k + (i - 64 * k) by omega, ← hx _ (by omega)]
      exact hfalse _ (by omega) (by omega)
  · have : y &&& (y - 1) ≤ y - 1 := Nat.and_le_right
    omega
theorem lstI_I64 (x : List Bool) (n : Nat) (hn : n ≤ 1000000) : ∀ z ∈ lstI x n, I64 z := by
  intro z hz
  obtain ⟨i, hi, rfl⟩ := List.mem_map.1 hz
  have := List.mem_range.1 (List.mem_filter.1 hi).1
  unfold I64; omega
theorem make_zero (m : Nat) : madeCells (Value.int .i64 0).cells m = (Array.replicate m (Value.int .i64 0)) := by
  apply Array.ext_getElem?
  intro i
  by_cases h : i < m
  · simp [madeCells, Value.cells, h, Nat.mod_one, Array.getElem?_replicate]
  · simp [madeCells, Value.cells, h, Array.getElem?_replicate]
set_option maxHeartbeats 1000000 in
theorem bits_List (v : Value) (x : List Bool) (w : World) (hx : SetR w v x) (hT : DB w) : Calls Tryd.prog 21 #[v] w fun e w' => ∃ r, e = .returned r ∧ RowR 1 intR w' r (lstI x x.length) ∧ Below w.heap.size w w' := by
  have HCt := Lib.hid (fun W (h : Below w.heap.size w W) => bits_Count v x W (hx.below h))
  obtain ⟨vs, a, c, rfl, hvs, hlen, hcell⟩ := hx
  have HF := Lib.hid (fun k (_ : k = vs.length) => show lstI x (64 * k) = lstI x x.length from by unfold lstI; rw [lstN_far x (by have := hvs.1; omega)]; rfl)
  obtain ⟨K, hK⟩ : ∃ K, vs.length = K := ⟨_, rfl⟩
  have HK := Lib.hid hK
  have hK64 : K ≤ 1024 := by have := hvs.1; omega
  have HB := Lib.hid (fun k j (hj : j < 64) => show (vs.getD k 0).testBit j = x.getD (64 * k + j) false by rw [hvs.2]; simp [hj])
  have H64 := Lib.hid (word_lt hvs)
  have HLE := Lib.hid (fun m => show (lstI x m).length ≤ m by rw [lstI_len]; exact lstN_le x m)
  have HI := Lib.hid (lstI_I64 x x.length (by omega))
  have hcnt : (lst x).length ≤ 65536 := Nat.le_trans (lstN_le x _) hlen
  obtain ⟨C, hC⟩ : ∃ C, (lst x).length = C := ⟨_, rfl⟩
  rw [hC] at HCt hcnt
  obtain ⟨n, hn⟩ : ∃ n, x.length = n := ⟨_, rfl⟩
  have HN := Lib.hid hn
  rw [hK] at hcell HCt ⊢
  rw [hn] at HCt ⊢
  clear hK hvs hn hlen hC
  have HC := Lib.hid hcell
  have HT := Lib.hid hT
  clear hcell hT
  obtain ⟨i, hi, hz, hsize, hby⟩ : ∃ i, Tryd.prog.info? 3 = some i ∧ i.zero = some (.int .i64 0) ∧ i.size = 1 ∧ i.bytes = 8 := ⟨(Tryd.prog.info? 3).get!, by kernel_rfl, by kernel_rfl, by kernel_rfl, by kernel_rfl⟩
  have hmk := fun W => run_make W 22 3 i _ Tryd.underlying22 hi hz .i64 .i64 0 (C : Int) (by omega) (by omega) (by rw [hby]; omega) (by omega)
  rw [hsize, Nat.mul_one, make_zero, Int.toNat_natCast] at hmk
  obtain ⟨W0, hW0⟩ : ∃ W0, W0 = w.alloc (.cells #[.int .i64 n, .slice a K c] 26) := ⟨_, rfl⟩
  have B0 := Lib.hid (show Below w.heap.size w W0 from by rw [hW0]; exact by (repeat' (first | (with_reducible exact Below.refl _ _) | (with_reducible assumption) | (with_reducible refine below_drewN ?_ _) | (with_reducible refine Below.alloc ?_ ?_ _) | (with_reducible refine Below.drew ?_) | (with_reducible refine Below.setCell ?_ ?_ _) | go_size)))
  have o0 : W0.heap[w.heap.size]? = some (.cells #[.int .i64 n, .slice a K c] 26) := by rw [hW0]; exact get_last rfl
  have O0 := Lib.hid o0
  have H0 := Lib.hid hW0
  clear o0 hW0
  go_enter Tryd.func21, Tryd.ntmps21
  go_wp2_with fail
  rw [← H0.out]
  refine (HCt.out _ B0.out).mono ?_; rintro e W1 ⟨rfl, hb1⟩
  have HB1 := Lib.hid (B0.out.trans (hb1.mono B0.out.size))
  have o1 := obj_below O0.out hb1 (heap_lt O0.out)
  have c11 : W1.cell? ⟨w.heap.size, 1, none⟩ = some (.slice a K c) := obj_cell o1 (i := 1) rfl
  have z1 := heap_lt o1
  have cp := @cell_past
  have HO1 := Lib.hid o1
  clear hb1 o1
  go_wp2_with fail
  have HS := Lib.hid (own_low (owns_made W1 (Array.replicate C (Value.int .i64 0)) 3 1 C (by simp) (by unfold maxLen; omega)) (B := w.heap.size) HB1.out.size)
  have HB2 := Lib.hid (show Below w.heap.size w (W1.alloc (.cells (Array.replicate C (Value.int .i64 0)) 3)) from HB1.out.alloc HB1.out.size _)
  generalize W1.alloc (.cells (Array.replicate C (Value.int .i64 0)) 3) = W2 at *
  generalize Value.slice (some ⟨W1.heap.size, 0, none⟩) 0 C = o2 at *
  clear HB1 HO1 c11 z1 cp hmk HCt
  go_loopw [3, 12] (fun o j wr => ∃ k : Nat, k ≤ K ∧ j = .int .i64 k ∧ Hid (wr.ownsRow w.heap.size 3 1 o (lstI x (64 * k)).length (iV (lstI x (64 * k)))) ∧ Hid (Below w.heap.size w wr)) (fun _ j _ => K - (intOf j).toNat)
  case atStart => exact ⟨0, by omega, rfl, HS, HB2⟩
  case round =>
    obtain ⟨k, hk, rfl, hO, hB⟩ := hrel
    by_cases hlt : k < K
    · have qk : ((k : Int) < (K : Int)) = True := eq_true (by omega)
      have qk' : (k < K) = True := eq_true hlt
      obtain ⟨b, off, rfl, l1, l2, l3, l4⟩ := HC.out (by omega)
      have hc := (hB.out.cell (p := ⟨b, off + k, none⟩) l3).trans (l4 k hlt)
      have l2' : c ≤ 9223372036854775807 := l2
      have h64 := H64.out k
      have HBk := Lib.hid (HB.out k)
      obtain ⟨y, hy⟩ : ∃ y, vs.getD k 0 = y := ⟨_, rfl⟩
      rw [hy] at hc h64 HBk
      have HY := Lib.hid h64
      have HLT := Lib.hid hlt
      clear hy l4 l2 h64 hlt
      go_wp2_with fail
      go_loopw [3, 5] (fun o u wr => ∃ (p z : Nat), p ≤ 64 ∧ z < 18446744073709551616 ∧ u = .int .u64 z ∧ Hid (Rest y z p) ∧ Hid (wr.ownsRow w.heap.size 3 1 o (lstI x (64 * k + p)).length (iV (lstI x (64 * k + p)))) ∧ Hid (Below w.heap.size w wr)) (fun _ u _ => (intOf u).toNat)
      case atStart => exact ⟨0, y, by omega, HY.out, rfl, Lib.hid (rest_start y), Lib.hid (by rw [Nat.add_zero]; exact hO.out), hB⟩
      case round =>
        clear hO hB hc
        obtain ⟨p, z, hp, hz64, rfl, hR, hO, hB⟩ := hrel
        have hsz := hB.out.size
        by_cases hz0 : z = 0
        · subst hz0
          have HE := Lib.hid (rest_end hR.out hp HBk.out)
          have q0 : ((0 : Int) != 0) = false := by decide
          go_wp2_with fail
          go_roundw
          case rel => exact ⟨k + 1, by have := HLT.out; omega, by simp, Lib.hid (by rw [HE.out]; exact hO.out), hB⟩
          case measure => have := HLT.out; first | (simp [intOf]; done) | (simp [intOf]; omega)
        · obtain ⟨q, h1, h2, h3, h4, h5, h6⟩ := rest_step (x := x) (k := k) hR.out hz0 hz64 HBk.out
          have HTZ := Lib.hid (fun W (h : Below w.heap.size w W) => tz_64 z hz64 hz0 W (HT.out.below h))
          rw [h1] at HTZ
          have q0 : ((z : Int) != 0) = true := by rw [bne_iff_ne]; omega
          have e1 : IntKind.u64.wrap ((z : Int) - 1) = ((z - 1 : Nat) : Int) := by rw [show ((z : Int) - 1) = ((z - 1 : Nat) : Int) by omega, wrap_u _ (by omega)]
          have e2 := and_u z (z - 1) hz64 (by omega)
          have e3 : (k : Int) * 64 + (q : Int) = ((64 * k + q : Nat) : Int) := by omega
          have H5 := Lib.hid h5
          have H4 := Lib.hid h4
          have H6 := Lib.hid h6
          have hfl : (lstI x (64 * k + p)).length ≤ 70000 := Nat.le_trans (HLE.out _) (by omega)
          clear h1 h4 h5 h6 hz0 hR
          obtain ⟨ft, hff⟩ : ∃ ft, lstI x (64 * k + p) = ft := ⟨_, rfl⟩
          rw [hff] at hO H5 hfl
          obtain ⟨fn, hfn⟩ : ∃ fn, ft.length = fn := ⟨_, rfl⟩
          rw [hfn] at hO hfl
          have HFN := Lib.hid hfn
          clear hff hfn
          have hBr := hB.out
          have hOr := hO.out
          go_wp2_with fail
          refine (HTZ.out wr hB.out).mono ?_; rintro e w9 ⟨rfl, rfl⟩
          go_wp2_with (first | (at_builtin; go_loud (refine wpList_append_src rfl (.tmp 19) (.tmp 25) 22 rfl w.heap.size 3 i (.int .i64 0) 1 8 Tryd.underlying22 hi hz hsize hby rfl (by omega) _ fn _ rfl (owns_below hOr ((Below.refl _ _).alloc (Nat.le_refl _) _)) _ 1 [.int .i64 ((64 * k + q : Nat) : Int)] rfl (src_new _ _ _) rfl (by intro u hu; simp at hu; rw [hu]; rfl) (by unfold maxLen; omega) (by omega) (by simp; omega) ?_; intro v3 w3 hO3 hG3; have hB3 := Lib.hid (grown3 (hBr.alloc hsz _) (by simp; omega) (owns_below hOr ((Below.refl _ _).alloc (Nat.le_refl _) _)) hG3); have HO3 := Lib.hid hO3; clear hO3 hG3)) | fail)
          go_roundw
          case rel => exact ⟨q + 1, z &&& (z - 1), by omega, by have := H6.out; omega, by rfl, H4, Lib.hid (by rw [H5.out]; exact own_eq2 HO3.out (by simp [HFN.out]) (by simp [iV])), hB3⟩
          case measure => have := H6.out; simp [intOf]; omega
    · obtain rfl : k = K := by omega
      have qk : ((k : Int) < (k : Int)) = False := eq_false (by omega)
      have qk' : (k < k) = False := eq_false (by omega)
      have hrow := Lib.hid (row_of_owns (l := lstI x n) (by have := hO.out; rw [HF.out k HK.out.symm, HN.out] at this; exact this) (by rw [← HN.out]; exact HI.out))
      clear hO
      go_wp2_with fail
      go_ret
      exact ⟨_, rfl, hrow.out, hB.out⟩
end Go.Proofs.YtochjlllfbmhpaaDoor
