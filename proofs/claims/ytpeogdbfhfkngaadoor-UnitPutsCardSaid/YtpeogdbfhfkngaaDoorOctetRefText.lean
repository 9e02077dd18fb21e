/- Contracts of octet's answer (layer 3): Text. -/
import Derived.Test.YtpeogdbfhfkngaaDoorOctetText
namespace Go.Proofs.YtpeogdbfhfkngaaDoor
open Go.RowKit
theorem strCells_take (s : ByteArray) (k : Nat) (h : k < s.size) : (Lib.strCells s).take (k + 1) = (Lib.strCells s).take k ++ [Value.int .u8 ((s[k]'h).toNat : Int)] := by
  have hl : k < (Lib.strCells s).length := by rw [Lib.strCells_length]; exact h
  rw [List.take_succ_eq_append_getElem hl]
  congr 1
  simp [Lib.strCells]
  rfl
set_option maxHeartbeats 1000000 in
theorem ref03_Text (v : Value) (l : List UInt8) (s : ByteArray) (w : World) (hv : RowAt w v l.length (byteV l)) (hm : l.length ≤ 100000000) :
    Calls Tryd.prog 23 #[v, .string s] w fun e w' => ∃ r, e = .returned r ∧ w'.ownsRow w.heap.size 5 1 r (l.length + 1 + (cut255 s).size) (bytesV (l ++ [UInt8.ofNat (cut255 s).size] ++ (cut255 s).data.toList)) ∧ Below w.heap.size w w' := by
  obtain ⟨i, hi, hz, hsize, hby⟩ : ∃ i, Tryd.prog.info? 5 = some i ∧ i.zero = some (.int .u8 0) ∧ i.size = 1 ∧ i.bytes = 1 := ⟨(Tryd.prog.info? 5).get!, by kernel_rfl, by kernel_rfl, by kernel_rfl, by kernel_rfl⟩
  have hrow : ∀ W, Below w.heap.size w W → RowAt W v l.length (byteV l) := fun W h => hv.below h
  have HR := Lib.hid hrow
  clear hrow
  have hmap : (List.range l.length).map (byteV l) = bytesV l := map_byteV l
  by_cases h2 : 255 < s.size
  · obtain ⟨t, ht⟩ : ∃ t, s.extract 0 255 = t := ⟨_, rfl⟩
    have hts : t.size ≤ 255 := by rw [← ht]; simp; omega
    have HC := Lib.hid (show cut255 s = t by unfold cut255; rw [if_pos h2, ht])
    go_enter Tryd.func23, Tryd.ntmps23
    go_wp2_with (first | (at_builtin; refine wpList_append_row1 rfl (.tmp 12) (.tmp 13) 28 rfl w.heap.size 5 i (.int .u8 0) 1 Tryd.underlying28 hi hz hsize hby rfl _ 0 [] rfl (World.ownsRow_lit w #[] 0 (Nat.le_refl _) (by unfold maxLen; omega) rfl) _ l.length (byteV l) rfl (HR.out _ ((Below.refl _ _).alloc (Nat.le_refl _) _)) (fun _ _ => rfl) (by unfold maxLen; omega) (by omega) (by rw [World.size_alloc]; omega) ?_; intro v1 w1 hO1 hG1; have HO := Lib.hid (show w1.ownsRow w.heap.size 5 1 v1 l.length (bytesV l) by rw [hmap, List.nil_append, Nat.zero_add] at hO1; exact hO1); have hB1 : Below w.heap.size w w1 := below_grown ((Below.refl _ _).alloc (Nat.le_refl _) _) (Nat.le_refl _) (by rw [World.size_alloc]; omega) hG1; have hz1 := hB1.size; clear hO1 hG1) | (at_builtin; refine wpList_append_row1 rfl (.tmp 15) (.tmp 19) 28 rfl w.heap.size 5 i (.int .u8 0) 1 Tryd.underlying28 hi hz hsize hby rfl _ l.length _ rfl (HO.out.alloc _) _ 1 (fun _ => .int .u8 (t.size : Int)) rfl (RowAt.new _ _ _ _ _ 1 1 (by omega) (by omega) (by omega) (fun i hi => by obtain rfl : i = 0 := (by omega); rfl)) (fun _ _ => rfl) (by unfold maxLen; omega) (by omega) (by rw [World.size_alloc]; omega) ?_; intro v2 w2 hO2 hG2; have HO2 := Lib.hid hO2; have hB2 := below_grownV (hB1.alloc hz1 _) (by rw [World.size_alloc]; omega) (HO.out.alloc _) hG2; clear hO2 hG2) | fail)
    have H0 := Lib.hid (show w2.ownsRow w.heap.size 5 1 v2 (l.length + 1) (bytesV l ++ [Value.int .u8 (t.size : Int)]) from HO2.out)
    clear HO HO2 hB1 hz1 hmap HR
    go_loopw [5, 6] (fun o j wr => ∃ k : Nat, k ≤ t.size ∧ j = .int .i64 k ∧ Hid (wr.ownsRow w.heap.size 5 1 o (l.length + 1 + k) (bytesV l ++ [Value.int .u8 (t.size : Int)] ++ (Lib.strCells t).take k)) ∧ Below w.heap.size w wr) (fun _ j _ => t.size - (intOf j).toNat)
    case atStart => exact ⟨0, by omega, rfl, Lib.hid (by rw [List.take_zero, List.append_nil]; exact H0.out), hB2⟩
    case round =>
      clear hB2 H0
      obtain ⟨k, hk, rfl, hO, hB⟩ := hrel
      have hzz := hB.size
      by_cases hlt : k < t.size
      · have HT2 := Lib.hid (strCells_take t k hlt)
        go_wp2_with (first | (at_builtin; refine wpList_append_row1 rfl (.tmp 27) (.tmp 31) 28 rfl w.heap.size 5 i (.int .u8 0) 1 Tryd.underlying28 hi hz hsize hby rfl _ (l.length + 1 + k) _ rfl (hO.out.alloc _) _ 1 (fun _ => .int .u8 ((t[k]'hlt).toNat : Int)) rfl (RowAt.new _ _ _ _ _ 1 1 (by omega) (by omega) (by omega) (fun i hi => by obtain rfl : i = 0 := (by omega); rfl)) (fun _ _ => rfl) (by unfold maxLen; omega) (by omega) (by rw [World.size_alloc]; omega) ?_; intro v2 w2 hO2 hG2; have HO2 := Lib.hid hO2; have hB2 := below_grownV (hB.alloc hB.size _) (by rw [World.size_alloc]; omega) (hO.out.alloc _) hG2; clear hO2 hG2) | fail)
        go_roundw
        case rel => exact ⟨k + 1, by omega, by go_num, Lib.hid (by rw [HT2.out, ← List.append_assoc]; exact HO2.out), hB2⟩
        case measure => simp [intOf]; omega
      · obtain rfl : k = t.size := by omega
        go_wp2_with fail
        go_ret
        rw [HC.out]
        exact ⟨_, rfl, by rw [textV l t (by omega)]; have := hO.out; rw [List.take_of_length_le (l := Lib.strCells t) (by rw [Lib.strCells_length]; exact Nat.le_refl _)] at this; exact this, hB⟩
  · have HC := Lib.hid (show cut255 s = s by unfold cut255; rw [if_neg h2])
    go_enter Tryd.func23, Tryd.ntmps23
    go_wp2_with (first | (at_builtin; refine wpList_append_row1 rfl (.tmp 12) (.tmp 13) 28 rfl w.heap.size 5 i (.int .u8 0) 1 Tryd.underlying28 hi hz hsize hby rfl _ 0 [] rfl (World.ownsRow_lit w #[] 0 (Nat.le_refl _) (by unfold maxLen; omega) rfl) _ l.length (byteV l) rfl (HR.out _ ((Below.refl _ _).alloc (Nat.le_refl _) _)) (fun _ _ => rfl) (by unfold maxLen; omega) (by omega) (by rw [World.size_alloc]; omega) ?_; intro v1 w1 hO1 hG1; have HO := Lib.hid (show w1.ownsRow w.heap.size 5 1 v1 l.length (bytesV l) by rw [hmap, List.nil_append, Nat.zero_add] at hO1; exact hO1); have hB1 : Below w.heap.size w w1 := below_grown ((Below.refl _ _).alloc (Nat.le_refl _) _) (Nat.le_refl _) (by rw [World.size_alloc]; omega) hG1; have hz1 := hB1.size; clear hO1 hG1) | (at_builtin; refine wpList_append_row1 rfl (.tmp 15) (.tmp 19) 28 rfl w.heap.size 5 i (.int .u8 0) 1 Tryd.underlying28 hi hz hsize hby rfl _ l.length _ rfl (HO.out.alloc _) _ 1 (fun _ => .int .u8 (s.size : Int)) rfl (RowAt.new _ _ _ _ _ 1 1 (by omega) (by omega) (by omega) (fun i hi => by obtain rfl : i = 0 := (by omega); rfl)) (fun _ _ => rfl) (by unfold maxLen; omega) (by omega) (by rw [World.size_alloc]; omega) ?_; intro v2 w2 hO2 hG2; have HO2 := Lib.hid hO2; have hB2 := below_grownV (hB1.alloc hz1 _) (by rw [World.size_alloc]; omega) (HO.out.alloc _) hG2; clear hO2 hG2) | fail)
    have H0 := Lib.hid (show w2.ownsRow w.heap.size 5 1 v2 (l.length + 1) (bytesV l ++ [Value.int .u8 (s.size : Int)]) from HO2.out)
    clear HO HO2 hB1 hz1 hmap HR
    go_loopw [5, 6] (fun o j wr => ∃ k : Nat, k ≤ s.size ∧ j = .int .i64 k ∧ Hid (wr.ownsRow w.heap.size 5 1 o (l.length + 1 + k) (bytesV l ++ [Value.int .u8 (s.size : Int)] ++ (Lib.strCells s).take k)) ∧ Below w.heap.size w wr) (fun _ j _ => s.size - (intOf j).toNat)
    case atStart => exact ⟨0, by omega, rfl, Lib.hid (by rw [List.take_zero, List.append_nil]; exact H0.out), hB2⟩
    case round =>
      clear hB2 H0
      obtain ⟨k, hk, rfl, hO, hB⟩ := hrel
      have hzz := hB.size
      by_cases hlt : k < s.size
      · have HT2 := Lib.hid (strCells_take s k hlt)
        go_wp2_with (first | (at_builtin; refine wpList_append_row1 rfl (.tmp 27) (.tmp 31) 28 rfl w.heap.size 5 i (.int .u8 0) 1 Tryd.underlying28 hi hz hsize hby rfl _ (l.length + 1 + k) _ rfl (hO.out.alloc _) _ 1 (fun _ => .int .u8 ((s[k]'hlt).toNat : Int)) rfl (RowAt.new _ _ _ _ _ 1 1 (by omega) (by omega) (by omega) (fun i hi => by obtain rfl : i = 0 := (by omega); rfl)) (fun _ _ => rfl) (by unfold maxLen; omega) (by omega) (by rw [World.size_alloc]; omega) ?_; intro v2 w2 hO2 hG2; have HO2 := Lib.hid hO2; have hB2 := below_grownV (hB.alloc hB.size _) (by rw [World.size_alloc]; omega) (hO.out.alloc _) hG2; clear hO2 hG2) | fail)
        go_roundw
        case rel => exact ⟨k + 1, by omega, by go_num, Lib.hid (by rw [HT2.out, ← List.append_assoc]; exact HO2.out), hB2⟩
        case measure => simp [intOf]; omega
      · obtain rfl : k = s.size := by omega
        go_wp2_with fail
        go_ret
        rw [HC.out]
        exact ⟨_, rfl, by rw [textV l s (by omega)]; have := hO.out; rw [List.take_of_length_le (l := Lib.strCells s) (by rw [Lib.strCells_length]; exact Nat.le_refl _)] at this; exact this, hB⟩
end Go.Proofs.YtpeogdbfhfkngaaDoor
