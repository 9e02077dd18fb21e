/- Contracts of octet's answer (layer 3): Put. -/
import Derived.Test.YtpeogdbfhfkngaaDoorOctetPut
namespace Go.Proofs.YtpeogdbfhfkngaaDoor
open Go.RowKit
def ux (n : Int) (k : Nat) : Int := (n % 18446744073709551616) / 256 ^ k
theorem ux_cases {k : Nat} (h : k < 8) : k = 0 ∨ k = 1 ∨ k = 2 ∨ k = 3 ∨ k = 4 ∨ k = 5 ∨ k = 6 ∨ k = 7 := by omega
theorem ux_succ (n : Int) {k : Nat} (h : k < 8) : ux n k / 256 = ux n (k + 1) := by
  unfold ux
  obtain rfl | rfl | rfl | rfl | rfl | rfl | rfl | rfl := ux_cases h <;> omega
theorem ux_byte (n : Int) {k : Nat} (h : k < 8) : ux n k % 256 = ((byteAt n k).toNat : Int) := by
  rw [byteAt_val]
  unfold ux
  obtain rfl | rfl | rfl | rfl | rfl | rfl | rfl | rfl := ux_cases h <;> omega
theorem ux_bd (n : Int) {k : Nat} (h : k ≤ 8) : 0 ≤ ux n k ∧ ux n k < 18446744073709551616 := by
  unfold ux
  obtain rfl | rfl | rfl | rfl | rfl | rfl | rfl | rfl | rfl : k = 0 ∨ k = 1 ∨ k = 2 ∨ k = 3 ∨ k = 4 ∨ k = 5 ∨ k = 6 ∨ k = 7 ∨ k = 8 := by omega
  all_goals omega
set_option maxHeartbeats 1000000 in
theorem ref03_Put (v : Value) (l : List UInt8) (many n : Int) (w : World) (hv : RowAt w v l.length (byteV l)) (hm : l.length ≤ 100000000) :
    Calls Tryd.prog 24 #[v, .int .i64 many, .int .i64 n] w fun e w' => ∃ r, e = .returned r ∧ w'.ownsRow w.heap.size 5 1 r (l.length + (near8 many).toNat) (bytesV (l ++ putL (near8 many).toNat n)) ∧ Below w.heap.size w w' := by
  obtain ⟨N, hN⟩ : ∃ N : Nat, (near8 many).toNat = N := ⟨_, rfl⟩
  have hN1 : near8 many = (N : Int) := by unfold near8 at *; omega
  have hN2 : N ≤ 8 := by unfold near8 at *; omega
  have HN := Lib.hid hN1
  rw [hN]
  clear hN1 hN
  obtain ⟨i, hi, hz, hsize, hby⟩ : ∃ i, Tryd.prog.info? 5 = some i ∧ i.zero = some (.int .u8 0) ∧ i.size = 1 ∧ i.bytes = 1 := ⟨(Tryd.prog.info? 5).get!, by kernel_rfl, by kernel_rfl, by kernel_rfl, by kernel_rfl⟩
  have hrow : ∀ W, Below w.heap.size w W → RowAt W v l.length (byteV l) := fun W h => hv.below h
  have HR := Lib.hid hrow
  clear hrow
  have hmap : (List.range l.length).map (byteV l) = bytesV l := map_byteV l
  go_enter Tryd.func24, Tryd.ntmps24
  go_wp2_with (first | (at_builtin; refine wpList_append_row1 rfl (.tmp 10) (.tmp 11) 28 rfl w.heap.size 5 i (.int .u8 0) 1 Tryd.underlying28 hi hz hsize hby rfl _ 0 [] rfl (World.ownsRow_lit w #[] 0 (Nat.le_refl _) (by unfold maxLen; omega) rfl) _ l.length (byteV l) rfl (HR.out _ ((Below.refl _ _).alloc (Nat.le_refl _) _)) (fun _ _ => rfl) (by unfold maxLen; omega) (by omega) (by rw [World.size_alloc]; omega) ?_; intro v1 w1 hO1 hG1) | fail)
  have HO := Lib.hid (show w1.ownsRow w.heap.size 5 1 v1 l.length (bytesV l) by rw [hmap, List.nil_append, Nat.zero_add] at hO1; exact hO1)
  have hB1 : Below w.heap.size w w1 := below_grown ((Below.refl _ _).alloc (Nat.le_refl _) _) (Nat.le_refl _) (by rw [World.size_alloc]; omega) hG1
  clear hO1 hG1 hmap HR
  have u0 : IntKind.u64.wrap n = ux n 0 := by rw [show IntKind.u64.wrap n = n % 18446744073709551616 from by simp [IntKind.wrap, IntKind.signed, IntKind.bits]]; unfold ux; omega
  have U0 := Lib.hid u0
  clear u0
  go_loopw [7, 8, 9] (fun o x j wr => ∃ k : Nat, k ≤ N ∧ j = .int .i64 k ∧ x = .int .u64 (ux n k) ∧ Hid (wr.ownsRow w.heap.size 5 1 o (l.length + k) (bytesV (l ++ putL k n))) ∧ Below w.heap.size w wr) (fun _ _ j _ => N - (intOf j).toNat)
  case atStart => exact ⟨0, by omega, rfl, by rw [← U0.out], Lib.hid (by rw [show putL 0 n = [] from rfl, List.append_nil]; exact HO.out), hB1⟩
  case round =>
    clear hB1 HO
    obtain ⟨k, hk, rfl, rfl, hO, hB⟩ := hrel
    have hbd := ux_bd n (show k ≤ 8 by omega)
    have hz' := hB.size
    go_wp2_with fail
    refine (ref03_held _ _).mono ?_; rintro e w' ⟨rfl, rfl⟩
    rw [HN.out]
    by_cases hlt : k < N
    · have hk8 : k < 8 := by omega
      have Hb := Lib.hid (ux_byte n hk8)
      have Hs := Lib.hid (ux_succ n hk8)
      generalize ux n k = x at *
      go_wp2_with (first | (at_builtin; refine wpList_append_row1 rfl (.tmp 21) (.tmp 25) 28 rfl w.heap.size 5 i (.int .u8 0) 1 Tryd.underlying28 hi hz hsize hby rfl _ (l.length + k) _ rfl (hO.out.alloc _) _ 1 (fun _ => .int .u8 (x % 256)) rfl (RowAt.new _ _ _ _ _ 1 1 (by omega) (by omega) (by omega) (fun i hi => by obtain rfl : i = 0 := (by omega); rfl)) (fun _ _ => rfl) (by unfold maxLen; omega) (by omega) (by rw [World.size_alloc]; omega) ?_; intro v2 w2 hO2 hG2; have HO2 := Lib.hid hO2; have hB2 := below_grownV (hB.alloc hB.size _) (by rw [World.size_alloc]; omega) (hO.out.alloc _) hG2; clear hO2 hG2) | fail)
      go_roundw
      case rel => exact ⟨k + 1, by omega, by go_num, by rw [← Hs.out], Lib.hid (by rw [putL_succ, ← List.append_assoc, bytesV_snoc, ← Hb.out]; exact HO2.out), hB2⟩
      case measure => simp [intOf]; omega
    · obtain rfl : k = N := by omega
      go_wp2_with fail
      go_ret
      exact ⟨_, rfl, hO.out, hB⟩
end Go.Proofs.YtpeogdbfhfkngaaDoor
