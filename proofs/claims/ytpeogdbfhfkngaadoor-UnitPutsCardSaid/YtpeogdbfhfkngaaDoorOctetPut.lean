/- Contracts of octet (layer 3): Put. -/
import Derived.Test.YtpeogdbfhfkngaaDoorGrow
import Derived.Test.YtpeogdbfhfkngaaDoorOctet
import Derived.Deep.DeepAppendRoom
import Derived.LoopTactic
namespace Go.Proofs.YtpeogdbfhfkngaaDoor
open Go.RowKit
def byteAt (n : Int) (i : Nat) : UInt8 := UInt8.ofNat ((n / 2 ^ (8 * i)) % 256).toNat
def putL (k : Nat) (n : Int) : List UInt8 := (List.range k).map (byteAt n)
theorem putL_succ (k : Nat) (n : Int) : putL (k + 1) n = putL k n ++ [byteAt n k] := by simp [putL, List.range_succ]
theorem putL_len (k : Nat) (n : Int) : (putL k n).length = k := by simp [putL]
theorem byteAt_val (n : Int) (i : Nat) : ((byteAt n i).toNat : Int) = (n / 2 ^ (8 * i)) % 256 := by
  unfold byteAt
  have h1 : 0 ≤ (n / 2 ^ (8 * i)) % 256 := by omega
  have h2 : (n / 2 ^ (8 * i)) % 256 < 256 := by omega
  rw [UInt8.toNat_ofNat']
  omega
theorem bytesV_snoc (l : List UInt8) (c : UInt8) : bytesV (l ++ [c]) = bytesV l ++ [Value.int .u8 (c.toNat : Int)] := by simp [bytesV]
set_option maxHeartbeats 1000000 in
theorem octet_Put (v : Value) (l : List UInt8) (many n : Int) (w : World) (hv : RowAt w v l.length (byteV l)) (hm : l.length ≤ 100000000) :
    Calls Tryd.prog 20 #[v, .int .i64 many, .int .i64 n] w fun e w' => ∃ r, e = .returned r ∧ w'.ownsRow w.heap.size 5 1 r (l.length + (near8 many).toNat) (bytesV (l ++ putL (near8 many).toNat n)) ∧ Below w.heap.size w w' := by
  obtain ⟨N, hN⟩ : ∃ N : Nat, (near8 many).toNat = N := ⟨_, rfl⟩
  have hN1 : near8 many = (N : Int) := by unfold near8 at *; omega
  have hN2 : N ≤ 8 := by unfold near8 at *; omega
  have HN := Lib.hid hN1
  rw [hN]
  clear hN1 hN
  obtain ⟨i, hi, hz, hsize, hby⟩ : ∃ i, Tryd.prog.info? 5 = some i ∧ i.zero = some (.int .u8 0) ∧ i.size = 1 ∧ i.bytes = 1 := ⟨(Tryd.prog.info? 5).get!, by kernel_rfl, by kernel_rfl, by kernel_rfl, by kernel_rfl⟩
  go_enter Tryd.func20, Tryd.ntmps20
  go_wp2_with fail
  refine (octet_near _ _).mono ?_; rintro e w' ⟨rfl, rfl⟩
  rw [HN.out]
  go_wp2_with fail
  refine (octet_grown _ l N _ hv (by omega)).mono ?_; rintro e w1 ⟨rfl, hown, hb⟩
  go_wp2_with fail
  refine (octet_near _ _).mono ?_; rintro e w' ⟨rfl, rfl⟩
  rw [HN.out]
  go_wp2_with fail
  go_loopw [7, 15] (fun o j wr => ∃ k : Nat, k ≤ N ∧ j = .int .i64 k ∧ o = .slice (some ⟨w.heap.size, 0, none⟩) (l.length + k) (l.length + N) ∧ Hid (wr.ownsRow w.heap.size 5 1 (.slice (some ⟨w.heap.size, 0, none⟩) (l.length + k) (l.length + N)) (l.length + k) (bytesV (l ++ putL k n))) ∧ Below w.heap.size w wr) (fun _ j _ => N - (intOf j).toNat)
  case atStart => exact ⟨0, by omega, rfl, rfl, Lib.hid (by rw [show putL 0 n = [] from rfl, List.append_nil]; exact hown), hb⟩
  case round =>
    obtain ⟨k, hk, rfl, rfl, hO, hB⟩ := hrel
    by_cases hlt : k < N
    · have hk8 : k < 8 := by omega
      have hz := hB.size
      go_wp2_with (first | (at_builtin; refine wpList_append_own_spare _ rfl (.tmp 18) (.tmp 24) 28 rfl w.heap.size 5 i 1 Tryd.underlying28 hi hsize w.heap.size (l.length + k) (l.length + N) _ rfl (hO.out.alloc _) ⟨wr.heap.size, 0, none⟩ 1 1 [.int .u8 (n / 2 ^ (8 * k) % 256)] rfl rfl (cell_one_new _ _ _) (by intro u hu; obtain rfl := List.mem_singleton.1 hu; rfl) (by omega) ?_; intro w2 hO2 hG2; have HO2 := Lib.hid hO2; clear hO2) | fail)
      go_roundw
      case rel => exact ⟨k + 1, by omega, by go_num, rfl, Lib.hid (by rw [putL_succ, ← List.append_assoc, bytesV_snoc, byteAt_val]; exact HO2.out), below_grown (hB.alloc hB.size _) (Nat.le_refl _) (by rw [World.size_alloc]; omega) hG2⟩
      case measure => simp [intOf]; omega
    · obtain rfl : k = N := by omega
      go_wp2_with fail
      go_ret
      exact ⟨_, rfl, hO.out, hB⟩
end Go.Proofs.YtpeogdbfhfkngaaDoor
