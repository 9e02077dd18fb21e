/- Contracts of octet (layer 3): Text. -/
import Derived.Test.YtpeogdbfhfkngaaDoorOctetRef
import Derived.Lib.AppendStr
namespace Go.Proofs.YtpeogdbfhfkngaaDoor
open Go.RowKit
def cut255 (s : ByteArray) : ByteArray := if 255 < s.size then s.extract 0 255 else s
theorem textV (l : List UInt8) (t : ByteArray) (h : t.size ≤ 255) : bytesV (l ++ [UInt8.ofNat t.size] ++ t.data.toList) = bytesV l ++ [Value.int .u8 (t.size : Int)] ++ Lib.strCells t := by
  simp [bytesV, Lib.strCells]
  omega
set_option maxHeartbeats 1000000 in
theorem octet_Text (v : Value) (l : List UInt8) (s : ByteArray) (w : World) (hv : RowAt w v l.length (byteV l)) (hm : l.length ≤ 100000000) :
    Calls Tryd.prog 18 #[v, .string s] w fun e w' => ∃ r, e = .returned r ∧ w'.ownsRow w.heap.size 5 1 r (l.length + 1 + (cut255 s).size) (bytesV (l ++ [UInt8.ofNat (cut255 s).size] ++ (cut255 s).data.toList)) ∧ Below w.heap.size w w' := by
  obtain ⟨i, hi, hz, hsize, hby⟩ : ∃ i, Tryd.prog.info? 5 = some i ∧ i.zero = some (.int .u8 0) ∧ i.size = 1 ∧ i.bytes = 1 := ⟨(Tryd.prog.info? 5).get!, by kernel_rfl, by kernel_rfl, by kernel_rfl, by kernel_rfl⟩
  by_cases h2 : 255 < s.size
  · obtain ⟨t, ht⟩ : ∃ t, s.extract 0 255 = t := ⟨_, rfl⟩
    have hts : t.size = 255 := by rw [← ht]; simp; omega
    have HC := Lib.hid (show cut255 s = t by unfold cut255; rw [if_pos h2, ht])
    have HT := Lib.hid hts
    go_enter Tryd.func18, Tryd.ntmps18
    go_wp2_with fail
    rw [show (256 : Int) = ((256 : Nat) : Int) from rfl]
    refine (octet_grown _ l 256 _ hv (by omega)).mono ?_; rintro e w1 ⟨rfl, hO1, hb1⟩
    have HO := Lib.hid hO1
    have hz1 := hb1.size
    clear hO1 ht h2
    go_wp2_with (first | (at_builtin; refine wpList_append_own_spare _ rfl (.tmp 15) (.tmp 19) 28 rfl w.heap.size 5 i 1 Tryd.underlying28 hi hsize w.heap.size l.length _ _ rfl (HO.out.alloc _) _ 1 1 [_] rfl rfl (cell_one_new _ _ _) (by intro u hu; obtain rfl := List.mem_singleton.1 hu; rfl) (by omega) ?_; intro w2 hO2 hG2; have HO2 := Lib.hid hO2; have HG2 := Lib.hid hG2; clear hO2 hG2) | (at_builtin; refine Lib.wpList_append_own_string _ rfl (.tmp 21) (.tmp 22) 28 9 rfl w.heap.size 5 i Tryd.underlying28 Tryd.underlying9 hi hz hsize hby _ _ _ rfl HO2.out _ rfl (by unfold maxLen; omega) (by omega) (by have := HG2.out.size; rw [World.size_alloc] at this; omega) ?_; intro v3 w3 hO3 hG3 _; have HO3 := Lib.hid hO3; have HG3 := Lib.hid hG3; clear hO3 hG3) | fail)
    go_wp2_with fail
    go_ret
    rw [HC.out]
    exact ⟨_, rfl, by rw [textV l t (by rw [HT.out]; omega)]; rw [HT.out]; have := HO3.out; rw [HT.out] at this; exact this, below_grownV (below_grown (hb1.alloc hz1 _) (Nat.le_refl _) (by rw [World.size_alloc]; omega) HG2.out) (by have := HG2.out.size; rw [World.size_alloc] at this; omega) HO2.out HG3.out⟩
  · have HC := Lib.hid (show cut255 s = s by unfold cut255; rw [if_neg h2])
    go_enter Tryd.func18, Tryd.ntmps18
    go_wp2_with fail
    rw [show (1 + ((s.size : Nat) : Int)) = ((1 + s.size : Nat) : Int) from by omega]
    refine (octet_grown _ l (1 + s.size) _ hv (by omega)).mono ?_; rintro e w1 ⟨rfl, hO1, hb1⟩
    have HO := Lib.hid hO1
    have hz1 := hb1.size
    clear hO1
    go_wp2_with (first | (at_builtin; refine wpList_append_own_spare _ rfl (.tmp 15) (.tmp 19) 28 rfl w.heap.size 5 i 1 Tryd.underlying28 hi hsize w.heap.size l.length _ _ rfl (HO.out.alloc _) _ 1 1 [_] rfl rfl (cell_one_new _ _ _) (by intro u hu; obtain rfl := List.mem_singleton.1 hu; rfl) (by omega) ?_; intro w2 hO2 hG2; have HO2 := Lib.hid hO2; have HG2 := Lib.hid hG2; clear hO2 hG2) | (at_builtin; refine Lib.wpList_append_own_string _ rfl (.tmp 21) (.tmp 22) 28 9 rfl w.heap.size 5 i Tryd.underlying28 Tryd.underlying9 hi hz hsize hby _ _ _ rfl HO2.out _ rfl (by unfold maxLen; omega) (by omega) (by have := HG2.out.size; rw [World.size_alloc] at this; omega) ?_; intro v3 w3 hO3 hG3 _; have HO3 := Lib.hid hO3; have HG3 := Lib.hid hG3; clear hO3 hG3) | fail)
    go_wp2_with fail
    go_ret
    rw [HC.out]
    exact ⟨_, rfl, by rw [textV l s (by omega)]; exact HO3.out, below_grownV (below_grown (hb1.alloc hz1 _) (Nat.le_refl _) (by rw [World.size_alloc]; omega) HG2.out) (by have := HG2.out.size; rw [World.size_alloc] at this; omega) HO2.out HG3.out⟩
end Go.Proofs.YtpeogdbfhfkngaaDoor
