/- Contracts of octet (layer 3). -/
import Derived.Test.YtpeogdbfhfkngaaDoorRow
import Derived.Laws.CopyOwn
import Derived.Laws.MakeOwn
import Derived.WalkSpells
import Derived.WalkLawsBesides
namespace Go.Proofs.YtpeogdbfhfkngaaDoor
open Go.RowKit
def bytesV (l : List UInt8) : List Value := l.map fun c => Value.int .u8 (c.toNat : Int)
theorem bytesV_len (l : List UInt8) : (bytesV l).length = l.length := by simp [bytesV]
theorem bytesV_at {l : List UInt8} {i : Nat} {v : Value} (h : (bytesV l)[i]? = some v) : i < l.length ∧ v = byteV l i := by
  have hi : i < l.length := by
    by_cases hi : i < l.length
    · exact hi
    · rw [List.getElem?_eq_none (by rw [bytesV_len]; omega)] at h; cases h
  have := byteV_at hi
  unfold bytesV at h
  rw [this] at h
  exact ⟨hi, (Option.some.inj h).symm⟩
theorem bytesV_one (l : List UInt8) : ∀ v ∈ bytesV l, v.oneCell' = true := by
  intro v hv
  obtain ⟨c, _, rfl⟩ := List.mem_map.1 hv
  rfl
def near8 (n : Int) : Int := min (max n 0) 8
theorem octet_near (n : Int) (w : World) : Calls Tryd.prog 41 #[.int .i64 n] w fun e w' => e = .returned (.int .i64 (near8 n)) ∧ w = w' := by
  by_cases h1 : n < 0
  · have Hr := Lib.hid (show near8 n = 0 by unfold near8; omega)
    go_enter Tryd.func41, Tryd.ntmps41; go_wp2; go_ret; exact ⟨by rw [Hr.out]; rfl, rfl⟩
  by_cases h2 : 8 < n
  · have Hr := Lib.hid (show near8 n = 8 by unfold near8; omega)
    have h3 : ¬ n < 0 := h1
    go_enter Tryd.func41, Tryd.ntmps41; go_wp2; go_ret; exact ⟨by rw [Hr.out]; rfl, rfl⟩
  · have Hr := Lib.hid (show near8 n = n by unfold near8; omega)
    go_enter Tryd.func41, Tryd.ntmps41; go_wp2; go_ret; exact ⟨by rw [Hr.out]; rfl, rfl⟩
theorem ref03_held (n : Int) (w : World) : Calls Tryd.prog 44 #[.int .i64 n] w fun e w' => e = .returned (.int .i64 (near8 n)) ∧ w = w' := by
  by_cases h1 : n < 0
  · have Hr := Lib.hid (show near8 n = 0 by unfold near8; omega)
    go_enter Tryd.func44, Tryd.ntmps44; go_wp2; go_ret; exact ⟨by rw [Hr.out]; rfl, rfl⟩
  by_cases h2 : 8 < n
  · have Hr := Lib.hid (show near8 n = 8 by unfold near8; omega)
    go_enter Tryd.func44, Tryd.ntmps44; go_wp2; go_ret; exact ⟨by rw [Hr.out]; rfl, rfl⟩
  · have Hr := Lib.hid (show near8 n = n by unfold near8; omega)
    go_enter Tryd.func44, Tryd.ntmps44; go_wp2; go_ret; exact ⟨by rw [Hr.out]; rfl, rfl⟩
theorem octet_grown (v : Value) (l : List UInt8) (m : Nat) (w : World) (hv : RowAt w v l.length (byteV l)) (hm : l.length + m ≤ 1000000000) :
    Calls Tryd.prog 40 #[v, .int .i64 (m : Int)] w fun e w' => e = .returned (.slice (some ⟨w.heap.size, 0, none⟩) l.length (l.length + m)) ∧ w'.ownsRow w.heap.size 5 1 (.slice (some ⟨w.heap.size, 0, none⟩) l.length (l.length + m)) l.length (bytesV l) ∧ Below w.heap.size w w' := by
  obtain ⟨i, hi, hz, hsize, hby⟩ : ∃ i, Tryd.prog.info? 5 = some i ∧ i.zero = some (.int .u8 0) ∧ i.size = 1 ∧ i.bytes = 1 := ⟨(Tryd.prog.info? 5).get!, by kernel_rfl, by kernel_rfl, by kernel_rfl, by kernel_rfl⟩
  obtain ⟨n, hn⟩ : ∃ n, l.length = n := ⟨_, rfl⟩
  have Hn := Lib.hid hn
  have hmk := run_make w 28 5 i _ Tryd.underlying28 hi hz .i64 .i64 (n : Int) ((n : Int) + (m : Int)) (by omega) (by omega) (by rw [hby]; omega) (by omega)
  rw [hsize, Nat.mul_one, show ((n : Int) + (m : Int)).toNat = n + m by omega, show ((n : Int)).toNat = n by omega] at hmk
  obtain ⟨Z, hZ⟩ : ∃ Z, madeCells (Value.int .u8 0).cells (n + m) = Z := ⟨_, rfl⟩
  have hZs : Z.toList.length = n + m := by rw [← hZ]; simp [madeCells]
  rw [hZ] at hmk
  have hg : (w.alloc (.cells Z 5)).heap[w.heap.size]? = some (.cells Z.toList.toArray 5 (0, 0)) := by show (w.heap.push _)[w.heap.size]? = _; simp
  have hB : Below w.heap.size w (w.alloc (.cells Z 5)) := (Below.refl _ _).alloc (Nat.le_refl _) _
  have hu := Tryd.underlying28
  have hsz : (Tryd.prog.info? 5).map (·.size) = some 1 := by rw [hi]; exact congrArg some hsize
  have fin : ∀ w2 : World, w2.heap[w.heap.size]? = some (.cells (splice Z.toList 0 (bytesV l)).toArray 5 (0, 0)) → w2.ownsRow w.heap.size 5 1 (.slice (some ⟨w.heap.size, 0, none⟩) l.length (l.length + m)) l.length (bytesV l) := by
    intro w2 h2
    refine ⟨by rw [bytesV_len]; omega, Or.inr ⟨_, _, _, rfl, Nat.le_refl _, h2, by omega, by unfold maxLen; omega, ?_, ?_⟩⟩
    · simp only [List.size_toArray]; rw [length_splice _ _ _ (by rw [bytesV_len]; omega)]; omega
    · rw [List.toList_toArray, Nat.mul_one]; unfold splice; rw [List.take_zero, List.nil_append]; exact List.take_left' (bytesV_len l)
  have HF := Lib.hid fin
  have HG := Lib.hid hg
  clear hZ fin hg
  rw [hn] at hv ⊢
  rcases hv with ⟨a, cap, rfl, h0, _⟩ | ⟨b, off, cap, rfl, h1, h2, h3, h4, hcell⟩
  · subst h0
    rw [show ((0 : Nat) : Int) = 0 from rfl, show (0 : Int) + (m : Int) = (m : Int) by omega] at hmk
    have hbz : bytesV l = [] := by rw [List.eq_nil_of_length_eq_zero hn]; rfl
    have HW := Lib.hid (HF.out (w.alloc (.cells Z 5)) (by rw [hbz, show splice Z.toList 0 [] = Z.toList from by simp [splice]]; exact HG.out))
    clear hbz
    go_enter Tryd.func40, Tryd.ntmps40
    go_wp2_with (first | (with_reducible show wpList _ _ _ _ _ _; refine wpList_copy_nothing (o := ⟨some 15, _, _, _, _, _⟩) rfl (.tmp 13) (.tmp 14) 28 28 rfl 5 hu hsz _ _ _ _ _ _ rfl rfl rfl ?_) | fail)
    go_wp2_with fail
    go_ret
    exact ⟨by simp, hn ▸ HW.out, hB⟩
  · have hsrc : ∀ j u, (bytesV l)[j]? = some u → (w.alloc (.cells Z 5)).cell? ((⟨b, off, none⟩ : Addr).add j) = some u := by
      intro j u hu
      obtain ⟨hj, rfl⟩ := bytesV_at hu
      have := (hB.cell (p := ⟨b, off + j, none⟩) h4).trans (hcell j (by omega))
      unfold Addr.add
      by_cases h0 : j = 0
      · subst h0; simpa using this
      · simpa [h0] using this
    have HS := Lib.hid hsrc
    clear hsrc hcell
    go_enter Tryd.func40, Tryd.ntmps40
    go_wp2_with (first | (with_reducible show wpList _ _ _ _ _ _; refine wpList_copy_splice (o := ⟨some 15, _, _, _, _, _⟩) rfl (.tmp 13) (.tmp 14) 28 28 rfl 5 hu hsz _ _ _ _ _ _ rfl rfl w.heap.size 0 Z.toList 5 HG.out (bytesV l) (by rw [bytesV_len, Hn.out]; simp [Nat.min_def]) (fun _ => ⟨rfl, _, rfl, fun j u hj => HS.out j u hj⟩) (by rw [bytesV_len, Hn.out]; omega) (bytesV_one l) w.heap.size w hB (Nat.le_refl _) ?_; intro w2 HG2 hB2) | fail)
    go_wp2_with fail
    go_ret
    exact ⟨rfl, hn ▸ HF.out w2 HG2.out, hB2⟩
end Go.Proofs.YtpeogdbfhfkngaaDoor
