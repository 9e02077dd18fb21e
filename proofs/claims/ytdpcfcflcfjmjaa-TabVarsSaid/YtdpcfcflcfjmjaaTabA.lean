/- Layer 14: numbers that fit a byte, and their bytes. -/
import Derived.Test.YtdpcfcflcfjmjaaOwn
import Derived.Test.YtdpcfcflcfjmjaaOctetPut
import Derived.Test.YtdpcfcflcfjmjaaMoreB
import Derived.LoopTactic
import Derived.OwnWalk
import Derived.WalkKit
import Derived.WalkSpells
import Derived.WalkLawsBesides
import Derived.Deep.QuietTactic
import Derived.BigQuiet
import Derived.WalkSmall
import Derived.IntWalk
namespace Go.Proofs.Ytdpcfcflcfjmjaa
open Go.RowKit
set_option linter.unusedSimpArgs false
set_option linter.unusedVariables false
def fitB (z : Int) : Bool := decide (0 ≤ z ∧ z ≤ 255)
theorem fitB_yes {z : Int} (h0 : 0 ≤ z) (h1 : z ≤ 255) : fitB z = true := decide_eq_true ⟨h0, h1⟩
theorem all_snoc {L : List Int} {k : Nat} {x : Int} {p : Int → Bool} (h : (L.take k).all p = true) (hx : L[k]? = some x) (hp : p x = true) : (L.take (k + 1)).all p = true := by
  rw [take_snoc hx, List.all_append, h]; simp [hp]
theorem ownsRow_none' (w : World) (B : Nat) (e : TypeId) (q : Nat) : w.ownsRow B e q (.slice none 0 0) 0 [] := ⟨by simp, Or.inl ⟨rfl, rfl⟩⟩
theorem all_not {L : List Int} {k : Nat} {x : Int} {p : Int → Bool} (hx : L[k]? = some x) (hp : p x = false) : L.all p = false := by
  rw [List.all_eq_false]; exact ⟨x, List.mem_of_getElem? hx, by simp [hp]⟩
set_option maxHeartbeats 2000000 in
theorem tab_fits (v : Value) (L : List Int) (w : World) (hv : RowR 1 intR w v L) :
    Calls Try.prog 26 #[v] w fun e w' => e = .returned (.bool (L.all fitB)) ∧ ∃ m, w' = w.drewN m := by
  have hL := hv.len
  obtain ⟨sa, ca, rfl⟩ := row_get hv
  have HY := Lib.hid (fun h : (L.take L.length).all fitB = true => (show L.all fitB = true by rwa [List.take_length] at h))
  obtain ⟨N, hN⟩ : ∃ N, L.length = N := ⟨_, rfl⟩
  rw [hN] at hv hL HY
  rw [hN]
  go_enter Try.func26, Try.ntmps26
  go_wp2_with fail
  go_loopw [7] (fun j wr => ∃ k m : Nat, k ≤ N ∧ j = .int .i64 k ∧ Hid ((L.take k).all fitB = true) ∧ wr = w.drewN m) (fun j _ => N - (intOf j).toNat)
  case atStart => exact ⟨0, 0, by omega, rfl, Lib.hid (by simp), rfl⟩
  case round =>
    obtain ⟨k, m, hk, rfl, heq, rfl⟩ := hrel
    by_cases hlt : k < N
    · obtain ⟨b, off, rfl, hbw, hc⟩ := ints_at hv (k := k) (by omega)
      obtain ⟨x, hx⟩ : ∃ x, L[k]? = some x := ⟨L[k]'(by omega), by simp [hN, hlt]⟩
      obtain ⟨c0, _⟩ := hc k x hx
      clear hc
      by_cases h0 : 0 ≤ x
      · have q0 : (x < 0) = False := eq_false (by omega)
        by_cases h1 : x ≤ 255
        · have q1 : (255 < x) = False := eq_false (by omega)
          have hs := Lib.hid (all_snoc heq.out hx (fitB_yes h0 h1))
          clear hx heq h0 h1
          go_wp2_with fail
          go_roundw
          case rel => exact ⟨k + 1, _, by omega, by simp, hs, rfl⟩
          case measure => first | (simp [intOf]; done) | (simp [intOf]; omega)
        · have q1 : (255 < x) = True := eq_true (by omega)
          have hs := Lib.hid (all_not hx (show fitB x = false from decide_eq_false (fun g => h1 g.2)))
          clear hx heq h0 h1
          go_wp2_with fail
          go_ret
          exact ⟨by rw [hs.out]; rfl, _, rfl⟩
      · have q0 : (x < 0) = True := eq_true (by omega)
        have hs := Lib.hid (all_not hx (show fitB x = false from decide_eq_false (fun g => h0 g.1)))
        clear hx heq h0
        go_wp2_with fail
        go_ret
        exact ⟨by rw [hs.out]; rfl, _, rfl⟩
    · obtain rfl : k = N := by omega
      have hs := Lib.hid (HY.out heq.out)
      clear heq
      go_wp2_with fail
      go_ret
      exact ⟨by rw [hs.out]; rfl, _, rfl⟩
-- bytes
def byteO (z : Int) : UInt8 := UInt8.ofNat (z % 256).toNat
theorem byteO_val (z : Int) : ((byteO z).toNat : Int) = z % 256 := by
  unfold byteO
  rw [UInt8.toNat_ofNat']
  omega
theorem bytesO_snoc {L : List Int} {k : Nat} {x : Int} (hx : L[k]? = some x) : bytesV ((L.take (k + 1)).map byteO) = bytesV ((L.take k).map byteO) ++ [.int .u8 (x % 256)] := by
  rw [take_snoc hx, List.map_append, ← byteO_val]; simp [bytesV]
set_option maxHeartbeats 2000000 in
theorem tab_bytesOf (v : Value) (L : List Int) (w : World) (hv : RowR 1 intR w v L) (hm : L.length ≤ 1000) :
    Calls Try.prog 25 #[v] w fun e w' => ∃ r, e = .returned r ∧ w'.ownsRow w.heap.size 5 1 r L.length (bytesV (L.map byteO)) ∧ Below w.heap.size w w' := by
  obtain ⟨i, hi, hz, hsize, hby⟩ : ∃ i, Try.prog.info? 5 = some i ∧ i.zero = some (.int .u8 0) ∧ i.size = 1 ∧ i.bytes = 1 := ⟨(Try.prog.info? 5).get!, by kernel_rfl, by kernel_rfl, by kernel_rfl, by kernel_rfl⟩
  obtain ⟨sa, ca, rfl⟩ := row_get hv
  have HY := Lib.hid (show L.take L.length = L from List.take_length)
  obtain ⟨N, hN⟩ : ∃ N, L.length = N := ⟨_, rfl⟩
  rw [hN] at hv hm HY
  rw [hN]
  go_enter Try.func25, Try.ntmps25
  go_wp2_with fail
  go_loopw [3, 8] (fun o j wr => ∃ k : Nat, k ≤ N ∧ j = .int .i64 k ∧ Hid (wr.ownsRow w.heap.size 5 1 o k (bytesV ((L.take k).map byteO))) ∧ Below w.heap.size w wr) (fun _ j _ => N - (intOf j).toNat)
  case atStart => exact ⟨0, by omega, rfl, Lib.hid (ownsRow_none' _ _ _ _), Below.refl _ _⟩
  case round =>
    obtain ⟨k, hk, rfl, hO, hB⟩ := hrel
    have hz' := hB.size
    by_cases hlt : k < N
    · obtain ⟨x, hx⟩ : ∃ x, L[k]? = some x := get_some (by omega)
      obtain ⟨b, off, rfl, hbw, hc⟩ := ints_at hv (k := k) (by omega)
      obtain ⟨c0, _⟩ := hc k x hx
      have c0 := (hB.cell (p := ⟨b, off + k, none⟩) hbw).trans c0
      have hn := Lib.hid (bytesO_snoc hx)
      have Hown := Lib.hid (fun W (hW : Below wr.heap.size wr W) => owns_below hO.out hW)
      clear hc hx
      go_wp2_with (first | (at_builtin; go_loud (refine wpList_append_src rfl (.tmp 12) (.tmp 15) 23 rfl w.heap.size 5 i (.int .u8 0) 1 1 Try.underlying23 hi hz hsize hby rfl (by omega) _ k _ rfl (Hown.out _ (by (repeat' (first | (with_reducible exact Below.refl _ _) | (with_reducible assumption) | (with_reducible refine below_drewN ?_ _) | (with_reducible refine Below.alloc ?_ ?_ _) | (with_reducible refine Below.drew ?_) | (with_reducible refine Below.setCell ?_ ?_ _) | go_size)))) _ 1 [.int .u8 (x % 256)] rfl (src_new _ _ _) rfl (by intro u hu; simp at hu; rw [hu]; rfl) (by unfold maxLen; omega) (by omega) (by simp; omega) ?_; intro v3 w3 hO3 hG3; have hB3 := Lib.hid (grown3 (Below.trans hB (show Below w.heap.size wr (wr.alloc _) from (show Below wr.heap.size wr _ by (repeat' (first | (with_reducible exact Below.refl _ _) | (with_reducible assumption) | (with_reducible refine below_drewN ?_ _) | (with_reducible refine Below.alloc ?_ ?_ _) | (with_reducible refine Below.drew ?_) | (with_reducible refine Below.setCell ?_ ?_ _) | go_size))).mono (by omega))) (by simp; omega) (Hown.out _ (by (repeat' (first | (with_reducible exact Below.refl _ _) | (with_reducible assumption) | (with_reducible refine below_drewN ?_ _) | (with_reducible refine Below.alloc ?_ ?_ _) | (with_reducible refine Below.drew ?_) | (with_reducible refine Below.setCell ?_ ?_ _) | go_size)))) hG3); have HO3 := Lib.hid hO3; clear hO3 hG3)) | fail)
      go_roundw
      case rel => exact ⟨k + 1, by omega, by simp, Lib.hid (own_eq2 HO3.out (by omega) hn.out.symm), hB3.out⟩
      case measure => first | (simp [intOf]; done) | (simp [intOf]; omega)
    · obtain rfl : k = N := by omega
      go_wp2_with fail
      go_ret
      exact ⟨_, rfl, by have := hO.out; rwa [HY.out] at this, hB⟩
end Go.Proofs.Ytdpcfcflcfjmjaa
