/- Layer 4: the contract of Parse. -/
import Derived.Test.YtaeaiaamhgcmbaaDoorNumTrim
namespace Go.Proofs.YtaeaiaamhgcmbaaDoor
open Go.RowKit
set_option linter.unusedSimpArgs false
set_option linter.unusedVariables false
def vz (l : List UInt8) : Int := (vl l : Int) % 18446744073709551616
theorem vz_bd (l : List UInt8) : 0 ≤ vz l ∧ vz l < 18446744073709551616 := by unfold vz; omega
theorem vz_snoc (l : List UInt8) (c : UInt8) (h : 48 ≤ c.toNat) : vz (l ++ [c]) = ((vz l * 10) % 18446744073709551616 + ((c.toNat : Int) - 48)) % 18446744073709551616 := by
  unfold vz; rw [vl_snoc]; omega
theorem take_step {l : List UInt8} {k : Nat} (h : k < l.length) : l.take (k + 1) = l.take k ++ [l.getD k 0] := by
  rw [List.take_add_one]
  simp [List.getD, h]
theorem kw_u64 (v : Int) : IntKind.u64.wrap v = v % 18446744073709551616 := by simp [IntKind.wrap, IntKind.signed, IntKind.bits]
theorem gn_no {l : List UInt8} (h : isNum l = false) : gn l = 0 := by unfold gn; rw [h]; exact if_neg (by decide)
theorem gn_yes {l : List UInt8} (h : isNum l = true) : gn l = pv l := by unfold gn; rw [h]; exact if_pos rfl
theorem prS_list (n : Int) : (prS n).toList = pr n := by
  simp [prS]
theorem cell_newD (w : World) (C : Array Value) (t : TypeId) (fr : Nat × Nat) (i : Nat) {v : Value} (h : C[i]? = some v) : (w.drew.alloc (.cells C t fr)).cell? ⟨w.heap.size, i, none⟩ = some v := cell_new w.drew C t fr i h
theorem below_newD (w : World) (o : Obj) : Below w.heap.size w (w.drew.alloc o) := (Below.refl _ _).drew.alloc (Nat.le_refl _) _
theorem row_bytes (l : List UInt8) (cap i : Nat) (hi : i < l.length) : (bytesRow ⟨l.toArray⟩ cap)[i]? = some (byteV l i) := by
  unfold bytesRow
  rw [Array.getElem?_append_left (by simpa using hi)]
  simp [byteV, List.getD, hi]
theorem bytes_of (P : Program) (w : World) (l : List UInt8) {src dst e : TypeId} (hs : P.underlying src = some .string) (hd : P.underlying dst = some (.slice e)) (he : P.underlying e = some (.int .u8)) :
    ∃ cap W, (convert src dst (.string ⟨l.toArray⟩)).run P w = .ok (.slice (some ⟨w.heap.size, 0, none⟩) l.length cap) W ∧ (∀ i, i < l.length → W.cell? ⟨w.heap.size, i, none⟩ = some (byteV l i)) ∧ Below w.heap.size w W := by
  have hsz : (⟨l.toArray⟩ : ByteArray).size = l.length := List.size_toArray
  have h := run_bytes_of_string w src dst e ⟨l.toArray⟩ hs hd he
  rw [hsz] at h
  generalize grownCap w l.length 0 e = cap at h
  have hrow := row_bytes l cap
  generalize bytesRow ⟨l.toArray⟩ cap = R at h hrow
  exact ⟨cap, _, h, fun i hi => cell_newD w R e _ i (hrow i hi), below_newD w _⟩
end Go.Proofs.YtaeaiaamhgcmbaaDoor
