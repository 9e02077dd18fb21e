/- Arguments opened: slices of bytes, of bools, of ints. -/
import Derived.Test.YthammifbpdoggaaDoorBase
import Derived.Test.YthammifbpdoggaaDoorRow
import Derived.Deep.Grids
namespace Go.Proofs.YthammifbpdoggaaDoor
open Go.ChangeShapes Go.WideShapes Go.ChangeAt Go.RowKit
section
variable {H : Type} {enc : TypeId × Value → H} {P : Program} {W : World} {r : Reach} {b0 : Nat} {t e : TypeId} {v : Value} {d : DataW H} {ps : List MemPlace}
theorem rowAt_of {a : Addr} {len cap : Nat} {f : Nat → Value} (hl : len ≤ cap) (hm : cap ≤ maxLen) (hcell : ∀ i, i < len → W.cell? (a.add i) = some (f i)) : RowAt W (.slice (some a) len cap) len f := by
  by_cases h0 : len = 0
  · subst h0; exact Or.inl ⟨_, _, rfl, rfl, fun h => by cases h⟩
  · obtain ⟨b, off, spot⟩ := a
    have hspot : spot = none := by simpa [Addr.add] using World.cell?_spot (hcell 0 (by omega))
    subst hspot
    refine Or.inr ⟨b, off, cap, rfl, by omega, hl, hm, World.block_lt_of_cell? W _ (hcell 0 (by omega)), fun i hi => ?_⟩
    have := hcell i hi
    unfold Addr.add at this
    by_cases hi0 : i = 0
    · subst hi0; simpa using this
    · simpa [hi0] using this
/-- a slice of integers of kind k -/
theorem open_intsK {k : IntKind} (ht : P.underlying t = some (.slice e)) (he : P.underlying e = some (.int k)) (hc : P.cellsOf e = 1) (hval : Value.okWide P W r b0 t v) (h : DataW.Trod enc P W 0 (fun _ => true) true t v d ps) :
    ∃ l : List Int, RowAt W v l.length (fun i => .int k (l.getD i 0)) ∧ ∀ z ∈ l, (Lit.int k z).wf = true := by
  obtain ⟨a0, len, cap, rfl⟩ := okWide_slice ht hval
  obtain ⟨fuel, hf⟩ := h
  rcases open_ints ht he hc hf with ⟨hcs, hx⟩ | ⟨a, len', cap', zs, hcs, _, hl, hm, hz, hx, hcell, hwz⟩
  · simp [Value.cells] at hcs
    obtain ⟨rfl, rfl, rfl⟩ := hcs
    exact ⟨[], Or.inl ⟨_, _, rfl, rfl, fun _ => rfl⟩, by simp⟩
  · simp [Value.cells] at hcs
    obtain ⟨rfl, rfl, rfl⟩ := hcs
    simp only [if_true] at hz
    refine ⟨zs.take len, ?_, fun z hz => hwz z (List.mem_of_mem_take hz)⟩
    have hlen : (zs.take len).length = len := by simp; omega
    have := rowAt_of (f := fun i => .int k ((zs.take len).getD i 0)) hl hm (fun i hi => by
      rw [hcell i (by omega)]
      simp [List.getD, hi])
    simpa [hlen] using this
theorem open_bytes (ht : P.underlying t = some (.slice e)) (he : P.underlying e = some (.int .u8)) (hc : P.cellsOf e = 1) (hval : Value.okWide P W r b0 t v) (h : DataW.Trod enc P W 0 (fun _ => true) true t v d ps) :
    ∃ l : List UInt8, RowAt W v l.length (byteV l) := by
  obtain ⟨zs, hr, hw⟩ := open_intsK ht he hc hval h
  refine ⟨zs.map fun z => UInt8.ofNat z.toNat, ?_⟩
  rw [List.length_map]
  have e1 : ∀ i, i < zs.length → (Value.int .u8 (zs.getD i 0)) = byteV (zs.map fun z => UInt8.ofNat z.toNat) i := by
    intro i hi
    have hb := bounds_u8 (hw zs[i] (by simp))
    have hx : zs.getD i 0 = zs[i] := by simp [List.getD, hi]
    rw [hx]
    unfold byteV
    have hy : (zs.map fun z => UInt8.ofNat z.toNat).getD i 0 = UInt8.ofNat zs[i].toNat := by simp [List.getD, hi]
    rw [hy, UInt8.toNat_ofNat']
    congr 1
    omega
  rcases hr with h | ⟨b, off, cap, h1, h2, h3, h4, h5, h6⟩
  · exact Or.inl h
  · exact Or.inr ⟨b, off, cap, h1, h2, h3, h4, h5, fun i hi => (h6 i hi).trans (congrArg some (e1 i hi))⟩
theorem open_intsI (ht : P.underlying t = some (.slice e)) (he : P.underlying e = some (.int .i64)) (hc : P.cellsOf e = 1) (hval : Value.okWide P W r b0 t v) (h : DataW.Trod enc P W 0 (fun _ => true) true t v d ps) :
    ∃ l : List Int, RowAt W v l.length (intV l) ∧ ∀ z ∈ l, -9223372036854775808 ≤ z ∧ z ≤ 9223372036854775807 := by
  obtain ⟨l, h1, h2⟩ := open_intsK ht he hc hval h
  exact ⟨l, h1, fun z hz => bounds_i64 (h2 z hz)⟩
theorem open_bools (ht : P.underlying t = some (.slice e)) (he : P.underlying e = some .bool) (hc : P.cellsOf e = 1) (hval : Value.okWide P W r b0 t v) (h : DataW.Trod enc P W 0 (fun _ => true) true t v d ps) :
    ∃ l : List Bool, RowAt W v l.length (boolV l) := by
  obtain ⟨a0, len, cap, rfl⟩ := okWide_slice ht hval
  obtain ⟨fuel, hf⟩ := h
  rcases Deep.open_bools ht he hc hf with ⟨hcs, hx⟩ | ⟨a, len', cap', B, hcs, _, hl, hm, hx, hcell⟩
  · simp [Value.cells] at hcs
    obtain ⟨rfl, rfl, rfl⟩ := hcs
    exact ⟨[], Or.inl ⟨_, _, rfl, rfl, fun _ => rfl⟩⟩
  · simp [Value.cells] at hcs
    obtain ⟨rfl, rfl, rfl⟩ := hcs
    refine ⟨(List.range len).map B, ?_⟩
    have := rowAt_of (f := boolV ((List.range len).map B)) hl hm (fun i hi => by
      rw [hcell i (by omega)]
      simp [boolV, List.getD, hi])
    simpa using this
end
end Go.Proofs.YthammifbpdoggaaDoor
