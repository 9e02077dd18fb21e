/- What a slice of the call's own that grows leaves as it was. -/
import Derived.Test.YtefejcofmopjfaaGreatDoorRow
import Derived.Maps.AppendAt
namespace Go.Proofs.YtefejcofmopjfaaGreatDoor
open Go.RowKit
theorem below_grown {B g : Nat} {w0 wa w2 : World} (hb : Below B w0 wa) (hBg : B ≤ g) (hs : B ≤ wa.heap.size) (hg : wa.grownBy w2 (some g)) : Below B w0 w2 :=
  hb.trans ⟨hg.os, hg.tape, hg.output, hg.size, fun k hk => hg.block k (by omega) (by simp; omega)⟩
theorem below_grownV {B : Nat} {w0 wa w2 : World} {v : Value} {e : TypeId} {n : Nat} {xs : List Value} (hb : Below B w0 wa) (hs : B ≤ wa.heap.size) (hO : wa.ownsRow B e 1 v n xs) (hg : wa.grownBy w2 v.ownBlock) : Below B w0 w2 :=
  hb.trans ⟨hg.os, hg.tape, hg.output, hg.size, fun k hk => hg.block k (by omega) (fun h => by have := (hO.lt k h.symm).1; omega)⟩
/-- append of a row that isn't empty, in a region that draws its order -/
theorem wp_append_row1 {P : Program} {w : World} {o : Oper} {a : Act} {K : Act → World → Prop} {Q : Exit → Act → World → Prop} (s x : Operand) (t : TypeId)
    (ho : o.op = .call { callee := .builtin .append, args := #[s, x], argTypes := #[t, t] })
    (base : Nat) (e : TypeId) (i : TypeInfo) (z : Value) (bytes : Nat) (ht : P.underlying t = some (.slice e)) (hi : P.info? e = some i) (hz : i.zero = some z)
    (hsize : i.size = 1) (hby : i.bytes = bytes) (hzs : z.cells.size = 1)
    (v : Value) (n : Nat) (xs : List Value) (hs : a.eval s = v) (hown : w.ownsRow base e 1 v n xs)
    (sv : Value) (m : Nat) (f : Nat → Value) (hx : a.eval x = sv) (hrow : RowAt w sv m f) (h0 : 0 < m) (h1 : ∀ j, j < m → (f j).oneCell' = true)
    (h63 : n + m ≤ maxLen) (hbytes : (n + m) * bytes ≤ 140737488355328) (hbase : base ≤ w.heap.size)
    (h : ∀ v' w', w'.ownsRow base e 1 v' (n + m) (xs ++ (List.range m).map f) → w.grownBy w' v.ownBlock → K (a.put o.dst v') w') : o.wp P a w K Q := by
  rcases hrow with ⟨ao, cap, rfl, rfl, hnc⟩ | ⟨b, off, cap, rfl, h2, h3, h4, h5, h6⟩
  · omega
  · refine wp_append_own w s x t ho base e i z 1 bytes ht hi hz hsize hby hzs (by omega) v n xs hs hown ⟨b, off, none⟩ m cap ((List.range m).map f) hx (by simp) ?_ ?_ h63 hbytes hbase (fun v' w' ho' hg _ => h v' w' ho' hg)
    · intro j u hu
      by_cases hj : j < m
      · have hu' : f j = u := by simpa [hj] using hu
        subst hu'
        have := h6 j hj
        unfold Addr.add
        by_cases h0 : j = 0
        · subst h0; simpa using this
        · simpa [h0] using this
      · simp [hj] at hu
    · intro u hu
      obtain ⟨j, hj, rfl⟩ := List.mem_map.1 hu
      exact h1 j (List.mem_range.1 hj)
/-- append, and in which block the row lies then -/
theorem wpList_append_row1_at {P : Program} {w : World} {ops : Array Oper} {rest : List Oper} {o : Oper} {a : Act} {Q : Exit → Act → World → Prop} (hgd : o.guard = none) (s x : Operand) (t : TypeId)
    (ho : o.op = .call { callee := .builtin .append, args := #[s, x], argTypes := #[t, t] })
    (base : Nat) (e : TypeId) (i : TypeInfo) (z : Value) (bytes : Nat) (ht : P.underlying t = some (.slice e)) (hi : P.info? e = some i) (hz : i.zero = some z)
    (hsize : i.size = 1) (hby : i.bytes = bytes) (hzs : z.cells.size = 1)
    (v : Value) (n : Nat) (xs : List Value) (hs : a.eval s = v) (hown : w.ownsRow base e 1 v n xs)
    (sv : Value) (m : Nat) (f : Nat → Value) (hx : a.eval x = sv) (hrow : RowAt w sv m f) (h0 : 0 < m) (h1 : ∀ j, j < m → (f j).oneCell' = true)
    (h63 : n + m ≤ maxLen) (hbytes : (n + m) * bytes ≤ 140737488355328) (hbase : base ≤ w.heap.size)
    (h : ∀ v' w', w'.ownsRow base e 1 v' (n + m) (xs ++ (List.range m).map f) → w.grownBy w' v.ownBlock → (v'.ownBlock = v.ownBlock ∨ v'.ownBlock = some w.heap.size) → wpList P ops Q rest (a.put o.dst v') w') : wpList P ops Q (o :: rest) a w := by
  rcases hrow with ⟨ao, cap, rfl, rfl, hnc⟩ | ⟨b, off, cap, rfl, h2, h3, h4, h5, h6⟩
  · omega
  · refine wpList_append_own_at w hgd s x t ho base e i z 1 bytes ht hi hz hsize hby hzs (by omega) v n xs hs hown ⟨b, off, none⟩ m cap ((List.range m).map f) hx (by simp) ?_ ?_ h63 hbytes hbase (fun v' w' ho' hg _ hat => h v' w' ho' hg hat)
    · intro j u hu
      by_cases hj : j < m
      · have hu' : f j = u := by simpa [hj] using hu
        subst hu'
        have := h6 j hj
        unfold Addr.add
        by_cases h0 : j = 0
        · subst h0; simpa using this
        · simpa [h0] using this
      · simp [hj] at hu
    · intro u hu
      obtain ⟨j, hj, rfl⟩ := List.mem_map.1 hu
      exact h1 j (List.mem_range.1 hj)
theorem own_ne {wr : World} {v : Value} {B : Nat} {e : TypeId} {q n : Nat} {xs : List Value} (hO : wr.ownsRow B e q v n xs) {b : Nat} (hb : wr.heap.size ≤ b) : v.ownBlock ≠ some b := by
  intro h
  rcases hO.2 with ⟨h0, _⟩ | ⟨g, cap, cur, h0, _, h3, _⟩
  · rw [h0] at h; simp [Value.ownBlock] at h
  · rw [h0] at h
    have : g = b := by simpa [Value.ownBlock] using h
    subst this
    rw [Array.getElem?_eq_none hb] at h3; cases h3
/-- a block that isn't the row's own stays -/
theorem grown_cell {wa w2 : World} {ob : Option Nat} (hg : wa.grownBy w2 ob) {b o : Nat} (hne : ob ≠ some b) (hb2 : b < wa.heap.size) : w2.cell? ⟨b, o, none⟩ = wa.cell? ⟨b, o, none⟩ := by
  have h1 : w2.heap[b]? = wa.heap[b]? := hg.block b hb2 (fun h => hne h.symm)
  unfold World.cell?
  rw [show (⟨b, o, none⟩ : Addr).block = b from rfl, h1]
end Go.Proofs.YtefejcofmopjfaaGreatDoor
