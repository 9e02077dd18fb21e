/- Slices as rows of cells: one word for nil, empty and other slices. -/
import Derived.Test.YtefejcofmopjfaaGreatDoorChecked
import Derived.Handy
import Derived.Lib.Hide
import Derived.Deep.Draws
import Derived.Laws.AppendOwnNone
import Derived.Laws.OwnMore
namespace Go.Proofs.YtefejcofmopjfaaGreatDoor
open Go.RowKit
/-- v is a slice of n elements of one cell each, the i-th of which is f i -/
def RowAt (w : World) (v : Value) (n : Nat) (f : Nat → Value) : Prop :=
  (∃ a cap, v = .slice a 0 cap ∧ n = 0 ∧ (a = none → cap = 0)) ∨ ∃ b off cap, v = .slice (some ⟨b, off, none⟩) n cap ∧ 0 < n ∧ n ≤ cap ∧ cap ≤ maxLen ∧ b < w.heap.size ∧ ∀ i, i < n → w.cell? ⟨b, off + i, none⟩ = some (f i)
theorem RowAt.below {w w' : World} {v : Value} {n : Nat} {f : Nat → Value} (h : RowAt w v n f) (hb : Below w.heap.size w w') : RowAt w' v n f := by
  rcases h with h | ⟨b, off, cap, h1, h2, h3, h4, h5, h6⟩
  · exact Or.inl h
  · exact Or.inr ⟨b, off, cap, h1, h2, h3, h4, Nat.lt_of_lt_of_le h5 hb.size, fun i hi => (hb.cell (p := ⟨b, off + i, none⟩) h5).trans (h6 i hi)⟩
theorem RowAt.le {w : World} {v : Value} {n : Nat} {f : Nat → Value} (h : RowAt w v n f) : n ≤ 9223372036854775807 := by
  rcases h with ⟨_, _, _, h, _⟩ | ⟨b, off, cap, h1, h2, h3, h4, h5, h6⟩
  · omega
  · unfold maxLen at h4; omega
def byteV (l : List UInt8) (i : Nat) : Value := .int .u8 ((l.getD i 0).toNat : Int)
def boolV (l : List Bool) (i : Nat) : Value := .bool (l.getD i false)
def intV (l : List Int) (i : Nat) : Value := .int .i64 (l.getD i 0)
/-- a cell of a block that was just made -/
theorem cell_new (w : World) (C : Array Value) (t : TypeId) (fr : Nat × Nat) (i : Nat) {v : Value} (h : C[i]? = some v) : (w.alloc (.cells C t fr)).cell? ⟨w.heap.size, i, none⟩ = some v := by
  have e : (w.alloc (.cells C t fr)).heap[w.heap.size]? = some (.cells C t fr) := by show (w.heap.push _)[w.heap.size]? = _; simp
  unfold World.cell?
  rw [e]
  simpa using h
/-- a slice of a block that was just made -/
theorem RowAt.new (w : World) (C : Array Value) (t : TypeId) (fr : Nat × Nat) (f : Nat → Value) (n cap : Nat) (h0 : 0 < n) (hn : n ≤ cap) (hc : cap ≤ 9223372036854775807) (h : ∀ i, i < n → C[i]? = some (f i)) :
    RowAt (w.alloc (.cells C t fr)) (.slice (some ⟨w.heap.size, 0, none⟩) n cap) n f :=
  Or.inr ⟨_, 0, cap, rfl, h0, hn, by unfold maxLen; omega, by simp, fun i hi => by rw [Nat.zero_add]; exact cell_new w C t fr i (h i hi)⟩
theorem Below_drewN (B : Nat) (w : World) (n : Nat) : Below B w (w.drewN n) := ⟨rfl, rfl, rfl, Nat.le_refl _, fun _ _ => rfl⟩
/-- behind a call that turns nothing of what was there -/
theorem belowStep {w a b : World} (h : Below w.heap.size w a) (k : Below a.heap.size a b) : Below w.heap.size w b := h.trans (k.mono h.size)
theorem cellStep {w a b : World} (h : Below w.heap.size w a) (k : Below a.heap.size a b) {p : Addr} (hp : p.block < w.heap.size) {v : Value} (hc : a.cell? p = some v) : b.cell? p = some v :=
  (k.cell (Nat.lt_of_lt_of_le hp h.size)).trans hc
/-- append of a slice to a row of the call's own -/
theorem wpList_append_row1 {P : Program} {w : World} {ops : Array Oper} {rest : List Oper} {o : Oper} {a : Act} {Q : Exit → Act → World → Prop} (hgd : o.guard = none) (s x : Operand) (t : TypeId)
    (ho : o.op = .call { callee := .builtin .append, args := #[s, x], argTypes := #[t, t] })
    (base : Nat) (e : TypeId) (i : TypeInfo) (z : Value) (bytes : Nat) (ht : P.underlying t = some (.slice e)) (hi : P.info? e = some i) (hz : i.zero = some z)
    (hsize : i.size = 1) (hby : i.bytes = bytes) (hzs : z.cells.size = 1)
    (v : Value) (n : Nat) (xs : List Value) (hs : a.eval s = v) (hown : w.ownsRow base e 1 v n xs)
    (sv : Value) (m : Nat) (f : Nat → Value) (hx : a.eval x = sv) (hrow : RowAt w sv m f) (h1 : ∀ j, j < m → (f j).oneCell' = true)
    (h63 : n + m ≤ maxLen) (hbytes : (n + m) * bytes ≤ 140737488355328) (hbase : base ≤ w.heap.size)
    (h : ∀ v' w', w'.ownsRow base e 1 v' (n + m) (xs ++ (List.range m).map f) → w.grownBy w' v.ownBlock → wpList P ops Q rest (a.put o.dst v') w') : wpList P ops Q (o :: rest) a w := by
  rcases hrow with ⟨ao, cap, rfl, rfl, hnc⟩ | ⟨b, off, cap, rfl, h2, h3, h4, h5, h6⟩
  · cases ao with
    | none =>
      obtain rfl := hnc rfl
      exact wpList_append_own_none hgd s x t ho base e i 1 ht hi v n xs hs hown hx (by simpa [Act.put] using h v w (by simpa using hown) (World.grownBy.refl _ _))
    | some ad =>
      exact wpList_append_own w hgd s x t ho base e i z 1 bytes ht hi hz hsize hby hzs (by omega) v n xs hs hown ad 0 cap [] hx rfl (fun j u hu => by simp at hu) (fun u hu => by simp at hu) h63 hbytes hbase
        (fun v' w' ho' hg _ => h v' w' (by simpa using ho') hg)
  · refine wpList_append_own w hgd s x t ho base e i z 1 bytes ht hi hz hsize hby hzs (by omega) v n xs hs hown ⟨b, off, none⟩ m cap ((List.range m).map f) hx (by simp) ?_ ?_ h63 hbytes hbase (fun v' w' ho' hg _ => h v' w' ho' hg)
    · intro j u hu
      by_cases hj : j < m
      · have hu' : f j = u := by simpa [hj] using hu
        subst hu'
        have := h6 j hj
        unfold Addr.add
        by_cases h0 : j = 0
        · subst h0; simpa using this
        · simpa [h0] using this
      · simp [hj] at hu
    · intro u hu
      obtain ⟨j, hj, rfl⟩ := List.mem_map.1 hu
      exact h1 j (List.mem_range.1 hj)
theorem RowAt.owns {w : World} {base : Nat} {e : TypeId} {v : Value} {n : Nat} {xs : List Value} {f : Nat → Value} (h : w.ownsRow base e 1 v n xs) (hf : ∀ i, i < n → xs[i]? = some (f i)) : RowAt w v n f := by
  obtain ⟨hl, h⟩ := h
  rcases h with ⟨rfl, rfl⟩ | ⟨g, cap, cur, rfl, hb, hg, h1, h2, h3, h4⟩
  · exact Or.inl ⟨none, 0, rfl, rfl, fun _ => rfl⟩
  · by_cases h0 : n = 0
    · subst h0; exact Or.inl ⟨_, cap, rfl, rfl, fun h => by cases h⟩
    · have hlt : g < w.heap.size := by
        by_cases hgl : g < w.heap.size
        · exact hgl
        · rw [Array.getElem?_eq_none (Nat.le_of_not_lt hgl)] at hg; cases hg
      refine Or.inr ⟨g, 0, cap, rfl, by omega, h1, h2, hlt, fun i hi => ?_⟩
      have h5 := hf i hi
      rw [← h4] at h5
      rw [List.getElem?_take] at h5
      unfold World.cell?
      rw [hg]
      simp only [Nat.zero_add]
      have hin : i < n * 1 := by omega
      rw [if_pos hin] at h5
      simpa using h5
theorem map_byteV (l : List UInt8) : (List.range l.length).map (byteV l) = l.map fun c => Value.int .u8 (c.toNat : Int) := by
  apply List.ext_getElem?
  intro i
  by_cases h : i < l.length
  · simp [h, byteV, List.getD]
  · simp [h]
theorem byteV_at {l : List UInt8} {i : Nat} (h : i < l.length) : (l.map fun c => Value.int .u8 (c.toNat : Int))[i]? = some (byteV l i) := by
  simp [h, byteV, List.getD]
theorem owns_slice {w : World} {base : Nat} {e : TypeId} {v : Value} {n size : Nat} {xs : List Value} (h : w.ownsRow base e size v n xs) (h0 : 0 < n) : ∃ g cap, v = .slice (some ⟨g, 0, none⟩) n cap ∧ n ≤ cap ∧ base ≤ g ∧ g < w.heap.size := by
  have hlt := h.lt
  rcases h.2 with ⟨_, h⟩ | ⟨g, cap, cur, rfl, hb, hg, h1, _⟩
  · omega
  · exact ⟨g, cap, rfl, h1, hb, (hlt g rfl).2⟩
theorem owns_cell {w : World} {base g cap : Nat} {e : TypeId} {n : Nat} {xs : List Value} (h : w.ownsRow base e 1 (.slice (some ⟨g, 0, none⟩) n cap) n xs) (j : Nat) (hj : j < n) : ∃ u, xs[j]? = some u ∧ w.cell? ⟨g, j, none⟩ = some u := by
  have hc := h.cellAt j (by omega)
  have hl := h.1
  exact ⟨xs[j]'(by omega), by simp, by rw [hc]; simp⟩
theorem cellKeep {a b : World} (k : Below a.heap.size a b) {p : Addr} (hp : p.block < a.heap.size) {v : Value} (hc : a.cell? p = some v) : b.cell? p = some v := (k.cell hp).trans hc
theorem sizeKeep {a b : World} (k : Below a.heap.size a b) {n : Nat} (hp : n < a.heap.size) : n < b.heap.size := Nat.lt_of_lt_of_le hp k.size
end Go.Proofs.YtefejcofmopjfaaGreatDoor
