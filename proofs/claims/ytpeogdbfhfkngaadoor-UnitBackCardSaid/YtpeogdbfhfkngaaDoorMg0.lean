/- Merged texts: Row, Rep, Seq, Grow, More, MoreB, RowTwo, HeldMore, Own, Octet, OctetPut, TabA, UnA, OctetRef, OctetText, OctetRefText, LawThree, Reader, ReaderNum, ReaderMore, ReaderText, ReaderAll, RdMore, RefReader, RefTake, RefNum, Pgm, RdRows, RdBase, OwnLow, UnGetA. -/
import Derived.Test.YtpeogdbfhfkngaaDoorChecked
import Derived.Handy
import Derived.Lib.Hide
import Derived.Deep.Draws
import Derived.Laws.AppendOwnNone
import Derived.Laws.OwnMore
import Derived.Maps.AppendAt
import Derived.WalkSmall
import Derived.Deep.RegionHeld3
import Derived.Laws.IdiomStrings
import Derived.Laws.BytesString
import Derived.OwnWalk
import Derived.Laws.CopyOwn
import Derived.Laws.MakeOwn
import Derived.WalkSpells
import Derived.WalkLawsBesides
import Derived.Deep.DeepAppendRoom
import Derived.LoopTactic
import Derived.WalkKit
import Derived.Deep.QuietTactic
import Derived.BigQuiet
import Derived.IntWalk
import Derived.Lib.AppendStr
import Derived.Lib.SlBytesConst
import Derived.Laws.BitsAllLaws
/- Slices as rows of cells: one word for nil, empty and other slices. -/
namespace Go.Proofs.YtpeogdbfhfkngaaDoor
open Go.RowKit
/-- v is a slice of n elements of one cell each, the i-th of which is f i -/
def RowAt (w : World) (v : Value) (n : Nat) (f : Nat → Value) : Prop :=
  (∃ a cap, v = .slice a 0 cap ∧ n = 0 ∧ (a = none → cap = 0)) ∨ ∃ b off cap, v = .slice (some ⟨b, off, none⟩) n cap ∧ 0 < n ∧ n ≤ cap ∧ cap ≤ maxLen ∧ b < w.heap.size ∧ ∀ i, i < n → w.cell? ⟨b, off + i, none⟩ = some (f i)
theorem RowAt.below {w w' : World} {v : Value} {n : Nat} {f : Nat → Value} (h : RowAt w v n f) (hb : Below w.heap.size w w') : RowAt w' v n f := by
  rcases h with h | ⟨b, off, cap, h1, h2, h3, h4, h5, h6⟩
  · exact Or.inl h
  · exact Or.inr ⟨b, off, cap, h1, h2, h3, h4, Nat.lt_of_lt_of_le h5 hb.size, fun i hi => (hb.cell (p := ⟨b, off + i, none⟩) h5).trans (h6 i hi)⟩
theorem RowAt.le {w : World} {v : Value} {n : Nat} {f : Nat → Value} (h : RowAt w v n f) : n ≤ 9223372036854775807 := by
  rcases h with ⟨_, _, _, h, _⟩ | ⟨b, off, cap, h1, h2, h3, h4, h5, h6⟩
  · omega
  · unfold maxLen at h4; omega
def byteV (l : List UInt8) (i : Nat) : Value := .int .u8 ((l.getD i 0).toNat : Int)
def boolV (l : List Bool) (i : Nat) : Value := .bool (l.getD i false)
def intV (l : List Int) (i : Nat) : Value := .int .i64 (l.getD i 0)
/-- a cell of a block that was just made -/
theorem cell_new (w : World) (C : Array Value) (t : TypeId) (fr : Nat × Nat) (i : Nat) {v : Value} (h : C[i]? = some v) : (w.alloc (.cells C t fr)).cell? ⟨w.heap.size, i, none⟩ = some v := by
  have e : (w.alloc (.cells C t fr)).heap[w.heap.size]? = some (.cells C t fr) := by show (w.heap.push _)[w.heap.size]? = _; simp
  unfold World.cell?
  rw [e]
  simpa using h
/-- a slice of a block that was just made -/
theorem RowAt.new (w : World) (C : Array Value) (t : TypeId) (fr : Nat × Nat) (f : Nat → Value) (n cap : Nat) (h0 : 0 < n) (hn : n ≤ cap) (hc : cap ≤ 9223372036854775807) (h : ∀ i, i < n → C[i]? = some (f i)) :
    RowAt (w.alloc (.cells C t fr)) (.slice (some ⟨w.heap.size, 0, none⟩) n cap) n f :=
  Or.inr ⟨_, 0, cap, rfl, h0, hn, by unfold maxLen; omega, by simp, fun i hi => by rw [Nat.zero_add]; exact cell_new w C t fr i (h i hi)⟩
theorem Below_drewN (B : Nat) (w : World) (n : Nat) : Below B w (w.drewN n) := ⟨rfl, rfl, rfl, Nat.le_refl _, fun _ _ => rfl⟩
/-- behind a call that turns nothing of what was there -/
theorem belowStep {w a b : World} (h : Below w.heap.size w a) (k : Below a.heap.size a b) : Below w.heap.size w b := h.trans (k.mono h.size)
theorem cellStep {w a b : World} (h : Below w.heap.size w a) (k : Below a.heap.size a b) {p : Addr} (hp : p.block < w.heap.size) {v : Value} (hc : a.cell? p = some v) : b.cell? p = some v :=
  (k.cell (Nat.lt_of_lt_of_le hp h.size)).trans hc
/-- append of a slice to a row of the call's own -/
theorem wpList_append_row1 {P : Program} {w : World} {ops : Array Oper} {rest : List Oper} {o : Oper} {a : Act} {Q : Exit → Act → World → Prop} (hgd : o.guard = none) (s x : Operand) (t : TypeId)
    (ho : o.op = .call { callee := .builtin .append, args := #[s, x], argTypes := #[t, t] })
    (base : Nat) (e : TypeId) (i : TypeInfo) (z : Value) (bytes : Nat) (ht : P.underlying t = some (.slice e)) (hi : P.info? e = some i) (hz : i.zero = some z)
    (hsize : i.size = 1) (hby : i.bytes = bytes) (hzs : z.cells.size = 1)
    (v : Value) (n : Nat) (xs : List Value) (hs : a.eval s = v) (hown : w.ownsRow base e 1 v n xs)
    (sv : Value) (m : Nat) (f : Nat → Value) (hx : a.eval x = sv) (hrow : RowAt w sv m f) (h1 : ∀ j, j < m → (f j).oneCell' = true)
    (h63 : n + m ≤ maxLen) (hbytes : (n + m) * bytes ≤ 140737488355328) (hbase : base ≤ w.heap.size)
    (h : ∀ v' w', w'.ownsRow base e 1 v' (n + m) (xs ++ (List.range m).map f) → w.grownBy w' v.ownBlock → wpList P ops Q rest (a.put o.dst v') w') : wpList P ops Q (o :: rest) a w := by
  rcases hrow with ⟨ao, cap, rfl, rfl, hnc⟩ | ⟨b, off, cap, rfl, h2, h3, h4, h5, h6⟩
  · cases ao with
    | none =>
      obtain rfl := hnc rfl
      exact wpList_append_own_none hgd s x t ho base e i 1 ht hi v n xs hs hown hx (by simpa [Act.put] using h v w (by simpa using hown) (World.grownBy.refl _ _))
    | some ad =>
      exact wpList_append_own w hgd s x t ho base e i z 1 bytes ht hi hz hsize hby hzs (by omega) v n xs hs hown ad 0 cap [] hx rfl (fun j u hu => by simp at hu) (fun u hu => by simp at hu) h63 hbytes hbase
        (fun v' w' ho' hg _ => h v' w' (by simpa using ho') hg)
  · refine wpList_append_own w hgd s x t ho base e i z 1 bytes ht hi hz hsize hby hzs (by omega) v n xs hs hown ⟨b, off, none⟩ m cap ((List.range m).map f) hx (by simp) ?_ ?_ h63 hbytes hbase (fun v' w' ho' hg _ => h v' w' ho' hg)
    · intro j u hu
      by_cases hj : j < m
      · have hu' : f j = u := by simpa [hj] using hu
        subst hu'
        have := h6 j hj
        unfold Addr.add
        by_cases h0 : j = 0
        · subst h0; simpa using this
        · simpa [h0] using this
      · simp [hj] at hu
    · intro u hu
      obtain ⟨j, hj, rfl⟩ := List.mem_map.1 hu
      exact h1 j (List.mem_range.1 hj)
theorem RowAt.owns {w : World} {base : Nat} {e : TypeId} {v : Value} {n : Nat} {xs : List Value} {f : Nat → Value} (h : w.ownsRow base e 1 v n xs) (hf : ∀ i, i < n → xs[i]? = some (f i)) : RowAt w v n f := by
  obtain ⟨hl, h⟩ := h
  rcases h with ⟨rfl, rfl⟩ | ⟨g, cap, cur, rfl, hb, hg, h1, h2, h3, h4⟩
  · exact Or.inl ⟨none, 0, rfl, rfl, fun _ => rfl⟩
  · by_cases h0 : n = 0
    · subst h0; exact Or.inl ⟨_, cap, rfl, rfl, fun h => by cases h⟩
    · have hlt : g < w.heap.size := by
        by_cases hgl : g < w.heap.size
        · exact hgl
        · rw [Array.getElem?_eq_none (Nat.le_of_not_lt hgl)] at hg; cases hg
      refine Or.inr ⟨g, 0, cap, rfl, by omega, h1, h2, hlt, fun i hi => ?_⟩
      have h5 := hf i hi
      rw [← h4] at h5
      rw [List.getElem?_take] at h5
      unfold World.cell?
      rw [hg]
      simp only [Nat.zero_add]
      have hin : i < n * 1 := by omega
      rw [if_pos hin] at h5
      simpa using h5
theorem map_byteV (l : List UInt8) : (List.range l.length).map (byteV l) = l.map fun c => Value.int .u8 (c.toNat : Int) := by
  apply List.ext_getElem?
  intro i
  by_cases h : i < l.length
  · simp [h, byteV, List.getD]
  · simp [h]
theorem byteV_at {l : List UInt8} {i : Nat} (h : i < l.length) : (l.map fun c => Value.int .u8 (c.toNat : Int))[i]? = some (byteV l i) := by
  simp [h, byteV, List.getD]
theorem owns_slice {w : World} {base : Nat} {e : TypeId} {v : Value} {n size : Nat} {xs : List Value} (h : w.ownsRow base e size v n xs) (h0 : 0 < n) : ∃ g cap, v = .slice (some ⟨g, 0, none⟩) n cap ∧ n ≤ cap ∧ base ≤ g ∧ g < w.heap.size := by
  have hlt := h.lt
  rcases h.2 with ⟨_, h⟩ | ⟨g, cap, cur, rfl, hb, hg, h1, _⟩
  · omega
  · exact ⟨g, cap, rfl, h1, hb, (hlt g rfl).2⟩
theorem owns_cell {w : World} {base g cap : Nat} {e : TypeId} {n : Nat} {xs : List Value} (h : w.ownsRow base e 1 (.slice (some ⟨g, 0, none⟩) n cap) n xs) (j : Nat) (hj : j < n) : ∃ u, xs[j]? = some u ∧ w.cell? ⟨g, j, none⟩ = some u := by
  have hc := h.cellAt j (by omega)
  have hl := h.1
  exact ⟨xs[j]'(by omega), by simp, by rw [hc]; simp⟩
theorem cellKeep {a b : World} (k : Below a.heap.size a b) {p : Addr} (hp : p.block < a.heap.size) {v : Value} (hc : a.cell? p = some v) : b.cell? p = some v := (k.cell hp).trans hc
theorem sizeKeep {a b : World} (k : Below a.heap.size a b) {n : Nat} (hp : n < a.heap.size) : n < b.heap.size := Nat.lt_of_lt_of_le hp k.size
end Go.Proofs.YtpeogdbfhfkngaaDoor

/- Values of nested types as plain lists: what cells read as, and slices of such. -/
namespace Go.Proofs.YtpeogdbfhfkngaaDoor
open Go.RowKit
set_option linter.unusedSimpArgs false
set_option linter.unusedVariables false
abbrev Rep (α : Type) := World → List Value → α → Prop
def Stable {α : Type} (R : Rep α) : Prop := ∀ w w' cs x, R w cs x → Below w.heap.size w w' → R w' cs x
/-- v is a slice of elements of q cells each, that read as L's -/
def RowR {α : Type} (q : Nat) (R : Rep α) (w : World) (v : Value) (L : List α) : Prop :=
  (∃ a cap, v = .slice a 0 cap ∧ L = [] ∧ (a = none → cap = 0)) ∨ ∃ b off cap, v = .slice (some ⟨b, off, none⟩) L.length cap ∧ 0 < L.length ∧ L.length ≤ cap ∧ cap ≤ maxLen ∧ b < w.heap.size ∧
    ∀ i x, L[i]? = some x → ∃ C : List Value, C.length = q ∧ (∀ j u, C[j]? = some u → w.cell? ⟨b, off + i * q + j, none⟩ = some u) ∧ R w C x
def sliceR {α : Type} (q : Nat) (R : Rep α) : Rep (List α) := fun w cs L => ∃ v, cs = [v] ∧ RowR q R w v L
theorem RowR.below {α : Type} {q : Nat} {R : Rep α} (hR : Stable R) {w w' : World} {v : Value} {L : List α} (h : RowR q R w v L) (hb : Below w.heap.size w w') : RowR q R w' v L := by
  rcases h with h | ⟨b, off, cap, h1, h2, h3, h4, h5, h6⟩
  · exact Or.inl h
  · refine Or.inr ⟨b, off, cap, h1, h2, h3, h4, Nat.lt_of_lt_of_le h5 hb.size, fun i x hx => ?_⟩
    obtain ⟨C, g1, g2, g3⟩ := h6 i x hx
    exact ⟨C, g1, fun j u hu => (hb.cell (p := ⟨b, off + i * q + j, none⟩) h5).trans (g2 j u hu), hR _ _ _ _ g3 hb⟩
theorem sliceR_stable {α : Type} {q : Nat} {R : Rep α} (hR : Stable R) : Stable (sliceR q R) := fun w w' cs L ⟨v, h1, h2⟩ hb => ⟨v, h1, h2.below hR hb⟩
theorem RowR.len_le {α : Type} {q : Nat} {R : Rep α} {w : World} {v : Value} {L : List α} (h : RowR q R w v L) : L.length ≤ 140737488355328 ∨ L.length ≤ 9223372036854775807 := by
  rcases h with ⟨_, _, _, rfl, _⟩ | ⟨b, off, cap, h1, h2, h3, h4, h5, h6⟩
  · exact Or.inl (by simp)
  · refine Or.inr ?_; unfold maxLen at h4; omega
theorem RowR.len {α : Type} {q : Nat} {R : Rep α} {w : World} {v : Value} {L : List α} (h : RowR q R w v L) : L.length ≤ 9223372036854775807 := by
  rcases h.len_le with h | h <;> omega
def I64 (z : Int) : Prop := -9223372036854775808 ≤ z ∧ z ≤ 9223372036854775807
def intR : Rep Int := fun _ cs z => cs = [.int .i64 z] ∧ I64 z
theorem intR_stable : Stable intR := fun _ _ _ _ h _ => h
def strR : Rep (List UInt8) := fun _ cs s => cs = [.string ⟨s.toArray⟩] ∧ s.length ≤ 9223372036854775807
theorem strR_stable : Stable strR := fun _ _ _ _ h _ => h
/-- one element's cell, of a slice whose elements have one -/
theorem RowR.ints {w : World} {v : Value} {L : List Int} (h : RowR 1 intR w v L) : RowAt w v L.length (intV L) := by
  rcases h with ⟨a, cap, rfl, rfl, h⟩ | ⟨b, off, cap, h1, h2, h3, h4, h5, h6⟩
  · exact Or.inl ⟨a, cap, rfl, rfl, h⟩
  · refine Or.inr ⟨b, off, cap, h1, h2, h3, h4, h5, fun i hi => ?_⟩
    obtain ⟨C, g1, g2, g3, _⟩ := h6 i L[i] (by simp [hi])
    subst g3
    have := g2 0 _ rfl
    simpa [intV, List.getD, hi] using this
abbrev Ins := Int × Int × Int
def insR : Rep Ins := fun _ cs x => cs = [.int .i64 x.1, .int .i64 x.2.1, .int .i64 x.2.2] ∧ I64 x.1 ∧ I64 x.2.1 ∧ I64 x.2.2
theorem insR_stable : Stable insR := fun _ _ _ _ h _ => h
/-- the cells of a slice of instructions -/
theorem ins_cells {w : World} {b off : Nat} {L : List Ins} (h : ∀ i x, L[i]? = some x → ∃ C : List Value, C.length = 3 ∧ (∀ j u, C[j]? = some u → w.cell? ⟨b, off + i * 3 + j, none⟩ = some u) ∧ insR w C x) {i : Nat} {x : Ins} (hx : L[i]? = some x) :
    w.cell? ⟨b, off + i * 3, none⟩ = some (.int .i64 x.1) ∧ w.cell? ⟨b, off + i * 3 + 1, none⟩ = some (.int .i64 x.2.1) ∧ w.cell? ⟨b, off + i * 3 + 2, none⟩ = some (.int .i64 x.2.2) ∧ I64 x.1 ∧ I64 x.2.1 ∧ I64 x.2.2 := by
  obtain ⟨C, g1, g2, g3, g4⟩ := h i x hx
  subst g3
  exact ⟨g2 0 _ rfl, g2 1 _ rfl, g2 2 _ rfl, g4⟩
def insV (L : List Ins) : List Value := L.flatMap fun x => [.int .i64 x.1, .int .i64 x.2.1, .int .i64 x.2.2]
theorem insV_len (L : List Ins) : (insV L).length = L.length * 3 := by
  induction L with
  | nil => rfl
  | cons x t ih =>
    show (_ ++ insV t).length = _
    rw [List.length_append, ih]; simp; omega
theorem insV_snoc (L : List Ins) (x : Ins) : insV (L ++ [x]) = insV L ++ [.int .i64 x.1, .int .i64 x.2.1, .int .i64 x.2.2] := by simp [insV]
theorem insV_get (L : List Ins) : ∀ (i j : Nat) (x : Ins), L[i]? = some x → j < 3 → (insV L)[i * 3 + j]? = [Value.int .i64 x.1, .int .i64 x.2.1, .int .i64 x.2.2][j]? := by
  induction L with
  | nil => intro i j x h; simp at h
  | cons y t ih =>
    intro i j x h hj
    have e : insV (y :: t) = [Value.int .i64 y.1, .int .i64 y.2.1, .int .i64 y.2.2] ++ insV t := rfl
    rw [e]
    cases i with
    | zero =>
      obtain rfl : y = x := by simpa using h
      rw [Nat.zero_mul, Nat.zero_add, List.getElem?_append_left (by simpa using hj)]
    | succ i =>
      rw [List.getElem?_append_right (by simp; omega)]
      have := ih i j x (by simpa using h) hj
      rw [← this]
      congr 1
      simp; omega
/-- a slice of the call's own, as a row of instructions -/
theorem RowR.ins_owned {w : World} {base : Nat} {e : TypeId} {v : Value} {L : List Ins} (h : w.ownsRow base e 3 v L.length (insV L)) (hL : ∀ x ∈ L, I64 x.1 ∧ I64 x.2.1 ∧ I64 x.2.2) : RowR 3 insR w v L := by
  obtain ⟨hl, h⟩ := h
  rcases h with ⟨rfl, h0⟩ | ⟨g, cap, cur, rfl, hb, hg, h1, h2, h3, h4⟩
  · exact Or.inl ⟨none, 0, rfl, List.length_eq_zero_iff.1 h0, fun _ => rfl⟩
  · by_cases h0 : L.length = 0
    · exact Or.inl ⟨_, cap, by rw [h0], List.length_eq_zero_iff.1 h0, fun h => by cases h⟩
    · have hlt : g < w.heap.size := by
        by_cases hgl : g < w.heap.size
        · exact hgl
        · rw [Array.getElem?_eq_none (Nat.le_of_not_lt hgl)] at hg; cases hg
      refine Or.inr ⟨g, 0, cap, rfl, by omega, h1, h2, hlt, fun i x hx => ?_⟩
      refine ⟨[.int .i64 x.1, .int .i64 x.2.1, .int .i64 x.2.2], rfl, fun j u hu => ?_, rfl, hL x (List.mem_of_getElem? hx)⟩
      have hj : j < 3 := by
        by_cases hj : j < 3
        · exact hj
        · rw [List.getElem?_eq_none (by simp; omega)] at hu; cases hu
      have hi : i < L.length := by
        by_cases hi : i < L.length
        · exact hi
        · rw [List.getElem?_eq_none (by omega)] at hx; cases hx
      have h5 := insV_get L i j x hx hj
      rw [hu, ← h4, List.getElem?_take, if_pos (by omega)] at h5
      unfold World.cell?
      rw [hg]
      simp only [Nat.zero_add]
      simpa using h5
theorem owns_below {w w' : World} {base : Nat} {e : TypeId} {q : Nat} {v : Value} {n : Nat} {xs : List Value} (h : w.ownsRow base e q v n xs) (hb : Below w.heap.size w w') : w'.ownsRow base e q v n xs := by
  obtain ⟨hl, h⟩ := h
  refine ⟨hl, ?_⟩
  rcases h with h | ⟨g, cap, cur, h0, h1, hg, h2⟩
  · exact Or.inl h
  · have hlt : g < w.heap.size := by
      by_cases hgl : g < w.heap.size
      · exact hgl
      · rw [Array.getElem?_eq_none (Nat.le_of_not_lt hgl)] at hg; cases hg
    exact Or.inr ⟨g, cap, cur, h0, h1, (hb.block g hlt).trans hg, h2⟩
end Go.Proofs.YtpeogdbfhfkngaaDoor

/- Slices of elements of q cells each: forms, elements. -/
namespace Go.Proofs.YtpeogdbfhfkngaaDoor
open Go.RowKit
set_option linter.unusedSimpArgs false
set_option linter.unusedVariables false
theorem row_get {α : Type} {q : Nat} {R : Rep α} {w : World} {v : Value} {L : List α} (hv : RowR q R w v L) : ∃ a cap, v = .slice a L.length cap := by
  rcases hv with ⟨a, cap, rfl, rfl, _⟩ | ⟨b, off, cap, h1, _⟩
  · exact ⟨a, cap, rfl⟩
  · exact ⟨_, cap, h1⟩
theorem take_snoc {α : Type} {L : List α} {k : Nat} {x : α} (hx : L[k]? = some x) : L.take (k + 1) = L.take k ++ [x] := by
  rw [List.take_add_one, hx]; rfl
theorem lt_of_get {α : Type} {L : List α} {n : Nat} {a : α} (h : L[n]? = some a) : n < L.length := by
  by_cases g : n < L.length
  · exact g
  · rw [List.getElem?_eq_none (by omega)] at h; cases h
theorem get_some {α : Type} {L : List α} {n : Nat} (h : n < L.length) : ∃ a, L[n]? = some a := ⟨L[n], by simp [h]⟩
/-- the cells of a slice's elements -/
theorem row_at {α : Type} {q : Nat} {R : Rep α} {w : World} {a : Option Addr} {n cap : Nat} {L : List α} (hv : RowR q R w (.slice a n cap) L) {k : Nat} (hk : k < L.length) :
    ∃ b off, a = some ⟨b, off, none⟩ ∧ b < w.heap.size ∧ ∀ i x, L[i]? = some x → ∃ C : List Value, C.length = q ∧ (∀ j u, C[j]? = some u → w.cell? ⟨b, off + i * q + j, none⟩ = some u) ∧ R w C x := by
  rcases hv with ⟨a, cap, h, rfl, _⟩ | ⟨b, off, cap, h1, _, _, _, h5, h6⟩
  · simp at hk
  · have e : a = some ⟨b, off, none⟩ := by injection h1
    exact ⟨b, off, e, h5, h6⟩
end Go.Proofs.YtpeogdbfhfkngaaDoor

/- What a slice of the call's own that grows leaves as it was. -/
namespace Go.Proofs.YtpeogdbfhfkngaaDoor
open Go.RowKit
theorem below_grown {B g : Nat} {w0 wa w2 : World} (hb : Below B w0 wa) (hBg : B ≤ g) (hs : B ≤ wa.heap.size) (hg : wa.grownBy w2 (some g)) : Below B w0 w2 :=
  hb.trans ⟨hg.os, hg.tape, hg.output, hg.size, fun k hk => hg.block k (by omega) (by simp; omega)⟩
theorem below_grownV {B : Nat} {w0 wa w2 : World} {v : Value} {e : TypeId} {n : Nat} {xs : List Value} (hb : Below B w0 wa) (hs : B ≤ wa.heap.size) (hO : wa.ownsRow B e 1 v n xs) (hg : wa.grownBy w2 v.ownBlock) : Below B w0 w2 :=
  hb.trans ⟨hg.os, hg.tape, hg.output, hg.size, fun k hk => hg.block k (by omega) (fun h => by have := (hO.lt k h.symm).1; omega)⟩
/-- append of a row that isn't empty, in a region that draws its order -/
theorem wp_append_row1 {P : Program} {w : World} {o : Oper} {a : Act} {K : Act → World → Prop} {Q : Exit → Act → World → Prop} (s x : Operand) (t : TypeId)
    (ho : o.op = .call { callee := .builtin .append, args := #[s, x], argTypes := #[t, t] })
    (base : Nat) (e : TypeId) (i : TypeInfo) (z : Value) (bytes : Nat) (ht : P.underlying t = some (.slice e)) (hi : P.info? e = some i) (hz : i.zero = some z)
    (hsize : i.size = 1) (hby : i.bytes = bytes) (hzs : z.cells.size = 1)
    (v : Value) (n : Nat) (xs : List Value) (hs : a.eval s = v) (hown : w.ownsRow base e 1 v n xs)
    (sv : Value) (m : Nat) (f : Nat → Value) (hx : a.eval x = sv) (hrow : RowAt w sv m f) (h0 : 0 < m) (h1 : ∀ j, j < m → (f j).oneCell' = true)
    (h63 : n + m ≤ maxLen) (hbytes : (n + m) * bytes ≤ 140737488355328) (hbase : base ≤ w.heap.size)
    (h : ∀ v' w', w'.ownsRow base e 1 v' (n + m) (xs ++ (List.range m).map f) → w.grownBy w' v.ownBlock → K (a.put o.dst v') w') : o.wp P a w K Q := by
  rcases hrow with ⟨ao, cap, rfl, rfl, hnc⟩ | ⟨b, off, cap, rfl, h2, h3, h4, h5, h6⟩
  · omega
  · refine wp_append_own w s x t ho base e i z 1 bytes ht hi hz hsize hby hzs (by omega) v n xs hs hown ⟨b, off, none⟩ m cap ((List.range m).map f) hx (by simp) ?_ ?_ h63 hbytes hbase (fun v' w' ho' hg _ => h v' w' ho' hg)
    · intro j u hu
      by_cases hj : j < m
      · have hu' : f j = u := by simpa [hj] using hu
        subst hu'
        have := h6 j hj
        unfold Addr.add
        by_cases h0 : j = 0
        · subst h0; simpa using this
        · simpa [h0] using this
      · simp [hj] at hu
    · intro u hu
      obtain ⟨j, hj, rfl⟩ := List.mem_map.1 hu
      exact h1 j (List.mem_range.1 hj)
/-- append, and in which block the row lies then -/
theorem wpList_append_row1_at {P : Program} {w : World} {ops : Array Oper} {rest : List Oper} {o : Oper} {a : Act} {Q : Exit → Act → World → Prop} (hgd : o.guard = none) (s x : Operand) (t : TypeId)
    (ho : o.op = .call { callee := .builtin .append, args := #[s, x], argTypes := #[t, t] })
    (base : Nat) (e : TypeId) (i : TypeInfo) (z : Value) (bytes : Nat) (ht : P.underlying t = some (.slice e)) (hi : P.info? e = some i) (hz : i.zero = some z)
    (hsize : i.size = 1) (hby : i.bytes = bytes) (hzs : z.cells.size = 1)
    (v : Value) (n : Nat) (xs : List Value) (hs : a.eval s = v) (hown : w.ownsRow base e 1 v n xs)
    (sv : Value) (m : Nat) (f : Nat → Value) (hx : a.eval x = sv) (hrow : RowAt w sv m f) (h0 : 0 < m) (h1 : ∀ j, j < m → (f j).oneCell' = true)
    (h63 : n + m ≤ maxLen) (hbytes : (n + m) * bytes ≤ 140737488355328) (hbase : base ≤ w.heap.size)
    (h : ∀ v' w', w'.ownsRow base e 1 v' (n + m) (xs ++ (List.range m).map f) → w.grownBy w' v.ownBlock → (v'.ownBlock = v.ownBlock ∨ v'.ownBlock = some w.heap.size) → wpList P ops Q rest (a.put o.dst v') w') : wpList P ops Q (o :: rest) a w := by
  rcases hrow with ⟨ao, cap, rfl, rfl, hnc⟩ | ⟨b, off, cap, rfl, h2, h3, h4, h5, h6⟩
  · omega
  · refine wpList_append_own_at w hgd s x t ho base e i z 1 bytes ht hi hz hsize hby hzs (by omega) v n xs hs hown ⟨b, off, none⟩ m cap ((List.range m).map f) hx (by simp) ?_ ?_ h63 hbytes hbase (fun v' w' ho' hg _ hat => h v' w' ho' hg hat)
    · intro j u hu
      by_cases hj : j < m
      · have hu' : f j = u := by simpa [hj] using hu
        subst hu'
        have := h6 j hj
        unfold Addr.add
        by_cases h0 : j = 0
        · subst h0; simpa using this
        · simpa [h0] using this
      · simp [hj] at hu
    · intro u hu
      obtain ⟨j, hj, rfl⟩ := List.mem_map.1 hu
      exact h1 j (List.mem_range.1 hj)
theorem own_ne {wr : World} {v : Value} {B : Nat} {e : TypeId} {q n : Nat} {xs : List Value} (hO : wr.ownsRow B e q v n xs) {b : Nat} (hb : wr.heap.size ≤ b) : v.ownBlock ≠ some b := by
  intro h
  rcases hO.2 with ⟨h0, _⟩ | ⟨g, cap, cur, h0, _, h3, _⟩
  · rw [h0] at h; simp [Value.ownBlock] at h
  · rw [h0] at h
    have : g = b := by simpa [Value.ownBlock] using h
    subst this
    rw [Array.getElem?_eq_none hb] at h3; cases h3
/-- a block that isn't the row's own stays -/
theorem grown_cell {wa w2 : World} {ob : Option Nat} (hg : wa.grownBy w2 ob) {b o : Nat} (hne : ob ≠ some b) (hb2 : b < wa.heap.size) : w2.cell? ⟨b, o, none⟩ = wa.cell? ⟨b, o, none⟩ := by
  have h1 : w2.heap[b]? = wa.heap[b]? := hg.block b hb2 (fun h => hne h.symm)
  unfold World.cell?
  rw [show (⟨b, o, none⟩ : Addr).block = b from rfl, h1]
end Go.Proofs.YtpeogdbfhfkngaaDoor

/- What a call that only makes memory leaves: the world ahead of it, with more blocks behind. Stores into older blocks move inside. -/
namespace Go.Proofs.YtpeogdbfhfkngaaDoor
open Go.RowKit
def wmore (w : World) (l : Array Obj) (d : Nat) : World := { w with heap := w.heap ++ l, drawn := d }
theorem more_of {w w1 : World} (h : Below w.heap.size w w1) : ∃ l d, w1 = wmore w l d := by
  refine ⟨w1.heap.extract w.heap.size w1.heap.size, w1.drawn, ?_⟩
  have hh : w1.heap = w.heap ++ w1.heap.extract w.heap.size w1.heap.size := by
    apply Array.ext_getElem?
    intro i
    by_cases hi : i < w.heap.size
    · rw [Array.getElem?_append_left hi]; exact h.block i hi
    · have h1 := h.size
      rw [Array.getElem?_append_right (by omega), Array.getElem?_extract]
      by_cases h2 : i < w1.heap.size
      · rw [if_pos (by omega)]; congr 1; omega
      · rw [if_neg (by omega), Array.getElem?_eq_none (by omega)]
  cases w1
  simp only [wmore] at *
  rw [← hh]
  cases h.os; cases h.tape; cases h.output
  rfl
theorem more_size (w : World) (l : Array Obj) (d : Nat) : (wmore w l d).heap.size = w.heap.size + l.size := by simp [wmore]
theorem more_get (w : World) (l : Array Obj) (d : Nat) {b : Nat} (h : b < w.heap.size) : (wmore w l d).heap[b]? = w.heap[b]? := by
  show (w.heap ++ l)[b]? = _; exact Array.getElem?_append_left h
theorem more_cell (w : World) (l : Array Obj) (d : Nat) {b o : Nat} (h : b < w.heap.size) : (wmore w l d).cell? ⟨b, o, none⟩ = w.cell? ⟨b, o, none⟩ := by
  unfold World.cell?; rw [show (⟨b, o, none⟩ : Addr).block = b from rfl, more_get w l d h]
theorem more_frozen (w : World) (l : Array Obj) (d : Nat) {b o : Nat} (h : b < w.heap.size) : (wmore w l d).frozen? ⟨b, o, none⟩ = w.frozen? ⟨b, o, none⟩ := by
  unfold World.frozen?; rw [show (⟨b, o, none⟩ : Addr).block = b from rfl, more_get w l d h]
theorem more_set (w : World) (l : Array Obj) (d : Nat) {b o : Nat} (v : Value) (h : b < w.heap.size) : (wmore w l d).setCell ⟨b, o, none⟩ v = wmore (w.setCell ⟨b, o, none⟩ v) l d := by
  have hm : ∀ f : Obj → Obj, (w.heap ++ l).modify b f = w.heap.modify b f ++ l := by
    intro f
    apply Array.ext_getElem?
    intro i
    by_cases hi : i < w.heap.size
    · rw [Array.getElem?_append_left (by simpa using hi), Array.getElem?_modify, Array.getElem?_modify, Array.getElem?_append_left hi]
    · rw [Array.getElem?_append_right (by simp; omega), Array.getElem?_modify, if_neg (by omega), Array.getElem?_append_right (by omega), Array.size_modify]
  unfold World.setCell wmore
  rw [show (⟨b, o, none⟩ : Addr).block = b from rfl]
  simp only [hm]
theorem more_below {B : Nat} {v w : World} (h : Below B v w) (hB : B ≤ w.heap.size) (l : Array Obj) (d : Nat) : Below B v (wmore w l d) :=
  h.trans ⟨rfl, rfl, rfl, by rw [more_size]; omega, fun k hk => more_get w l d (by omega)⟩
theorem set_size (w : World) (a : Addr) (v : Value) : (w.setCell a v).heap.size = w.heap.size := by
  simp [World.setCell]
theorem more_drewN (w : World) (l : Array Obj) (d n : Nat) : (wmore w l d).drewN n = wmore w l (d + n) := rfl
theorem more_drew (w : World) (l : Array Obj) (d : Nat) : (wmore w l d).drew = wmore w l (d + 1) := rfl
end Go.Proofs.YtpeogdbfhfkngaaDoor

/- A block that was just made, by its number. -/
namespace Go.Proofs.YtpeogdbfhfkngaaDoor
open Go.RowKit
theorem cell_at {W : World} {C : Array Value} {t : TypeId} {fr : Nat × Nat} {b i : Nat} (h : b = W.heap.size) : (W.alloc (.cells C t fr)).cell? ⟨b, i, none⟩ = C[i]? := by
  subst h
  have e : (W.alloc (.cells C t fr)).heap[W.heap.size]? = some (.cells C t fr) := by show (W.heap.push _)[W.heap.size]? = _; simp
  unfold World.cell?
  rw [e]
  simp
theorem frozen_at {W : World} {C : Array Value} {t : TypeId} {b i : Nat} (h : b = W.heap.size) : (W.alloc (.cells C t (0, 0))).frozen? ⟨b, i, none⟩ = false := by
  subst h
  have e : (W.alloc (.cells C t (0, 0))).heap[W.heap.size]? = some (.cells C t (0, 0)) := by show (W.heap.push _)[W.heap.size]? = _; simp
  unfold World.frozen?
  rw [e]
  simp
theorem cell_past {W : World} {o : Obj} {b i : Nat} (h : b < W.heap.size) : (W.alloc o).cell? ⟨b, i, none⟩ = W.cell? ⟨b, i, none⟩ := by
  have e : (W.alloc o).heap[b]? = W.heap[b]? := by show (W.heap.push _)[b]? = _; rw [Array.getElem?_push]; rw [if_neg (by omega)]
  unfold World.cell?
  rw [show (⟨b, i, none⟩ : Addr).block = b from rfl, e]
theorem frozen_past {W : World} {o : Obj} {b i : Nat} (h : b < W.heap.size) : (W.alloc o).frozen? ⟨b, i, none⟩ = W.frozen? ⟨b, i, none⟩ := by
  have e : (W.alloc o).heap[b]? = W.heap[b]? := by show (W.heap.push _)[b]? = _; rw [Array.getElem?_push]; rw [if_neg (by omega)]
  unfold World.frozen?
  rw [show (⟨b, i, none⟩ : Addr).block = b from rfl, e]
theorem blt {W w1 : World} (hb : Below W.heap.size W w1) : ∀ b, b < W.heap.size → b < w1.heap.size := fun _ h => Nat.lt_of_lt_of_le h hb.size
theorem bcell {W w1 : World} (hb : Below W.heap.size W w1) : (∀ b o, b < W.heap.size → w1.cell? ⟨b, o, none⟩ = W.cell? ⟨b, o, none⟩) ∧ (∀ b o, b < W.heap.size → w1.frozen? ⟨b, o, none⟩ = W.frozen? ⟨b, o, none⟩) :=
  ⟨fun b o h => hb.cell (p := ⟨b, o, none⟩) h, fun b o h => hb.frozen (p := ⟨b, o, none⟩) h⟩
end Go.Proofs.YtpeogdbfhfkngaaDoor

/- Slices whose elements have two cells. -/
namespace Go.Proofs.YtpeogdbfhfkngaaDoor
open Go.RowKit
/-- v is a slice of n elements of two cells each: f i and g i -/
def Row2At (w : World) (v : Value) (n : Nat) (f g : Nat → Value) : Prop :=
  (∃ a cap, v = .slice a 0 cap ∧ n = 0) ∨ ∃ b off cap, v = .slice (some ⟨b, off, none⟩) n cap ∧ 0 < n ∧ n ≤ cap ∧ cap ≤ maxLen ∧ b < w.heap.size ∧ ∀ i, i < n → w.cell? ⟨b, off + i * 2, none⟩ = some (f i) ∧ w.cell? ⟨b, off + i * 2 + 1, none⟩ = some (g i)
theorem more_more (w : World) (l l2 : Array Obj) (d d2 : Nat) : wmore (wmore w l d) l2 d2 = wmore w (l ++ l2) d2 := by simp [wmore, Array.append_assoc]
theorem more_start (w : World) : w = wmore w #[] w.drawn := by simp [wmore]
end Go.Proofs.YtpeogdbfhfkngaaDoor

/- A region that draws its order: the condition may be made stronger on the way. Rows of bytes as texts. -/
namespace Go.Proofs.YtpeogdbfhfkngaaDoor
open Go.RowKit
theorem wpAnyH_switch {P : Program} {md : Region.Mode} {ops : Array Oper} {Q : Exit → Act → World → Prop} {S S' : World → Prop} (hSS : ∀ w, S' w → S w) :
    ∀ (fuel : Nat) (listed : Array Bool) (a : Act) (w : World), wpAnyH P md ops Q S' fuel listed a w → wpAnyH P md ops Q S fuel listed a w
  | 0, _, _, _, h => h
  | fuel + 1, _, _, _, h => ⟨h.1, fun i hi => wpOp_mono (fun a' w' h' => ⟨hSS _ h'.1, wpAnyH_switch hSS fuel _ a' w' h'.2⟩) (h.2 i hi)⟩
theorem conv_row {P : Program} {w : World} {src dst e : TypeId} {v : Value} {l : List UInt8} (hs : P.underlying src = some (.slice e)) (he : P.underlying e = some (.int .u8)) (hd : P.underlying dst = some .string)
    (h : RowAt w v l.length (byteV l)) : (convert src dst v).run P w = .ok (.string ⟨l.toArray⟩) w := by
  rcases h with ⟨a, cap, rfl, h0, hc⟩ | ⟨b, off, cap, rfl, h1, h2, h3, h4, hcell⟩
  · obtain rfl : l = [] := List.length_eq_zero_iff.1 h0
    cases a with
    | none =>
      rw [run_convert_bytes_string w src dst e none 0 cap hs he hd]
      simp [Conv.bytesToString]
      rfl
    | some ad => exact run_convert_bytes_back w src dst e ad cap [] hs he hd (fun j hj => by simp at hj)
  · refine run_convert_bytes_back w src dst e _ cap l hs he hd fun j hj => ?_
    have := hcell j hj
    have e1 : byteV l j = .int .u8 (l[j].toNat : Int) := by simp [byteV, List.getD, hj]
    rw [e1] at this
    unfold Addr.add
    by_cases h0 : j = 0
    · subst h0; simpa using this
    · simpa [h0] using this
theorem conv_owns {P : Program} {w : World} {src dst e t : TypeId} {base n : Nat} {v : Value} {l : List UInt8} (hs : P.underlying src = some (.slice e)) (he : P.underlying e = some (.int .u8)) (hd : P.underlying dst = some .string)
    (h : w.ownsRow base t 1 v n (l.map fun c => Value.int .u8 (c.toNat : Int))) : (convert src dst v).run P w = .ok (.string ⟨l.toArray⟩) w := by
  have hn : l.length = n := by have := h.1; simpa using this
  exact conv_row hs he hd (hn ▸ RowAt.owns (f := byteV l) h (fun i hi => byteV_at (by omega)))
end Go.Proofs.YtpeogdbfhfkngaaDoor

/- Rows of the call's own, and what is appended to them. -/
namespace Go.Proofs.YtpeogdbfhfkngaaDoor
open Go.RowKit
set_option linter.unusedSimpArgs false
set_option linter.unusedVariables false
/-- the cells of a list of numbers -/
theorem ints_at {w : World} {a : Option Addr} {n cap : Nat} {L : List Int} (hv : RowR 1 intR w (.slice a n cap) L) {k : Nat} (hk : k < L.length) : ∃ b off, a = some ⟨b, off, none⟩ ∧ b < w.heap.size ∧ ∀ i z, L[i]? = some z → w.cell? ⟨b, off + i, none⟩ = some (.int .i64 z) ∧ I64 z := by
  rcases hv with ⟨a, cap, h, rfl, _⟩ | ⟨b, off, cap, h1, _, _, _, h5, h6⟩
  · simp at hk
  · have e : a = some ⟨b, off, none⟩ := by injection h1
    refine ⟨b, off, e, h5, fun i z hz => ?_⟩
    obtain ⟨C, g1, g2, g3, g4⟩ := h6 i z hz
    subst g3
    exact ⟨by simpa using g2 0 _ rfl, g4⟩
theorem owns_grown {w w' : World} {B : Nat} {e : TypeId} {q n : Nat} {v : Value} {xs : List Value} {ob : Option Nat} (h : w.ownsRow B e q v n xs) (hg : w.grownBy w' ob) (hne : ∀ g, v.ownBlock = some g → ob ≠ some g) : w'.ownsRow B e q v n xs := by
  obtain ⟨hl, h⟩ := h
  refine ⟨hl, ?_⟩
  rcases h with h | ⟨g, cap, cur, h0, h1, hh, h2⟩
  · exact Or.inl h
  · have hlt : g < w.heap.size := by
      by_cases hgl : g < w.heap.size
      · exact hgl
      · rw [Array.getElem?_eq_none (Nat.le_of_not_lt hgl)] at hh; cases hh
    refine Or.inr ⟨g, cap, cur, h0, h1, ?_, h2⟩
    rw [hg.block g hlt (fun h => hne g (by rw [h0]; rfl) h.symm)]
    exact hh
theorem owns_set {w : World} {B : Nat} {e : TypeId} {q n : Nat} {v : Value} {xs : List Value} {g o : Nat} {x : Value} (h : w.ownsRow B e q v n xs) (hne : v.ownBlock ≠ some g) : (w.setCell ⟨g, o, none⟩ x).ownsRow B e q v n xs := by
  obtain ⟨hl, h⟩ := h
  refine ⟨hl, ?_⟩
  rcases h with h | ⟨b, cap, cur, h0, h1, hh, h2⟩
  · exact Or.inl h
  · refine Or.inr ⟨b, cap, cur, h0, h1, ?_, h2⟩
    have : g ≠ b := fun he => hne (by rw [h0, he]; rfl)
    rw [← hh]
    unfold World.setCell
    show (w.heap.modify g _)[b]? = _
    rw [Array.getElem?_modify, if_neg this]
theorem owns_type {w : World} {B C : Nat} {e f : TypeId} {q p n m : Nat} {v u : Value} {xs ys : List Value} (h : w.ownsRow B e q v n xs) (k : w.ownsRow C f p u m ys) (hef : e ≠ f) {g : Nat} (hv : v.ownBlock = some g) : u.ownBlock ≠ some g := by
  intro hu
  rcases h.2 with ⟨h0, _⟩ | ⟨b, cap, cur, h0, _, h1, _⟩
  · rw [h0] at hv; simp [Value.ownBlock] at hv
  · rcases k.2 with ⟨k0, _⟩ | ⟨b2, cap2, cur2, k0, _, k1, _⟩
    · rw [k0] at hu; simp [Value.ownBlock] at hu
    · rw [h0] at hv; rw [k0] at hu
      have e1 : b = g := by simpa [Value.ownBlock] using hv
      have e2 : b2 = g := by simpa [Value.ownBlock] using hu
      rw [e1] at h1; rw [e2, h1] at k1
      simp at k1
      exact hef k1.2
def iV (l : List Int) : List Value := l.map (Value.int .i64)
theorem iV_len (l : List Int) : (iV l).length = l.length := by simp [iV]
/-- an owned row, as what it reads as -/
theorem row_of_owns {w : World} {B : Nat} {e : TypeId} {v : Value} {l : List Int} (h : w.ownsRow B e 1 v l.length (iV l)) (hl : ∀ z ∈ l, I64 z) : RowR 1 intR w v l := by
  obtain ⟨_, h⟩ := h
  rcases h with ⟨rfl, h0⟩ | ⟨g, cap, cur, rfl, hb, hg, h1, h2, h3, h4⟩
  · exact Or.inl ⟨none, 0, rfl, List.length_eq_zero_iff.1 h0, fun _ => rfl⟩
  · by_cases h0 : l.length = 0
    · exact Or.inl ⟨_, cap, by rw [h0], List.length_eq_zero_iff.1 h0, fun h => by cases h⟩
    · have hlt : g < w.heap.size := by
        by_cases hgl : g < w.heap.size
        · exact hgl
        · rw [Array.getElem?_eq_none (Nat.le_of_not_lt hgl)] at hg; cases hg
      refine Or.inr ⟨g, 0, cap, rfl, by omega, h1, h2, hlt, fun i x hx => ?_⟩
      refine ⟨[.int .i64 x], rfl, fun j u hu => ?_, rfl, hl x (List.mem_of_getElem? hx)⟩
      have hj : j = 0 := by
        by_cases hj : j = 0
        · exact hj
        · rw [List.getElem?_eq_none (by simp; omega)] at hu; cases hu
      subst hj
      obtain rfl : Value.int .i64 x = u := by simpa using hu
      have hi : i < l.length := by
        by_cases hi : i < l.length
        · exact hi
        · rw [List.getElem?_eq_none (by omega)] at hx; cases hx
      have h5 : (iV l)[i]? = some (.int .i64 x) := by simp [iV, hx]
      rw [← h4, List.getElem?_take, if_pos (by omega)] at h5
      unfold World.cell?
      rw [hg]
      simpa using h5
theorem row_ints {w : World} {v : Value} {l : List Int} (h : RowR 1 intR w v l) : ∀ z ∈ l, I64 z := by
  intro z hz
  obtain ⟨k, hk, rfl⟩ := List.getElem_of_mem hz
  obtain ⟨a, cap, rfl⟩ := row_get h
  obtain ⟨b, off, _, _, hc⟩ := ints_at h hk
  exact (hc k l[k] (by simp [hk])).2
theorem map_intV (l : List Int) : (List.range l.length).map (intV l) = iV l := by
  apply List.ext_getElem?
  intro i
  by_cases h : i < l.length
  · simp [h, intV, iV, List.getD]
  · simp [h, iV]
/-- rows that are the call's own, each in a block of its own -/
structure OwnRows (B : Nat) (e : TypeId) (w : World) (U : List Value) (L : List (List Int)) : Prop where
  len : U.length = L.length
  row : ∀ (i : Nat) (u : Value) (l : List Int), U[i]? = some u → L[i]? = some l → w.ownsRow B e 1 u l.length (iV l)
  apart : ∀ (i j : Nat) (u u' : Value) (g : Nat), i < j → U[i]? = some u → U[j]? = some u' → u.ownBlock = some g → u'.ownBlock ≠ some g
theorem OwnRows.nil (B : Nat) (e : TypeId) (w : World) : OwnRows B e w [] [] := ⟨rfl, fun i u l h => by simp at h, fun i j u u' g _ h => by simp at h⟩
theorem owns_lt {w : World} {B : Nat} {e : TypeId} {q n : Nat} {v : Value} {xs : List Value} (h : w.ownsRow B e q v n xs) {g : Nat} (hv : v.ownBlock = some g) : B ≤ g ∧ g < w.heap.size := by
  rcases h.2 with ⟨h0, _⟩ | ⟨b, cap, cur, h0, hb, h1, _⟩
  · rw [h0] at hv; simp [Value.ownBlock] at hv
  · rw [h0] at hv
    have e1 : b = g := by simpa [Value.ownBlock] using hv
    subst e1
    refine ⟨hb, ?_⟩
    by_cases hgl : b < w.heap.size
    · exact hgl
    · rw [Array.getElem?_eq_none (Nat.le_of_not_lt hgl)] at h1; cases h1
/-- one row more, that was made behind all others -/
theorem OwnRows.snoc {B : Nat} {e : TypeId} {w w' : World} {U : List Value} {L : List (List Int)} {u : Value} {l : List Int} (h : OwnRows B e w U L) (hb : Below w.heap.size w w') (hB : B ≤ w.heap.size) (hu : w'.ownsRow w.heap.size e 1 u l.length (iV l)) : OwnRows B e w' (U ++ [u]) (L ++ [l]) := by
  have hbase : w'.ownsRow B e 1 u l.length (iV l) := by
    refine ⟨hu.1, ?_⟩
    rcases hu.2 with h0 | ⟨g, cap, cur, h0, h1, h2⟩
    · exact Or.inl h0
    · exact Or.inr ⟨g, cap, cur, h0, by omega, h2⟩
  refine ⟨by simp [h.len], fun i x m hx hm => ?_, fun i j x y g hij hx hy hg => ?_⟩
  · by_cases hi : i < U.length
    · rw [List.getElem?_append_left hi] at hx
      rw [List.getElem?_append_left (by rw [← h.len]; exact hi)] at hm
      exact owns_below (h.row i x m hx hm) hb
    · have hin : i = U.length := by
        by_cases he : i = U.length
        · exact he
        · rw [List.getElem?_eq_none (by simp; omega)] at hx; cases hx
      subst hin
      have hx' : x = u := by simpa using hx.symm
      rw [h.len] at hm
      have hm' : m = l := by simpa using hm.symm
      rw [hx', hm']
      exact hbase
  · by_cases hj : j < U.length
    · rw [List.getElem?_append_left hj] at hy
      rw [List.getElem?_append_left (by omega)] at hx
      exact h.apart i j x y g hij hx hy hg
    · have hjn : j = U.length := by
        by_cases he : j = U.length
        · exact he
        · rw [List.getElem?_eq_none (by simp; omega)] at hy; cases hy
      subst hjn
      have hy' : y = u := by simpa using hy.symm
      rw [List.getElem?_append_left hij] at hx
      intro hyg
      rw [hy'] at hyg
      have h1 := (owns_lt hu hyg).1
      have h2 : i < L.length := by rw [← h.len]; exact hij
      have h3 := (owns_lt (h.row i x L[i] hx (by simp [h2])) hg).2
      omega
/-- what is appended: nothing, or cells that lie there -/
def Src (w : World) (sv : Value) (m : Nat) (news : List Value) : Prop :=
  (sv = .slice none 0 0 ∧ m = 0 ∧ news = []) ∨ ∃ (ad : Addr) (c : Nat), sv = .slice (some ad) m c ∧ ∀ j u, news[j]? = some u → w.cell? (ad.add j) = some u
theorem Src.below {w w' : World} {sv : Value} {m : Nat} {news : List Value} (h : Src w sv m news) (hb : Below w.heap.size w w') : Src w' sv m news := by
  rcases h with h | ⟨ad, c, h1, h2⟩
  · exact Or.inl h
  · exact Or.inr ⟨ad, c, h1, fun j u hu => (hb.cell (p := ad.add j) (World.block_lt_of_cell? w _ (h2 j u hu))).trans (h2 j u hu)⟩
theorem wp_append_src {P : Program} {w : World} {o : Oper} {a : Act} {K : Act → World → Prop} {Q : Exit → Act → World → Prop} (s x : Operand) (t : TypeId)
    (ho : o.op = .call { callee := .builtin .append, args := #[s, x], argTypes := #[t, t] })
    (base : Nat) (e : TypeId) (i : TypeInfo) (z : Value) (q bytes : Nat) (ht : P.underlying t = some (.slice e)) (hi : P.info? e = some i) (hz : i.zero = some z)
    (hsize : i.size = q) (hby : i.bytes = bytes) (hzs : z.cells.size = q) (hq : 0 < q)
    (v : Value) (n : Nat) (xs : List Value) (hs : a.eval s = v) (hown : w.ownsRow base e q v n xs)
    (sv : Value) (m : Nat) (news : List Value) (hx : a.eval x = sv) (hsrc : Src w sv m news) (hl : news.length = m * q) (h1 : ∀ u ∈ news, u.oneCell' = true)
    (h63 : n + m ≤ maxLen) (hbytes : (n + m) * bytes ≤ 140737488355328) (hbase : base ≤ w.heap.size)
    (h : ∀ v' w', w'.ownsRow base e q v' (n + m) (xs ++ news) → w.grownBy w' v.ownBlock → K (a.put o.dst v') w') : o.wp P a w K Q := by
  rcases hsrc with ⟨rfl, rfl, rfl⟩ | ⟨ad, c, rfl, hc⟩
  · have hrun := run_append_owned_none (P := P) (w := w) base t o.type e i q ht hi v n xs hown
    unfold Oper.wp
    simp [execOp, ho, resolve, invoke, builtin, hs, hx, hrun, Result.andThen]
    exact h v w (by simpa using hown) (World.grownBy.refl _ _)
  · exact wp_append_own w s x t ho base e i z q bytes ht hi hz hsize hby hzs hq v n xs hs hown ad m c news hx hl hc h1 h63 hbytes hbase (fun v' w' ho' hg _ => h v' w' ho' hg)
theorem wpList_append_src {P : Program} {w : World} {ops : Array Oper} {rest : List Oper} {o : Oper} {a : Act} {Q : Exit → Act → World → Prop} (hgd : o.guard = none) (s x : Operand) (t : TypeId)
    (ho : o.op = .call { callee := .builtin .append, args := #[s, x], argTypes := #[t, t] })
    (base : Nat) (e : TypeId) (i : TypeInfo) (z : Value) (q bytes : Nat) (ht : P.underlying t = some (.slice e)) (hi : P.info? e = some i) (hz : i.zero = some z)
    (hsize : i.size = q) (hby : i.bytes = bytes) (hzs : z.cells.size = q) (hq : 0 < q)
    (v : Value) (n : Nat) (xs : List Value) (hs : a.eval s = v) (hown : w.ownsRow base e q v n xs)
    (sv : Value) (m : Nat) (news : List Value) (hx : a.eval x = sv) (hsrc : Src w sv m news) (hl : news.length = m * q) (h1 : ∀ u ∈ news, u.oneCell' = true)
    (h63 : n + m ≤ maxLen) (hbytes : (n + m) * bytes ≤ 140737488355328) (hbase : base ≤ w.heap.size)
    (h : ∀ v' w', w'.ownsRow base e q v' (n + m) (xs ++ news) → w.grownBy w' v.ownBlock → wpList P ops Q rest (a.put o.dst v') w') : wpList P ops Q (o :: rest) a w :=
  wpList_plain hgd fun K hK => wp_append_src s x t ho base e i z q bytes ht hi hz hsize hby hzs hq v n xs hs hown sv m news hx hsrc hl h1 h63 hbytes hbase fun v' w' h2 h3 => hK _ _ (h v' w' h2 h3)
theorem add_at (b o j : Nat) : (⟨b, o, none⟩ : Addr).add j = ⟨b, o + j, none⟩ := by unfold Addr.add; by_cases h : j = 0 <;> simp [h]
theorem src_ints {w : World} {u : Value} {l : List Int} (h : RowR 1 intR w u l) : Src w u l.length (iV l) := by
  rcases h with ⟨a, cap, rfl, rfl, hc⟩ | ⟨b, off, cap, rfl, h2, h3, h4, h5, h6⟩
  · cases a with
    | none => rw [hc rfl]; exact Or.inl ⟨rfl, rfl, rfl⟩
    | some ad => exact Or.inr ⟨ad, cap, rfl, fun j u hu => by simp [iV] at hu⟩
  · refine Or.inr ⟨⟨b, off, none⟩, cap, rfl, fun j u hu => ?_⟩
    rw [add_at]
    have hj : j < l.length := by
      by_cases hj : j < l.length
      · exact hj
      · rw [List.getElem?_eq_none (by rw [iV_len]; omega)] at hu; cases hu
    obtain ⟨C, g1, g2, g3, _⟩ := h6 j l[j] (by simp [hj])
    subst g3
    have h7 := g2 0 _ rfl
    have h8 : u = .int .i64 l[j] := by simpa [iV, hj] using hu.symm
    rw [h8]
    simpa using h7
theorem iV_one (l : List Int) : ∀ u ∈ iV l, u.oneCell' = true := by
  intro u hu
  obtain ⟨z, _, rfl⟩ := List.mem_map.1 hu
  rfl
theorem owns_congr {w w' : World} {B : Nat} {e : TypeId} {q n : Nat} {v : Value} {xs : List Value} (h : w.ownsRow B e q v n xs) (hc : ∀ g, B ≤ g → w'.heap[g]? = w.heap[g]?) : w'.ownsRow B e q v n xs := by
  obtain ⟨hl, h⟩ := h
  refine ⟨hl, ?_⟩
  rcases h with h | ⟨g, cap, cur, h0, h1, hh, h2⟩
  · exact Or.inl h
  · exact Or.inr ⟨g, cap, cur, h0, h1, (hc g h1).trans hh, h2⟩
theorem OwnRows.congr {B : Nat} {e : TypeId} {w w' : World} {U : List Value} {L : List (List Int)} (h : OwnRows B e w U L) (hc : ∀ g, B ≤ g → w'.heap[g]? = w.heap[g]?) : OwnRows B e w' U L :=
  ⟨h.len, fun i u l hu hl => owns_congr (h.row i u l hu hl) hc, h.apart⟩
theorem OwnRows.below {B : Nat} {e : TypeId} {w w' : World} {U : List Value} {L : List (List Int)} (h : OwnRows B e w U L) (hb : Below w.heap.size w w') : OwnRows B e w' U L :=
  ⟨h.len, fun i u l hu hl => owns_below (h.row i u l hu hl) hb, h.apart⟩
theorem more_past (A : World) (l : Array Obj) (d : Nat) {g : Nat} (h : A.heap.size ≤ g) : (wmore A l d).heap[g]? = l[g - A.heap.size]? := by
  show (A.heap ++ l)[g]? = _
  rw [Array.getElem?_append_right h]
theorem more_congr {A A' : World} {l : Array Obj} {d d' : Nat} {B : Nat} (h : A.heap.size = A'.heap.size) (hB : A.heap.size ≤ B) : ∀ g, B ≤ g → (wmore A' l d').heap[g]? = (wmore A l d).heap[g]? := fun g hg => by
  rw [more_past A l d (by omega), more_past A' l d' (by omega), h]
theorem below_none {w w' : World} (hg : w.grownBy w' none) : Below w.heap.size w w' := ⟨hg.os, hg.tape, hg.output, hg.size, fun k hk => hg.block k hk (by simp)⟩
theorem take_set {U : Array Value} {k : Nat} {x : Value} (hk : k < U.size) : (U.setIfInBounds k x).toList.take (k + 1) = U.toList.take k ++ [x] := by
  apply List.ext_getElem?
  intro i
  rw [List.getElem?_take]
  by_cases hi : i < k
  · rw [if_pos (by omega), List.getElem?_append_left (by simp; omega), List.getElem?_take, if_pos hi]
    simp [Array.getElem?_setIfInBounds, show ¬ k = i by omega]
  · by_cases hik : i = k
    · subst hik
      rw [if_pos (by omega), List.getElem?_append_right (by simp; omega)]
      have : i - (List.take i U.toList).length = 0 := by simp; omega
      rw [this]
      simp [Array.getElem?_setIfInBounds, hk]
    · rw [if_neg (by omega), List.getElem?_eq_none (by simp; omega)]
theorem owns_form {w : World} {B : Nat} {e : TypeId} {q n : Nat} {v : Value} {xs : List Value} (h : w.ownsRow B e q v n xs) : ∃ a cap, v = .slice a n cap := by
  rcases h.2 with ⟨h0, hn⟩ | ⟨g, cap, cur, h0, _⟩
  · exact ⟨none, 0, by rw [h0, hn]⟩
  · exact ⟨_, cap, h0⟩
theorem more_grow (A : World) (l l2 : Array Obj) (d d2 : Nat) : Below (wmore A l d).heap.size (wmore A l d) (wmore A (l ++ l2) d2) := by
  rw [← more_more A l l2 d d2]
  exact more_below (Below.refl _ _) (Nat.le_refl _) _ _
theorem alloc_get {W : World} {o : Obj} {g : Nat} (h : g = W.heap.size) : (W.alloc o).heap[g]? = some o := by
  subst h
  show (W.heap.push _)[W.heap.size]? = _
  simp
theorem own_eq2 {w : World} {B : Nat} {e : TypeId} {q : Nat} {r : Value} {n m : Nat} {xs ys : List Value} (h : w.ownsRow B e q r n xs) (h1 : n = m) (h2 : xs = ys) : w.ownsRow B e q r m ys := by
  subst h1; subst h2; exact h
theorem own_base {w : World} {B C : Nat} {e : TypeId} {q : Nat} {r : Value} {n : Nat} {xs : List Value} (h : w.ownsRow B e q r n xs) (h1 : B = C) : w.ownsRow C e q r n xs := by
  subst h1; exact h
theorem more_alloc (A : World) (l : Array Obj) (d : Nat) (o : Obj) : (wmore A l d).alloc o = wmore A (l.push o) d := by
  unfold World.alloc wmore
  simp
theorem OwnRows.grown {B C : Nat} {e f : TypeId} {w w' : World} {U : List Value} {L : List (List Int)} {o : Value} {p n : Nat} {xs : List Value} (h : OwnRows B e w U L) (hO : w.ownsRow C f p o n xs) (hef : e ≠ f) (hg : w.grownBy w' o.ownBlock) : OwnRows B e w' U L :=
  ⟨h.len, fun i u l hu hl => owns_grown (h.row i u l hu hl) hg (fun g hg' => owns_type (h.row i u l hu hl) hO hef hg'), h.apart⟩
theorem grown3 {B : Nat} {w0 wa w2 : World} {v : Value} {e : TypeId} {q n : Nat} {xs : List Value} (hb : Below B w0 wa) (hs : B ≤ wa.heap.size) (hO : wa.ownsRow B e q v n xs) (hg : wa.grownBy w2 v.ownBlock) : Below B w0 w2 :=
  hb.trans ⟨hg.os, hg.tape, hg.output, hg.size, fun k hk => hg.block k (by omega) (fun h => by
    rcases hO.2 with ⟨h0, _⟩ | ⟨g, cap, cur, h0, h1, _⟩
    · rw [h0] at h; simp [Value.ownBlock] at h
    · rw [h0] at h
      have : k = g := by simpa [Value.ownBlock] using h
      omega)⟩
theorem iV_app (a b : List Int) : iV (a ++ b) = iV a ++ iV b := by simp [iV]
theorem src_new (w : World) (C : List Value) (t : TypeId) : Src (w.alloc (.cells C.toArray t)) (.slice (some ⟨w.heap.size, 0, none⟩) 1 1) 1 C :=
  Or.inr ⟨⟨w.heap.size, 0, none⟩, 1, rfl, fun j u hu => by rw [add_at, Nat.zero_add]; exact cell_new w _ t (0, 0) j (by simpa using hu)⟩
theorem owns_lift {w w' : World} {base : Nat} {e : TypeId} {q : Nat} {v : Value} {n : Nat} {xs : List Value} (h : w.ownsRow base e q v n xs) {B : Nat} (hb : Below B w w') (hB : w.heap.size = B) : w'.ownsRow base e q v n xs := owns_below h (hB ▸ hb)
theorem owns_made (w : World) (Z : Array Value) (e : TypeId) (q m : Nat) (hZ : Z.size = m * q) (hm : m ≤ maxLen) : (w.alloc (.cells Z e)).ownsRow w.heap.size e q (.slice (some ⟨w.heap.size, 0, none⟩) 0 m) 0 [] := by
  refine ⟨by simp, Or.inr ⟨w.heap.size, m, Z, rfl, Nat.le_refl _, ?_, by omega, hm, hZ, by simp⟩⟩
  show (w.heap.push _)[w.heap.size]? = _
  simp
theorem row_none {α : Type} {q : Nat} {R : Rep α} {w : World} : RowR q R w (.slice none 0 0) ([] : List α) := Or.inl ⟨none, 0, rfl, rfl, fun _ => rfl⟩
theorem row_cells1 {w : World} {b : Nat} {z : Int} (h : w.cell? ⟨b, 0, none⟩ = some (.int .i64 z)) (hz : I64 z) : RowR 1 intR w (.slice (some ⟨b, 0, none⟩) 1 1) [z] :=
  Or.inr ⟨b, 0, 1, rfl, by simp, by simp, by unfold maxLen; omega, World.block_lt_of_cell? w _ h, fun i x hx => by
    have hi : i < 1 := lt_of_get hx
    obtain rfl : i = 0 := by omega
    obtain rfl : z = x := by simpa using hx
    refine ⟨[.int .i64 z], rfl, fun j u hu => ?_, rfl, hz⟩
    have hj : j < 1 := lt_of_get hu
    obtain rfl : j = 0 := by omega
    obtain rfl : Value.int .i64 z = u := by simpa using hu
    exact h⟩
theorem row_cells2 {w : World} {b : Nat} {z y : Int} (h : w.cell? ⟨b, 0, none⟩ = some (.int .i64 z)) (h' : w.cell? ⟨b, 1, none⟩ = some (.int .i64 y)) (hz : I64 z) (hy : I64 y) : RowR 1 intR w (.slice (some ⟨b, 0, none⟩) 2 2) [z, y] :=
  Or.inr ⟨b, 0, 2, rfl, by simp, by simp, by unfold maxLen; omega, World.block_lt_of_cell? w _ h, fun i x hx => by
    have hi : i < 2 := lt_of_get hx
    have hxi : I64 x := by
      rcases List.mem_cons.1 (List.mem_of_getElem? hx) with rfl | hx
      · exact hz
      · rw [List.mem_singleton.1 hx]; exact hy
    refine ⟨[.int .i64 x], rfl, fun j u hu => ?_, rfl, hxi⟩
    have hj : j < 1 := lt_of_get hu
    obtain rfl : j = 0 := by omega
    obtain rfl : Value.int .i64 x = u := by simpa using hu
    obtain rfl | rfl : i = 0 ∨ i = 1 := by omega
    · obtain rfl : z = x := by simpa using hx
      exact h
    · obtain rfl : y = x := by simpa using hx
      exact h'⟩
/-- a slice that was just made, without elements -/
theorem owns_empty (W : World) (e : TypeId) (q : Nat) {base : Nat} (hb : base ≤ W.heap.size) : (W.alloc (.cells #[] e)).ownsRow base e q (.slice (some ⟨W.heap.size, 0, none⟩) 0 0) 0 [] := World.ownsRow_lit W #[] 0 hb (by unfold maxLen; omega) (by simp)
theorem owns_empty1 (w : World) (o : Obj) (e : TypeId) (q : Nat) : ((w.alloc o).alloc (.cells #[] e)).ownsRow (w.heap.size + 1) e q (.slice (some ⟨w.heap.size + 1, 0, none⟩) 0 0) 0 [] := by
  have := owns_empty (w.alloc o) e q (base := w.heap.size + 1) (by simp)
  simpa using this
end Go.Proofs.YtpeogdbfhfkngaaDoor

/- Contracts of octet (layer 3). -/
namespace Go.Proofs.YtpeogdbfhfkngaaDoor
open Go.RowKit
def bytesV (l : List UInt8) : List Value := l.map fun c => Value.int .u8 (c.toNat : Int)
theorem bytesV_len (l : List UInt8) : (bytesV l).length = l.length := by simp [bytesV]
theorem bytesV_at {l : List UInt8} {i : Nat} {v : Value} (h : (bytesV l)[i]? = some v) : i < l.length ∧ v = byteV l i := by
  have hi : i < l.length := by
    by_cases hi : i < l.length
    · exact hi
    · rw [List.getElem?_eq_none (by rw [bytesV_len]; omega)] at h; cases h
  have := byteV_at hi
  unfold bytesV at h
  rw [this] at h
  exact ⟨hi, (Option.some.inj h).symm⟩
theorem bytesV_one (l : List UInt8) : ∀ v ∈ bytesV l, v.oneCell' = true := by
  intro v hv
  obtain ⟨c, _, rfl⟩ := List.mem_map.1 hv
  rfl
def near8 (n : Int) : Int := min (max n 0) 8
theorem octet_near (n : Int) (w : World) : Calls Tryd.prog 41 #[.int .i64 n] w fun e w' => e = .returned (.int .i64 (near8 n)) ∧ w = w' := by
  by_cases h1 : n < 0
  · have Hr := Lib.hid (show near8 n = 0 by unfold near8; omega)
    go_enter Tryd.func41, Tryd.ntmps41; go_wp2; go_ret; exact ⟨by rw [Hr.out]; rfl, rfl⟩
  by_cases h2 : 8 < n
  · have Hr := Lib.hid (show near8 n = 8 by unfold near8; omega)
    have h3 : ¬ n < 0 := h1
    go_enter Tryd.func41, Tryd.ntmps41; go_wp2; go_ret; exact ⟨by rw [Hr.out]; rfl, rfl⟩
  · have Hr := Lib.hid (show near8 n = n by unfold near8; omega)
    go_enter Tryd.func41, Tryd.ntmps41; go_wp2; go_ret; exact ⟨by rw [Hr.out]; rfl, rfl⟩
theorem ref03_held (n : Int) (w : World) : Calls Tryd.prog 44 #[.int .i64 n] w fun e w' => e = .returned (.int .i64 (near8 n)) ∧ w = w' := by
  by_cases h1 : n < 0
  · have Hr := Lib.hid (show near8 n = 0 by unfold near8; omega)
    go_enter Tryd.func44, Tryd.ntmps44; go_wp2; go_ret; exact ⟨by rw [Hr.out]; rfl, rfl⟩
  by_cases h2 : 8 < n
  · have Hr := Lib.hid (show near8 n = 8 by unfold near8; omega)
    go_enter Tryd.func44, Tryd.ntmps44; go_wp2; go_ret; exact ⟨by rw [Hr.out]; rfl, rfl⟩
  · have Hr := Lib.hid (show near8 n = n by unfold near8; omega)
    go_enter Tryd.func44, Tryd.ntmps44; go_wp2; go_ret; exact ⟨by rw [Hr.out]; rfl, rfl⟩
theorem octet_grown (v : Value) (l : List UInt8) (m : Nat) (w : World) (hv : RowAt w v l.length (byteV l)) (hm : l.length + m ≤ 1000000000) :
    Calls Tryd.prog 40 #[v, .int .i64 (m : Int)] w fun e w' => e = .returned (.slice (some ⟨w.heap.size, 0, none⟩) l.length (l.length + m)) ∧ w'.ownsRow w.heap.size 5 1 (.slice (some ⟨w.heap.size, 0, none⟩) l.length (l.length + m)) l.length (bytesV l) ∧ Below w.heap.size w w' := by
  obtain ⟨i, hi, hz, hsize, hby⟩ : ∃ i, Tryd.prog.info? 5 = some i ∧ i.zero = some (.int .u8 0) ∧ i.size = 1 ∧ i.bytes = 1 := ⟨(Tryd.prog.info? 5).get!, by kernel_rfl, by kernel_rfl, by kernel_rfl, by kernel_rfl⟩
  obtain ⟨n, hn⟩ : ∃ n, l.length = n := ⟨_, rfl⟩
  have Hn := Lib.hid hn
  have hmk := run_make w 28 5 i _ Tryd.underlying28 hi hz .i64 .i64 (n : Int) ((n : Int) + (m : Int)) (by omega) (by omega) (by rw [hby]; omega) (by omega)
  rw [hsize, Nat.mul_one, show ((n : Int) + (m : Int)).toNat = n + m by omega, show ((n : Int)).toNat = n by omega] at hmk
  obtain ⟨Z, hZ⟩ : ∃ Z, madeCells (Value.int .u8 0).cells (n + m) = Z := ⟨_, rfl⟩
  have hZs : Z.toList.length = n + m := by rw [← hZ]; simp [madeCells]
  rw [hZ] at hmk
  have hg : (w.alloc (.cells Z 5)).heap[w.heap.size]? = some (.cells Z.toList.toArray 5 (0, 0)) := by show (w.heap.push _)[w.heap.size]? = _; simp
  have hB : Below w.heap.size w (w.alloc (.cells Z 5)) := (Below.refl _ _).alloc (Nat.le_refl _) _
  have hu := Tryd.underlying28
  have hsz : (Tryd.prog.info? 5).map (·.size) = some 1 := by rw [hi]; exact congrArg some hsize
  have fin : ∀ w2 : World, w2.heap[w.heap.size]? = some (.cells (splice Z.toList 0 (bytesV l)).toArray 5 (0, 0)) → w2.ownsRow w.heap.size 5 1 (.slice (some ⟨w.heap.size, 0, none⟩) l.length (l.length + m)) l.length (bytesV l) := by
    intro w2 h2
    refine ⟨by rw [bytesV_len]; omega, Or.inr ⟨_, _, _, rfl, Nat.le_refl _, h2, by omega, by unfold maxLen; omega, ?_, ?_⟩⟩
    · simp only [List.size_toArray]; rw [length_splice _ _ _ (by rw [bytesV_len]; omega)]; omega
    · rw [List.toList_toArray, Nat.mul_one]; unfold splice; rw [List.take_zero, List.nil_append]; exact List.take_left' (bytesV_len l)
  have HF := Lib.hid fin
  have HG := Lib.hid hg
  clear hZ fin hg
  rw [hn] at hv ⊢
  rcases hv with ⟨a, cap, rfl, h0, _⟩ | ⟨b, off, cap, rfl, h1, h2, h3, h4, hcell⟩
  · subst h0
    rw [show ((0 : Nat) : Int) = 0 from rfl, show (0 : Int) + (m : Int) = (m : Int) by omega] at hmk
    have hbz : bytesV l = [] := by rw [List.eq_nil_of_length_eq_zero hn]; rfl
    have HW := Lib.hid (HF.out (w.alloc (.cells Z 5)) (by rw [hbz, show splice Z.toList 0 [] = Z.toList from by simp [splice]]; exact HG.out))
    clear hbz
    go_enter Tryd.func40, Tryd.ntmps40
    go_wp2_with (first | (with_reducible show wpList _ _ _ _ _ _; refine wpList_copy_nothing (o := ⟨some 15, _, _, _, _, _⟩) rfl (.tmp 13) (.tmp 14) 28 28 rfl 5 hu hsz _ _ _ _ _ _ rfl rfl rfl ?_) | fail)
    go_wp2_with fail
    go_ret
    exact ⟨by simp, hn ▸ HW.out, hB⟩
  · have hsrc : ∀ j u, (bytesV l)[j]? = some u → (w.alloc (.cells Z 5)).cell? ((⟨b, off, none⟩ : Addr).add j) = some u := by
      intro j u hu
      obtain ⟨hj, rfl⟩ := bytesV_at hu
      have := (hB.cell (p := ⟨b, off + j, none⟩) h4).trans (hcell j (by omega))
      unfold Addr.add
      by_cases h0 : j = 0
      · subst h0; simpa using this
      · simpa [h0] using this
    have HS := Lib.hid hsrc
    clear hsrc hcell
    go_enter Tryd.func40, Tryd.ntmps40
    go_wp2_with (first | (with_reducible show wpList _ _ _ _ _ _; refine wpList_copy_splice (o := ⟨some 15, _, _, _, _, _⟩) rfl (.tmp 13) (.tmp 14) 28 28 rfl 5 hu hsz _ _ _ _ _ _ rfl rfl w.heap.size 0 Z.toList 5 HG.out (bytesV l) (by rw [bytesV_len, Hn.out]; simp [Nat.min_def]) (fun _ => ⟨rfl, _, rfl, fun j u hj => HS.out j u hj⟩) (by rw [bytesV_len, Hn.out]; omega) (bytesV_one l) w.heap.size w hB (Nat.le_refl _) ?_; intro w2 HG2 hB2) | fail)
    go_wp2_with fail
    go_ret
    exact ⟨rfl, hn ▸ HF.out w2 HG2.out, hB2⟩
end Go.Proofs.YtpeogdbfhfkngaaDoor

/- Contracts of octet (layer 3): Put. -/
namespace Go.Proofs.YtpeogdbfhfkngaaDoor
open Go.RowKit
def byteAt (n : Int) (i : Nat) : UInt8 := UInt8.ofNat ((n / 2 ^ (8 * i)) % 256).toNat
def putL (k : Nat) (n : Int) : List UInt8 := (List.range k).map (byteAt n)
theorem putL_succ (k : Nat) (n : Int) : putL (k + 1) n = putL k n ++ [byteAt n k] := by simp [putL, List.range_succ]
theorem putL_len (k : Nat) (n : Int) : (putL k n).length = k := by simp [putL]
theorem byteAt_val (n : Int) (i : Nat) : ((byteAt n i).toNat : Int) = (n / 2 ^ (8 * i)) % 256 := by
  unfold byteAt
  have h1 : 0 ≤ (n / 2 ^ (8 * i)) % 256 := by omega
  have h2 : (n / 2 ^ (8 * i)) % 256 < 256 := by omega
  rw [UInt8.toNat_ofNat']
  omega
theorem bytesV_snoc (l : List UInt8) (c : UInt8) : bytesV (l ++ [c]) = bytesV l ++ [Value.int .u8 (c.toNat : Int)] := by simp [bytesV]
set_option maxHeartbeats 1000000 in
theorem octet_Put (v : Value) (l : List UInt8) (many n : Int) (w : World) (hv : RowAt w v l.length (byteV l)) (hm : l.length ≤ 100000000) :
    Calls Tryd.prog 20 #[v, .int .i64 many, .int .i64 n] w fun e w' => ∃ r, e = .returned r ∧ w'.ownsRow w.heap.size 5 1 r (l.length + (near8 many).toNat) (bytesV (l ++ putL (near8 many).toNat n)) ∧ Below w.heap.size w w' := by
  obtain ⟨N, hN⟩ : ∃ N : Nat, (near8 many).toNat = N := ⟨_, rfl⟩
  have hN1 : near8 many = (N : Int) := by unfold near8 at *; omega
  have hN2 : N ≤ 8 := by unfold near8 at *; omega
  have HN := Lib.hid hN1
  rw [hN]
  clear hN1 hN
  obtain ⟨i, hi, hz, hsize, hby⟩ : ∃ i, Tryd.prog.info? 5 = some i ∧ i.zero = some (.int .u8 0) ∧ i.size = 1 ∧ i.bytes = 1 := ⟨(Tryd.prog.info? 5).get!, by kernel_rfl, by kernel_rfl, by kernel_rfl, by kernel_rfl⟩
  go_enter Tryd.func20, Tryd.ntmps20
  go_wp2_with fail
  refine (octet_near _ _).mono ?_; rintro e w' ⟨rfl, rfl⟩
  rw [HN.out]
  go_wp2_with fail
  refine (octet_grown _ l N _ hv (by omega)).mono ?_; rintro e w1 ⟨rfl, hown, hb⟩
  go_wp2_with fail
  refine (octet_near _ _).mono ?_; rintro e w' ⟨rfl, rfl⟩
  rw [HN.out]
  go_wp2_with fail
  go_loopw [7, 15] (fun o j wr => ∃ k : Nat, k ≤ N ∧ j = .int .i64 k ∧ o = .slice (some ⟨w.heap.size, 0, none⟩) (l.length + k) (l.length + N) ∧ Hid (wr.ownsRow w.heap.size 5 1 (.slice (some ⟨w.heap.size, 0, none⟩) (l.length + k) (l.length + N)) (l.length + k) (bytesV (l ++ putL k n))) ∧ Below w.heap.size w wr) (fun _ j _ => N - (intOf j).toNat)
  case atStart => exact ⟨0, by omega, rfl, rfl, Lib.hid (by rw [show putL 0 n = [] from rfl, List.append_nil]; exact hown), hb⟩
  case round =>
    obtain ⟨k, hk, rfl, rfl, hO, hB⟩ := hrel
    by_cases hlt : k < N
    · have hk8 : k < 8 := by omega
      have hz := hB.size
      go_wp2_with (first | (at_builtin; refine wpList_append_own_spare _ rfl (.tmp 18) (.tmp 24) 28 rfl w.heap.size 5 i 1 Tryd.underlying28 hi hsize w.heap.size (l.length + k) (l.length + N) _ rfl (hO.out.alloc _) ⟨wr.heap.size, 0, none⟩ 1 1 [.int .u8 (n / 2 ^ (8 * k) % 256)] rfl rfl (cell_one_new _ _ _) (by intro u hu; obtain rfl := List.mem_singleton.1 hu; rfl) (by omega) ?_; intro w2 hO2 hG2; have HO2 := Lib.hid hO2; clear hO2) | fail)
      go_roundw
      case rel => exact ⟨k + 1, by omega, by go_num, rfl, Lib.hid (by rw [putL_succ, ← List.append_assoc, bytesV_snoc, byteAt_val]; exact HO2.out), below_grown (hB.alloc hB.size _) (Nat.le_refl _) (by rw [World.size_alloc]; omega) hG2⟩
      case measure => simp [intOf]; omega
    · obtain rfl : k = N := by omega
      go_wp2_with fail
      go_ret
      exact ⟨_, rfl, hO.out, hB⟩
end Go.Proofs.YtpeogdbfhfkngaaDoor

/- Layer 14: numbers that fit a byte, and their bytes. -/
namespace Go.Proofs.YtpeogdbfhfkngaaDoor
open Go.RowKit
set_option linter.unusedSimpArgs false
set_option linter.unusedVariables false
def fitB (z : Int) : Bool := decide (0 ≤ z ∧ z ≤ 255)
theorem fitB_yes {z : Int} (h0 : 0 ≤ z) (h1 : z ≤ 255) : fitB z = true := decide_eq_true ⟨h0, h1⟩
theorem all_snoc {L : List Int} {k : Nat} {x : Int} {p : Int → Bool} (h : (L.take k).all p = true) (hx : L[k]? = some x) (hp : p x = true) : (L.take (k + 1)).all p = true := by
  rw [take_snoc hx, List.all_append, h]; simp [hp]
theorem ownsRow_none' (w : World) (B : Nat) (e : TypeId) (q : Nat) : w.ownsRow B e q (.slice none 0 0) 0 [] := ⟨by simp, Or.inl ⟨rfl, rfl⟩⟩
theorem all_not {L : List Int} {k : Nat} {x : Int} {p : Int → Bool} (hx : L[k]? = some x) (hp : p x = false) : L.all p = false := by
  rw [List.all_eq_false]; exact ⟨x, List.mem_of_getElem? hx, by simp [hp]⟩
-- bytes
def byteO (z : Int) : UInt8 := UInt8.ofNat (z % 256).toNat
theorem byteO_val (z : Int) : ((byteO z).toNat : Int) = z % 256 := by
  unfold byteO
  rw [UInt8.toNat_ofNat']
  omega
theorem bytesO_snoc {L : List Int} {k : Nat} {x : Int} (hx : L[k]? = some x) : bytesV ((L.take (k + 1)).map byteO) = bytesV ((L.take k).map byteO) ++ [.int .u8 (x % 256)] := by
  rw [take_snoc hx, List.map_append, ← byteO_val]; simp [bytesV]
end Go.Proofs.YtpeogdbfhfkngaaDoor

/- Layer 15: numbers that fit a byte, and their bytes: the unit's. -/
namespace Go.Proofs.YtpeogdbfhfkngaaDoor
open Go.RowKit
set_option linter.unusedSimpArgs false
set_option linter.unusedVariables false
set_option maxHeartbeats 2000000 in
theorem unit_small (v : Value) (L : List Int) (w : World) (hv : RowR 1 intR w v L) :
    Calls Tryd.prog 26 #[v] w fun e w' => e = .returned (.bool (L.all fitB)) ∧ ∃ m, w' = w.drewN m := by
  have hL := hv.len
  obtain ⟨sa, ca, rfl⟩ := row_get hv
  have HY := Lib.hid (fun h : (L.take L.length).all fitB = true => (show L.all fitB = true by rwa [List.take_length] at h))
  obtain ⟨N, hN⟩ : ∃ N, L.length = N := ⟨_, rfl⟩
  rw [hN] at hv hL HY
  rw [hN]
  go_enter Tryd.func26, Tryd.ntmps26
  go_wp2_with fail
  go_loopw [7] (fun j wr => ∃ k m : Nat, k ≤ N ∧ j = .int .i64 k ∧ Hid ((L.take k).all fitB = true) ∧ wr = w.drewN m) (fun j _ => N - (intOf j).toNat)
  case atStart => exact ⟨0, 0, by omega, rfl, Lib.hid (by simp), rfl⟩
  case round =>
    obtain ⟨k, m, hk, rfl, heq, rfl⟩ := hrel
    by_cases hlt : k < N
    · obtain ⟨b, off, rfl, hbw, hc⟩ := ints_at hv (k := k) (by omega)
      obtain ⟨x, hx⟩ : ∃ x, L[k]? = some x := ⟨L[k]'(by omega), by simp [hN, hlt]⟩
      obtain ⟨c0, _⟩ := hc k x hx
      clear hc
      by_cases h0 : 0 ≤ x
      · have q0 : (x < 0) = False := eq_false (by omega)
        by_cases h1 : x ≤ 255
        · have q1 : (255 < x) = False := eq_false (by omega)
          have hs := Lib.hid (all_snoc heq.out hx (fitB_yes h0 h1))
          clear hx heq h0 h1
          go_wp2_with fail
          go_roundw
          case rel => exact ⟨k + 1, _, by omega, by simp, hs, rfl⟩
          case measure => first | (simp [intOf]; done) | (simp [intOf]; omega)
        · have q1 : (255 < x) = True := eq_true (by omega)
          have hs := Lib.hid (all_not hx (show fitB x = false from decide_eq_false (fun g => h1 g.2)))
          clear hx heq h0 h1
          go_wp2_with fail
          go_ret
          exact ⟨by rw [hs.out]; rfl, _, rfl⟩
      · have q0 : (x < 0) = True := eq_true (by omega)
        have hs := Lib.hid (all_not hx (show fitB x = false from decide_eq_false (fun g => h0 g.1)))
        clear hx heq h0
        go_wp2_with fail
        go_ret
        exact ⟨by rw [hs.out]; rfl, _, rfl⟩
    · obtain rfl : k = N := by omega
      have hs := Lib.hid (HY.out heq.out)
      clear heq
      go_wp2_with fail
      go_ret
      exact ⟨by rw [hs.out]; rfl, _, rfl⟩
set_option maxHeartbeats 2000000 in
theorem ref15_bytes (v : Value) (L : List Int) (w : World) (hv : RowR 1 intR w v L) :
    Calls Tryd.prog 43 #[v] w fun e w' => e = .returned (.bool (L.all fitB)) ∧ ∃ m, w' = w.drewN m := by
  have hL := hv.len
  obtain ⟨sa, ca, rfl⟩ := row_get hv
  have HY := Lib.hid (fun h : (L.take L.length).all fitB = true => (show L.all fitB = true by rwa [List.take_length] at h))
  obtain ⟨N, hN⟩ : ∃ N, L.length = N := ⟨_, rfl⟩
  rw [hN] at hv hL HY
  rw [hN]
  go_enter Tryd.func43, Tryd.ntmps43
  go_wp2_with fail
  go_loopw [3] (fun j wr => ∃ k m : Nat, k ≤ N ∧ j = .int .i64 k ∧ Hid ((L.take k).all fitB = true) ∧ wr = w.drewN m) (fun j _ => N - (intOf j).toNat)
  case atStart => exact ⟨0, 0, by omega, rfl, Lib.hid (by simp), rfl⟩
  case round =>
    obtain ⟨k, m, hk, rfl, heq, rfl⟩ := hrel
    by_cases hlt : k < N
    · obtain ⟨b, off, rfl, hbw, hc⟩ := ints_at hv (k := k) (by omega)
      obtain ⟨x, hx⟩ : ∃ x, L[k]? = some x := ⟨L[k]'(by omega), by simp [hN, hlt]⟩
      obtain ⟨c0, _⟩ := hc k x hx
      clear hc
      by_cases h0 : 0 ≤ x
      · have q0 : (x < 0) = False := eq_false (by omega)
        by_cases h1 : x ≤ 255
        · have q1 : (255 < x) = False := eq_false (by omega)
          have hs := Lib.hid (all_snoc heq.out hx (fitB_yes h0 h1))
          clear hx heq h0 h1
          go_wp2_with fail
          go_roundw
          case rel => exact ⟨k + 1, _, by omega, by simp, hs, rfl⟩
          case measure => first | (simp [intOf]; done) | (simp [intOf]; omega)
        · have q1 : (255 < x) = True := eq_true (by omega)
          have hs := Lib.hid (all_not hx (show fitB x = false from decide_eq_false (fun g => h1 g.2)))
          clear hx heq h0 h1
          go_wp2_with fail
          go_ret
          exact ⟨by rw [hs.out]; rfl, _, rfl⟩
      · have q0 : (x < 0) = True := eq_true (by omega)
        have hs := Lib.hid (all_not hx (show fitB x = false from decide_eq_false (fun g => h0 g.1)))
        clear hx heq h0
        go_wp2_with fail
        go_ret
        exact ⟨by rw [hs.out]; rfl, _, rfl⟩
    · obtain rfl : k = N := by omega
      have hs := Lib.hid (HY.out heq.out)
      clear heq
      go_wp2_with fail
      go_ret
      exact ⟨by rw [hs.out]; rfl, _, rfl⟩
theorem made_row {w : World} {N : Nat} {C : Array Value} {e : TypeId} {L : List UInt8} (hC : C.size = N) (hm : N ≤ maxLen) (hL : N = L.length) (h : ∀ (i : Nat) (c : UInt8), L[i]? = some c → C[i]? = some (.int .u8 (c.toNat : Int))) : (w.alloc (.cells C e)).ownsRow w.heap.size e 1 (.slice (some ⟨w.heap.size, 0, none⟩) N N) N (bytesV L) := by
  refine ⟨by simp [bytesV, hL], Or.inr ⟨w.heap.size, N, C, rfl, Nat.le_refl _, alloc_get rfl, Nat.le_refl _, hm, by omega, ?_⟩⟩
  apply List.ext_getElem?
  intro i
  rw [List.getElem?_take]
  by_cases hi : i < N
  · rw [if_pos (by omega)]
    obtain ⟨c, hc⟩ := get_some (L := L) (n := i) (by omega)
    have := h i c hc
    simp [bytesV, hc, this]
  · rw [if_neg (by omega), List.getElem?_eq_none (by simp [bytesV]; omega)]
set_option maxHeartbeats 2000000 in
theorem unit_bytesOf (v : Value) (L : List Int) (w : World) (hv : RowR 1 intR w v L) (hm : L.length ≤ 20000) :
    Calls Tryd.prog 19 #[v] w fun e w' => ∃ r, e = .returned r ∧ w'.ownsRow w.heap.size 5 1 r L.length (bytesV (L.map byteO)) ∧ Below w.heap.size w w' := by
  obtain ⟨i, hi, hz, hsize, hby⟩ : ∃ i, Tryd.prog.info? 5 = some i ∧ i.zero = some (.int .u8 0) ∧ i.size = 1 ∧ i.bytes = 1 := ⟨(Tryd.prog.info? 5).get!, by kernel_rfl, by kernel_rfl, by kernel_rfl, by kernel_rfl⟩
  obtain ⟨sa, ca, rfl⟩ := row_get hv
  have HY := Lib.hid (show (L.map byteO).length = L.length by simp)
  obtain ⟨N, hN⟩ : ∃ N, L.length = N := ⟨_, rfl⟩
  rw [hN] at hv hm HY
  rw [hN]
  have hmk := run_make w 28 5 i _ Tryd.underlying28 hi hz .i64 .i64 (N : Int) (N : Int) (by omega) (by omega) (by rw [hby]; omega) (by omega)
  rw [hsize, Nat.mul_one, show ((N : Int)).toNat = N from by omega] at hmk
  obtain ⟨Z, hZ⟩ : ∃ Z, madeCells (Value.int .u8 0).cells N = Z := ⟨_, rfl⟩
  have hZs : Z.size = N := by rw [← hZ]; simp [madeCells]
  rw [hZ] at hmk
  clear hZ hi hz hsize hby
  go_enter Tryd.func19, Tryd.ntmps19
  go_wp2_with fail
  go_loopw [11] (fun j wr => ∃ (k : Nat) (C : Array Value), k ≤ N ∧ j = .int .i64 k ∧ C.size = N ∧ Hid (∀ i x, i < k → L[i]? = some x → C[i]? = some (.int .u8 (x % 256))) ∧ wr = w.alloc (.cells C 5)) (fun j _ => N - (intOf j).toNat)
  case atStart => exact ⟨0, Z, by omega, rfl, hZs, Lib.hid (fun i x h => by omega), rfl⟩
  case round =>
    clear hmk
    obtain ⟨k, C, hk, rfl, hCs, hall, rfl⟩ := hrel
    have hB : Below w.heap.size w (w.alloc (.cells C 5)) := (Below.refl _ _).alloc (Nat.le_refl _) _
    by_cases hlt : k < N
    · obtain ⟨x, hx⟩ : ∃ x, L[k]? = some x := get_some (by omega)
      obtain ⟨b, off, rfl, hbw, hc⟩ := ints_at hv (k := k) (by omega)
      obtain ⟨c0, _⟩ := hc k x hx
      have c0 := (hB.cell (p := ⟨b, off + k, none⟩) hbw).trans c0
      obtain ⟨u0, hu0⟩ : ∃ u0, C[k]? = some u0 := ⟨C[k]'(by omega), by simp [hCs, hlt]⟩
      have hn := Lib.hid (show ∀ i y, i < k + 1 → L[i]? = some y → (C.setIfInBounds k (.int .u8 (x % 256)))[i]? = some (.int .u8 (y % 256)) from fun i y hi hy => by
        by_cases hik : i = k
        · subst hik
          rw [hx] at hy
          obtain rfl := Option.some.inj hy
          simp [Array.getElem?_setIfInBounds, hCs, hlt]
        · rw [Array.getElem?_setIfInBounds, if_neg (by omega)]
          exact hall.out i y (by omega) hy)
      clear hc hx hB
      go_wp2_with fail
      go_roundw
      case rel => exact ⟨k + 1, _, by omega, by simp, by simp [hCs], hn.out, rfl⟩
      case measure => first | (simp [intOf]; done) | (simp [intOf]; omega)
    · obtain rfl : k = N := by omega
      go_wp2_with fail
      go_ret
      refine ⟨_, rfl, made_row hCs (by unfold maxLen; omega) (by simp [hN]) (fun i c hc => ?_), hB⟩
      have hi : i < L.length := by have := lt_of_get hc; simpa using this
      have hxi : L[i]? = some L[i] := by simp [hi]
      have hci : c = byteO L[i] := by simpa [hi] using hc.symm
      rw [hci, byteO_val]
      exact hall.out i _ (by omega) hxi
end Go.Proofs.YtpeogdbfhfkngaaDoor

/- Contracts of octet's answer (layer 3): Put. -/
namespace Go.Proofs.YtpeogdbfhfkngaaDoor
open Go.RowKit
def ux (n : Int) (k : Nat) : Int := (n % 18446744073709551616) / 256 ^ k
theorem ux_cases {k : Nat} (h : k < 8) : k = 0 ∨ k = 1 ∨ k = 2 ∨ k = 3 ∨ k = 4 ∨ k = 5 ∨ k = 6 ∨ k = 7 := by omega
theorem ux_succ (n : Int) {k : Nat} (h : k < 8) : ux n k / 256 = ux n (k + 1) := by
  unfold ux
  obtain rfl | rfl | rfl | rfl | rfl | rfl | rfl | rfl := ux_cases h <;> omega
theorem ux_byte (n : Int) {k : Nat} (h : k < 8) : ux n k % 256 = ((byteAt n k).toNat : Int) := by
  rw [byteAt_val]
  unfold ux
  obtain rfl | rfl | rfl | rfl | rfl | rfl | rfl | rfl := ux_cases h <;> omega
theorem ux_bd (n : Int) {k : Nat} (h : k ≤ 8) : 0 ≤ ux n k ∧ ux n k < 18446744073709551616 := by
  unfold ux
  obtain rfl | rfl | rfl | rfl | rfl | rfl | rfl | rfl | rfl : k = 0 ∨ k = 1 ∨ k = 2 ∨ k = 3 ∨ k = 4 ∨ k = 5 ∨ k = 6 ∨ k = 7 ∨ k = 8 := by omega
  all_goals omega
set_option maxHeartbeats 1000000 in
theorem ref03_Put (v : Value) (l : List UInt8) (many n : Int) (w : World) (hv : RowAt w v l.length (byteV l)) (hm : l.length ≤ 100000000) :
    Calls Tryd.prog 24 #[v, .int .i64 many, .int .i64 n] w fun e w' => ∃ r, e = .returned r ∧ w'.ownsRow w.heap.size 5 1 r (l.length + (near8 many).toNat) (bytesV (l ++ putL (near8 many).toNat n)) ∧ Below w.heap.size w w' := by
  obtain ⟨N, hN⟩ : ∃ N : Nat, (near8 many).toNat = N := ⟨_, rfl⟩
  have hN1 : near8 many = (N : Int) := by unfold near8 at *; omega
  have hN2 : N ≤ 8 := by unfold near8 at *; omega
  have HN := Lib.hid hN1
  rw [hN]
  clear hN1 hN
  obtain ⟨i, hi, hz, hsize, hby⟩ : ∃ i, Tryd.prog.info? 5 = some i ∧ i.zero = some (.int .u8 0) ∧ i.size = 1 ∧ i.bytes = 1 := ⟨(Tryd.prog.info? 5).get!, by kernel_rfl, by kernel_rfl, by kernel_rfl, by kernel_rfl⟩
  have hrow : ∀ W, Below w.heap.size w W → RowAt W v l.length (byteV l) := fun W h => hv.below h
  have HR := Lib.hid hrow
  clear hrow
  have hmap : (List.range l.length).map (byteV l) = bytesV l := map_byteV l
  go_enter Tryd.func24, Tryd.ntmps24
  go_wp2_with (first | (at_builtin; refine wpList_append_row1 rfl (.tmp 10) (.tmp 11) 28 rfl w.heap.size 5 i (.int .u8 0) 1 Tryd.underlying28 hi hz hsize hby rfl _ 0 [] rfl (World.ownsRow_lit w #[] 0 (Nat.le_refl _) (by unfold maxLen; omega) rfl) _ l.length (byteV l) rfl (HR.out _ ((Below.refl _ _).alloc (Nat.le_refl _) _)) (fun _ _ => rfl) (by unfold maxLen; omega) (by omega) (by rw [World.size_alloc]; omega) ?_; intro v1 w1 hO1 hG1) | fail)
  have HO := Lib.hid (show w1.ownsRow w.heap.size 5 1 v1 l.length (bytesV l) by rw [hmap, List.nil_append, Nat.zero_add] at hO1; exact hO1)
  have hB1 : Below w.heap.size w w1 := below_grown ((Below.refl _ _).alloc (Nat.le_refl _) _) (Nat.le_refl _) (by rw [World.size_alloc]; omega) hG1
  clear hO1 hG1 hmap HR
  have u0 : IntKind.u64.wrap n = ux n 0 := by rw [show IntKind.u64.wrap n = n % 18446744073709551616 from by simp [IntKind.wrap, IntKind.signed, IntKind.bits]]; unfold ux; omega
  have U0 := Lib.hid u0
  clear u0
  go_loopw [7, 8, 9] (fun o x j wr => ∃ k : Nat, k ≤ N ∧ j = .int .i64 k ∧ x = .int .u64 (ux n k) ∧ Hid (wr.ownsRow w.heap.size 5 1 o (l.length + k) (bytesV (l ++ putL k n))) ∧ Below w.heap.size w wr) (fun _ _ j _ => N - (intOf j).toNat)
  case atStart => exact ⟨0, by omega, rfl, by rw [← U0.out], Lib.hid (by rw [show putL 0 n = [] from rfl, List.append_nil]; exact HO.out), hB1⟩
  case round =>
    clear hB1 HO
    obtain ⟨k, hk, rfl, rfl, hO, hB⟩ := hrel
    have hbd := ux_bd n (show k ≤ 8 by omega)
    have hz' := hB.size
    go_wp2_with fail
    refine (ref03_held _ _).mono ?_; rintro e w' ⟨rfl, rfl⟩
    rw [HN.out]
    by_cases hlt : k < N
    · have hk8 : k < 8 := by omega
      have Hb := Lib.hid (ux_byte n hk8)
      have Hs := Lib.hid (ux_succ n hk8)
      generalize ux n k = x at *
      go_wp2_with (first | (at_builtin; refine wpList_append_row1 rfl (.tmp 21) (.tmp 25) 28 rfl w.heap.size 5 i (.int .u8 0) 1 Tryd.underlying28 hi hz hsize hby rfl _ (l.length + k) _ rfl (hO.out.alloc _) _ 1 (fun _ => .int .u8 (x % 256)) rfl (RowAt.new _ _ _ _ _ 1 1 (by omega) (by omega) (by omega) (fun i hi => by obtain rfl : i = 0 := (by omega); rfl)) (fun _ _ => rfl) (by unfold maxLen; omega) (by omega) (by rw [World.size_alloc]; omega) ?_; intro v2 w2 hO2 hG2; have HO2 := Lib.hid hO2; have hB2 := below_grownV (hB.alloc hB.size _) (by rw [World.size_alloc]; omega) (hO.out.alloc _) hG2; clear hO2 hG2) | fail)
      go_roundw
      case rel => exact ⟨k + 1, by omega, by go_num, by rw [← Hs.out], Lib.hid (by rw [putL_succ, ← List.append_assoc, bytesV_snoc, ← Hb.out]; exact HO2.out), hB2⟩
      case measure => simp [intOf]; omega
    · obtain rfl : k = N := by omega
      go_wp2_with fail
      go_ret
      exact ⟨_, rfl, hO.out, hB⟩
end Go.Proofs.YtpeogdbfhfkngaaDoor

/- Contracts of octet (layer 3): Text. -/
namespace Go.Proofs.YtpeogdbfhfkngaaDoor
open Go.RowKit
def cut255 (s : ByteArray) : ByteArray := if 255 < s.size then s.extract 0 255 else s
theorem textV (l : List UInt8) (t : ByteArray) (h : t.size ≤ 255) : bytesV (l ++ [UInt8.ofNat t.size] ++ t.data.toList) = bytesV l ++ [Value.int .u8 (t.size : Int)] ++ Lib.strCells t := by
  simp [bytesV, Lib.strCells]
  omega
set_option maxHeartbeats 1000000 in
theorem octet_Text (v : Value) (l : List UInt8) (s : ByteArray) (w : World) (hv : RowAt w v l.length (byteV l)) (hm : l.length ≤ 100000000) :
    Calls Tryd.prog 18 #[v, .string s] w fun e w' => ∃ r, e = .returned r ∧ w'.ownsRow w.heap.size 5 1 r (l.length + 1 + (cut255 s).size) (bytesV (l ++ [UInt8.ofNat (cut255 s).size] ++ (cut255 s).data.toList)) ∧ Below w.heap.size w w' := by
  obtain ⟨i, hi, hz, hsize, hby⟩ : ∃ i, Tryd.prog.info? 5 = some i ∧ i.zero = some (.int .u8 0) ∧ i.size = 1 ∧ i.bytes = 1 := ⟨(Tryd.prog.info? 5).get!, by kernel_rfl, by kernel_rfl, by kernel_rfl, by kernel_rfl⟩
  by_cases h2 : 255 < s.size
  · obtain ⟨t, ht⟩ : ∃ t, s.extract 0 255 = t := ⟨_, rfl⟩
    have hts : t.size = 255 := by rw [← ht]; simp; omega
    have HC := Lib.hid (show cut255 s = t by unfold cut255; rw [if_pos h2, ht])
    have HT := Lib.hid hts
    go_enter Tryd.func18, Tryd.ntmps18
    go_wp2_with fail
    rw [show (256 : Int) = ((256 : Nat) : Int) from rfl]
    refine (octet_grown _ l 256 _ hv (by omega)).mono ?_; rintro e w1 ⟨rfl, hO1, hb1⟩
    have HO := Lib.hid hO1
    have hz1 := hb1.size
    clear hO1 ht h2
    go_wp2_with (first | (at_builtin; refine wpList_append_own_spare _ rfl (.tmp 15) (.tmp 19) 28 rfl w.heap.size 5 i 1 Tryd.underlying28 hi hsize w.heap.size l.length _ _ rfl (HO.out.alloc _) _ 1 1 [_] rfl rfl (cell_one_new _ _ _) (by intro u hu; obtain rfl := List.mem_singleton.1 hu; rfl) (by omega) ?_; intro w2 hO2 hG2; have HO2 := Lib.hid hO2; have HG2 := Lib.hid hG2; clear hO2 hG2) | (at_builtin; refine Lib.wpList_append_own_string _ rfl (.tmp 21) (.tmp 22) 28 9 rfl w.heap.size 5 i Tryd.underlying28 Tryd.underlying9 hi hz hsize hby _ _ _ rfl HO2.out _ rfl (by unfold maxLen; omega) (by omega) (by have := HG2.out.size; rw [World.size_alloc] at this; omega) ?_; intro v3 w3 hO3 hG3 _; have HO3 := Lib.hid hO3; have HG3 := Lib.hid hG3; clear hO3 hG3) | fail)
    go_wp2_with fail
    go_ret
    rw [HC.out]
    exact ⟨_, rfl, by rw [textV l t (by rw [HT.out]; omega)]; rw [HT.out]; have := HO3.out; rw [HT.out] at this; exact this, below_grownV (below_grown (hb1.alloc hz1 _) (Nat.le_refl _) (by rw [World.size_alloc]; omega) HG2.out) (by have := HG2.out.size; rw [World.size_alloc] at this; omega) HO2.out HG3.out⟩
  · have HC := Lib.hid (show cut255 s = s by unfold cut255; rw [if_neg h2])
    go_enter Tryd.func18, Tryd.ntmps18
    go_wp2_with fail
    rw [show (1 + ((s.size : Nat) : Int)) = ((1 + s.size : Nat) : Int) from by omega]
    refine (octet_grown _ l (1 + s.size) _ hv (by omega)).mono ?_; rintro e w1 ⟨rfl, hO1, hb1⟩
    have HO := Lib.hid hO1
    have hz1 := hb1.size
    clear hO1
    go_wp2_with (first | (at_builtin; refine wpList_append_own_spare _ rfl (.tmp 15) (.tmp 19) 28 rfl w.heap.size 5 i 1 Tryd.underlying28 hi hsize w.heap.size l.length _ _ rfl (HO.out.alloc _) _ 1 1 [_] rfl rfl (cell_one_new _ _ _) (by intro u hu; obtain rfl := List.mem_singleton.1 hu; rfl) (by omega) ?_; intro w2 hO2 hG2; have HO2 := Lib.hid hO2; have HG2 := Lib.hid hG2; clear hO2 hG2) | (at_builtin; refine Lib.wpList_append_own_string _ rfl (.tmp 21) (.tmp 22) 28 9 rfl w.heap.size 5 i Tryd.underlying28 Tryd.underlying9 hi hz hsize hby _ _ _ rfl HO2.out _ rfl (by unfold maxLen; omega) (by omega) (by have := HG2.out.size; rw [World.size_alloc] at this; omega) ?_; intro v3 w3 hO3 hG3 _; have HO3 := Lib.hid hO3; have HG3 := Lib.hid hG3; clear hO3 hG3) | fail)
    go_wp2_with fail
    go_ret
    rw [HC.out]
    exact ⟨_, rfl, by rw [textV l s (by omega)]; exact HO3.out, below_grownV (below_grown (hb1.alloc hz1 _) (Nat.le_refl _) (by rw [World.size_alloc]; omega) HG2.out) (by have := HG2.out.size; rw [World.size_alloc] at this; omega) HO2.out HG3.out⟩
end Go.Proofs.YtpeogdbfhfkngaaDoor

/- Contracts of octet's answer (layer 3): Text. -/
namespace Go.Proofs.YtpeogdbfhfkngaaDoor
open Go.RowKit
theorem strCells_take (s : ByteArray) (k : Nat) (h : k < s.size) : (Lib.strCells s).take (k + 1) = (Lib.strCells s).take k ++ [Value.int .u8 ((s[k]'h).toNat : Int)] := by
  have hl : k < (Lib.strCells s).length := by rw [Lib.strCells_length]; exact h
  rw [List.take_succ_eq_append_getElem hl]
  congr 1
  simp [Lib.strCells]
  rfl
set_option maxHeartbeats 1000000 in
theorem ref03_Text (v : Value) (l : List UInt8) (s : ByteArray) (w : World) (hv : RowAt w v l.length (byteV l)) (hm : l.length ≤ 100000000) :
    Calls Tryd.prog 23 #[v, .string s] w fun e w' => ∃ r, e = .returned r ∧ w'.ownsRow w.heap.size 5 1 r (l.length + 1 + (cut255 s).size) (bytesV (l ++ [UInt8.ofNat (cut255 s).size] ++ (cut255 s).data.toList)) ∧ Below w.heap.size w w' := by
  obtain ⟨i, hi, hz, hsize, hby⟩ : ∃ i, Tryd.prog.info? 5 = some i ∧ i.zero = some (.int .u8 0) ∧ i.size = 1 ∧ i.bytes = 1 := ⟨(Tryd.prog.info? 5).get!, by kernel_rfl, by kernel_rfl, by kernel_rfl, by kernel_rfl⟩
  have hrow : ∀ W, Below w.heap.size w W → RowAt W v l.length (byteV l) := fun W h => hv.below h
  have HR := Lib.hid hrow
  clear hrow
  have hmap : (List.range l.length).map (byteV l) = bytesV l := map_byteV l
  by_cases h2 : 255 < s.size
  · obtain ⟨t, ht⟩ : ∃ t, s.extract 0 255 = t := ⟨_, rfl⟩
    have hts : t.size ≤ 255 := by rw [← ht]; simp; omega
    have HC := Lib.hid (show cut255 s = t by unfold cut255; rw [if_pos h2, ht])
    go_enter Tryd.func23, Tryd.ntmps23
    go_wp2_with (first | (at_builtin; refine wpList_append_row1 rfl (.tmp 12) (.tmp 13) 28 rfl w.heap.size 5 i (.int .u8 0) 1 Tryd.underlying28 hi hz hsize hby rfl _ 0 [] rfl (World.ownsRow_lit w #[] 0 (Nat.le_refl _) (by unfold maxLen; omega) rfl) _ l.length (byteV l) rfl (HR.out _ ((Below.refl _ _).alloc (Nat.le_refl _) _)) (fun _ _ => rfl) (by unfold maxLen; omega) (by omega) (by rw [World.size_alloc]; omega) ?_; intro v1 w1 hO1 hG1; have HO := Lib.hid (show w1.ownsRow w.heap.size 5 1 v1 l.length (bytesV l) by rw [hmap, List.nil_append, Nat.zero_add] at hO1; exact hO1); have hB1 : Below w.heap.size w w1 := below_grown ((Below.refl _ _).alloc (Nat.le_refl _) _) (Nat.le_refl _) (by rw [World.size_alloc]; omega) hG1; have hz1 := hB1.size; clear hO1 hG1) | (at_builtin; refine wpList_append_row1 rfl (.tmp 15) (.tmp 19) 28 rfl w.heap.size 5 i (.int .u8 0) 1 Tryd.underlying28 hi hz hsize hby rfl _ l.length _ rfl (HO.out.alloc _) _ 1 (fun _ => .int .u8 (t.size : Int)) rfl (RowAt.new _ _ _ _ _ 1 1 (by omega) (by omega) (by omega) (fun i hi => by obtain rfl : i = 0 := (by omega); rfl)) (fun _ _ => rfl) (by unfold maxLen; omega) (by omega) (by rw [World.size_alloc]; omega) ?_; intro v2 w2 hO2 hG2; have HO2 := Lib.hid hO2; have hB2 := below_grownV (hB1.alloc hz1 _) (by rw [World.size_alloc]; omega) (HO.out.alloc _) hG2; clear hO2 hG2) | fail)
    have H0 := Lib.hid (show w2.ownsRow w.heap.size 5 1 v2 (l.length + 1) (bytesV l ++ [Value.int .u8 (t.size : Int)]) from HO2.out)
    clear HO HO2 hB1 hz1 hmap HR
    go_loopw [5, 6] (fun o j wr => ∃ k : Nat, k ≤ t.size ∧ j = .int .i64 k ∧ Hid (wr.ownsRow w.heap.size 5 1 o (l.length + 1 + k) (bytesV l ++ [Value.int .u8 (t.size : Int)] ++ (Lib.strCells t).take k)) ∧ Below w.heap.size w wr) (fun _ j _ => t.size - (intOf j).toNat)
    case atStart => exact ⟨0, by omega, rfl, Lib.hid (by rw [List.take_zero, List.append_nil]; exact H0.out), hB2⟩
    case round =>
      clear hB2 H0
      obtain ⟨k, hk, rfl, hO, hB⟩ := hrel
      have hzz := hB.size
      by_cases hlt : k < t.size
      · have HT2 := Lib.hid (strCells_take t k hlt)
        go_wp2_with (first | (at_builtin; refine wpList_append_row1 rfl (.tmp 27) (.tmp 31) 28 rfl w.heap.size 5 i (.int .u8 0) 1 Tryd.underlying28 hi hz hsize hby rfl _ (l.length + 1 + k) _ rfl (hO.out.alloc _) _ 1 (fun _ => .int .u8 ((t[k]'hlt).toNat : Int)) rfl (RowAt.new _ _ _ _ _ 1 1 (by omega) (by omega) (by omega) (fun i hi => by obtain rfl : i = 0 := (by omega); rfl)) (fun _ _ => rfl) (by unfold maxLen; omega) (by omega) (by rw [World.size_alloc]; omega) ?_; intro v2 w2 hO2 hG2; have HO2 := Lib.hid hO2; have hB2 := below_grownV (hB.alloc hB.size _) (by rw [World.size_alloc]; omega) (hO.out.alloc _) hG2; clear hO2 hG2) | fail)
        go_roundw
        case rel => exact ⟨k + 1, by omega, by go_num, Lib.hid (by rw [HT2.out, ← List.append_assoc]; exact HO2.out), hB2⟩
        case measure => simp [intOf]; omega
      · obtain rfl : k = t.size := by omega
        go_wp2_with fail
        go_ret
        rw [HC.out]
        exact ⟨_, rfl, by rw [textV l t (by omega)]; have := hO.out; rw [List.take_of_length_le (l := Lib.strCells t) (by rw [Lib.strCells_length]; exact Nat.le_refl _)] at this; exact this, hB⟩
  · have HC := Lib.hid (show cut255 s = s by unfold cut255; rw [if_neg h2])
    go_enter Tryd.func23, Tryd.ntmps23
    go_wp2_with (first | (at_builtin; refine wpList_append_row1 rfl (.tmp 12) (.tmp 13) 28 rfl w.heap.size 5 i (.int .u8 0) 1 Tryd.underlying28 hi hz hsize hby rfl _ 0 [] rfl (World.ownsRow_lit w #[] 0 (Nat.le_refl _) (by unfold maxLen; omega) rfl) _ l.length (byteV l) rfl (HR.out _ ((Below.refl _ _).alloc (Nat.le_refl _) _)) (fun _ _ => rfl) (by unfold maxLen; omega) (by omega) (by rw [World.size_alloc]; omega) ?_; intro v1 w1 hO1 hG1; have HO := Lib.hid (show w1.ownsRow w.heap.size 5 1 v1 l.length (bytesV l) by rw [hmap, List.nil_append, Nat.zero_add] at hO1; exact hO1); have hB1 : Below w.heap.size w w1 := below_grown ((Below.refl _ _).alloc (Nat.le_refl _) _) (Nat.le_refl _) (by rw [World.size_alloc]; omega) hG1; have hz1 := hB1.size; clear hO1 hG1) | (at_builtin; refine wpList_append_row1 rfl (.tmp 15) (.tmp 19) 28 rfl w.heap.size 5 i (.int .u8 0) 1 Tryd.underlying28 hi hz hsize hby rfl _ l.length _ rfl (HO.out.alloc _) _ 1 (fun _ => .int .u8 (s.size : Int)) rfl (RowAt.new _ _ _ _ _ 1 1 (by omega) (by omega) (by omega) (fun i hi => by obtain rfl : i = 0 := (by omega); rfl)) (fun _ _ => rfl) (by unfold maxLen; omega) (by omega) (by rw [World.size_alloc]; omega) ?_; intro v2 w2 hO2 hG2; have HO2 := Lib.hid hO2; have hB2 := below_grownV (hB1.alloc hz1 _) (by rw [World.size_alloc]; omega) (HO.out.alloc _) hG2; clear hO2 hG2) | fail)
    have H0 := Lib.hid (show w2.ownsRow w.heap.size 5 1 v2 (l.length + 1) (bytesV l ++ [Value.int .u8 (s.size : Int)]) from HO2.out)
    clear HO HO2 hB1 hz1 hmap HR
    go_loopw [5, 6] (fun o j wr => ∃ k : Nat, k ≤ s.size ∧ j = .int .i64 k ∧ Hid (wr.ownsRow w.heap.size 5 1 o (l.length + 1 + k) (bytesV l ++ [Value.int .u8 (s.size : Int)] ++ (Lib.strCells s).take k)) ∧ Below w.heap.size w wr) (fun _ j _ => s.size - (intOf j).toNat)
    case atStart => exact ⟨0, by omega, rfl, Lib.hid (by rw [List.take_zero, List.append_nil]; exact H0.out), hB2⟩
    case round =>
      clear hB2 H0
      obtain ⟨k, hk, rfl, hO, hB⟩ := hrel
      have hzz := hB.size
      by_cases hlt : k < s.size
      · have HT2 := Lib.hid (strCells_take s k hlt)
        go_wp2_with (first | (at_builtin; refine wpList_append_row1 rfl (.tmp 27) (.tmp 31) 28 rfl w.heap.size 5 i (.int .u8 0) 1 Tryd.underlying28 hi hz hsize hby rfl _ (l.length + 1 + k) _ rfl (hO.out.alloc _) _ 1 (fun _ => .int .u8 ((s[k]'hlt).toNat : Int)) rfl (RowAt.new _ _ _ _ _ 1 1 (by omega) (by omega) (by omega) (fun i hi => by obtain rfl : i = 0 := (by omega); rfl)) (fun _ _ => rfl) (by unfold maxLen; omega) (by omega) (by rw [World.size_alloc]; omega) ?_; intro v2 w2 hO2 hG2; have HO2 := Lib.hid hO2; have hB2 := below_grownV (hB.alloc hB.size _) (by rw [World.size_alloc]; omega) (hO.out.alloc _) hG2; clear hO2 hG2) | fail)
        go_roundw
        case rel => exact ⟨k + 1, by omega, by go_num, Lib.hid (by rw [HT2.out, ← List.append_assoc]; exact HO2.out), hB2⟩
        case measure => simp [intOf]; omega
      · obtain rfl : k = s.size := by omega
        go_wp2_with fail
        go_ret
        rw [HC.out]
        exact ⟨_, rfl, by rw [textV l s (by omega)]; have := hO.out; rw [List.take_of_length_le (l := Lib.strCells s) (by rw [Lib.strCells_length]; exact Nat.le_refl _)] at this; exact this, hB⟩
end Go.Proofs.YtpeogdbfhfkngaaDoor

/- Layer 3: the laws' walks. -/
namespace Go.Proofs.YtpeogdbfhfkngaaDoor
open Go.RowKit
end Go.Proofs.YtpeogdbfhfkngaaDoor

/- Layer 3: the reader: what lies at its address, and its next bytes. -/
namespace Go.Proofs.YtpeogdbfhfkngaaDoor
open Go.RowKit
set_option linter.unusedSimpArgs false
set_option linter.unusedVariables false
/-- a reader at block g over the bytes L, which lie in block q -/
def RdAt (w : World) (g q : Nat) (L : List UInt8) (n : Nat) (bad : Bool) : Prop :=
  w.heap[g]? = some (.cells #[.slice (some ⟨q, 0, none⟩) L.length L.length, .int .i64 (n : Int), .bool bad] 70 (0, 0)) ∧ q ≠ g ∧ n ≤ L.length ∧ L.length ≤ 100000000 ∧ ∀ i, i < L.length → w.cell? ⟨q, i, none⟩ = some (byteV L i)
theorem cell_of {w : World} {g : Nat} {C : Array Value} {t : TypeId} {fr : Nat × Nat} (h : w.heap[g]? = some (.cells C t fr)) (i : Nat) {v : Value} (hv : C[i]? = some v) : w.cell? ⟨g, i, none⟩ = some v := by
  unfold World.cell?
  rw [show (⟨g, i, none⟩ : Addr).block = g from rfl, h]
  simpa using hv
theorem free_of {w : World} {g : Nat} {C : Array Value} {t : TypeId} (h : w.heap[g]? = some (.cells C t (0, 0))) (i : Nat) : w.frozen? ⟨g, i, none⟩ = false := by
  unfold World.frozen?
  rw [show (⟨g, i, none⟩ : Addr).block = g from rfl, h]
  simp
theorem set_at {w : World} {g : Nat} {C : Array Value} {t : TypeId} {fr : Nat × Nat} (h : w.heap[g]? = some (.cells C t fr)) (i : Nat) (v : Value) (n : Nat) :
    ((w.setCell ⟨g, i, none⟩ v).drewN n).heap[g]? = some (.cells (C.setIfInBounds i v) t fr) ∧ w.grownBy ((w.setCell ⟨g, i, none⟩ v).drewN n) (some g) := by
  constructor
  · show (w.heap.modify g _)[g]? = _
    rw [Array.getElem?_modify, if_pos rfl, h]
    simp
  · refine ⟨rfl, rfl, rfl, ?_, ?_⟩
    · simp [World.setCell]
    · intro k hk hne
      show (w.heap.modify g _)[k]? = _
      rw [Array.getElem?_modify, if_neg (by intro e; exact hne (by rw [e]))]
theorem drewN_set (W : World) (q : Nat) (x : Addr) (v : Value) : (W.drewN q).setCell x v = (W.setCell x v).drewN q := by
  simp only [World.setCell, World.heap_drewN]
  rfl
theorem rd_grown_cell {w w' : World} {g q i : Nat} {v : Value} (h : w.grownBy w' (some g)) (hq : q ≠ g) (hc : w.cell? ⟨q, i, none⟩ = some v) : w'.cell? ⟨q, i, none⟩ = some v := by
  have hlt := World.block_lt_of_cell? w _ hc
  have := h.block q hlt (by intro e; exact hq (Option.some.inj e))
  unfold World.cell? at hc ⊢
  rw [show (⟨q, i, none⟩ : Addr).block = q from rfl] at hc ⊢
  rw [this]
  exact hc
theorem rd_keep {w w' : World} {g q : Nat} {L : List UInt8} {n n' : Nat} {bad bad' : Bool} (h : RdAt w g q L n bad) (hn : n' ≤ L.length)
    (hg : w'.heap[g]? = some (.cells #[.slice (some ⟨q, 0, none⟩) L.length L.length, .int .i64 (n' : Int), .bool bad'] 70 (0, 0))) (hw : w.grownBy w' (some g)) : RdAt w' g q L n' bad' :=
  ⟨hg, h.2.1, hn, h.2.2.2.1, fun i hi => rd_grown_cell hw h.2.1 (h.2.2.2.2 i hi)⟩
theorem rd_drew {w : World} {g q : Nat} {L : List UInt8} {n : Nat} {bad : Bool} (h : RdAt w g q L n bad) (m : Nat) : RdAt (w.drewN m) g q L n bad := h
theorem take_cells {w : World} {q n m : Nat} {L : List UInt8} {cap : Nat} (hm : n + m ≤ L.length) (hc : n + m ≤ n + cap) (hcap : cap ≤ 100000000) (hb : ∀ i, i < L.length → w.cell? ⟨q, i, none⟩ = some (byteV L i)) :
    RowAt w (.slice (some ⟨q, n, none⟩) m cap) m (byteV ((L.drop n).take m)) := by
  by_cases h0 : m = 0
  · subst h0; exact Or.inl ⟨_, _, rfl, rfl, fun h => by cases h⟩
  · refine Or.inr ⟨q, n, cap, rfl, by omega, by omega, by unfold maxLen; omega, World.block_lt_of_cell? w _ (hb n (by omega)), fun i hi => ?_⟩
    rw [hb (n + i) (by omega)]
    simp [byteV, List.getD, hi]
theorem next_fail (g q : Nat) (L : List UInt8) (n : Nat) (z : Int) (w : World) (h : RdAt w g q L n false) (hz : z < 0 ∨ (L.length : Int) - n < z) :
    Calls Tryd.prog 57 #[.pointer (some ⟨g, 0, none⟩), .int .i64 z] w fun e w' => e = .returned (.slice none 0 0) ∧ RdAt w' g q L n true ∧ w.grownBy w' (some g) := by
  have HR := Lib.hid h
  obtain ⟨hg, hq, hn, hL, hb⟩ := h
  have c0 := cell_of hg 0 rfl
  have c1 := cell_of hg 1 rfl
  have c2 := cell_of hg 2 rfl
  have f2 := free_of hg 2
  have hs := IntWalk.i64_in ((L.length : Int) - n) (by omega)
  have HB := Lib.hid hb
  have HG := Lib.hid hg
  clear hb hg
  have hz0 : z < 0 ∧ decide (z < 0) = true ∨ decide (z < 0) = false ∧ decide ((L.length : Int) - n < z) = true := by
    by_cases h : z < 0
    · exact Or.inl ⟨h, by simpa using h⟩
    · exact Or.inr ⟨by simpa using h, by simp; omega⟩
  rcases hz0 with ⟨_, e1⟩ | ⟨e1, e2⟩
  all_goals
    go_enter Tryd.func57, Tryd.ntmps57
    go_wp2_with fail
    go_quiet (fail)
    clear hs
    go_wp2_with fail
    go_ret
    obtain ⟨k1, k2⟩ := set_at HG.out 2 (.bool true) nq
    rw [drewN_set]
    exact ⟨rfl, rd_keep HR.out hn k1 k2, k2⟩
theorem next_bad (g q : Nat) (L : List UInt8) (n : Nat) (z : Int) (w : World) (h : RdAt w g q L n true) :
    Calls Tryd.prog 57 #[.pointer (some ⟨g, 0, none⟩), .int .i64 z] w fun e w' => e = .returned (.slice none 0 0) ∧ w = w' := by
  obtain ⟨hg, hq, hn, hL, hb⟩ := h
  have c2 := cell_of hg 2 rfl
  clear hb hg
  go_enter Tryd.func57, Tryd.ntmps57
  go_wp2_with fail
  go_ret
  exact ⟨rfl, rfl⟩
theorem next_nil (z : Int) (w : World) : Calls Tryd.prog 57 #[.pointer none, .int .i64 z] w fun e w' => e = .returned (.slice none 0 0) ∧ w = w' := by
  go_enter Tryd.func57, Tryd.ntmps57
  go_wp2_with fail
  go_ret
  exact ⟨rfl, rfl⟩
theorem next_ok (g q : Nat) (L : List UInt8) (n m : Nat) (z : Int) (w : World) (h : RdAt w g q L n false) (hz : z = (m : Int)) (hm : n + m ≤ L.length) :
    Calls Tryd.prog 57 #[.pointer (some ⟨g, 0, none⟩), .int .i64 z] w fun e w' => ∃ r, e = .returned r ∧ RowAt w' r m (byteV ((L.drop n).take m)) ∧ RdAt w' g q L (n + m) false ∧ w.grownBy w' (some g) := by
  have HR := Lib.hid h
  obtain ⟨hg, hq, hn, hL, hb⟩ := h
  subst hz
  have c0 := cell_of hg 0 rfl
  have c1 := cell_of hg 1 rfl
  have c2 := cell_of hg 2 rfl
  have f1 := free_of hg 1
  have hs := IntWalk.i64_in ((L.length : Int) - n) (by omega)
  have HG := Lib.hid hg
  clear hb hg
  have e1 : decide ((m : Int) < 0) = false := by simp
  have e2 : decide ((L.length : Int) - n < m) = false := by simp; omega
  go_enter Tryd.func57, Tryd.ntmps57
  go_wp2_with fail
  go_quiet (fail)
  clear hs
  go_wp2_with fail
  obtain ⟨W, hW⟩ : ∃ W, W = (w.drewN nq).setCell ⟨g, 1, none⟩ (.int .i64 ((n : Int) + m)) := ⟨_, rfl⟩
  rw [← hW]
  obtain ⟨k1, k2⟩ := set_at HG.out 1 (.int .i64 ((n : Int) + m)) nq
  rw [← drewN_set, ← hW] at k1 k2
  have k3 : W.heap[g]? = some (.cells #[.slice (some ⟨q, 0, none⟩) L.length L.length, .int .i64 ((n : Int) + m), .bool false] 70 (0, 0)) := k1
  have d0 := cell_of k3 0 rfl
  have d1 := cell_of k3 1 rfl
  have HW := Lib.hid hW
  have K1 := Lib.hid k3
  clear hW c0 c1 c2 f1 e1 e2 k1 k3
  have s1 := IntWalk.i64_in (n : Int) (by omega)
  have s2 := IntWalk.i64_in ((n : Int) + m - m) (by omega)
  have s3 : (n : Int) + m - m = n := by omega
  have s4 : 0 ≤ (n : Int) + m := by omega
  have s5 : ((n : Int) + m).toNat = n + m := by omega
  have hcap : L.length = n ∨ n < L.length := by omega
  rcases hcap with hcap | hcap
  · have hm0 : m = 0 := by omega
    have Hm0 := Lib.hid hm0
    clear hm0
    go_quiet (fail)
    go_wp2_with fail
    go_ret
    have hR2 : RdAt W g q L (n + m) false := rd_keep HR.out hm (by have := K1.out; rw [← Int.natCast_add] at this; exact this) k2
    have hG2 : w.grownBy (W.drewN nq) (some g) := ⟨k2.os, k2.tape, k2.output, k2.size, k2.block⟩
    have hm0 := Hm0.out
    subst hm0
    exact ⟨_, rfl, Or.inl ⟨_, _, rfl, rfl, fun h => by cases h⟩, rd_drew hR2 _, hG2⟩
  · go_quiet (fail)
    go_wp2_with fail
    go_ret
    have hR2 : RdAt W g q L (n + m) false := rd_keep HR.out hm (by have := K1.out; rw [← Int.natCast_add] at this; exact this) k2
    have hG2 : w.grownBy (W.drewN nq) (some g) := ⟨k2.os, k2.tape, k2.output, k2.size, k2.block⟩
    exact ⟨_, rfl, take_cells (w := W.drewN nq) hm (by omega) (by omega) hR2.2.2.2.2, rd_drew hR2 _, hG2⟩
end Go.Proofs.YtpeogdbfhfkngaaDoor

/- Layer 3: the reader's numbers. -/
namespace Go.Proofs.YtpeogdbfhfkngaaDoor
open Go.RowKit
set_option linter.unusedSimpArgs false
set_option linter.unusedVariables false
def leV : List UInt8 → Nat
  | [] => 0
  | c :: l => c.toNat + 256 * leV l
theorem leV_snoc (c : UInt8) : ∀ l : List UInt8, leV (l ++ [c]) = leV l + c.toNat * 256 ^ l.length
  | [] => by simp [leV]
  | d :: l => by
    simp only [List.cons_append, leV, leV_snoc c l, List.length_cons, Nat.pow_succ]
    rw [Nat.mul_add, Nat.mul_comm (256 ^ l.length) 256, ← Nat.mul_assoc, ← Nat.mul_assoc, Nat.mul_comm 256 c.toNat]
    omega
theorem leV_lt : ∀ l : List UInt8, leV l < 256 ^ l.length
  | [] => by simp [leV]
  | d :: l => by
    have := leV_lt l
    have hd := d.toNat_lt
    simp only [leV, List.length_cons, Nat.pow_succ]
    omega
theorem or_step {A c k : Nat} (hk : k ≤ 7) (hA : A < 256 ^ k) (hc : c < 256) : bits .or .u64 (A : Int) (IntKind.u64.wrap ((c : Int) * 2 ^ (8 * k))) = ((A + c * 256 ^ k : Nat) : Int) := by
  have e1 : (256 : Nat) ^ k = 2 ^ (8 * k) := by rw [Nat.pow_mul]
  have e2 : (c : Int) * 2 ^ (8 * k) = ((c * 2 ^ (8 * k) : Nat) : Int) := by simp
  have hp : (2 : Nat) ^ (8 * k) ≤ 2 ^ 56 := Nat.pow_le_pow_right (by omega) (by omega)
  have hb : c * 2 ^ (8 * k) < 18446744073709551616 := by
    have h1 : c * 2 ^ (8 * k) ≤ 255 * 2 ^ 56 := Nat.mul_le_mul (by omega) hp
    have h2 : 255 * 2 ^ 56 < 18446744073709551616 := by decide
    omega
  rw [e1] at hA ⊢
  have hA2 : A < 18446744073709551616 := by
    have h2 : (2 : Nat) ^ 56 < 18446744073709551616 := by decide
    omega
  rw [e2, IntWalk.u64_in _ (by omega) , u64_or_nat A _ hA2 hb, Nat.or_comm, Nat.mul_comm, ← Nat.two_pow_add_eq_or_of_lt hA, Nat.add_comm]
def numV (l : List UInt8) : Int := wrap64 (leV l : Int)
set_option maxHeartbeats 1000000 in
theorem reader_Num_ok (g q : Nat) (L : List UInt8) (n N : Nat) (z : Int) (w : World) (h : RdAt w g q L n false) (hN : near8 z = N) (h8 : N ≤ 8) (hm : n + N ≤ L.length) :
    Calls Tryd.prog 50 #[.pointer (some ⟨g, 0, none⟩), .int .i64 z] w fun e w' => e = .returned (.int .i64 (numV ((L.drop n).take N))) ∧ RdAt w' g q L (n + N) false ∧ w.grownBy w' (some g) := by
  have HN := Lib.hid hN
  have HR := Lib.hid h
  obtain ⟨B, hB⟩ : ∃ B, (L.drop n).take N = B := ⟨_, rfl⟩
  have hl : B.length = N := by rw [← hB]; simp; omega
  have HBB := Lib.hid hB
  rw [hB]
  clear hN h hB
  go_enter Tryd.func50, Tryd.ntmps50
  go_wp2_with fail
  refine (octet_near _ _).mono ?_; rintro e w' ⟨rfl, rfl⟩
  rw [HN.out]
  go_wp2_with fail
  refine (next_ok g q L n N (N : Int) _ HR.out rfl hm).mono ?_; rintro e w' ⟨r, rfl, hr, hR, hG⟩
  have HR2 := Lib.hid hR
  have HG := Lib.hid hG
  have HL := Lib.hid hl
  rw [HBB.out] at hr
  clear hR hG hl hm HR HBB
  rcases hr with ⟨a, cap, rfl, h0, hcn⟩ | ⟨b, off, cap, rfl, h1, h2, h3, h4, hcell⟩
  · subst h0
    go_wp2_with fail
    refine wp_loop_rounds 1 ?_
    rw [rounds_succ]
    go_wp2_with fail
    go_ret
    exact ⟨by rw [List.eq_nil_of_length_eq_zero HL.out, show numV [] = 0 from by decide +kernel]; rfl, HR2.out, HG.out⟩
  · have h3' : cap ≤ 9223372036854775807 := by unfold maxLen at h3; omega
    go_wp2_with fail
    go_loop [5, 6, 7, 13] (fun s5 s6 s7 s13 => ∃ k : Nat, k ≤ N ∧ s13 = .int .i64 k ∧ s5 = .int .u64 (leV (B.take k) : Int)) (fun _ _ _ s13 => N - (intOf s13).toNat)
    case atStart => exact ⟨0, Nat.zero_le _, rfl, rfl⟩
    case round =>
      obtain ⟨k, hk, rfl, rfl⟩ := hrel
      by_cases hlt : k < N
      · have hc := hcell k hlt
        have hbyte : byteV B k = .int .u8 ((B.getD k 0).toNat : Int) := rfl
        rw [hbyte] at hc
        have hb1 : (B.getD k 0).toNat < 256 := (B.getD k 0).toNat_lt
        have hsn : leV (B.take (k + 1)) = leV (B.take k) + (B.getD k 0).toNat * 256 ^ k := by
          have hkB : k < B.length := by rw [HL.out]; exact hlt
          have hlen : (B.take k).length = k := by rw [List.length_take]; omega
          rw [List.take_succ_eq_append_getElem hkB, leV_snoc, hlen]
          simp [List.getD, hkB]
        have hlt2 : leV (B.take k) < 256 ^ k := by
          have := leV_lt (B.take k)
          rw [show (B.take k).length = k by rw [List.length_take]; have := HL.out; omega] at this
          exact this
        have HS := Lib.hid (show (leV (B.take (k + 1)) : Int) = bits .or .u64 (leV (B.take k) : Int) (IntKind.u64.wrap (((B.getD k 0).toNat : Int) * 2 ^ (8 * k))) by rw [hsn, or_step (by omega) hlt2 hb1])
        clear hcell hbyte hsn hlt2
        generalize (B.getD k 0).toNat = c at *
        generalize leV (B.take k) = A at *
        go_wp2_with fail
        go_round
        case rel => exact ⟨k + 1, by omega, by go_num, by rw [HS.out]⟩
        case measure => simp [intOf]; omega
      · obtain rfl : k = N := by omega
        clear hcell
        have HT := Lib.hid (show B.take k = B from List.take_of_length_le (by have := HL.out; omega))
        go_wp2_with fail
        go_ret
        exact ⟨by rw [HT.out]; rfl, HR2.out, HG.out⟩
theorem reader_Num_fail (g q : Nat) (L : List UInt8) (n N : Nat) (z : Int) (w : World) (h : RdAt w g q L n false) (hN : near8 z = N) (h8 : N ≤ 8) (hm : L.length < n + N) :
    Calls Tryd.prog 50 #[.pointer (some ⟨g, 0, none⟩), .int .i64 z] w fun e w' => e = .returned (.int .i64 0) ∧ RdAt w' g q L n true ∧ w.grownBy w' (some g) := by
  have HN := Lib.hid hN
  clear hN
  go_enter Tryd.func50, Tryd.ntmps50
  go_wp2_with fail
  refine (octet_near _ _).mono ?_; rintro e w' ⟨rfl, rfl⟩
  rw [HN.out]
  go_wp2_with fail
  refine (next_fail g q L n (N : Int) _ h (by omega)).mono ?_; rintro e w' ⟨rfl, hR, hG⟩
  have HR2 := Lib.hid hR
  have HG := Lib.hid hG
  clear hR hG
  go_wp2_with fail
  refine wp_loop_rounds 1 ?_
  rw [rounds_succ]
  go_wp2_with fail
  go_ret
  exact ⟨rfl, HR2.out, HG.out⟩
theorem reader_Num_bad (g q : Nat) (L : List UInt8) (n : Nat) (z : Int) (w : World) (h : RdAt w g q L n true) :
    Calls Tryd.prog 50 #[.pointer (some ⟨g, 0, none⟩), .int .i64 z] w fun e w' => e = .returned (.int .i64 0) ∧ w = w' := by
  go_enter Tryd.func50, Tryd.ntmps50
  go_wp2_with fail
  refine (octet_near _ _).mono ?_; rintro e w' ⟨rfl, rfl⟩
  go_wp2_with fail
  refine (next_bad g q L n _ _ h).mono ?_; rintro e w' ⟨rfl, rfl⟩
  go_wp2_with fail
  refine wp_loop_rounds 1 ?_
  rw [rounds_succ]
  go_wp2_with fail
  go_ret
  exact ⟨rfl, rfl⟩
theorem reader_Num_nil (z : Int) (w : World) :
    Calls Tryd.prog 50 #[.pointer none, .int .i64 z] w fun e w' => e = .returned (.int .i64 0) ∧ w = w' := by
  go_enter Tryd.func50, Tryd.ntmps50
  go_wp2_with fail
  refine (octet_near _ _).mono ?_; rintro e w' ⟨rfl, rfl⟩
  go_wp2_with fail
  refine (next_nil _ _).mono ?_; rintro e w' ⟨rfl, rfl⟩
  go_wp2_with fail
  refine wp_loop_rounds 1 ?_
  rw [rounds_succ]
  go_wp2_with fail
  go_ret
  exact ⟨rfl, rfl⟩
end Go.Proofs.YtpeogdbfhfkngaaDoor

/- Layer 3: the reader: New, Take, Text, Left, At, Bad. -/
namespace Go.Proofs.YtpeogdbfhfkngaaDoor
open Go.RowKit
set_option linter.unusedSimpArgs false
set_option linter.unusedVariables false
theorem rd_below {w w' : World} {g q : Nat} {L : List UInt8} {n : Nat} {bad : Bool} (h : RdAt w g q L n bad) (hb : Below w.heap.size w w') : RdAt w' g q L n bad := by
  have hlt : g < w.heap.size := by
    by_cases hg : g < w.heap.size
    · exact hg
    · have := h.1; rw [Array.getElem?_eq_none (by omega)] at this; cases this
  exact ⟨(hb.block g hlt).trans h.1, h.2.1, h.2.2.1, h.2.2.2.1, fun i hi => (hb.cell (p := ⟨q, i, none⟩) (World.block_lt_of_cell? w _ (h.2.2.2.2 i hi))).trans (h.2.2.2.2 i hi)⟩
theorem grown_below {w w1 w2 : World} {o : Option Nat} (h : w.grownBy w1 o) (hb : Below w1.heap.size w1 w2) : w.grownBy w2 o :=
  ⟨hb.os.trans h.os, hb.tape.trans h.tape, hb.output.trans h.output, Nat.le_trans h.size hb.size, fun k hk hne => (hb.block k (Nat.lt_of_lt_of_le hk h.size)).trans (h.block k hk hne)⟩
theorem grown_grown {w w1 w2 : World} {o : Option Nat} (h : w.grownBy w1 o) (hb : w1.grownBy w2 o) : w.grownBy w2 o :=
  ⟨hb.os.trans h.os, hb.tape.trans h.tape, hb.output.trans h.output, Nat.le_trans h.size hb.size, fun k hk hne => (hb.block k (Nat.lt_of_lt_of_le hk h.size) hne).trans (h.block k hk hne)⟩
theorem reader_New (v : Value) (l : List UInt8) (w : World) (hv : RowAt w v l.length (byteV l)) (hm : l.length ≤ 100000000) :
    Calls Tryd.prog 31 #[v] w fun e w' => ∃ g q, e = .returned (.pointer (some ⟨g, 0, none⟩)) ∧ RdAt w' g q l 0 false ∧ w.heap.size ≤ g ∧ Below w.heap.size w w' := by
  go_enter Tryd.func31, Tryd.ntmps31
  go_wp2_with fail
  rw [show (0 : Int) = ((0 : Nat) : Int) from rfl]
  refine (octet_grown v l 0 _ hv (by omega)).mono ?_; rintro e w1 ⟨rfl, hO, hb⟩
  have hz := hb.size
  have hcell : ∀ i, i < l.length → w1.cell? ⟨w.heap.size, i, none⟩ = some (byteV l i) := by
    intro i hi
    have := hO.cellAt i (by omega)
    rw [this]
    exact byteV_at hi
  have hlt : w.heap.size < w1.heap.size := (hO.lt _ rfl).2
  have HC := Lib.hid hcell
  clear hO hcell
  go_wp2_with fail
  go_ret
  refine ⟨w1.heap.size, w.heap.size, rfl, ⟨?_, by omega, by omega, hm, fun i hi => ?_⟩, hz, hb.alloc hz _⟩
  · exact heap_alloc_new w1 _
  · exact (((Below.refl w1.heap.size w1).alloc (Nat.le_refl _) _).cell (p := ⟨w.heap.size, i, none⟩) hlt).trans (HC.out i hi)
theorem reader_Bad (g q : Nat) (L : List UInt8) (n : Nat) (bad : Bool) (w : World) (h : RdAt w g q L n bad) :
    Calls Tryd.prog 54 #[.pointer (some ⟨g, 0, none⟩)] w fun e w' => e = .returned (.bool bad) ∧ w = w' := by
  have c2 := cell_of h.1 2 rfl
  clear h
  go_enter Tryd.func54, Tryd.ntmps54
  go_wp2_with fail
  go_ret
  exact ⟨rfl, rfl⟩
theorem reader_Bad_nil (w : World) : Calls Tryd.prog 54 #[.pointer none] w fun e w' => e = .returned (.bool true) ∧ w = w' := by
  go_enter Tryd.func54, Tryd.ntmps54
  go_wp2_with fail
  go_ret
  exact ⟨rfl, rfl⟩
def leftOf (L : List UInt8) (n : Nat) (bad : Bool) : Int := if bad then 0 else (L.length : Int) - n
theorem reader_Left (g q : Nat) (L : List UInt8) (n : Nat) (bad : Bool) (w : World) (h : RdAt w g q L n bad) :
    Calls Tryd.prog 34 #[.pointer (some ⟨g, 0, none⟩)] w fun e w' => e = .returned (.int .i64 (leftOf L n bad)) ∧ ∃ m, w' = w.drewN m := by
  have HR := Lib.hid h
  have c0 := cell_of h.1 0 rfl
  have c1 := cell_of h.1 1 rfl
  have hs := IntWalk.i64_in ((L.length : Int) - n) (by have := h.2.2.1; have := h.2.2.2.1; omega)
  clear h
  cases bad
  · go_enter Tryd.func34, Tryd.ntmps34
    go_wp2_with fail
    refine (reader_Bad g q L n false _ HR.out).mono ?_; rintro e w' ⟨rfl, rfl⟩
    go_wp2_with fail
    go_quiet (fail)
    go_wp2_with fail
    go_ret
    exact ⟨rfl, _, rfl⟩
  · go_enter Tryd.func34, Tryd.ntmps34
    go_wp2_with fail
    refine (reader_Bad g q L n true _ HR.out).mono ?_; rintro e w' ⟨rfl, rfl⟩
    go_wp2_with fail
    go_ret
    exact ⟨rfl, 0, rfl⟩
theorem reader_Left_nil (w : World) : Calls Tryd.prog 34 #[.pointer none] w fun e w' => e = .returned (.int .i64 0) ∧ w = w' := by
  go_enter Tryd.func34, Tryd.ntmps34
  go_wp2_with fail
  refine (reader_Bad_nil _).mono ?_; rintro e w' ⟨rfl, rfl⟩
  go_wp2_with fail
  go_ret
  exact ⟨rfl, rfl⟩
theorem reader_Take_ok (g q : Nat) (L : List UInt8) (n m : Nat) (z : Int) (w : World) (h : RdAt w g q L n false) (hz : z = (m : Int)) (hm : n + m ≤ L.length) :
    Calls Tryd.prog 53 #[.pointer (some ⟨g, 0, none⟩), .int .i64 z] w fun e w' => ∃ r, e = .returned r ∧ RowAt w' r m (byteV ((L.drop n).take m)) ∧ RdAt w' g q L (n + m) false ∧ w.grownBy w' (some g) := by
  subst hz
  obtain ⟨B, hB⟩ : ∃ B, (L.drop n).take m = B := ⟨_, rfl⟩
  have hl : B.length = m := by rw [← hB]; simp; omega
  have hL : B.length ≤ 100000000 := by have := h.2.2.2.1; omega
  have HL := Lib.hid hl
  have HBB := Lib.hid hB
  have HR := Lib.hid h
  rw [hB]
  clear h hl hB
  go_enter Tryd.func53, Tryd.ntmps53
  go_wp2_with fail
  refine (next_ok g q L n m (m : Int) _ HR.out rfl hm).mono ?_; rintro e w1 ⟨r, rfl, hr, hR, hG⟩
  rw [HBB.out] at hr
  have HR2 := Lib.hid hR
  have HG := Lib.hid hG
  have hr2 : RowAt w1 r B.length (byteV B) := by rw [HL.out]; exact hr
  have Hr2 := Lib.hid hr2
  clear hr hr2 hR hG hm HR HBB
  go_wp2_with fail
  rw [show Value.int IntKind.i64 0 = Value.int IntKind.i64 ((0 : Nat) : Int) from rfl]
  refine (octet_grown r B 0 _ Hr2.out (by omega)).mono ?_; rintro e w2 ⟨rfl, hO, hb⟩
  have hrow : RowAt w2 _ B.length (byteV B) := RowAt.owns hO (fun i hi => byteV_at hi)
  have HO := Lib.hid hrow
  have HB := Lib.hid hb
  clear hrow hO hb Hr2
  go_wp2_with fail
  go_ret
  exact ⟨_, rfl, by have := HO.out; rw [HL.out] at this; rw [HL.out]; exact this, rd_below HR2.out HB.out, grown_below HG.out HB.out⟩
end Go.Proofs.YtpeogdbfhfkngaaDoor

/- Layer 3: the reader's Text; numbers that were put are read. -/
namespace Go.Proofs.YtpeogdbfhfkngaaDoor
open Go.RowKit
set_option linter.unusedSimpArgs false
set_option linter.unusedVariables false
theorem byte_step (n : Int) {k : Nat} (h : k < 8) : n % 256 ^ (k + 1) = n % 256 ^ k + ((n / 2 ^ (8 * k)) % 256) * 256 ^ k := by
  obtain rfl | rfl | rfl | rfl | rfl | rfl | rfl | rfl := ux_cases h <;> omega
theorem leV_putL (n : Int) : ∀ k : Nat, k ≤ 8 → (leV (putL k n) : Int) = n % 256 ^ k
  | 0, _ => by simp [putL, leV]
  | k + 1, h => by
    rw [putL_succ, leV_snoc, putL_len, Int.natCast_add, leV_putL n k (by omega), Int.natCast_mul, byteAt_val, byte_step n (by omega)]
    simp
theorem numV_put8 (n : Int) (h : -9223372036854775808 ≤ n ∧ n ≤ 9223372036854775807) : numV (putL 8 n) = n := by
  unfold numV
  rw [leV_putL n 8 (Nat.le_refl _)]
  unfold wrap64
  omega
theorem numV_put4 (n : Int) : numV (putL 4 n) = n % 4294967296 := by
  unfold numV
  rw [leV_putL n 4 (by omega)]
  unfold wrap64
  omega
theorem numV_one (c : UInt8) : numV [c] = (c.toNat : Int) := by
  have := c.toNat_lt
  simp only [numV, leV]
  unfold wrap64
  omega
theorem take_one {L : List UInt8} {n : Nat} (h : n + 1 ≤ L.length) : (L.drop n).take 1 = [L.getD n 0] := by
  have hn : n < L.length := h
  rw [List.drop_eq_getElem_cons hn, List.take_succ_cons, List.take_zero]
  congr 1
  simp [List.getD, hn]
set_option maxHeartbeats 400000 in
theorem reader_Text_ok (g q : Nat) (L : List UInt8) (n c : Nat) (w : World) (h : RdAt w g q L n false) (hc : (L.getD n 0).toNat = c) (hm : n + 1 + c ≤ L.length) :
    Calls Tryd.prog 48 #[.pointer (some ⟨g, 0, none⟩)] w fun e w' => e = .returned (.string ⟨((L.drop (n + 1)).take c).toArray⟩) ∧ RdAt w' g q L (n + 1 + c) false ∧ w.grownBy w' (some g) := by
  have hN : numV ((L.drop n).take 1) = (c : Int) := by rw [take_one (by omega), numV_one, hc]
  have HN := Lib.hid hN
  obtain ⟨B, hB⟩ : ∃ B, (L.drop (n + 1)).take c = B := ⟨_, rfl⟩
  have hl : B.length = c := by rw [← hB]; simp; omega
  have HL := Lib.hid hl
  have HBB := Lib.hid hB
  rw [hB]
  clear hN hc hl hB
  go_enter Tryd.func48, Tryd.ntmps48
  go_wp2_with fail
  refine (reader_Num_ok g q L n 1 1 _ h (by decide) (by omega) (by omega)).mono ?_; rintro e w1 ⟨rfl, hR, hG⟩
  rw [HN.out]
  have HG := Lib.hid hG
  clear hG h
  go_wp2_with fail
  refine (next_ok g q L (n + 1) c (c : Int) _ hR rfl hm).mono ?_; rintro e w2 ⟨r, rfl, hr, hR2, hG2⟩
  rw [HBB.out] at hr
  have hcv := conv_row (P := Tryd.prog) (src := 28) (dst := 9) (e := 5) Tryd.underlying28 Tryd.underlying5 Tryd.underlying9 (l := B) (by rw [HL.out]; exact hr)
  have HR2 := Lib.hid hR2
  have HG2 := Lib.hid hG2
  clear hr hR hR2 hG2
  go_wp2_with fail
  go_ret
  exact ⟨rfl, HR2.out, grown_grown HG.out HG2.out⟩
end Go.Proofs.YtpeogdbfhfkngaaDoor

/- Layer 3: what a reader answers in any state: one contract for each of its methods. -/
namespace Go.Proofs.YtpeogdbfhfkngaaDoor
open Go.RowKit
set_option linter.unusedSimpArgs false
set_option linter.unusedVariables false
/-- the next bytes: what they are, how many were read then, whether it is bad then -/
def rTake (L : List UInt8) (z : Int) (n : Nat) (bad : Bool) : List UInt8 × Nat × Bool :=
  if bad then ([], n, true) else if z < 0 ∨ (L.length : Int) - n < z then ([], n, true) else ((L.drop n).take z.toNat, n + z.toNat, false)
/-- the next number of N bytes -/
def rNum (L : List UInt8) (N : Nat) (n : Nat) (bad : Bool) : Int × Nat × Bool :=
  (numV (rTake L N n bad).1, (rTake L N n bad).2)
/-- the next text -/
def rText (L : List UInt8) (n : Nat) (bad : Bool) : List UInt8 × Nat × Bool :=
  rTake L (rNum L 1 n bad).1 (rNum L 1 n bad).2.1 (rNum L 1 n bad).2.2
theorem rTake_bad (L : List UInt8) (z : Int) (n : Nat) : rTake L z n true = ([], n, true) := by simp [rTake]
theorem rTake_fail {L : List UInt8} {z : Int} {n : Nat} (h : z < 0 ∨ (L.length : Int) - n < z) : rTake L z n false = ([], n, true) := by simp [rTake, h]
theorem rTake_ok {L : List UInt8} {m n : Nat} (h : n + m ≤ L.length) : rTake L m n false = ((L.drop n).take m, n + m, false) := by
  have e : ¬ ((m : Int) < 0 ∨ (L.length : Int) - n < m) := by omega
  simp [rTake, e]
theorem rTake_at (L : List UInt8) (z : Int) (n : Nat) (bad : Bool) (hn : n ≤ L.length) : n ≤ (rTake L z n bad).2.1 ∧ (rTake L z n bad).2.1 ≤ L.length ∧ (bad = true → (rTake L z n bad).2.2 = true) := by
  cases bad
  · by_cases h : z < 0 ∨ (L.length : Int) - n < z
    · rw [rTake_fail h]; exact ⟨Nat.le_refl _, hn, fun h => by cases h⟩
    · obtain ⟨m, rfl⟩ : ∃ m : Nat, z = m := ⟨z.toNat, by omega⟩
      rw [rTake_ok (by omega)]; exact ⟨by simp, by simp; omega, fun h => by cases h⟩
  · rw [rTake_bad]; exact ⟨Nat.le_refl _, hn, fun _ => rfl⟩
theorem rTake_len (L : List UInt8) (z : Int) (n : Nat) (bad : Bool) : (rTake L z n bad).1.length ≤ L.length := by
  unfold rTake
  split
  · simp
  · split
    · simp
    · simp; omega
theorem numV_nil : numV [] = 0 := by decide +kernel
theorem rd_here {w : World} {g q : Nat} {L : List UInt8} {n : Nat} {bad : Bool} (h : RdAt w g q L n bad) : n ≤ L.length ∧ L.length ≤ 100000000 := ⟨h.2.2.1, h.2.2.2.1⟩
theorem rd_New (v : Value) (l : List UInt8) (w : World) (hv : RowAt w v l.length (byteV l)) (hm : l.length ≤ 100000000) :
    Calls Tryd.prog 31 #[v] w fun e w' => ∃ g q, e = .returned (.pointer (some ⟨g, 0, none⟩)) ∧ RdAt w' g q l 0 false ∧ w.heap.size ≤ g ∧ (w.heap.size ≤ q ∧ q < g) ∧ Below w.heap.size w w' := by
  go_enter Tryd.func31, Tryd.ntmps31
  go_wp2_with fail
  rw [show (0 : Int) = ((0 : Nat) : Int) from rfl]
  refine (octet_grown v l 0 _ hv (by omega)).mono ?_; rintro e w1 ⟨rfl, hO, hb⟩
  have hz := hb.size
  have hcell : ∀ i, i < l.length → w1.cell? ⟨w.heap.size, i, none⟩ = some (byteV l i) := by
    intro i hi
    have := hO.cellAt i (by omega)
    rw [this]
    exact byteV_at hi
  have hlt : w.heap.size < w1.heap.size := (hO.lt _ rfl).2
  have HC := Lib.hid hcell
  clear hO hcell
  go_wp2_with fail
  go_ret
  refine ⟨w1.heap.size, w.heap.size, rfl, ⟨?_, by omega, by omega, hm, fun i hi => ?_⟩, hz, ⟨Nat.le_refl _, hlt⟩, hb.alloc hz _⟩
  · exact heap_alloc_new w1 _
  · exact (((Below.refl w1.heap.size w1).alloc (Nat.le_refl _) _).cell (p := ⟨w.heap.size, i, none⟩) hlt).trans (HC.out i hi)
theorem rd_next (g q : Nat) (L : List UInt8) (n : Nat) (bad : Bool) (z : Int) (w : World) (h : RdAt w g q L n bad) :
    Calls Tryd.prog 57 #[.pointer (some ⟨g, 0, none⟩), .int .i64 z] w fun e w' => ∃ r, e = .returned r ∧ RowAt w' r (rTake L z n bad).1.length (byteV (rTake L z n bad).1) ∧ RdAt w' g q L (rTake L z n bad).2.1 (rTake L z n bad).2.2 ∧ w.grownBy w' (some g) := by
  cases bad
  · by_cases hz : z < 0 ∨ (L.length : Int) - n < z
    · rw [rTake_fail hz]
      refine (next_fail g q L n z w h hz).mono ?_; rintro e w' ⟨rfl, h1, h2⟩
      exact ⟨_, rfl, Or.inl ⟨none, 0, rfl, rfl, fun _ => rfl⟩, h1, h2⟩
    · obtain ⟨m, rfl⟩ : ∃ m : Nat, z = m := ⟨z.toNat, by omega⟩
      have hm : n + m ≤ L.length := by omega
      rw [rTake_ok hm]
      refine (next_ok g q L n m m w h rfl hm).mono ?_; rintro e w' ⟨r, rfl, h1, h2, h3⟩
      have hl : ((L.drop n).take m).length = m := by simp; omega
      exact ⟨r, rfl, by rw [hl]; exact h1, h2, h3⟩
  · rw [rTake_bad]
    refine (next_bad g q L n z w h).mono ?_; rintro e w' ⟨rfl, rfl⟩
    exact ⟨_, rfl, Or.inl ⟨none, 0, rfl, rfl, fun _ => rfl⟩, h, World.grownBy.refl _ _⟩
theorem rd_Num (g q : Nat) (L : List UInt8) (n N : Nat) (bad : Bool) (z : Int) (w : World) (h : RdAt w g q L n bad) (hN : near8 z = N) (h8 : N ≤ 8) :
    Calls Tryd.prog 50 #[.pointer (some ⟨g, 0, none⟩), .int .i64 z] w fun e w' => e = .returned (.int .i64 (rNum L N n bad).1) ∧ RdAt w' g q L (rNum L N n bad).2.1 (rNum L N n bad).2.2 ∧ w.grownBy w' (some g) := by
  unfold rNum
  cases bad
  · by_cases hz : n + N ≤ L.length
    · rw [rTake_ok hz]
      exact reader_Num_ok g q L n N z w h hN h8 hz
    · rw [rTake_fail (by omega), numV_nil]
      exact reader_Num_fail g q L n N z w h hN h8 (by omega)
  · rw [rTake_bad, numV_nil]
    refine (reader_Num_bad g q L n z w h).mono ?_; rintro e w' ⟨rfl, rfl⟩
    exact ⟨rfl, h, World.grownBy.refl _ _⟩
set_option maxHeartbeats 400000 in
theorem rd_Text (g q : Nat) (L : List UInt8) (n : Nat) (bad : Bool) (w : World) (h : RdAt w g q L n bad) :
    Calls Tryd.prog 48 #[.pointer (some ⟨g, 0, none⟩)] w fun e w' => e = .returned (.string ⟨(rText L n bad).1.toArray⟩) ∧ RdAt w' g q L (rText L n bad).2.1 (rText L n bad).2.2 ∧ w.grownBy w' (some g) := by
  unfold rText
  obtain ⟨A, hA⟩ : ∃ A, rNum L 1 n bad = A := ⟨_, rfl⟩
  obtain ⟨c, n1, b1⟩ := A
  have HNum := Lib.hid (rd_Num g q L n 1 bad 1 w h (by decide) (by omega))
  rw [hA] at HNum ⊢
  clear hA h
  obtain ⟨B, hB⟩ : ∃ B, rTake L c n1 b1 = B := ⟨_, rfl⟩
  have HNext := Lib.hid (fun W hW => rd_next g q L n1 b1 c W hW)
  rw [hB] at HNext ⊢
  clear hB
  go_enter Tryd.func48, Tryd.ntmps48
  go_wp2_with fail
  refine HNum.out.mono ?_; rintro e w1 ⟨rfl, hR, hG⟩
  have HG := Lib.hid hG
  clear hG
  go_wp2_with fail
  refine (HNext.out w1 hR).mono ?_; rintro e w2 ⟨r, rfl, hr, hR2, hG2⟩
  have hcv := conv_row (P := Tryd.prog) (src := 28) (dst := 9) (e := 5) Tryd.underlying28 Tryd.underlying5 Tryd.underlying9 hr
  have HR2 := Lib.hid hR2
  have HG2 := Lib.hid hG2
  clear hr hR hR2 hG2 HNum HNext
  go_wp2_with fail
  go_ret
  exact ⟨rfl, HR2.out, grown_grown HG.out HG2.out⟩
theorem rd_Take (g q : Nat) (L : List UInt8) (n : Nat) (bad : Bool) (z : Int) (w : World) (h : RdAt w g q L n bad) :
    Calls Tryd.prog 53 #[.pointer (some ⟨g, 0, none⟩), .int .i64 z] w fun e w' => ∃ r, e = .returned r ∧ RowAt w' r (rTake L z n bad).1.length (byteV (rTake L z n bad).1) ∧ RdAt w' g q L (rTake L z n bad).2.1 (rTake L z n bad).2.2 ∧ w.grownBy w' (some g) := by
  have hBL := rTake_len L z n bad
  have hL := h.2.2.2.1
  have HNext := Lib.hid (rd_next g q L n bad z w h)
  clear h
  obtain ⟨B, hB⟩ : ∃ B, rTake L z n bad = B := ⟨_, rfl⟩
  rw [hB] at HNext hBL ⊢
  clear hB
  go_enter Tryd.func53, Tryd.ntmps53
  go_wp2_with fail
  refine HNext.out.mono ?_; rintro e w1 ⟨r, rfl, hr, hR, hG⟩
  have HR2 := Lib.hid hR
  have HG := Lib.hid hG
  have Hr2 := Lib.hid hr
  clear hr hR hG HNext
  go_wp2_with fail
  rw [show Value.int IntKind.i64 0 = Value.int IntKind.i64 ((0 : Nat) : Int) from rfl]
  refine (octet_grown r B.1 0 _ Hr2.out (by omega)).mono ?_; rintro e w2 ⟨rfl, hO, hb⟩
  have hrow : RowAt w2 _ B.1.length (byteV B.1) := RowAt.owns hO (fun i hi => byteV_at hi)
  have HO := Lib.hid hrow
  have HB := Lib.hid hb
  clear hrow hO hb Hr2
  go_wp2_with fail
  go_ret
  exact ⟨_, rfl, HO.out, rd_below HR2.out HB.out, grown_below HG.out HB.out⟩
end Go.Proofs.YtpeogdbfhfkngaaDoor

/- A reader, and worlds that have grown. -/
namespace Go.Proofs.YtpeogdbfhfkngaaDoor
open Go.RowKit
set_option linter.unusedSimpArgs false
set_option linter.unusedVariables false
theorem rd_stay {w w' : World} {g q : Nat} {L : List UInt8} {n : Nat} {bad : Bool} (h : RdAt w g q L n bad) (hg : w'.heap[g]? = w.heap[g]?) (hq : q < w.heap.size → w'.heap[q]? = w.heap[q]?) : RdAt w' g q L n bad :=
  ⟨hg.trans h.1, h.2.1, h.2.2.1, h.2.2.2.1, fun i hi => by
    have hc := h.2.2.2.2 i hi
    exact (World.cell?_of_block (a := ⟨q, i, none⟩) (hq (World.block_lt_of_cell? w _ hc))).trans hc⟩
theorem rd_lt {w : World} {g q : Nat} {L : List UInt8} {n : Nat} {bad : Bool} (h : RdAt w g q L n bad) : g < w.heap.size := by
  by_cases hg : g < w.heap.size
  · exact hg
  · have := h.1; rw [Array.getElem?_eq_none (by omega)] at this; cases this
theorem grown_set {w w1 : World} {o : Option Nat} (h : w.grownBy w1 o) {p : Addr} (hp : w.heap.size ≤ p.block) (v : Value) : w.grownBy (w1.setCell p v) o :=
  ⟨h.os, h.tape, h.output, by simpa [World.setCell] using h.size, fun k hk hne => (Below.heap_setCell _ _ _ _ (by omega)).trans (h.block k hk hne)⟩
theorem grown_alloc {w w1 : World} {o : Option Nat} (h : w.grownBy w1 o) (x : Obj) : w.grownBy (w1.alloc x) o :=
  ⟨h.os, h.tape, h.output, Nat.le_trans h.size (by simp), fun k hk hne => (Below.heap_alloc _ _ _ (Nat.lt_of_lt_of_le hk h.size)).trans (h.block k hk hne)⟩
theorem rd_set {w : World} {g q : Nat} {L : List UInt8} {n : Nat} {bad : Bool} (h : RdAt w g q L n bad) (p : Addr) (v : Value) (hg : g ≠ p.block) (hq : q ≠ p.block) : RdAt (w.setCell p v) g q L n bad :=
  rd_stay h (Below.heap_setCell _ _ _ _ hg) (fun _ => Below.heap_setCell _ _ _ _ hq)
end Go.Proofs.YtpeogdbfhfkngaaDoor

/- Layer 3: the reference's reader: what lies at its address, and its methods. -/
namespace Go.Proofs.YtpeogdbfhfkngaaDoor
open Go.RowKit
set_option linter.unusedSimpArgs false
set_option linter.unusedVariables false
/-- a slice that isn't empty lies in block q -/
def inBlk (v : Value) (q : Nat) : Prop := ∀ a n c, v = .slice (some a) n c → 0 < n → a.block = q
theorem row_stay {w w' : World} {v : Value} {n : Nat} {f : Nat → Value} {q : Nat} (h : RowAt w v n f) (hq : inBlk v q) (hs : w.heap.size ≤ w'.heap.size) (hb : q < w.heap.size → w'.heap[q]? = w.heap[q]?) : RowAt w' v n f := by
  rcases h with h | ⟨b, off, cap, h1, h2, h3, h4, h5, h6⟩
  · exact Or.inl h
  · have e : b = q := hq _ _ _ h1 h2
    subst e
    refine Or.inr ⟨b, off, cap, h1, h2, h3, h4, by omega, fun i hi => ?_⟩
    rw [← h6 i hi]
    exact World.cell?_of_block (hb h5)
/-- the reference's reader at block g over the bytes L, which lie in block q -/
def RfAt (w : World) (g q : Nat) (L : List UInt8) (n : Nat) (bad : Bool) : Prop :=
  ∃ rv, w.heap[g]? = some (.cells #[rv, .int .i64 (n : Int), .bool bad] 56 (0, 0)) ∧ RowAt w rv (L.length - n) (byteV (L.drop n)) ∧ inBlk rv q ∧ q ≠ g ∧ n ≤ L.length ∧ L.length ≤ 100000000
theorem rf_here {w : World} {g q : Nat} {L : List UInt8} {n : Nat} {bad : Bool} (h : RfAt w g q L n bad) : n ≤ L.length ∧ L.length ≤ 100000000 ∧ g < w.heap.size := by
  obtain ⟨rv, h1, h2, h3, h4, h5, h6⟩ := h
  refine ⟨h5, h6, ?_⟩
  by_cases hg : g < w.heap.size
  · exact hg
  · rw [Array.getElem?_eq_none (by omega)] at h1; cases h1
theorem rf_stay {w w' : World} {g q : Nat} {L : List UInt8} {n : Nat} {bad : Bool} (h : RfAt w g q L n bad) (hs : w.heap.size ≤ w'.heap.size) (hg : w'.heap[g]? = w.heap[g]?) (hq : q < w.heap.size → w'.heap[q]? = w.heap[q]?) : RfAt w' g q L n bad := by
  obtain ⟨rv, h1, h2, h3, h4, h5, h6⟩ := h
  exact ⟨rv, hg.trans h1, row_stay h2 h3 hs hq, h3, h4, h5, h6⟩
theorem rf_below {w w' : World} {g q : Nat} {L : List UInt8} {n : Nat} {bad : Bool} (h : RfAt w g q L n bad) (hb : Below w.heap.size w w') : RfAt w' g q L n bad :=
  rf_stay h hb.size (hb.block g (rf_here h).2.2) (fun hq => hb.block q hq)
theorem rf_grown {w w' : World} {g q : Nat} {L : List UInt8} {n : Nat} {bad : Bool} {o : Option Nat} (h : RfAt w g q L n bad) (hb : w.grownBy w' o) (hg : some g ≠ o) (hq : some q ≠ o) : RfAt w' g q L n bad :=
  rf_stay h hb.size (hb.block g (rf_here h).2.2 hg) (fun h => hb.block q h hq)
theorem rf_drew {w : World} {g q : Nat} {L : List UInt8} {n : Nat} {bad : Bool} (h : RfAt w g q L n bad) (m : Nat) : RfAt (w.drewN m) g q L n bad := h
theorem row_drop {w : World} {q n m : Nat} {L : List UInt8} {a : Value} (h : RowAt w a (L.length - n) (byteV (L.drop n))) (hq : inBlk a q) : ∃ p cap, a = .slice p (L.length - n) cap := by
  rcases h with ⟨p, cap, rfl, h0, _⟩ | ⟨b, off, cap, rfl, _⟩
  · exact ⟨p, cap, by rw [h0]⟩
  · exact ⟨_, cap, rfl⟩
theorem ref_Take_bad (g q : Nat) (L : List UInt8) (n : Nat) (z : Int) (w : World) (h : RfAt w g q L n true) :
    Calls Tryd.prog 38 #[.pointer (some ⟨g, 0, none⟩), .int .i64 z] w fun e w' => e = .returned (.slice none 0 0) ∧ RfAt w' g q L n true ∧ w.grownBy w' (some g) := by
  have HR := Lib.hid h
  obtain ⟨rv, hg, hr, hi, hq, hn, hL⟩ := h
  have c2 := cell_of hg 2 rfl
  have f2 := free_of hg 2
  have HG := Lib.hid hg
  have Hr := Lib.hid hr
  clear hg hr
  go_enter Tryd.func38, Tryd.ntmps38
  go_wp2_with fail
  go_ret
  obtain ⟨k1, k2⟩ := set_at HG.out 2 (.bool true) 0
  exact ⟨rfl, ⟨rv, k1, row_stay Hr.out hi k2.size (fun h => k2.block q h (by simpa using hq)), hi, hq, hn, hL⟩, k2⟩
theorem ref_Take_fail (g q : Nat) (L : List UInt8) (n : Nat) (z : Int) (w : World) (h : RfAt w g q L n false) (hz : z < 0 ∨ (L.length : Int) - n < z) :
    Calls Tryd.prog 38 #[.pointer (some ⟨g, 0, none⟩), .int .i64 z] w fun e w' => e = .returned (.slice none 0 0) ∧ RfAt w' g q L n true ∧ w.grownBy w' (some g) := by
  have HR := Lib.hid h
  obtain ⟨rv, hg, hr, hi, hq, hn, hL⟩ := h
  obtain ⟨p, cap, rfl⟩ := row_drop hr hi (m := 0)
  have c0 := cell_of hg 0 rfl
  have c2 := cell_of hg 2 rfl
  have f2 := free_of hg 2
  have HG := Lib.hid hg
  have Hr := Lib.hid hr
  clear hg hr
  have hz0 : z < 0 ∧ decide (z < 0) = true ∨ decide (z < 0) = false ∧ decide (((L.length - n : Nat) : Int) < z) = true := by
    by_cases h : z < 0
    · exact Or.inl ⟨h, by simpa using h⟩
    · exact Or.inr ⟨by simpa using h, by simp; omega⟩
  have hl : (((L.length - n : Nat)) : Int) ≤ 9223372036854775807 := by omega
  generalize hln : L.length - n = ln at *
  rcases hz0 with ⟨_, e1⟩ | ⟨e1, e2⟩
  all_goals
    go_enter Tryd.func38, Tryd.ntmps38
    go_wp2_with fail
    go_ret
    obtain ⟨k1, k2⟩ := set_at HG.out 2 (.bool true) 0
    exact ⟨rfl, ⟨_, k1, row_stay (by rw [hln]; exact Hr.out) hi k2.size (fun h => k2.block q h (by simpa using hq)), hi, hq, hn, hL⟩, k2⟩
end Go.Proofs.YtpeogdbfhfkngaaDoor

/- Layer 3: the reference's reader: Take. -/
namespace Go.Proofs.YtpeogdbfhfkngaaDoor
open Go.RowKit
set_option linter.unusedSimpArgs false
set_option linter.unusedVariables false
theorem set_two {w : World} {g : Nat} {C : Array Value} {t : TypeId} {fr : Nat × Nat} (h : w.heap[g]? = some (.cells C t fr)) (i j : Nat) (u v : Value) :
    ((w.setCell ⟨g, i, none⟩ u).setCell ⟨g, j, none⟩ v).heap[g]? = some (.cells ((C.setIfInBounds i u).setIfInBounds j v) t fr) ∧ w.grownBy ((w.setCell ⟨g, i, none⟩ u).setCell ⟨g, j, none⟩ v) (some g) := by
  obtain ⟨k1, k2⟩ := set_at h i u 0
  obtain ⟨l1, l2⟩ := set_at k1 j v 0
  exact ⟨l1, grown_grown k2 l2⟩
theorem byteV_drop (L : List UInt8) (n i : Nat) : byteV (L.drop n) i = byteV L (n + i) := by simp [byteV, List.getD]
theorem byteV_take {L : List UInt8} {m i : Nat} (h : i < m) : byteV (L.take m) i = byteV L i := by simp [byteV, List.getD, h]
theorem ref_Take_ok (g q : Nat) (L : List UInt8) (n m : Nat) (w : World) (h : RfAt w g q L n false) (hm : n + m ≤ L.length) :
    Calls Tryd.prog 38 #[.pointer (some ⟨g, 0, none⟩), .int .i64 (m : Int)] w fun e w' => ∃ r, e = .returned r ∧ RowAt w' r m (byteV ((L.drop n).take m)) ∧ inBlk r q ∧ RfAt w' g q L (n + m) false ∧ w.grownBy w' (some g) := by
  obtain ⟨rv, hg, hr, hi, hq, hn, hL⟩ := h
  have c0 := cell_of hg 0 rfl
  have c1 := cell_of hg 1 rfl
  have c2 := cell_of hg 2 rfl
  have f0 := free_of hg 0
  have f1 := free_of hg 1
  have HG := Lib.hid hg
  have e1 : decide ((m : Int) < 0) = false := by simp
  have HI := Lib.hid hi
  clear hg hi
  rcases hr with ⟨p, cap, rfl, h0, hcn⟩ | ⟨b, off, cap, rfl, h1, h2, h3, h4, hc⟩
  · obtain rfl : m = 0 := by omega
    have HC := Lib.hid hcn
    clear hcn
    go_enter Tryd.func38, Tryd.ntmps38
    go_wp2_with fail
    go_ret
    obtain ⟨k1, k2⟩ := set_two HG.out 0 1 (.slice p 0 cap) (.int .i64 n)
    exact ⟨_, rfl, Or.inl ⟨_, _, rfl, rfl, HC.out⟩, HI.out, ⟨_, k1, Or.inl ⟨_, _, rfl, by omega, HC.out⟩, HI.out, hq, hm, hL⟩, k2⟩
  · have e2 : decide (((L.length - n : Nat) : Int) < m) = false := by simp; omega
    have e3 : ¬ (L.length - n < m) := by omega
    have e4 : (L.length - n) - m = L.length - (n + m) := by omega
    have HQ := Lib.hid (show b = q from HI.out _ _ _ rfl h1)
    have hlt : b < w.heap.size := h4
    have HX := Lib.hid (fun w' (hb : w.grownBy w' (some g)) i (hi : i < L.length - n) => (hb.cell (hc i hi) (by have := HQ.out; simp; omega)))
    have hcap3 : cap ≤ 9223372036854775807 := by unfold maxLen at h3; omega
    clear hc
    have HI2 := Lib.hid (fun o n c => (show inBlk (.slice (some ⟨b, o, none⟩) n c) q by intro a n' c' h _; have := HQ.out; injection h with h1; injection h1 with h1; subst h1; exact this))
    have HM := Lib.hid (fun w' (hb : w.grownBy w' (some g)) c (hc : m ≤ c) (hcl : c ≤ maxLen) => (show RowAt w' (.slice (some ⟨b, off, none⟩) m c) m (byteV ((L.drop n).take m)) by
      by_cases h0 : m = 0
      · subst h0; exact Or.inl ⟨_, _, rfl, rfl, fun h => by cases h⟩
      · exact Or.inr ⟨b, off, c, rfl, by omega, hc, hcl, Nat.lt_of_lt_of_le hlt hb.size, fun i hi => by rw [byteV_take hi]; exact HX.out w' hb i (by omega)⟩))
    have hcap : cap = m ∨ m < cap := by omega
    rcases hcap with rfl | hcap
    · go_enter Tryd.func38, Tryd.ntmps38
      go_wp2_with fail
      go_ret
      obtain ⟨k1, k2⟩ := set_two HG.out 0 1 (.slice (some ⟨b, off, none⟩) (L.length - (n + cap)) 0) (.int .i64 (n + cap))
      have e5 : L.length - (n + cap) = 0 := by omega
      exact ⟨_, rfl, HM.out _ k2 _ (Nat.le_refl _) h3, HI2.out _ _ _, ⟨_, by rw [← Int.natCast_add] at k1; exact k1, Or.inl ⟨_, 0, by rw [e5], e5, fun h => by cases h⟩, HI2.out _ _ _, hq, hm, hL⟩, k2⟩
    · have hcap2 : ¬ cap = m := by omega
      go_enter Tryd.func38, Tryd.ntmps38
      go_wp2_with fail
      go_ret
      obtain ⟨k1, k2⟩ := set_two HG.out 0 1 (.slice (some ⟨b, off + m, none⟩) (L.length - (n + m)) (cap - m)) (.int .i64 (n + m))
      refine ⟨_, rfl, HM.out _ k2 _ (by omega) (by omega), HI2.out _ _ _, ⟨_, by rw [← Int.natCast_add] at k1; exact k1, ?_, HI2.out _ _ _, hq, hm, hL⟩, k2⟩
      by_cases h0 : L.length - (n + m) = 0
      · rw [h0]; exact Or.inl ⟨_, _, rfl, rfl, fun h => by cases h⟩
      · exact Or.inr ⟨b, off + m, cap - m, rfl, by omega, by omega, by omega, Nat.lt_of_lt_of_le hlt k2.size, fun i hi => by rw [byteV_drop, Nat.add_assoc, Nat.add_assoc, ← byteV_drop]; exact HX.out _ k2 (m + i) (by omega)⟩
end Go.Proofs.YtpeogdbfhfkngaaDoor

/- Layer 3: the reference's reader in any state: Take, Num, Text, Left. -/
namespace Go.Proofs.YtpeogdbfhfkngaaDoor
open Go.RowKit
set_option linter.unusedSimpArgs false
set_option linter.unusedVariables false
theorem inBlk_none (q : Nat) : inBlk (.slice none 0 0) q := by intro a n c h; cases h
theorem rf_Take (g q : Nat) (L : List UInt8) (n : Nat) (bad : Bool) (z : Int) (w : World) (h : RfAt w g q L n bad) :
    Calls Tryd.prog 38 #[.pointer (some ⟨g, 0, none⟩), .int .i64 z] w fun e w' => ∃ r, e = .returned r ∧ RowAt w' r (rTake L z n bad).1.length (byteV (rTake L z n bad).1) ∧ inBlk r q ∧ RfAt w' g q L (rTake L z n bad).2.1 (rTake L z n bad).2.2 ∧ w.grownBy w' (some g) := by
  cases bad
  · by_cases hz : z < 0 ∨ (L.length : Int) - n < z
    · rw [rTake_fail hz]
      refine (ref_Take_fail g q L n z w h hz).mono ?_; rintro e w' ⟨rfl, h1, h2⟩
      exact ⟨_, rfl, Or.inl ⟨none, 0, rfl, rfl, fun _ => rfl⟩, inBlk_none q, h1, h2⟩
    · have hn := (rf_here h).1
      obtain ⟨m, rfl⟩ : ∃ m : Nat, z = m := ⟨z.toNat, by omega⟩
      have hm : n + m ≤ L.length := by omega
      rw [rTake_ok hm]
      refine (ref_Take_ok g q L n m w h hm).mono ?_; rintro e w' ⟨r, rfl, h1, h0, h2, h3⟩
      have hl : ((L.drop n).take m).length = m := by simp; omega
      exact ⟨r, rfl, by rw [hl]; exact h1, h0, h2, h3⟩
  · rw [rTake_bad]
    refine (ref_Take_bad g q L n z w h).mono ?_; rintro e w' ⟨rfl, h1, h2⟩
    exact ⟨_, rfl, Or.inl ⟨none, 0, rfl, rfl, fun _ => rfl⟩, inBlk_none q, h1, h2⟩
theorem leV_drop {B : List UInt8} {k : Nat} (h : k < B.length) : leV (B.drop k) = (B.getD k 0).toNat + 256 * leV (B.drop (k + 1)) := by
  rw [List.drop_eq_getElem_cons h, leV]
  simp [List.getD, h]
theorem rTake_len8 (L : List UInt8) (N n : Nat) (bad : Bool) : (rTake L N n bad).1.length ≤ N := by
  unfold rTake
  split
  · simp
  · split
    · simp
    · simp; omega
set_option maxHeartbeats 1000000 in
theorem rf_Num (g q : Nat) (L : List UInt8) (n N : Nat) (bad : Bool) (z : Int) (w : World) (h : RfAt w g q L n bad) (hN : near8 z = N) (h8 : N ≤ 8) :
    Calls Tryd.prog 36 #[.pointer (some ⟨g, 0, none⟩), .int .i64 z] w fun e w' => e = .returned (.int .i64 (rNum L N n bad).1) ∧ RfAt w' g q L (rNum L N n bad).2.1 (rNum L N n bad).2.2 ∧ w.grownBy w' (some g) := by
  have HT := Lib.hid (rf_Take g q L n bad N w h)
  have hB8 := rTake_len8 L N n bad
  unfold rNum
  obtain ⟨A, hA⟩ : ∃ A, rTake L N n bad = A := ⟨_, rfl⟩
  rw [hA] at HT hB8 ⊢
  clear hA h
  obtain ⟨B, n1, b1⟩ := A
  have HN := Lib.hid hN
  clear hN
  obtain ⟨K, hK⟩ : ∃ K, B.length = K := ⟨_, rfl⟩
  have HK := Lib.hid hK
  have hK8 : K ≤ 8 := by rw [← hK]; exact Nat.le_trans hB8 h8
  have hlt := leV_lt B
  go_enter Tryd.func36, Tryd.ntmps36
  go_wp2_with fail
  refine (ref03_held _ _).mono ?_; rintro e w1 ⟨rfl, rfl⟩
  rw [HN.out]
  go_wp2_with fail
  refine HT.out.mono ?_; rintro e w1 ⟨r, rfl, hr, _, hR, hG⟩
  have HR2 := Lib.hid hR
  have HG := Lib.hid hG
  have hr : RowAt w1 r K (byteV B) := by rw [← HK.out]; exact hr
  clear hR hG HT hB8 hK
  have hbnd : ∀ k, leV (B.drop k) < 18446744073709551616 := by
    intro k
    have h1 := leV_lt (B.drop k)
    have h2 : 256 ^ (B.drop k).length ≤ 256 ^ 8 := Nat.pow_le_pow_right (by omega) (by have := HK.out; simp; omega)
    have h3 : (256 : Nat) ^ 8 = 18446744073709551616 := by decide
    omega
  have HBn := Lib.hid hbnd
  obtain ⟨pp, cap, rfl⟩ : ∃ p c, r = .slice p K c := by
    rcases hr with ⟨p, cap, rfl, h0, _⟩ | ⟨b, off, cap, rfl, _⟩
    · exact ⟨p, cap, by rw [h0]⟩
    · exact ⟨_, cap, rfl⟩
  have hKi : (K : Int) ≤ 8 := by omega
  have hcell : ∀ k, k < K → ∃ bb off, pp = some ⟨bb, off, none⟩ ∧ w1.cell? ⟨bb, off + k, none⟩ = some (byteV B k) := by
    intro k hk
    rcases hr with ⟨p, c, h, h0, _⟩ | ⟨b, off, c, h, _, _, _, _, hc⟩
    · omega
    · exact ⟨b, off, by injection h, hc k hk⟩
  have HC := Lib.hid hcell
  clear hcell hr hbnd hlt
  go_wp2_with fail
  go_loop [6, 7] (fun s6 s7 => ∃ k : Nat, k ≤ K ∧ s7 = .int .i64 ((k : Int) - 1) ∧ s6 = .int .u64 (leV (B.drop k) : Int)) (fun _ s7 => (intOf s7 + 1).toNat)
  case atStart => exact ⟨K, Nat.le_refl _, rfl, by rw [List.drop_of_length_le (by have := HK.out; omega)]; rfl⟩
  case round =>
    obtain ⟨k, hk, rfl, rfl⟩ := hrel
    cases k with
    | zero =>
      go_wp2_with fail
      go_ret
      exact ⟨rfl, HR2.out, HG.out⟩
    | succ k =>
      have e1 : ((k + 1 : Nat) : Int) - 1 = (k : Int) := by omega
      rw [e1]
      obtain ⟨bb, off, rfl, hc⟩ := HC.out k (by omega)
      have hbyte : byteV B k = .int .u8 ((B.getD k 0).toNat : Int) := rfl
      rw [hbyte] at hc
      have hs := leV_drop (B := B) (k := k) (by have := HK.out; omega)
      have h1 := HBn.out k
      rw [hs] at h1
      have hb1 : (B.getD k 0).toNat < 256 := (B.getD k 0).toNat_lt
      have HS := Lib.hid (show (leV (B.drop k) : Int) = 256 * (leV (B.drop (k + 1)) : Int) + ((B.getD k 0).toNat : Int) by rw [hs]; omega)
      clear hs hbyte
      generalize (B.getD k 0).toNat = c at *
      generalize leV (B.drop (k + 1)) = A at *
      have w1 := IntWalk.u64_in (256 * (A : Int)) (by omega)
      have w2 := IntWalk.u64_in (256 * (A : Int) + (c : Int)) (by omega)
      go_wp2_with fail
      go_round
      case rel => exact ⟨k, by omega, by first | rfl | go_num, by rw [HS.out]⟩
      case measure => first | (simp [intOf]; done) | (simp [intOf]; omega)
theorem rf_Text (g q : Nat) (L : List UInt8) (n : Nat) (bad : Bool) (w : World) (h : RfAt w g q L n bad) :
    Calls Tryd.prog 35 #[.pointer (some ⟨g, 0, none⟩)] w fun e w' => e = .returned (.string ⟨(rText L n bad).1.toArray⟩) ∧ RfAt w' g q L (rText L n bad).2.1 (rText L n bad).2.2 ∧ w.grownBy w' (some g) := by
  unfold rText
  obtain ⟨A, hA⟩ : ∃ A, rNum L 1 n bad = A := ⟨_, rfl⟩
  obtain ⟨c, n1, b1⟩ := A
  have HNum := Lib.hid (rf_Num g q L n 1 bad 1 w h (by decide) (by omega))
  rw [hA] at HNum ⊢
  clear hA h
  obtain ⟨B, hB⟩ : ∃ B, rTake L c n1 b1 = B := ⟨_, rfl⟩
  have HNext := Lib.hid (fun W hW => rf_Take g q L n1 b1 c W hW)
  rw [hB] at HNext ⊢
  clear hB
  go_enter Tryd.func35, Tryd.ntmps35
  go_wp2_with fail
  refine HNum.out.mono ?_; rintro e w1 ⟨rfl, hR, hG⟩
  have HG := Lib.hid hG
  clear hG
  go_wp2_with fail
  refine (HNext.out w1 hR).mono ?_; rintro e w2 ⟨r, rfl, hr, _, hR2, hG2⟩
  have hcv := conv_row (P := Tryd.prog) (src := 28) (dst := 9) (e := 5) Tryd.underlying28 Tryd.underlying5 Tryd.underlying9 hr
  have HR2 := Lib.hid hR2
  have HG2 := Lib.hid hG2
  clear hr hR hR2 hG2 HNum HNext
  go_wp2_with fail
  go_ret
  exact ⟨rfl, HR2.out, grown_grown HG.out HG2.out⟩
end Go.Proofs.YtpeogdbfhfkngaaDoor

/- Programs as plain lists. -/
namespace Go.Proofs.YtpeogdbfhfkngaaDoor
open Go.RowKit
set_option linter.unusedSimpArgs false
set_option linter.unusedVariables false
structure Vr where
  name : List UInt8
  t : Int
  n : Int
  area : Int
  init : Int
structure Bk where
  name : List UInt8
  kind : Int
structure Un where
  name : List UInt8
  params : List Int
  result : Int
  locals : List Int
  code : List Ins
structure Pr where
  consts : List (Int × Int)
  vars : List Vr
  blocks : List Bk
  units : List Un
def sz (s : List UInt8) : Prop := s.length ≤ 9223372036854775807
def constR : Rep (Int × Int) := fun _ cs x => cs = [.int .i64 x.1, .int .i64 x.2] ∧ I64 x.1 ∧ I64 x.2
theorem constR_stable : Stable constR := fun _ _ _ _ h _ => h
def varR : Rep Vr := fun _ cs x => cs = [.string ⟨x.name.toArray⟩, .int .i64 x.t, .int .i64 x.n, .int .i64 x.area, .int .i64 x.init] ∧ sz x.name ∧ I64 x.t ∧ I64 x.n ∧ I64 x.area ∧ I64 x.init
theorem varR_stable : Stable varR := fun _ _ _ _ h _ => h
def blkR : Rep Bk := fun _ cs x => cs = [.string ⟨x.name.toArray⟩, .int .i64 x.kind] ∧ sz x.name ∧ I64 x.kind
theorem blkR_stable : Stable blkR := fun _ _ _ _ h _ => h
/-- a unit, by its three slices -/
structure UnAt (w : World) (a b c : Value) (x : Un) : Prop where
  ps : RowR 1 intR w a x.params
  ls : RowR 1 intR w b x.locals
  cs : RowR 3 insR w c x.code
  ns : sz x.name
  r64 : I64 x.result
theorem UnAt.below {w w' : World} {a b c : Value} {x : Un} (h : UnAt w a b c x) (hb : Below w.heap.size w w') : UnAt w' a b c x :=
  ⟨h.ps.below intR_stable hb, h.ls.below intR_stable hb, h.cs.below insR_stable hb, h.ns, h.r64⟩
def unitR : Rep Un := fun w cs x => ∃ a b c, cs = [.string ⟨x.name.toArray⟩, a, .int .i64 x.result, b, c] ∧ UnAt w a b c x
theorem unitR_stable : Stable unitR := fun _ _ _ _ ⟨a, b, c, h1, h2⟩ hb => ⟨a, b, c, h1, h2.below hb⟩
/-- a program, by its four slices -/
structure PrAt (w : World) (c v b u : Value) (p : Pr) : Prop where
  cs : RowR 2 constR w c p.consts
  vs : RowR 5 varR w v p.vars
  bs : RowR 2 blkR w b p.blocks
  us : RowR 5 unitR w u p.units
theorem PrAt.below {w w' : World} {c v b u : Value} {p : Pr} (h : PrAt w c v b u p) (hb : Below w.heap.size w w') : PrAt w' c v b u p :=
  ⟨h.cs.below constR_stable hb, h.vs.below varR_stable hb, h.bs.below blkR_stable hb, h.us.below unitR_stable hb⟩
/-- the cells of a slice of variables -/
theorem var_at {w : World} {a : Option Addr} {n cap : Nat} {L : List Vr} (hv : RowR 5 varR w (.slice a n cap) L) {k : Nat} (hk : k < L.length) : ∃ b off, a = some ⟨b, off, none⟩ ∧ b < w.heap.size ∧ ∀ i x, L[i]? = some x →
    w.cell? ⟨b, off + i * 5, none⟩ = some (.string ⟨x.name.toArray⟩) ∧ w.cell? ⟨b, off + i * 5 + 1, none⟩ = some (.int .i64 x.t) ∧ w.cell? ⟨b, off + i * 5 + 2, none⟩ = some (.int .i64 x.n) ∧ w.cell? ⟨b, off + i * 5 + 3, none⟩ = some (.int .i64 x.area) ∧ w.cell? ⟨b, off + i * 5 + 4, none⟩ = some (.int .i64 x.init) ∧ sz x.name ∧ I64 x.t ∧ I64 x.n ∧ I64 x.area ∧ I64 x.init := by
  obtain ⟨b, off, e, hb, h⟩ := row_at hv hk
  refine ⟨b, off, e, hb, fun i x hx => ?_⟩
  obtain ⟨C, g1, g2, g3, g4⟩ := h i x hx
  subst g3
  exact ⟨g2 0 _ rfl, g2 1 _ rfl, g2 2 _ rfl, g2 3 _ rfl, g2 4 _ rfl, g4⟩
theorem blk_at {w : World} {a : Option Addr} {n cap : Nat} {L : List Bk} (hv : RowR 2 blkR w (.slice a n cap) L) {k : Nat} (hk : k < L.length) : ∃ b off, a = some ⟨b, off, none⟩ ∧ b < w.heap.size ∧ ∀ i x, L[i]? = some x →
    w.cell? ⟨b, off + i * 2, none⟩ = some (.string ⟨x.name.toArray⟩) ∧ w.cell? ⟨b, off + i * 2 + 1, none⟩ = some (.int .i64 x.kind) ∧ sz x.name ∧ I64 x.kind := by
  obtain ⟨b, off, e, hb, h⟩ := row_at hv hk
  refine ⟨b, off, e, hb, fun i x hx => ?_⟩
  obtain ⟨C, g1, g2, g3, g4⟩ := h i x hx
  subst g3
  exact ⟨g2 0 _ rfl, g2 1 _ rfl, g4⟩
theorem const_at {w : World} {a : Option Addr} {n cap : Nat} {L : List (Int × Int)} (hv : RowR 2 constR w (.slice a n cap) L) {k : Nat} (hk : k < L.length) : ∃ b off, a = some ⟨b, off, none⟩ ∧ b < w.heap.size ∧ ∀ i x, L[i]? = some x →
    w.cell? ⟨b, off + i * 2, none⟩ = some (.int .i64 x.1) ∧ w.cell? ⟨b, off + i * 2 + 1, none⟩ = some (.int .i64 x.2) ∧ I64 x.1 ∧ I64 x.2 := by
  obtain ⟨b, off, e, hb, h⟩ := row_at hv hk
  refine ⟨b, off, e, hb, fun i x hx => ?_⟩
  obtain ⟨C, g1, g2, g3, g4⟩ := h i x hx
  subst g3
  exact ⟨g2 0 _ rfl, g2 1 _ rfl, g4⟩
theorem unit_at {w : World} {a : Option Addr} {n cap : Nat} {L : List Un} (hv : RowR 5 unitR w (.slice a n cap) L) {k : Nat} (hk : k < L.length) : ∃ b off, a = some ⟨b, off, none⟩ ∧ b < w.heap.size ∧ ∀ i x, L[i]? = some x → ∃ u1 u3 u4,
    w.cell? ⟨b, off + i * 5, none⟩ = some (.string ⟨x.name.toArray⟩) ∧ w.cell? ⟨b, off + i * 5 + 1, none⟩ = some u1 ∧ w.cell? ⟨b, off + i * 5 + 2, none⟩ = some (.int .i64 x.result) ∧ w.cell? ⟨b, off + i * 5 + 3, none⟩ = some u3 ∧ w.cell? ⟨b, off + i * 5 + 4, none⟩ = some u4 ∧ UnAt w u1 u3 u4 x := by
  obtain ⟨b, off, e, hb, h⟩ := row_at hv hk
  refine ⟨b, off, e, hb, fun i x hx => ?_⟩
  obtain ⟨C, g1, g2, u1, u3, u4, g3, g4⟩ := h i x hx
  subst g3
  exact ⟨u1, u3, u4, g2 0 _ rfl, g2 1 _ rfl, g2 2 _ rfl, g2 3 _ rfl, g2 4 _ rfl, g4⟩
def fewU (x : Un) : Bool := decide (x.name.length ≤ 300 ∧ x.params.length ≤ 20 ∧ x.locals.length ≤ 1100 ∧ x.code.length ≤ 300)
def fewP (p : Pr) : Bool := decide ((p.consts.length ≤ 60 ∧ p.vars.length ≤ 70 ∧ p.blocks.length ≤ 40 ∧ p.units.length ≤ 10) ∧ (∀ x ∈ p.vars, x.name.length ≤ 300) ∧ (∀ x ∈ p.blocks, x.name.length ≤ 300) ∧ ∀ x ∈ p.units, fewU x = true)
end Go.Proofs.YtpeogdbfhfkngaaDoor

/- Layer 14: tables as plain lists: what is read of any bytes. -/
namespace Go.Proofs.YtpeogdbfhfkngaaDoor
open Go.RowKit
set_option linter.unusedSimpArgs false
set_option linter.unusedVariables false
/-- m rows, one behind the other -/
def rRows {R : Type} (row : Nat → Bool → R × Nat × Bool) : Nat → Nat → Bool → List R × Nat × Bool
  | 0, n, b => ([], n, b)
  | m + 1, n, b => ((rRows row m n b).1 ++ [(row (rRows row m n b).2.1 (rRows row m n b).2.2).1], (row (rRows row m n b).2.1 (rRows row m n b).2.2).2)
/-- what a table's bytes are read as -/
def getR {R : Type} (row : Nat → Bool → R × Nat × Bool) (limit : Int) (L : List UInt8) : List R × Int :=
  if (rNum L 2 0 false).2.2 = true then ([], 1) else if limit < (rNum L 2 0 false).1 then ([], 5) else
  if (rRows row (rNum L 2 0 false).1.toNat (rNum L 2 0 false).2.1 (rNum L 2 0 false).2.2).2.2 = true then ([], 1) else
  if 0 < leftOf L (rRows row (rNum L 2 0 false).1.toNat (rNum L 2 0 false).2.1 (rNum L 2 0 false).2.2).2.1 (rRows row (rNum L 2 0 false).1.toNat (rNum L 2 0 false).2.1 (rNum L 2 0 false).2.2).2.2 then ([], 4) else
  ((rRows row (rNum L 2 0 false).1.toNat (rNum L 2 0 false).2.1 (rNum L 2 0 false).2.2).1, 0)
theorem rRows_len {R : Type} (row : Nat → Bool → R × Nat × Bool) : ∀ m n b, (rRows row m n b).1.length = m
  | 0, n, b => rfl
  | m + 1, n, b => by simp [rRows, rRows_len row m n b]
/-- a row that reads what enc puts -/
structure Reads {R : Type} (row : List UInt8 → Nat → Bool → R × Nat × Bool) (enc : R → List UInt8) (ok : R → Bool) (good : R → Prop) : Prop where
  bad : ∀ L n, n ≤ L.length → (row L n true).2.2 = true
  at' : ∀ L n b, n ≤ L.length → n ≤ (row L n b).2.1 ∧ (row L n b).2.1 ≤ L.length
  fine : ∀ L n b, n ≤ L.length → L.length ≤ 100000000 → good (row L n b).1
  back : ∀ L n x T, ok x = true → good x → L.drop n = enc x ++ T → n ≤ L.length → row L n false = (x, n + (enc x).length, false)
  forth : ∀ L n, n ≤ L.length → (row L n false).2.2 = false → ok (row L n false).1 = true ∧ L.drop n = enc (row L n false).1 ++ L.drop (row L n false).2.1 ∧ (row L n false).2.1 = n + (enc (row L n false).1).length
theorem Reads.rows {R : Type} {row : List UInt8 → Nat → Bool → R × Nat × Bool} {enc : R → List UInt8} {ok : R → Bool} {good : R → Prop} (h : Reads row enc ok good) (L : List UInt8) (hL : L.length ≤ 100000000) : ∀ m n b, n ≤ L.length →
    n ≤ (rRows (row L) m n b).2.1 ∧ (rRows (row L) m n b).2.1 ≤ L.length ∧ (b = true → (rRows (row L) m n b).2.2 = true) ∧ ∀ x ∈ (rRows (row L) m n b).1, good x
  | 0, n, b, hn => ⟨Nat.le_refl _, hn, fun h => h, fun x hx => by simp [rRows] at hx⟩
  | m + 1, n, b, hn => by
    obtain ⟨h1, h2, h3, h4⟩ := h.rows L hL m n b hn
    obtain ⟨k1, k2⟩ := h.at' L (rRows (row L) m n b).2.1 (rRows (row L) m n b).2.2 h2
    refine ⟨Nat.le_trans h1 k1, k2, fun hb => ?_, fun x hx => ?_⟩
    · have := h3 hb
      show (row L (rRows (row L) m n b).2.1 (rRows (row L) m n b).2.2).2.2 = true
      rw [this]; exact h.bad L _ h2
    · rcases List.mem_append.1 hx with hx | hx
      · exact h4 x hx
      · rw [List.mem_singleton.1 hx]; exact h.fine L _ _ h2 hL
theorem drop_enc {L A T : List UInt8} {n : Nat} (h : L.drop n = A ++ T) (hn : n ≤ L.length) : L.drop (n + A.length) = T ∧ n + A.length ≤ L.length := by
  have hl := congrArg List.length h
  simp at hl
  refine ⟨?_, by omega⟩
  rw [← List.drop_drop, h]; exact List.drop_left' rfl
theorem Reads.rows_back {R : Type} {row : List UInt8 → Nat → Bool → R × Nat × Bool} {enc : R → List UInt8} {ok : R → Bool} {good : R → Prop} (h : Reads row enc ok good) (L : List UInt8) (l : List R) (n : Nat) (T : List UInt8) (hx : ∀ x ∈ l, ok x = true ∧ good x) (hd : L.drop n = l.flatMap enc ++ T) (hn : n ≤ L.length) :
    ∀ m, m ≤ l.length → rRows (row L) m n false = (l.take m, n + ((l.take m).flatMap enc).length, false)
  | 0, _ => by simp [rRows]
  | m + 1, hm => by
    have ih := h.rows_back L l n T hx hd hn m (by omega)
    obtain ⟨x, hxm⟩ : ∃ x, l[m]? = some x := get_some (by omega)
    have hts := take_snoc hxm
    have hmem := hx x (List.mem_of_getElem? hxm)
    have hsplit : l.flatMap enc ++ T = (l.take m).flatMap enc ++ (enc x ++ ((l.drop (m + 1)).flatMap enc ++ T)) := by
      have : l = l.take m ++ (x :: l.drop (m + 1)) := by
        have h1 := (List.take_append_drop (m + 1) l).symm
        rw [hts] at h1
        simpa using h1
      conv => lhs; rw [this]
      simp
    rw [hsplit] at hd
    obtain ⟨d1, d2⟩ := drop_enc hd hn
    have hb := h.back L _ x _ hmem.1 hmem.2 d1 d2
    simp only [rRows, ih, hb]
    rw [hts]
    simp [Nat.add_assoc]
theorem Reads.rows_forth {R : Type} {row : List UInt8 → Nat → Bool → R × Nat × Bool} {enc : R → List UInt8} {ok : R → Bool} {good : R → Prop} (h : Reads row enc ok good) (L : List UInt8) (hL : L.length ≤ 100000000) (n : Nat) (hn : n ≤ L.length) : ∀ m, (rRows (row L) m n false).2.2 = false →
    (∀ x ∈ (rRows (row L) m n false).1, ok x = true) ∧ L.drop n = (rRows (row L) m n false).1.flatMap enc ++ L.drop (rRows (row L) m n false).2.1
  | 0, _ => by simp [rRows]
  | m + 1, hb => by
    obtain ⟨h1, h2, h3, h4⟩ := h.rows L hL m n false hn
    have hb0 : (rRows (row L) m n false).2.2 = false := by
      cases hc : (rRows (row L) m n false).2.2
      · rfl
      · have hb' : (row L (rRows (row L) m n false).2.1 (rRows (row L) m n false).2.2).2.2 = false := hb
        rw [hc, h.bad L _ h2] at hb'
        cases hb'
    obtain ⟨k1, k2⟩ := h.rows_forth L hL n hn m hb0
    have hb' : (row L (rRows (row L) m n false).2.1 (rRows (row L) m n false).2.2).2.2 = false := hb
    rw [hb0] at hb'
    obtain ⟨f1, f2, f3⟩ := h.forth L _ h2 hb'
    have e : rRows (row L) (m + 1) n false = ((rRows (row L) m n false).1 ++ [(row L (rRows (row L) m n false).2.1 false).1], (row L (rRows (row L) m n false).2.1 false).2) := by
      simp only [rRows, hb0]
    rw [e]
    refine ⟨fun x hx => ?_, ?_⟩
    · rcases List.mem_append.1 hx with hx | hx
      · exact k1 x hx
      · rw [List.mem_singleton.1 hx]; exact f1
    · rw [k2, f2]; simp
theorem numV_put2 (n : Nat) (h : n < 65536) : numV (putL 2 n) = (n : Int) := by
  unfold numV
  rw [leV_putL n 2 (by omega)]
  unfold wrap64
  omega
theorem leV_inj : ∀ {A B : List UInt8}, A.length = B.length → leV A = leV B → A = B
  | [], [], _, _ => rfl
  | [], _ :: _, h, _ => by simp at h
  | _ :: _, [], h, _ => by simp at h
  | c :: A, d :: B, h, e => by
    have hc := c.toNat_lt
    have hd := d.toNat_lt
    simp only [leV] at e
    have h1 : c.toNat = d.toNat := by omega
    have h2 : leV A = leV B := by omega
    rw [leV_inj (by simpa using h) h2, UInt8.toNat_inj.1 h1]
theorem putL_num2 {B : List UInt8} (h : B.length = 2) : putL 2 (numV B) = B := by
  match B, h with
  | [c, d], _ =>
    have hc := c.toNat_lt
    have hd := d.toNat_lt
    have h4 : numV [c, d] = (c.toNat : Int) + 256 * (d.toNat : Int) := by unfold numV wrap64; simp only [leV]; omega
    rw [h4]
    have e1 : putL 2 ((c.toNat : Int) + 256 * (d.toNat : Int)) = [byteAt ((c.toNat : Int) + 256 * (d.toNat : Int)) 0, byteAt ((c.toNat : Int) + 256 * (d.toNat : Int)) 1] := rfl
    rw [e1]
    have b0 := byteAt_val ((c.toNat : Int) + 256 * (d.toNat : Int)) 0
    have b1 := byteAt_val ((c.toNat : Int) + 256 * (d.toNat : Int)) 1
    have p0 : (2 : Int) ^ (8 * 0) = 1 := by decide
    have p1 : (2 : Int) ^ (8 * 1) = 256 := by decide
    rw [p0] at b0
    rw [p1] at b1
    have f0 : (byteAt ((c.toNat : Int) + 256 * (d.toNat : Int)) 0) = c := UInt8.toNat_inj.1 (by omega)
    have f1 : (byteAt ((c.toNat : Int) + 256 * (d.toNat : Int)) 1) = d := UInt8.toNat_inj.1 (by omega)
    rw [f0, f1]
theorem getR_eq {R : Type} {row : Nat → Bool → R × Nat × Bool} {limit : Int} {L : List UInt8} {c : Int} {n n' : Nat} {l : List R} (h1 : rNum L 2 0 false = (c, n, false)) (h2 : ¬ limit < c) (h3 : rRows row c.toNat n false = (l, n', false)) (h4 : ¬ 0 < leftOf L n' false) : getR row limit L = (l, 0) := by
  unfold getR
  rw [h1]
  dsimp only
  rw [h3, if_neg (by simp), if_neg h2]
  dsimp only
  rw [if_neg (by simp), if_neg h4]
theorem gb_num {L B : List UInt8} {n : Nat} (h2 : n < 65536) (hL : putL 2 n ++ B = L) : rNum L 2 0 false = ((n : Int), 2, false) := by
  have hp : (putL 2 (n : Int)).length = 2 := putL_len 2 _
  have hlen : L.length = 2 + B.length := by rw [← hL, List.length_append, hp]
  have ht : (L.drop 0).take 2 = putL 2 n := by rw [← hL, List.drop_zero]; exact List.take_left' hp
  have h0 : 0 + 2 ≤ L.length := by omega
  have hT := rTake_ok h0
  unfold rNum
  rw [hT, ht, numV_put2 _ h2]
theorem Reads.get_back {R : Type} {row : List UInt8 → Nat → Bool → R × Nat × Bool} {enc : R → List UInt8} {ok : R → Bool} {good : R → Prop} (h : Reads row enc ok good) (limit : Nat) (l : List R) (L : List UInt8) (hL : putL 2 l.length ++ l.flatMap enc = L) (hl : l.length ≤ limit) (h2 : l.length < 65536) (hx : ∀ x ∈ l, ok x = true ∧ good x) :
    getR (row L) limit L = (l, 0) := by
  have hn := gb_num h2 hL
  have hp : (putL 2 (l.length : Int)).length = 2 := putL_len 2 _
  have hlen : L.length = 2 + (l.flatMap enc).length := by rw [← hL, List.length_append, hp]
  have hd : L.drop 2 = l.flatMap enc ++ [] := by rw [← hL, List.append_nil]; exact List.drop_left' hp
  have hr := h.rows_back L l 2 [] hx hd (by omega) l.length (Nat.le_refl _)
  rw [List.take_length] at hr
  have e1 : ¬ ((limit : Int) < (l.length : Int)) := by omega
  have e2 : ¬ 0 < leftOf L (2 + (l.flatMap enc).length) false := by
    unfold leftOf
    rw [if_neg (by simp)]
    omega
  exact getR_eq hn e1 hr e2
theorem getR_cases {R : Type} {row : Nat → Bool → R × Nat × Bool} {limit : Int} {L : List UInt8} (h : (getR row limit L).2 = 0) :
    ∃ c n l n', rNum L 2 0 false = (c, n, false) ∧ ¬ limit < c ∧ rRows row c.toNat n false = (l, n', false) ∧ ¬ 0 < leftOf L n' false ∧ getR row limit L = (l, 0) := by
  obtain ⟨A, hA⟩ : ∃ A, rNum L 2 0 false = A := ⟨_, rfl⟩
  obtain ⟨c, n, b⟩ := A
  cases b
  · by_cases h2 : limit < c
    · exfalso
      unfold getR at h
      rw [hA] at h
      dsimp only at h
      rw [if_neg (by simp), if_pos h2] at h
      simp at h
    · obtain ⟨Y, hY⟩ : ∃ Y, rRows row c.toNat n false = Y := ⟨_, rfl⟩
      obtain ⟨l, n', b'⟩ := Y
      cases b'
      · by_cases h4 : 0 < leftOf L n' false
        · exfalso
          unfold getR at h
          rw [hA] at h
          dsimp only at h
          rw [hY, if_neg (by simp), if_neg h2] at h
          dsimp only at h
          rw [if_neg (by simp), if_pos h4] at h
          simp at h
        · exact ⟨c, n, l, n', hA, h2, hY, h4, getR_eq hA h2 hY h4⟩
      · exfalso
        unfold getR at h
        rw [hA] at h
        dsimp only at h
        rw [hY, if_neg (by simp), if_neg h2] at h
        dsimp only at h
        rw [if_pos rfl] at h
        simp at h
  · exfalso
    unfold getR at h
    rw [hA] at h
    dsimp only at h
    rw [if_pos rfl] at h
    simp at h
theorem numV2 {B : List UInt8} (h : B.length = 2) : ∃ k : Nat, numV B = k ∧ putL 2 (k : Int) = B := by
  have h1 := putL_num2 h
  have h2 := leV_lt B
  rw [h] at h2
  have h3 : numV B = (leV B : Int) := by
    unfold numV wrap64
    generalize leV B = x at *
    omega
  exact ⟨leV B, h3, by rw [← h3]; exact h1⟩
theorem num2 {L : List UInt8} {c : Int} {n : Nat} {b : Bool} (h : rNum L 2 0 false = (c, n, b)) (hb : b = false) : 2 ≤ L.length ∧ n = 2 ∧ c = numV (L.take 2) := by
  by_cases hz : 0 + 2 ≤ L.length
  · have hT := rTake_ok hz
    have h1 : rNum L 2 0 false = (numV (L.take 2), 2, false) := by
      unfold rNum
      rw [hT, List.drop_zero]
    rw [h1] at h
    have e1 := congrArg Prod.fst h
    have e2 := congrArg (fun p => p.2.1) h
    exact ⟨by omega, e2.symm, e1.symm⟩
  · exfalso
    have h1 : rNum L 2 0 false = (numV [], 0, true) := by
      unfold rNum
      rw [rTake_fail (by omega)]
    rw [h1] at h
    have e2 := congrArg (fun p => p.2.2) h
    have e3 : true = b := e2
    rw [hb] at e3
    cases e3
theorem Reads.get_forth {R : Type} {row : List UInt8 → Nat → Bool → R × Nat × Bool} {enc : R → List UInt8} {ok : R → Bool} {good : R → Prop} (h : Reads row enc ok good) (limit : Nat) (L : List UInt8) (hL : L.length ≤ 100000000) (he : (getR (row L) limit L).2 = 0) :
    (getR (row L) limit L).1.length ≤ limit ∧ (∀ x ∈ (getR (row L) limit L).1, ok x = true) ∧ putL 2 (getR (row L) limit L).1.length ++ (getR (row L) limit L).1.flatMap enc = L := by
  obtain ⟨c, n, l, n', h1, h2, h3, h4, h5⟩ := getR_cases he
  obtain ⟨hz, hn, hc⟩ := num2 h1 rfl
  obtain ⟨k, hk, hp⟩ := numV2 (show (L.take 2).length = 2 by rw [List.length_take]; omega)
  rw [hk] at hc
  subst hc
  subst hn
  rw [h5]
  rw [Int.toNat_natCast] at h3
  have hb2 : (rRows (row L) k 2 false).2.2 = false := by rw [h3]
  obtain ⟨f1, f2⟩ := h.rows_forth L hL 2 hz _ hb2
  obtain ⟨_, r2, _, _⟩ := h.rows L hL k 2 false hz
  have hlen := rRows_len (row L) k 2 false
  rw [h3] at f1 f2 r2 hlen
  dsimp only at f1 f2 r2 hlen ⊢
  have hend : n' = L.length := by
    unfold leftOf at h4
    rw [if_neg (by simp)] at h4
    omega
  rw [hend, List.drop_length, List.append_nil] at f2
  refine ⟨by omega, f1, ?_⟩
  rw [hlen, ← f2, hp, List.take_append_drop]
end Go.Proofs.YtpeogdbfhfkngaaDoor

/- Layer 14: numbers and texts that are read of any bytes. -/
namespace Go.Proofs.YtpeogdbfhfkngaaDoor
open Go.RowKit
set_option linter.unusedSimpArgs false
set_option linter.unusedVariables false
theorem rNum_bad (L : List UInt8) (N n : Nat) : rNum L N n true = (0, n, true) := by
  unfold rNum; rw [rTake_bad, numV_nil]
theorem rText_bad (L : List UInt8) (n : Nat) : rText L n true = ([], n, true) := by
  unfold rText; rw [rNum_bad]; exact rTake_bad L 0 n
theorem rNum_at (L : List UInt8) (N n : Nat) (b : Bool) (hn : n ≤ L.length) : n ≤ (rNum L N n b).2.1 ∧ (rNum L N n b).2.1 ≤ L.length := by
  obtain ⟨h1, h2, _⟩ := rTake_at L N n b hn
  exact ⟨h1, h2⟩
theorem rText_at (L : List UInt8) (n : Nat) (b : Bool) (hn : n ≤ L.length) : n ≤ (rText L n b).2.1 ∧ (rText L n b).2.1 ≤ L.length := by
  obtain ⟨h1, h2⟩ := rNum_at L 1 n b hn
  obtain ⟨k1, k2, _⟩ := rTake_at L (rNum L 1 n b).1 (rNum L 1 n b).2.1 (rNum L 1 n b).2.2 h2
  exact ⟨Nat.le_trans h1 k1, k2⟩
theorem numV_in (B : List UInt8) : I64 (numV B) := by
  unfold numV
  generalize (leV B : Int) = x
  unfold I64 wrap64
  omega
theorem numV_byte {B : List UInt8} (h : B.length ≤ 1) : 0 ≤ numV B ∧ numV B ≤ 255 := by
  match B, h with
  | [], _ => rw [numV_nil]; omega
  | [c], _ =>
    rw [numV_one]
    have := c.toNat_lt
    omega
theorem rNum1_fit (L : List UInt8) (n : Nat) (b : Bool) : 0 ≤ (rNum L 1 n b).1 ∧ (rNum L 1 n b).1 ≤ 255 := numV_byte (rTake_len8 L 1 n b)
theorem rText_len (L : List UInt8) (n : Nat) (b : Bool) : (rText L n b).1.length ≤ 255 := by
  have h := rNum1_fit L n b
  unfold rText
  generalize (rNum L 1 n b).1 = c at *
  unfold rTake
  split
  · simp
  · split
    · simp
    · rw [List.length_take]; omega
theorem rNum_back {L B T : List UInt8} {n : Nat} (h : L.drop n = B ++ T) (hn : n ≤ L.length) : rNum L B.length n false = (numV B, n + B.length, false) := by
  obtain ⟨d1, d2⟩ := drop_enc h hn
  unfold rNum
  rw [rTake_ok d2, h, List.take_left' rfl]
theorem rNum_forth {L : List UInt8} {N n : Nat} (hb : (rNum L N n false).2.2 = false) : n + N ≤ L.length ∧ rNum L N n false = (numV ((L.drop n).take N), n + N, false) ∧ L.drop n = (L.drop n).take N ++ L.drop (n + N) ∧ ((L.drop n).take N).length = N := by
  by_cases hz : n + N ≤ L.length
  · refine ⟨hz, ?_, ?_, by rw [List.length_take, List.length_drop]; omega⟩
    · unfold rNum; rw [rTake_ok hz]
    · rw [← List.drop_drop, List.take_append_drop]
  · exfalso
    have : (rNum L N n false).2.2 = true := by unfold rNum; rw [rTake_fail (by omega)]
    rw [this] at hb
    cases hb
theorem rText_back {L s T : List UInt8} {n : Nat} (h : L.drop n = (UInt8.ofNat s.length :: s) ++ T) (hn : n ≤ L.length) (hs : s.length ≤ 255) : rText L n false = (s, n + (1 + s.length), false) := by
  have h1 : L.drop n = [UInt8.ofNat s.length] ++ (s ++ T) := by rw [h]; simp
  have h2 := rNum_back h1 hn
  obtain ⟨d1, d2⟩ := drop_enc h1 hn
  obtain ⟨f1, f2⟩ := drop_enc d1 d2
  have hc : numV [UInt8.ofNat s.length] = (s.length : Int) := by rw [numV_one, UInt8.toNat_ofNat']; omega
  rw [show [UInt8.ofNat s.length].length = 1 from rfl] at h2 d1 d2 f1 f2
  unfold rText
  rw [h2]
  dsimp only
  rw [hc, rTake_ok f2, d1, List.take_left' rfl, Nat.add_assoc]
theorem rText_forth {L : List UInt8} {n : Nat} (hb : (rText L n false).2.2 = false) : (rText L n false).1.length ≤ 255 ∧ L.drop n = (UInt8.ofNat (rText L n false).1.length :: (rText L n false).1) ++ L.drop (rText L n false).2.1 ∧ (rText L n false).2.1 = n + (1 + (rText L n false).1.length) := by
  have hb0 : (rNum L 1 n false).2.2 = false := by
    cases hc : (rNum L 1 n false).2.2
    · rfl
    · unfold rText at hb; rw [hc, rTake_bad] at hb; cases hb
  obtain ⟨h1, h2, h3, h4⟩ := rNum_forth hb0
  obtain ⟨c, hc⟩ : ∃ c, (L.drop n).take 1 = [c] := ⟨_, take_one h1⟩
  rw [hc] at h2 h3
  have hT : rText L n false = rTake L (c.toNat : Int) (n + 1) false := by unfold rText; rw [h2, numV_one]
  rw [hT] at hb ⊢
  have hlt := c.toNat_lt
  by_cases hz : n + 1 + c.toNat ≤ L.length
  · rw [rTake_ok hz]
    dsimp only
    have hl : ((L.drop (n + 1)).take c.toNat).length = c.toNat := by rw [List.length_take, List.length_drop]; omega
    rw [hl]
    refine ⟨by omega, ?_, by omega⟩
    have hdd : L.drop (n + 1 + c.toNat) = (L.drop (n + 1)).drop c.toNat := by rw [List.drop_drop]
    rw [h3, show UInt8.ofNat c.toNat = c from by simp, hdd]
    show c :: L.drop (n + 1) = c :: (_ ++ _)
    rw [List.take_append_drop]
  · exfalso
    rw [rTake_fail (by omega)] at hb
    cases hb
theorem putL8_num {B : List UInt8} (h : B.length = 8) : putL 8 (numV B) = B := by
  refine leV_inj (by rw [putL_len, h]) ?_
  have h1 := leV_putL (numV B) 8 (by omega)
  have h2 := leV_lt B
  rw [h] at h2
  have h3 : (numV B) % 256 ^ 8 = (leV B : Int) := by
    unfold numV wrap64
    generalize leV B = x at *
    omega
  rw [h3] at h1
  exact_mod_cast h1
end Go.Proofs.YtpeogdbfhfkngaaDoor

/- Rows of the call's own: with a lower bound; as what is appended. -/
namespace Go.Proofs.YtpeogdbfhfkngaaDoor
open Go.RowKit
set_option linter.unusedSimpArgs false
set_option linter.unusedVariables false
theorem own_low {w : World} {B C : Nat} {e : TypeId} {q n : Nat} {v : Value} {xs : List Value} (h : w.ownsRow C e q v n xs) (hB : B ≤ C) : w.ownsRow B e q v n xs := by
  obtain ⟨hl, h⟩ := h
  refine ⟨hl, ?_⟩
  rcases h with h | ⟨g, cap, cur, h0, h1, h2⟩
  · exact Or.inl h
  · exact Or.inr ⟨g, cap, cur, h0, by omega, h2⟩
theorem src_own {w : World} {B : Nat} {e : TypeId} {n : Nat} {v : Value} {xs : List Value} (h : w.ownsRow B e 1 v n xs) : Src w v n xs := by
  obtain ⟨hl, h⟩ := h
  rcases h with ⟨rfl, h0⟩ | ⟨g, cap, cur, rfl, hb, hg, h1, h2, h3, h4⟩
  · subst h0; exact Or.inl ⟨rfl, rfl, List.length_eq_zero_iff.1 (by simpa using hl)⟩
  · refine Or.inr ⟨_, cap, rfl, fun j u hu => ?_⟩
    have hj : j < n := by
      by_cases hj : j < n
      · exact hj
      · rw [List.getElem?_eq_none (by omega)] at hu; cases hu
    rw [← h4, List.getElem?_take, if_pos (by omega)] at hu
    rw [add_at]
    unfold World.cell?
    rw [show (⟨g, 0 + j, none⟩ : Addr).block = g from rfl, hg]
    simpa using hu
end Go.Proofs.YtpeogdbfhfkngaaDoor

/- Layer 15: numbers of bytes; a number with a limit; a list of types. -/
namespace Go.Proofs.YtpeogdbfhfkngaaDoor
open Go.RowKit
set_option linter.unusedSimpArgs false
set_option linter.unusedVariables false
def natL (B : List UInt8) : List Int := B.map fun c => (c.toNat : Int)
theorem natL_len (B : List UInt8) : (natL B).length = B.length := by simp [natL]
theorem natL_fit (B : List UInt8) : (natL B).all fitB = true := by
  rw [List.all_eq_true]
  intro z hz
  obtain ⟨c, _, rfl⟩ := List.mem_map.1 hz
  have := c.toNat_lt
  exact fitB_yes (by omega) (by omega)
theorem natL_I64 (B : List UInt8) : ∀ z ∈ natL B, I64 z := by
  intro z hz
  obtain ⟨c, _, rfl⟩ := List.mem_map.1 hz
  have := c.toNat_lt
  unfold I64; omega
theorem byteO_nat (c : UInt8) : byteO (c.toNat : Int) = c := by
  unfold byteO
  have := c.toNat_lt
  rw [show ((c.toNat : Int) % 256).toNat = c.toNat by omega]
  simp
theorem natL_byteO (B : List UInt8) : (natL B).map byteO = B := by
  unfold natL
  rw [List.map_map]
  conv => rhs; rw [← List.map_id B]
  exact List.map_congr_left (fun c _ => byteO_nat c)
theorem byteO_natL {L : List Int} (h : L.all fitB = true) : natL (L.map byteO) = L := by
  unfold natL
  rw [List.map_map]
  conv => rhs; rw [← List.map_id L]
  refine List.map_congr_left (fun z hz => ?_)
  have := of_decide_eq_true (List.all_eq_true.1 h z hz : fitB z = true)
  show ((byteO z).toNat : Int) = z
  rw [byteO_val]; omega
theorem made_rowI {w : World} {N : Nat} {C : Array Value} {M : List Int} (hC : C.size = N) (hm : N ≤ maxLen) (hL : N = M.length) (h : ∀ (i : Nat) (z : Int), M[i]? = some z → C[i]? = some (.int .i64 z)) : (w.alloc (.cells C 3)).ownsRow w.heap.size 3 1 (.slice (some ⟨w.heap.size, 0, none⟩) N N) M.length (iV M) := by
  subst hL
  refine ⟨by simp [iV], Or.inr ⟨w.heap.size, M.length, C, rfl, Nat.le_refl _, alloc_get rfl, Nat.le_refl _, hm, by omega, ?_⟩⟩
  apply List.ext_getElem?
  intro i
  rw [List.getElem?_take]
  by_cases hi : i < M.length
  · rw [if_pos (by omega)]
    obtain ⟨c, hc⟩ := get_some (L := M) (n := i) (by omega)
    have := h i c hc
    simp [iV, hc, this]
  · rw [if_neg (by omega), List.getElem?_eq_none (by simp [iV]; omega)]
set_option maxHeartbeats 2000000 in
theorem unit_numbers (v : Value) (B : List UInt8) (w : World) (hv : RowAt w v B.length (byteV B)) (hm : B.length ≤ 100000) :
    Calls Tryd.prog 58 #[v] w fun e w' => ∃ r, e = .returned r ∧ w'.ownsRow w.heap.size 3 1 r (natL B).length (iV (natL B)) ∧ Below w.heap.size w w' := by
  obtain ⟨i, hi, hz, hsize, hby⟩ : ∃ i, Tryd.prog.info? 3 = some i ∧ i.zero = some (.int .i64 0) ∧ i.size = 1 ∧ i.bytes = 8 := ⟨(Tryd.prog.info? 3).get!, by kernel_rfl, by kernel_rfl, by kernel_rfl, by kernel_rfl⟩
  obtain ⟨sa, ca, rfl⟩ : ∃ a c, v = .slice a B.length c := by
    rcases hv with ⟨a, cap, h1, h2, _⟩ | ⟨b, off, cap, h1, _⟩
    · exact ⟨a, cap, by rw [h2]; exact h1⟩
    · exact ⟨_, cap, h1⟩
  obtain ⟨N, hN⟩ : ∃ N, B.length = N := ⟨_, rfl⟩
  have HNL := Lib.hid (show N = (natL B).length by rw [natL_len, hN])
  rw [hN] at hv hm
  rw [hN]
  have hmk := run_make w 22 3 i _ Tryd.underlying22 hi hz .i64 .i64 (N : Int) (N : Int) (by omega) (by omega) (by rw [hby]; omega) (by omega)
  rw [hsize, Nat.mul_one, show ((N : Int)).toNat = N from by omega] at hmk
  obtain ⟨Z, hZ⟩ : ∃ Z, madeCells (Value.int .i64 0).cells N = Z := ⟨_, rfl⟩
  have hZs : Z.size = N := by rw [← hZ]; simp [madeCells]
  rw [hZ] at hmk
  clear hZ hi hz hsize hby
  go_enter Tryd.func58, Tryd.ntmps58
  go_wp2_with fail
  go_loopw [11] (fun j wr => ∃ (k : Nat) (C : Array Value), k ≤ N ∧ j = .int .i64 k ∧ C.size = N ∧ Hid (∀ (i : Nat) (x : UInt8), i < k → B[i]? = some x → C[i]? = some (.int .i64 (x.toNat : Int))) ∧ wr = w.alloc (.cells C 3)) (fun j _ => N - (intOf j).toNat)
  case atStart => exact ⟨0, Z, by omega, rfl, hZs, Lib.hid (fun i x h => by omega), rfl⟩
  case round =>
    clear hmk
    obtain ⟨k, C, hk, rfl, hCs, hall, rfl⟩ := hrel
    have hB : Below w.heap.size w (w.alloc (.cells C 3)) := (Below.refl _ _).alloc (Nat.le_refl _) _
    by_cases hlt : k < N
    · obtain ⟨x, hx⟩ : ∃ x, B[k]? = some x := get_some (by omega)
      rcases hv with ⟨a0, cap, h1, h2, _⟩ | ⟨b, off, cap, h1, h2, h3, h4, h5, h6⟩
      · omega
      injection h1 with h1 h1' h1''
      subst h1 h1''
      have c0 := h6 k hlt
      have c0 := (hB.cell (p := ⟨b, off + k, none⟩) h5).trans c0
      have hxv : byteV B k = .int .u8 (x.toNat : Int) := by simp [byteV, List.getD, hx]
      rw [hxv] at c0
      obtain ⟨u0, hu0⟩ : ∃ u0, C[k]? = some u0 := ⟨C[k]'(by omega), by simp [hCs, hlt]⟩
      have hn := Lib.hid (show ∀ (i : Nat) (y : UInt8), i < k + 1 → B[i]? = some y → (C.setIfInBounds k (.int .i64 (x.toNat : Int)))[i]? = some (.int .i64 (y.toNat : Int)) from fun i y hi hy => by
        by_cases hik : i = k
        · subst hik
          rw [hx] at hy
          obtain rfl := Option.some.inj hy
          simp [Array.getElem?_setIfInBounds, hCs, hlt]
        · rw [Array.getElem?_setIfInBounds, if_neg (by omega)]
          exact hall.out i y (by omega) hy)
      have hxl := x.toNat_lt
      clear h6 hx hB hxv
      generalize x.toNat = xn at *
      go_wp2_with fail
      go_roundw
      case rel => exact ⟨k + 1, _, by omega, by simp, by simp [hCs], hn.out, rfl⟩
      case measure => first | (simp [intOf]; done) | (simp [intOf]; omega)
    · obtain rfl : k = N := by omega
      go_wp2_with fail
      go_ret
      refine ⟨_, rfl, made_rowI hCs (by unfold maxLen; omega) HNL.out (fun i z hz => ?_), hB⟩
      have hi : i < B.length := by have := lt_of_get hz; rwa [natL_len] at this
      have hbi : B[i]? = some B[i] := by simp [hi]
      have hci : z = (B[i].toNat : Int) := by simpa [natL, hi] using hz.symm
      rw [hci]
      exact hall.out i _ (by omega) hbi
/-- a number of N bytes that has a limit: it, or why there is none -/
def cntU (B : List UInt8) (N : Nat) (lim : Int) (n : Nat) (bad : Bool) : Int × Int :=
  if (rNum B N n bad).2.2 = true then (0, 1) else if lim < (rNum B N n bad).1 then (0, 5) else ((rNum B N n bad).1, 0)
set_option maxHeartbeats 2000000 in
theorem unit_counted (g q : Nat) (B : List UInt8) (n N : Nat) (bad : Bool) (z lim : Int) (w : World) (h : RdAt w g q B n bad) (hN : near8 z = N) (h8 : N ≤ 8) :
    Calls Tryd.prog 51 #[.pointer (some ⟨g, 0, none⟩), .int .i64 z, .int .i64 lim] w fun e w' => e = .returned (.tuple #[.int .i64 (cntU B N lim n bad).1, .int .i64 (cntU B N lim n bad).2]) ∧ RdAt w' g q B (rNum B N n bad).2.1 (rNum B N n bad).2.2 ∧ w.grownBy w' (some g) := by
  have HM := Lib.hid (rd_Num g q B n N bad z w h hN h8)
  unfold cntU
  obtain ⟨A, hA⟩ : ∃ A, rNum B N n bad = A := ⟨_, rfl⟩
  rw [hA] at HM ⊢
  obtain ⟨c, n1, b1⟩ := A
  dsimp only at HM ⊢
  clear hA h
  go_enter Tryd.func51, Tryd.ntmps51
  go_wp2_with fail
  refine HM.out.mono ?_; rintro e w1 ⟨rfl, hR, hG⟩
  have HR := Lib.hid hR
  have HG := Lib.hid hG
  clear hR hG HM
  go_wp2_with fail
  refine (reader_Bad g q B n1 b1 w1 HR.out).mono ?_; rintro e w2 ⟨rfl, rfl⟩
  cases b1
  · by_cases hc : lim < c
    · have q0 : (lim < c) = True := eq_true hc
      go_wp2_with fail
      go_returns
      exact ⟨by first | rfl | (rw [if_neg (by decide), if_pos hc]; rfl), HR.out, HG.out⟩
    · have q0 : (lim < c) = False := eq_false hc
      go_wp2_with fail
      go_returns
      exact ⟨by first | rfl | (rw [if_neg (by decide), if_neg hc]; rfl), HR.out, HG.out⟩
  · go_wp2_with fail
    go_returns
    exact ⟨by first | rfl | (rw [if_pos rfl]; rfl), HR.out, HG.out⟩
/-- a list of types, with how many there are ahead -/
def tysU (B : List UInt8) (N : Nat) (lim : Int) (n : Nat) (bad : Bool) : (List Int × Int) × Nat × Bool :=
  if (cntU B N lim n bad).2 ≠ 0 then (([], (cntU B N lim n bad).2), (rNum B N n bad).2) else
  if (rTake B (cntU B N lim n bad).1 (rNum B N n bad).2.1 (rNum B N n bad).2.2).2.2 = true then (([], 1), (rTake B (cntU B N lim n bad).1 (rNum B N n bad).2.1 (rNum B N n bad).2.2).2) else
  ((natL (rTake B (cntU B N lim n bad).1 (rNum B N n bad).2.1 (rNum B N n bad).2.2).1, 0), (rTake B (cntU B N lim n bad).1 (rNum B N n bad).2.1 (rNum B N n bad).2.2).2)
set_option maxHeartbeats 2000000 in
theorem unit_types (g q : Nat) (B : List UInt8) (n N : Nat) (bad : Bool) (z lim : Int) (w : World) (h : RdAt w g q B n bad) (hN : near8 z = N) (h8 : N ≤ 8) (hBl : B.length ≤ 100000) :
    Calls Tryd.prog 49 #[.pointer (some ⟨g, 0, none⟩), .int .i64 z, .int .i64 lim] w fun e w' => ∃ r, e = .returned (.tuple #[r, .int .i64 (tysU B N lim n bad).1.2]) ∧ w'.ownsRow w.heap.size 3 1 r (tysU B N lim n bad).1.1.length (iV (tysU B N lim n bad).1.1) ∧ RdAt w' g q B (tysU B N lim n bad).2.1 (tysU B N lim n bad).2.2 ∧ w.grownBy w' (some g) := by
  have HC := Lib.hid (unit_counted g q B n N bad z lim w h hN h8)
  unfold tysU
  obtain ⟨A, hA⟩ : ∃ A, rNum B N n bad = A := ⟨_, rfl⟩
  obtain ⟨D, hD⟩ : ∃ D, cntU B N lim n bad = D := ⟨_, rfl⟩
  rw [hA, hD] at HC
  rw [hA, hD]
  obtain ⟨c, n1, b1⟩ := A
  obtain ⟨d, e1⟩ := D
  dsimp only at HC ⊢
  have HT := Lib.hid (fun W hW => rd_Take g q B n1 b1 d W hW)
  have hTl := rTake_len B d n1 b1
  obtain ⟨E, hE⟩ : ∃ E, rTake B d n1 b1 = E := ⟨_, rfl⟩
  rw [hE] at HT hTl ⊢
  obtain ⟨t, n2, b2⟩ := E
  dsimp only at HT hTl ⊢
  clear hA hD hE h
  go_enter Tryd.func49, Tryd.ntmps49
  go_wp2_with fail
  refine HC.out.mono ?_; rintro e w1 ⟨rfl, hR, hG⟩
  have HR := Lib.hid hR
  have HG := Lib.hid hG
  clear hR hG HC
  by_cases h0 : e1 = 0
  · subst h0
    go_wp2_with fail
    refine (HT.out w1 HR.out).mono ?_; rintro e w2 ⟨r2, rfl, hr2, hR2, hG2⟩
    have Hr2 := Lib.hid hr2
    have HR2 := Lib.hid hR2
    have HG2 := Lib.hid (grown_grown HG.out hG2)
    clear hr2 hR2 hG2
    go_wp2_with fail
    refine (unit_numbers r2 t w2 Hr2.out (by omega)).mono ?_; rintro e w3 ⟨r3, rfl, hr3, hb3⟩
    have Hr3 := Lib.hid (own_low hr3 HG2.out.size)
    have HR3 := Lib.hid (rd_below HR2.out hb3)
    have HG3 := Lib.hid (grown_below HG2.out hb3)
    clear hr3 hb3
    go_wp2_with fail
    refine (reader_Bad g q B n2 b2 w3 HR3.out).mono ?_; rintro e w4 ⟨rfl, rfl⟩
    cases b2
    · go_wp2_with fail
      go_returns
      exact ⟨_, rfl, Hr3.out, HR3.out, HG3.out⟩
    · go_wp2_with fail
      go_returns
      exact ⟨_, rfl, ownsRow_none' _ _ _ _, HR3.out, HG3.out⟩
  · have q0 : (e1 != 0) = true := by simpa using h0
    go_wp2_with fail
    go_returns
    exact ⟨_, rfl, ownsRow_none' _ _ _ _, HR.out, HG.out⟩
end Go.Proofs.YtpeogdbfhfkngaaDoor
