/- Merged texts: Row, Rep, Seq, Grow, More, MoreB, RowTwo, HeldMore, Own, Octet, OctetPut, TabA, UnA, Pgm, Keep, Boxed, Op, OpR, CodePure, OctetRef, CThree, CodeEnc, Instr, OpRight, CodeSame. -/
import Derived.Test.YtjikkipdmonndaaDoorChecked
import Derived.Handy
import Derived.Lib.Hide
import Derived.Deep.Draws
import Derived.Laws.AppendOwnNone
import Derived.Laws.OwnMore
import Derived.Maps.AppendAt
import Derived.WalkSmall
import Derived.Deep.RegionHeld3
import Derived.Laws.IdiomStrings
import Derived.Laws.BytesString
import Derived.OwnWalk
import Derived.Laws.CopyOwn
import Derived.Laws.MakeOwn
import Derived.WalkSpells
import Derived.WalkLawsBesides
import Derived.Deep.DeepAppendRoom
import Derived.LoopTactic
import Derived.WalkKit
import Derived.Deep.QuietTactic
import Derived.BigQuiet
import Derived.IntWalk
import Derived.ChangeKeysEq
/- Slices as rows of cells: one word for nil, empty and other slices. -/
namespace Go.Proofs.YtjikkipdmonndaaDoor
open Go.RowKit
/-- v is a slice of n elements of one cell each, the i-th of which is f i -/
def RowAt (w : World) (v : Value) (n : Nat) (f : Nat → Value) : Prop :=
  (∃ a cap, v = .slice a 0 cap ∧ n = 0 ∧ (a = none → cap = 0)) ∨ ∃ b off cap, v = .slice (some ⟨b, off, none⟩) n cap ∧ 0 < n ∧ n ≤ cap ∧ cap ≤ maxLen ∧ b < w.heap.size ∧ ∀ i, i < n → w.cell? ⟨b, off + i, none⟩ = some (f i)
theorem RowAt.below {w w' : World} {v : Value} {n : Nat} {f : Nat → Value} (h : RowAt w v n f) (hb : Below w.heap.size w w') : RowAt w' v n f := by
  rcases h with h | ⟨b, off, cap, h1, h2, h3, h4, h5, h6⟩
  · exact Or.inl h
  · exact Or.inr ⟨b, off, cap, h1, h2, h3, h4, Nat.lt_of_lt_of_le h5 hb.size, fun i hi => (hb.cell (p := ⟨b, off + i, none⟩) h5).trans (h6 i hi)⟩
theorem RowAt.le {w : World} {v : Value} {n : Nat} {f : Nat → Value} (h : RowAt w v n f) : n ≤ 9223372036854775807 := by
  rcases h with ⟨_, _, _, h, _⟩ | ⟨b, off, cap, h1, h2, h3, h4, h5, h6⟩
  · omega
  · unfold maxLen at h4; omega
def byteV (l : List UInt8) (i : Nat) : Value := .int .u8 ((l.getD i 0).toNat : Int)
def boolV (l : List Bool) (i : Nat) : Value := .bool (l.getD i false)
def intV (l : List Int) (i : Nat) : Value := .int .i64 (l.getD i 0)
/-- a cell of a block that was just made -/
theorem cell_new (w : World) (C : Array Value) (t : TypeId) (fr : Nat × Nat) (i : Nat) {v : Value} (h : C[i]? = some v) : (w.alloc (.cells C t fr)).cell? ⟨w.heap.size, i, none⟩ = some v := by
  have e : (w.alloc (.cells C t fr)).heap[w.heap.size]? = some (.cells C t fr) := by show (w.heap.push _)[w.heap.size]? = _; simp
  unfold World.cell?
  rw [e]
  simpa using h
/-- a slice of a block that was just made -/
theorem RowAt.new (w : World) (C : Array Value) (t : TypeId) (fr : Nat × Nat) (f : Nat → Value) (n cap : Nat) (h0 : 0 < n) (hn : n ≤ cap) (hc : cap ≤ 9223372036854775807) (h : ∀ i, i < n → C[i]? = some (f i)) :
    RowAt (w.alloc (.cells C t fr)) (.slice (some ⟨w.heap.size, 0, none⟩) n cap) n f :=
  Or.inr ⟨_, 0, cap, rfl, h0, hn, by unfold maxLen; omega, by simp, fun i hi => by rw [Nat.zero_add]; exact cell_new w C t fr i (h i hi)⟩
theorem Below_drewN (B : Nat) (w : World) (n : Nat) : Below B w (w.drewN n) := ⟨rfl, rfl, rfl, Nat.le_refl _, fun _ _ => rfl⟩
/-- behind a call that turns nothing of what was there -/
theorem belowStep {w a b : World} (h : Below w.heap.size w a) (k : Below a.heap.size a b) : Below w.heap.size w b := h.trans (k.mono h.size)
theorem cellStep {w a b : World} (h : Below w.heap.size w a) (k : Below a.heap.size a b) {p : Addr} (hp : p.block < w.heap.size) {v : Value} (hc : a.cell? p = some v) : b.cell? p = some v :=
  (k.cell (Nat.lt_of_lt_of_le hp h.size)).trans hc
/-- append of a slice to a row of the call's own -/
theorem wpList_append_row1 {P : Program} {w : World} {ops : Array Oper} {rest : List Oper} {o : Oper} {a : Act} {Q : Exit → Act → World → Prop} (hgd : o.guard = none) (s x : Operand) (t : TypeId)
    (ho : o.op = .call { callee := .builtin .append, args := #[s, x], argTypes := #[t, t] })
    (base : Nat) (e : TypeId) (i : TypeInfo) (z : Value) (bytes : Nat) (ht : P.underlying t = some (.slice e)) (hi : P.info? e = some i) (hz : i.zero = some z)
    (hsize : i.size = 1) (hby : i.bytes = bytes) (hzs : z.cells.size = 1)
    (v : Value) (n : Nat) (xs : List Value) (hs : a.eval s = v) (hown : w.ownsRow base e 1 v n xs)
    (sv : Value) (m : Nat) (f : Nat → Value) (hx : a.eval x = sv) (hrow : RowAt w sv m f) (h1 : ∀ j, j < m → (f j).oneCell' = true)
    (h63 : n + m ≤ maxLen) (hbytes : (n + m) * bytes ≤ 140737488355328) (hbase : base ≤ w.heap.size)
    (h : ∀ v' w', w'.ownsRow base e 1 v' (n + m) (xs ++ (List.range m).map f) → w.grownBy w' v.ownBlock → wpList P ops Q rest (a.put o.dst v') w') : wpList P ops Q (o :: rest) a w := by
  rcases hrow with ⟨ao, cap, rfl, rfl, hnc⟩ | ⟨b, off, cap, rfl, h2, h3, h4, h5, h6⟩
  · cases ao with
    | none =>
      obtain rfl := hnc rfl
      exact wpList_append_own_none hgd s x t ho base e i 1 ht hi v n xs hs hown hx (by simpa [Act.put] using h v w (by simpa using hown) (World.grownBy.refl _ _))
    | some ad =>
      exact wpList_append_own w hgd s x t ho base e i z 1 bytes ht hi hz hsize hby hzs (by omega) v n xs hs hown ad 0 cap [] hx rfl (fun j u hu => by simp at hu) (fun u hu => by simp at hu) h63 hbytes hbase
        (fun v' w' ho' hg _ => h v' w' (by simpa using ho') hg)
  · refine wpList_append_own w hgd s x t ho base e i z 1 bytes ht hi hz hsize hby hzs (by omega) v n xs hs hown ⟨b, off, none⟩ m cap ((List.range m).map f) hx (by simp) ?_ ?_ h63 hbytes hbase (fun v' w' ho' hg _ => h v' w' ho' hg)
    · intro j u hu
      by_cases hj : j < m
      · have hu' : f j = u := by simpa [hj] using hu
        subst hu'
        have := h6 j hj
        unfold Addr.add
        by_cases h0 : j = 0
        · subst h0; simpa using this
        · simpa [h0] using this
      · simp [hj] at hu
    · intro u hu
      obtain ⟨j, hj, rfl⟩ := List.mem_map.1 hu
      exact h1 j (List.mem_range.1 hj)
theorem RowAt.owns {w : World} {base : Nat} {e : TypeId} {v : Value} {n : Nat} {xs : List Value} {f : Nat → Value} (h : w.ownsRow base e 1 v n xs) (hf : ∀ i, i < n → xs[i]? = some (f i)) : RowAt w v n f := by
  obtain ⟨hl, h⟩ := h
  rcases h with ⟨rfl, rfl⟩ | ⟨g, cap, cur, rfl, hb, hg, h1, h2, h3, h4⟩
  · exact Or.inl ⟨none, 0, rfl, rfl, fun _ => rfl⟩
  · by_cases h0 : n = 0
    · subst h0; exact Or.inl ⟨_, cap, rfl, rfl, fun h => by cases h⟩
    · have hlt : g < w.heap.size := by
        by_cases hgl : g < w.heap.size
        · exact hgl
        · rw [Array.getElem?_eq_none (Nat.le_of_not_lt hgl)] at hg; cases hg
      refine Or.inr ⟨g, 0, cap, rfl, by omega, h1, h2, hlt, fun i hi => ?_⟩
      have h5 := hf i hi
      rw [← h4] at h5
      rw [List.getElem?_take] at h5
      unfold World.cell?
      rw [hg]
      simp only [Nat.zero_add]
      have hin : i < n * 1 := by omega
      rw [if_pos hin] at h5
      simpa using h5
theorem map_byteV (l : List UInt8) : (List.range l.length).map (byteV l) = l.map fun c => Value.int .u8 (c.toNat : Int) := by
  apply List.ext_getElem?
  intro i
  by_cases h : i < l.length
  · simp [h, byteV, List.getD]
  · simp [h]
theorem byteV_at {l : List UInt8} {i : Nat} (h : i < l.length) : (l.map fun c => Value.int .u8 (c.toNat : Int))[i]? = some (byteV l i) := by
  simp [h, byteV, List.getD]
theorem owns_slice {w : World} {base : Nat} {e : TypeId} {v : Value} {n size : Nat} {xs : List Value} (h : w.ownsRow base e size v n xs) (h0 : 0 < n) : ∃ g cap, v = .slice (some ⟨g, 0, none⟩) n cap ∧ n ≤ cap ∧ base ≤ g ∧ g < w.heap.size := by
  have hlt := h.lt
  rcases h.2 with ⟨_, h⟩ | ⟨g, cap, cur, rfl, hb, hg, h1, _⟩
  · omega
  · exact ⟨g, cap, rfl, h1, hb, (hlt g rfl).2⟩
theorem owns_cell {w : World} {base g cap : Nat} {e : TypeId} {n : Nat} {xs : List Value} (h : w.ownsRow base e 1 (.slice (some ⟨g, 0, none⟩) n cap) n xs) (j : Nat) (hj : j < n) : ∃ u, xs[j]? = some u ∧ w.cell? ⟨g, j, none⟩ = some u := by
  have hc := h.cellAt j (by omega)
  have hl := h.1
  exact ⟨xs[j]'(by omega), by simp, by rw [hc]; simp⟩
theorem cellKeep {a b : World} (k : Below a.heap.size a b) {p : Addr} (hp : p.block < a.heap.size) {v : Value} (hc : a.cell? p = some v) : b.cell? p = some v := (k.cell hp).trans hc
theorem sizeKeep {a b : World} (k : Below a.heap.size a b) {n : Nat} (hp : n < a.heap.size) : n < b.heap.size := Nat.lt_of_lt_of_le hp k.size
end Go.Proofs.YtjikkipdmonndaaDoor

/- Values of nested types as plain lists: what cells read as, and slices of such. -/
namespace Go.Proofs.YtjikkipdmonndaaDoor
open Go.RowKit
set_option linter.unusedSimpArgs false
set_option linter.unusedVariables false
abbrev Rep (α : Type) := World → List Value → α → Prop
def Stable {α : Type} (R : Rep α) : Prop := ∀ w w' cs x, R w cs x → Below w.heap.size w w' → R w' cs x
/-- v is a slice of elements of q cells each, that read as L's -/
def RowR {α : Type} (q : Nat) (R : Rep α) (w : World) (v : Value) (L : List α) : Prop :=
  (∃ a cap, v = .slice a 0 cap ∧ L = [] ∧ (a = none → cap = 0)) ∨ ∃ b off cap, v = .slice (some ⟨b, off, none⟩) L.length cap ∧ 0 < L.length ∧ L.length ≤ cap ∧ cap ≤ maxLen ∧ b < w.heap.size ∧
    ∀ i x, L[i]? = some x → ∃ C : List Value, C.length = q ∧ (∀ j u, C[j]? = some u → w.cell? ⟨b, off + i * q + j, none⟩ = some u) ∧ R w C x
def sliceR {α : Type} (q : Nat) (R : Rep α) : Rep (List α) := fun w cs L => ∃ v, cs = [v] ∧ RowR q R w v L
theorem RowR.below {α : Type} {q : Nat} {R : Rep α} (hR : Stable R) {w w' : World} {v : Value} {L : List α} (h : RowR q R w v L) (hb : Below w.heap.size w w') : RowR q R w' v L := by
  rcases h with h | ⟨b, off, cap, h1, h2, h3, h4, h5, h6⟩
  · exact Or.inl h
  · refine Or.inr ⟨b, off, cap, h1, h2, h3, h4, Nat.lt_of_lt_of_le h5 hb.size, fun i x hx => ?_⟩
    obtain ⟨C, g1, g2, g3⟩ := h6 i x hx
    exact ⟨C, g1, fun j u hu => (hb.cell (p := ⟨b, off + i * q + j, none⟩) h5).trans (g2 j u hu), hR _ _ _ _ g3 hb⟩
theorem sliceR_stable {α : Type} {q : Nat} {R : Rep α} (hR : Stable R) : Stable (sliceR q R) := fun w w' cs L ⟨v, h1, h2⟩ hb => ⟨v, h1, h2.below hR hb⟩
theorem RowR.len_le {α : Type} {q : Nat} {R : Rep α} {w : World} {v : Value} {L : List α} (h : RowR q R w v L) : L.length ≤ 140737488355328 ∨ L.length ≤ 9223372036854775807 := by
  rcases h with ⟨_, _, _, rfl, _⟩ | ⟨b, off, cap, h1, h2, h3, h4, h5, h6⟩
  · exact Or.inl (by simp)
  · refine Or.inr ?_; unfold maxLen at h4; omega
theorem RowR.len {α : Type} {q : Nat} {R : Rep α} {w : World} {v : Value} {L : List α} (h : RowR q R w v L) : L.length ≤ 9223372036854775807 := by
  rcases h.len_le with h | h <;> omega
def I64 (z : Int) : Prop := -9223372036854775808 ≤ z ∧ z ≤ 9223372036854775807
def intR : Rep Int := fun _ cs z => cs = [.int .i64 z] ∧ I64 z
theorem intR_stable : Stable intR := fun _ _ _ _ h _ => h
def strR : Rep (List UInt8) := fun _ cs s => cs = [.string ⟨s.toArray⟩] ∧ s.length ≤ 9223372036854775807
theorem strR_stable : Stable strR := fun _ _ _ _ h _ => h
/-- one element's cell, of a slice whose elements have one -/
theorem RowR.ints {w : World} {v : Value} {L : List Int} (h : RowR 1 intR w v L) : RowAt w v L.length (intV L) := by
  rcases h with ⟨a, cap, rfl, rfl, h⟩ | ⟨b, off, cap, h1, h2, h3, h4, h5, h6⟩
  · exact Or.inl ⟨a, cap, rfl, rfl, h⟩
  · refine Or.inr ⟨b, off, cap, h1, h2, h3, h4, h5, fun i hi => ?_⟩
    obtain ⟨C, g1, g2, g3, _⟩ := h6 i L[i] (by simp [hi])
    subst g3
    have := g2 0 _ rfl
    simpa [intV, List.getD, hi] using this
abbrev Ins := Int × Int × Int
def insR : Rep Ins := fun _ cs x => cs = [.int .i64 x.1, .int .i64 x.2.1, .int .i64 x.2.2] ∧ I64 x.1 ∧ I64 x.2.1 ∧ I64 x.2.2
theorem insR_stable : Stable insR := fun _ _ _ _ h _ => h
/-- the cells of a slice of instructions -/
theorem ins_cells {w : World} {b off : Nat} {L : List Ins} (h : ∀ i x, L[i]? = some x → ∃ C : List Value, C.length = 3 ∧ (∀ j u, C[j]? = some u → w.cell? ⟨b, off + i * 3 + j, none⟩ = some u) ∧ insR w C x) {i : Nat} {x : Ins} (hx : L[i]? = some x) :
    w.cell? ⟨b, off + i * 3, none⟩ = some (.int .i64 x.1) ∧ w.cell? ⟨b, off + i * 3 + 1, none⟩ = some (.int .i64 x.2.1) ∧ w.cell? ⟨b, off + i * 3 + 2, none⟩ = some (.int .i64 x.2.2) ∧ I64 x.1 ∧ I64 x.2.1 ∧ I64 x.2.2 := by
  obtain ⟨C, g1, g2, g3, g4⟩ := h i x hx
  subst g3
  exact ⟨g2 0 _ rfl, g2 1 _ rfl, g2 2 _ rfl, g4⟩
def insV (L : List Ins) : List Value := L.flatMap fun x => [.int .i64 x.1, .int .i64 x.2.1, .int .i64 x.2.2]
theorem insV_len (L : List Ins) : (insV L).length = L.length * 3 := by
  induction L with
  | nil => rfl
  | cons x t ih =>
    show (_ ++ insV t).length = _
    rw [List.length_append, ih]; simp; omega
theorem insV_snoc (L : List Ins) (x : Ins) : insV (L ++ [x]) = insV L ++ [.int .i64 x.1, .int .i64 x.2.1, .int .i64 x.2.2] := by simp [insV]
theorem insV_get (L : List Ins) : ∀ (i j : Nat) (x : Ins), L[i]? = some x → j < 3 → (insV L)[i * 3 + j]? = [Value.int .i64 x.1, .int .i64 x.2.1, .int .i64 x.2.2][j]? := by
  induction L with
  | nil => intro i j x h; simp at h
  | cons y t ih =>
    intro i j x h hj
    have e : insV (y :: t) = [Value.int .i64 y.1, .int .i64 y.2.1, .int .i64 y.2.2] ++ insV t := rfl
    rw [e]
    cases i with
    | zero =>
      obtain rfl : y = x := by simpa using h
      rw [Nat.zero_mul, Nat.zero_add, List.getElem?_append_left (by simpa using hj)]
    | succ i =>
      rw [List.getElem?_append_right (by simp; omega)]
      have := ih i j x (by simpa using h) hj
      rw [← this]
      congr 1
      simp; omega
/-- a slice of the call's own, as a row of instructions -/
theorem RowR.ins_owned {w : World} {base : Nat} {e : TypeId} {v : Value} {L : List Ins} (h : w.ownsRow base e 3 v L.length (insV L)) (hL : ∀ x ∈ L, I64 x.1 ∧ I64 x.2.1 ∧ I64 x.2.2) : RowR 3 insR w v L := by
  obtain ⟨hl, h⟩ := h
  rcases h with ⟨rfl, h0⟩ | ⟨g, cap, cur, rfl, hb, hg, h1, h2, h3, h4⟩
  · exact Or.inl ⟨none, 0, rfl, List.length_eq_zero_iff.1 h0, fun _ => rfl⟩
  · by_cases h0 : L.length = 0
    · exact Or.inl ⟨_, cap, by rw [h0], List.length_eq_zero_iff.1 h0, fun h => by cases h⟩
    · have hlt : g < w.heap.size := by
        by_cases hgl : g < w.heap.size
        · exact hgl
        · rw [Array.getElem?_eq_none (Nat.le_of_not_lt hgl)] at hg; cases hg
      refine Or.inr ⟨g, 0, cap, rfl, by omega, h1, h2, hlt, fun i x hx => ?_⟩
      refine ⟨[.int .i64 x.1, .int .i64 x.2.1, .int .i64 x.2.2], rfl, fun j u hu => ?_, rfl, hL x (List.mem_of_getElem? hx)⟩
      have hj : j < 3 := by
        by_cases hj : j < 3
        · exact hj
        · rw [List.getElem?_eq_none (by simp; omega)] at hu; cases hu
      have hi : i < L.length := by
        by_cases hi : i < L.length
        · exact hi
        · rw [List.getElem?_eq_none (by omega)] at hx; cases hx
      have h5 := insV_get L i j x hx hj
      rw [hu, ← h4, List.getElem?_take, if_pos (by omega)] at h5
      unfold World.cell?
      rw [hg]
      simp only [Nat.zero_add]
      simpa using h5
theorem owns_below {w w' : World} {base : Nat} {e : TypeId} {q : Nat} {v : Value} {n : Nat} {xs : List Value} (h : w.ownsRow base e q v n xs) (hb : Below w.heap.size w w') : w'.ownsRow base e q v n xs := by
  obtain ⟨hl, h⟩ := h
  refine ⟨hl, ?_⟩
  rcases h with h | ⟨g, cap, cur, h0, h1, hg, h2⟩
  · exact Or.inl h
  · have hlt : g < w.heap.size := by
      by_cases hgl : g < w.heap.size
      · exact hgl
      · rw [Array.getElem?_eq_none (Nat.le_of_not_lt hgl)] at hg; cases hg
    exact Or.inr ⟨g, cap, cur, h0, h1, (hb.block g hlt).trans hg, h2⟩
end Go.Proofs.YtjikkipdmonndaaDoor

/- Slices of elements of q cells each: forms, elements. -/
namespace Go.Proofs.YtjikkipdmonndaaDoor
open Go.RowKit
set_option linter.unusedSimpArgs false
set_option linter.unusedVariables false
theorem row_get {α : Type} {q : Nat} {R : Rep α} {w : World} {v : Value} {L : List α} (hv : RowR q R w v L) : ∃ a cap, v = .slice a L.length cap := by
  rcases hv with ⟨a, cap, rfl, rfl, _⟩ | ⟨b, off, cap, h1, _⟩
  · exact ⟨a, cap, rfl⟩
  · exact ⟨_, cap, h1⟩
theorem take_snoc {α : Type} {L : List α} {k : Nat} {x : α} (hx : L[k]? = some x) : L.take (k + 1) = L.take k ++ [x] := by
  rw [List.take_add_one, hx]; rfl
theorem lt_of_get {α : Type} {L : List α} {n : Nat} {a : α} (h : L[n]? = some a) : n < L.length := by
  by_cases g : n < L.length
  · exact g
  · rw [List.getElem?_eq_none (by omega)] at h; cases h
theorem get_some {α : Type} {L : List α} {n : Nat} (h : n < L.length) : ∃ a, L[n]? = some a := ⟨L[n], by simp [h]⟩
/-- the cells of a slice's elements -/
theorem row_at {α : Type} {q : Nat} {R : Rep α} {w : World} {a : Option Addr} {n cap : Nat} {L : List α} (hv : RowR q R w (.slice a n cap) L) {k : Nat} (hk : k < L.length) :
    ∃ b off, a = some ⟨b, off, none⟩ ∧ b < w.heap.size ∧ ∀ i x, L[i]? = some x → ∃ C : List Value, C.length = q ∧ (∀ j u, C[j]? = some u → w.cell? ⟨b, off + i * q + j, none⟩ = some u) ∧ R w C x := by
  rcases hv with ⟨a, cap, h, rfl, _⟩ | ⟨b, off, cap, h1, _, _, _, h5, h6⟩
  · simp at hk
  · have e : a = some ⟨b, off, none⟩ := by injection h1
    exact ⟨b, off, e, h5, h6⟩
end Go.Proofs.YtjikkipdmonndaaDoor

/- What a slice of the call's own that grows leaves as it was. -/
namespace Go.Proofs.YtjikkipdmonndaaDoor
open Go.RowKit
theorem below_grown {B g : Nat} {w0 wa w2 : World} (hb : Below B w0 wa) (hBg : B ≤ g) (hs : B ≤ wa.heap.size) (hg : wa.grownBy w2 (some g)) : Below B w0 w2 :=
  hb.trans ⟨hg.os, hg.tape, hg.output, hg.size, fun k hk => hg.block k (by omega) (by simp; omega)⟩
theorem below_grownV {B : Nat} {w0 wa w2 : World} {v : Value} {e : TypeId} {n : Nat} {xs : List Value} (hb : Below B w0 wa) (hs : B ≤ wa.heap.size) (hO : wa.ownsRow B e 1 v n xs) (hg : wa.grownBy w2 v.ownBlock) : Below B w0 w2 :=
  hb.trans ⟨hg.os, hg.tape, hg.output, hg.size, fun k hk => hg.block k (by omega) (fun h => by have := (hO.lt k h.symm).1; omega)⟩
/-- append of a row that isn't empty, in a region that draws its order -/
theorem wp_append_row1 {P : Program} {w : World} {o : Oper} {a : Act} {K : Act → World → Prop} {Q : Exit → Act → World → Prop} (s x : Operand) (t : TypeId)
    (ho : o.op = .call { callee := .builtin .append, args := #[s, x], argTypes := #[t, t] })
    (base : Nat) (e : TypeId) (i : TypeInfo) (z : Value) (bytes : Nat) (ht : P.underlying t = some (.slice e)) (hi : P.info? e = some i) (hz : i.zero = some z)
    (hsize : i.size = 1) (hby : i.bytes = bytes) (hzs : z.cells.size = 1)
    (v : Value) (n : Nat) (xs : List Value) (hs : a.eval s = v) (hown : w.ownsRow base e 1 v n xs)
    (sv : Value) (m : Nat) (f : Nat → Value) (hx : a.eval x = sv) (hrow : RowAt w sv m f) (h0 : 0 < m) (h1 : ∀ j, j < m → (f j).oneCell' = true)
    (h63 : n + m ≤ maxLen) (hbytes : (n + m) * bytes ≤ 140737488355328) (hbase : base ≤ w.heap.size)
    (h : ∀ v' w', w'.ownsRow base e 1 v' (n + m) (xs ++ (List.range m).map f) → w.grownBy w' v.ownBlock → K (a.put o.dst v') w') : o.wp P a w K Q := by
  rcases hrow with ⟨ao, cap, rfl, rfl, hnc⟩ | ⟨b, off, cap, rfl, h2, h3, h4, h5, h6⟩
  · omega
  · refine wp_append_own w s x t ho base e i z 1 bytes ht hi hz hsize hby hzs (by omega) v n xs hs hown ⟨b, off, none⟩ m cap ((List.range m).map f) hx (by simp) ?_ ?_ h63 hbytes hbase (fun v' w' ho' hg _ => h v' w' ho' hg)
    · intro j u hu
      by_cases hj : j < m
      · have hu' : f j = u := by simpa [hj] using hu
        subst hu'
        have := h6 j hj
        unfold Addr.add
        by_cases h0 : j = 0
        · subst h0; simpa using this
        · simpa [h0] using this
      · simp [hj] at hu
    · intro u hu
      obtain ⟨j, hj, rfl⟩ := List.mem_map.1 hu
      exact h1 j (List.mem_range.1 hj)
/-- append, and in which block the row lies then -/
theorem wpList_append_row1_at {P : Program} {w : World} {ops : Array Oper} {rest : List Oper} {o : Oper} {a : Act} {Q : Exit → Act → World → Prop} (hgd : o.guard = none) (s x : Operand) (t : TypeId)
    (ho : o.op = .call { callee := .builtin .append, args := #[s, x], argTypes := #[t, t] })
    (base : Nat) (e : TypeId) (i : TypeInfo) (z : Value) (bytes : Nat) (ht : P.underlying t = some (.slice e)) (hi : P.info? e = some i) (hz : i.zero = some z)
    (hsize : i.size = 1) (hby : i.bytes = bytes) (hzs : z.cells.size = 1)
    (v : Value) (n : Nat) (xs : List Value) (hs : a.eval s = v) (hown : w.ownsRow base e 1 v n xs)
    (sv : Value) (m : Nat) (f : Nat → Value) (hx : a.eval x = sv) (hrow : RowAt w sv m f) (h0 : 0 < m) (h1 : ∀ j, j < m → (f j).oneCell' = true)
    (h63 : n + m ≤ maxLen) (hbytes : (n + m) * bytes ≤ 140737488355328) (hbase : base ≤ w.heap.size)
    (h : ∀ v' w', w'.ownsRow base e 1 v' (n + m) (xs ++ (List.range m).map f) → w.grownBy w' v.ownBlock → (v'.ownBlock = v.ownBlock ∨ v'.ownBlock = some w.heap.size) → wpList P ops Q rest (a.put o.dst v') w') : wpList P ops Q (o :: rest) a w := by
  rcases hrow with ⟨ao, cap, rfl, rfl, hnc⟩ | ⟨b, off, cap, rfl, h2, h3, h4, h5, h6⟩
  · omega
  · refine wpList_append_own_at w hgd s x t ho base e i z 1 bytes ht hi hz hsize hby hzs (by omega) v n xs hs hown ⟨b, off, none⟩ m cap ((List.range m).map f) hx (by simp) ?_ ?_ h63 hbytes hbase (fun v' w' ho' hg _ hat => h v' w' ho' hg hat)
    · intro j u hu
      by_cases hj : j < m
      · have hu' : f j = u := by simpa [hj] using hu
        subst hu'
        have := h6 j hj
        unfold Addr.add
        by_cases h0 : j = 0
        · subst h0; simpa using this
        · simpa [h0] using this
      · simp [hj] at hu
    · intro u hu
      obtain ⟨j, hj, rfl⟩ := List.mem_map.1 hu
      exact h1 j (List.mem_range.1 hj)
theorem own_ne {wr : World} {v : Value} {B : Nat} {e : TypeId} {q n : Nat} {xs : List Value} (hO : wr.ownsRow B e q v n xs) {b : Nat} (hb : wr.heap.size ≤ b) : v.ownBlock ≠ some b := by
  intro h
  rcases hO.2 with ⟨h0, _⟩ | ⟨g, cap, cur, h0, _, h3, _⟩
  · rw [h0] at h; simp [Value.ownBlock] at h
  · rw [h0] at h
    have : g = b := by simpa [Value.ownBlock] using h
    subst this
    rw [Array.getElem?_eq_none hb] at h3; cases h3
/-- a block that isn't the row's own stays -/
theorem grown_cell {wa w2 : World} {ob : Option Nat} (hg : wa.grownBy w2 ob) {b o : Nat} (hne : ob ≠ some b) (hb2 : b < wa.heap.size) : w2.cell? ⟨b, o, none⟩ = wa.cell? ⟨b, o, none⟩ := by
  have h1 : w2.heap[b]? = wa.heap[b]? := hg.block b hb2 (fun h => hne h.symm)
  unfold World.cell?
  rw [show (⟨b, o, none⟩ : Addr).block = b from rfl, h1]
end Go.Proofs.YtjikkipdmonndaaDoor

/- What a call that only makes memory leaves: the world ahead of it, with more blocks behind. Stores into older blocks move inside. -/
namespace Go.Proofs.YtjikkipdmonndaaDoor
open Go.RowKit
def wmore (w : World) (l : Array Obj) (d : Nat) : World := { w with heap := w.heap ++ l, drawn := d }
theorem more_of {w w1 : World} (h : Below w.heap.size w w1) : ∃ l d, w1 = wmore w l d := by
  refine ⟨w1.heap.extract w.heap.size w1.heap.size, w1.drawn, ?_⟩
  have hh : w1.heap = w.heap ++ w1.heap.extract w.heap.size w1.heap.size := by
    apply Array.ext_getElem?
    intro i
    by_cases hi : i < w.heap.size
    · rw [Array.getElem?_append_left hi]; exact h.block i hi
    · have h1 := h.size
      rw [Array.getElem?_append_right (by omega), Array.getElem?_extract]
      by_cases h2 : i < w1.heap.size
      · rw [if_pos (by omega)]; congr 1; omega
      · rw [if_neg (by omega), Array.getElem?_eq_none (by omega)]
  cases w1
  simp only [wmore] at *
  rw [← hh]
  cases h.os; cases h.tape; cases h.output
  rfl
theorem more_size (w : World) (l : Array Obj) (d : Nat) : (wmore w l d).heap.size = w.heap.size + l.size := by simp [wmore]
theorem more_get (w : World) (l : Array Obj) (d : Nat) {b : Nat} (h : b < w.heap.size) : (wmore w l d).heap[b]? = w.heap[b]? := by
  show (w.heap ++ l)[b]? = _; exact Array.getElem?_append_left h
theorem more_cell (w : World) (l : Array Obj) (d : Nat) {b o : Nat} (h : b < w.heap.size) : (wmore w l d).cell? ⟨b, o, none⟩ = w.cell? ⟨b, o, none⟩ := by
  unfold World.cell?; rw [show (⟨b, o, none⟩ : Addr).block = b from rfl, more_get w l d h]
theorem more_frozen (w : World) (l : Array Obj) (d : Nat) {b o : Nat} (h : b < w.heap.size) : (wmore w l d).frozen? ⟨b, o, none⟩ = w.frozen? ⟨b, o, none⟩ := by
  unfold World.frozen?; rw [show (⟨b, o, none⟩ : Addr).block = b from rfl, more_get w l d h]
theorem more_set (w : World) (l : Array Obj) (d : Nat) {b o : Nat} (v : Value) (h : b < w.heap.size) : (wmore w l d).setCell ⟨b, o, none⟩ v = wmore (w.setCell ⟨b, o, none⟩ v) l d := by
  have hm : ∀ f : Obj → Obj, (w.heap ++ l).modify b f = w.heap.modify b f ++ l := by
    intro f
    apply Array.ext_getElem?
    intro i
    by_cases hi : i < w.heap.size
    · rw [Array.getElem?_append_left (by simpa using hi), Array.getElem?_modify, Array.getElem?_modify, Array.getElem?_append_left hi]
    · rw [Array.getElem?_append_right (by simp; omega), Array.getElem?_modify, if_neg (by omega), Array.getElem?_append_right (by omega), Array.size_modify]
  unfold World.setCell wmore
  rw [show (⟨b, o, none⟩ : Addr).block = b from rfl]
  simp only [hm]
theorem more_below {B : Nat} {v w : World} (h : Below B v w) (hB : B ≤ w.heap.size) (l : Array Obj) (d : Nat) : Below B v (wmore w l d) :=
  h.trans ⟨rfl, rfl, rfl, by rw [more_size]; omega, fun k hk => more_get w l d (by omega)⟩
theorem set_size (w : World) (a : Addr) (v : Value) : (w.setCell a v).heap.size = w.heap.size := by
  simp [World.setCell]
theorem more_drewN (w : World) (l : Array Obj) (d n : Nat) : (wmore w l d).drewN n = wmore w l (d + n) := rfl
theorem more_drew (w : World) (l : Array Obj) (d : Nat) : (wmore w l d).drew = wmore w l (d + 1) := rfl
end Go.Proofs.YtjikkipdmonndaaDoor

/- A block that was just made, by its number. -/
namespace Go.Proofs.YtjikkipdmonndaaDoor
open Go.RowKit
theorem cell_at {W : World} {C : Array Value} {t : TypeId} {fr : Nat × Nat} {b i : Nat} (h : b = W.heap.size) : (W.alloc (.cells C t fr)).cell? ⟨b, i, none⟩ = C[i]? := by
  subst h
  have e : (W.alloc (.cells C t fr)).heap[W.heap.size]? = some (.cells C t fr) := by show (W.heap.push _)[W.heap.size]? = _; simp
  unfold World.cell?
  rw [e]
  simp
theorem frozen_at {W : World} {C : Array Value} {t : TypeId} {b i : Nat} (h : b = W.heap.size) : (W.alloc (.cells C t (0, 0))).frozen? ⟨b, i, none⟩ = false := by
  subst h
  have e : (W.alloc (.cells C t (0, 0))).heap[W.heap.size]? = some (.cells C t (0, 0)) := by show (W.heap.push _)[W.heap.size]? = _; simp
  unfold World.frozen?
  rw [e]
  simp
theorem cell_past {W : World} {o : Obj} {b i : Nat} (h : b < W.heap.size) : (W.alloc o).cell? ⟨b, i, none⟩ = W.cell? ⟨b, i, none⟩ := by
  have e : (W.alloc o).heap[b]? = W.heap[b]? := by show (W.heap.push _)[b]? = _; rw [Array.getElem?_push]; rw [if_neg (by omega)]
  unfold World.cell?
  rw [show (⟨b, i, none⟩ : Addr).block = b from rfl, e]
theorem frozen_past {W : World} {o : Obj} {b i : Nat} (h : b < W.heap.size) : (W.alloc o).frozen? ⟨b, i, none⟩ = W.frozen? ⟨b, i, none⟩ := by
  have e : (W.alloc o).heap[b]? = W.heap[b]? := by show (W.heap.push _)[b]? = _; rw [Array.getElem?_push]; rw [if_neg (by omega)]
  unfold World.frozen?
  rw [show (⟨b, i, none⟩ : Addr).block = b from rfl, e]
theorem blt {W w1 : World} (hb : Below W.heap.size W w1) : ∀ b, b < W.heap.size → b < w1.heap.size := fun _ h => Nat.lt_of_lt_of_le h hb.size
theorem bcell {W w1 : World} (hb : Below W.heap.size W w1) : (∀ b o, b < W.heap.size → w1.cell? ⟨b, o, none⟩ = W.cell? ⟨b, o, none⟩) ∧ (∀ b o, b < W.heap.size → w1.frozen? ⟨b, o, none⟩ = W.frozen? ⟨b, o, none⟩) :=
  ⟨fun b o h => hb.cell (p := ⟨b, o, none⟩) h, fun b o h => hb.frozen (p := ⟨b, o, none⟩) h⟩
end Go.Proofs.YtjikkipdmonndaaDoor

/- Slices whose elements have two cells. -/
namespace Go.Proofs.YtjikkipdmonndaaDoor
open Go.RowKit
/-- v is a slice of n elements of two cells each: f i and g i -/
def Row2At (w : World) (v : Value) (n : Nat) (f g : Nat → Value) : Prop :=
  (∃ a cap, v = .slice a 0 cap ∧ n = 0) ∨ ∃ b off cap, v = .slice (some ⟨b, off, none⟩) n cap ∧ 0 < n ∧ n ≤ cap ∧ cap ≤ maxLen ∧ b < w.heap.size ∧ ∀ i, i < n → w.cell? ⟨b, off + i * 2, none⟩ = some (f i) ∧ w.cell? ⟨b, off + i * 2 + 1, none⟩ = some (g i)
theorem more_more (w : World) (l l2 : Array Obj) (d d2 : Nat) : wmore (wmore w l d) l2 d2 = wmore w (l ++ l2) d2 := by simp [wmore, Array.append_assoc]
theorem more_start (w : World) : w = wmore w #[] w.drawn := by simp [wmore]
end Go.Proofs.YtjikkipdmonndaaDoor

/- A region that draws its order: the condition may be made stronger on the way. Rows of bytes as texts. -/
namespace Go.Proofs.YtjikkipdmonndaaDoor
open Go.RowKit
theorem wpAnyH_switch {P : Program} {md : Region.Mode} {ops : Array Oper} {Q : Exit → Act → World → Prop} {S S' : World → Prop} (hSS : ∀ w, S' w → S w) :
    ∀ (fuel : Nat) (listed : Array Bool) (a : Act) (w : World), wpAnyH P md ops Q S' fuel listed a w → wpAnyH P md ops Q S fuel listed a w
  | 0, _, _, _, h => h
  | fuel + 1, _, _, _, h => ⟨h.1, fun i hi => wpOp_mono (fun a' w' h' => ⟨hSS _ h'.1, wpAnyH_switch hSS fuel _ a' w' h'.2⟩) (h.2 i hi)⟩
theorem conv_row {P : Program} {w : World} {src dst e : TypeId} {v : Value} {l : List UInt8} (hs : P.underlying src = some (.slice e)) (he : P.underlying e = some (.int .u8)) (hd : P.underlying dst = some .string)
    (h : RowAt w v l.length (byteV l)) : (convert src dst v).run P w = .ok (.string ⟨l.toArray⟩) w := by
  rcases h with ⟨a, cap, rfl, h0, hc⟩ | ⟨b, off, cap, rfl, h1, h2, h3, h4, hcell⟩
  · obtain rfl : l = [] := List.length_eq_zero_iff.1 h0
    cases a with
    | none =>
      rw [run_convert_bytes_string w src dst e none 0 cap hs he hd]
      simp [Conv.bytesToString]
      rfl
    | some ad => exact run_convert_bytes_back w src dst e ad cap [] hs he hd (fun j hj => by simp at hj)
  · refine run_convert_bytes_back w src dst e _ cap l hs he hd fun j hj => ?_
    have := hcell j hj
    have e1 : byteV l j = .int .u8 (l[j].toNat : Int) := by simp [byteV, List.getD, hj]
    rw [e1] at this
    unfold Addr.add
    by_cases h0 : j = 0
    · subst h0; simpa using this
    · simpa [h0] using this
theorem conv_owns {P : Program} {w : World} {src dst e t : TypeId} {base n : Nat} {v : Value} {l : List UInt8} (hs : P.underlying src = some (.slice e)) (he : P.underlying e = some (.int .u8)) (hd : P.underlying dst = some .string)
    (h : w.ownsRow base t 1 v n (l.map fun c => Value.int .u8 (c.toNat : Int))) : (convert src dst v).run P w = .ok (.string ⟨l.toArray⟩) w := by
  have hn : l.length = n := by have := h.1; simpa using this
  exact conv_row hs he hd (hn ▸ RowAt.owns (f := byteV l) h (fun i hi => byteV_at (by omega)))
end Go.Proofs.YtjikkipdmonndaaDoor

/- Rows of the call's own, and what is appended to them. -/
namespace Go.Proofs.YtjikkipdmonndaaDoor
open Go.RowKit
set_option linter.unusedSimpArgs false
set_option linter.unusedVariables false
/-- the cells of a list of numbers -/
theorem ints_at {w : World} {a : Option Addr} {n cap : Nat} {L : List Int} (hv : RowR 1 intR w (.slice a n cap) L) {k : Nat} (hk : k < L.length) : ∃ b off, a = some ⟨b, off, none⟩ ∧ b < w.heap.size ∧ ∀ i z, L[i]? = some z → w.cell? ⟨b, off + i, none⟩ = some (.int .i64 z) ∧ I64 z := by
  rcases hv with ⟨a, cap, h, rfl, _⟩ | ⟨b, off, cap, h1, _, _, _, h5, h6⟩
  · simp at hk
  · have e : a = some ⟨b, off, none⟩ := by injection h1
    refine ⟨b, off, e, h5, fun i z hz => ?_⟩
    obtain ⟨C, g1, g2, g3, g4⟩ := h6 i z hz
    subst g3
    exact ⟨by simpa using g2 0 _ rfl, g4⟩
theorem owns_grown {w w' : World} {B : Nat} {e : TypeId} {q n : Nat} {v : Value} {xs : List Value} {ob : Option Nat} (h : w.ownsRow B e q v n xs) (hg : w.grownBy w' ob) (hne : ∀ g, v.ownBlock = some g → ob ≠ some g) : w'.ownsRow B e q v n xs := by
  obtain ⟨hl, h⟩ := h
  refine ⟨hl, ?_⟩
  rcases h with h | ⟨g, cap, cur, h0, h1, hh, h2⟩
  · exact Or.inl h
  · have hlt : g < w.heap.size := by
      by_cases hgl : g < w.heap.size
      · exact hgl
      · rw [Array.getElem?_eq_none (Nat.le_of_not_lt hgl)] at hh; cases hh
    refine Or.inr ⟨g, cap, cur, h0, h1, ?_, h2⟩
    rw [hg.block g hlt (fun h => hne g (by rw [h0]; rfl) h.symm)]
    exact hh
theorem owns_set {w : World} {B : Nat} {e : TypeId} {q n : Nat} {v : Value} {xs : List Value} {g o : Nat} {x : Value} (h : w.ownsRow B e q v n xs) (hne : v.ownBlock ≠ some g) : (w.setCell ⟨g, o, none⟩ x).ownsRow B e q v n xs := by
  obtain ⟨hl, h⟩ := h
  refine ⟨hl, ?_⟩
  rcases h with h | ⟨b, cap, cur, h0, h1, hh, h2⟩
  · exact Or.inl h
  · refine Or.inr ⟨b, cap, cur, h0, h1, ?_, h2⟩
    have : g ≠ b := fun he => hne (by rw [h0, he]; rfl)
    rw [← hh]
    unfold World.setCell
    show (w.heap.modify g _)[b]? = _
    rw [Array.getElem?_modify, if_neg this]
theorem owns_type {w : World} {B C : Nat} {e f : TypeId} {q p n m : Nat} {v u : Value} {xs ys : List Value} (h : w.ownsRow B e q v n xs) (k : w.ownsRow C f p u m ys) (hef : e ≠ f) {g : Nat} (hv : v.ownBlock = some g) : u.ownBlock ≠ some g := by
  intro hu
  rcases h.2 with ⟨h0, _⟩ | ⟨b, cap, cur, h0, _, h1, _⟩
  · rw [h0] at hv; simp [Value.ownBlock] at hv
  · rcases k.2 with ⟨k0, _⟩ | ⟨b2, cap2, cur2, k0, _, k1, _⟩
    · rw [k0] at hu; simp [Value.ownBlock] at hu
    · rw [h0] at hv; rw [k0] at hu
      have e1 : b = g := by simpa [Value.ownBlock] using hv
      have e2 : b2 = g := by simpa [Value.ownBlock] using hu
      rw [e1] at h1; rw [e2, h1] at k1
      simp at k1
      exact hef k1.2
def iV (l : List Int) : List Value := l.map (Value.int .i64)
theorem iV_len (l : List Int) : (iV l).length = l.length := by simp [iV]
/-- an owned row, as what it reads as -/
theorem row_of_owns {w : World} {B : Nat} {e : TypeId} {v : Value} {l : List Int} (h : w.ownsRow B e 1 v l.length (iV l)) (hl : ∀ z ∈ l, I64 z) : RowR 1 intR w v l := by
  obtain ⟨_, h⟩ := h
  rcases h with ⟨rfl, h0⟩ | ⟨g, cap, cur, rfl, hb, hg, h1, h2, h3, h4⟩
  · exact Or.inl ⟨none, 0, rfl, List.length_eq_zero_iff.1 h0, fun _ => rfl⟩
  · by_cases h0 : l.length = 0
    · exact Or.inl ⟨_, cap, by rw [h0], List.length_eq_zero_iff.1 h0, fun h => by cases h⟩
    · have hlt : g < w.heap.size := by
        by_cases hgl : g < w.heap.size
        · exact hgl
        · rw [Array.getElem?_eq_none (Nat.le_of_not_lt hgl)] at hg; cases hg
      refine Or.inr ⟨g, 0, cap, rfl, by omega, h1, h2, hlt, fun i x hx => ?_⟩
      refine ⟨[.int .i64 x], rfl, fun j u hu => ?_, rfl, hl x (List.mem_of_getElem? hx)⟩
      have hj : j = 0 := by
        by_cases hj : j = 0
        · exact hj
        · rw [List.getElem?_eq_none (by simp; omega)] at hu; cases hu
      subst hj
      obtain rfl : Value.int .i64 x = u := by simpa using hu
      have hi : i < l.length := by
        by_cases hi : i < l.length
        · exact hi
        · rw [List.getElem?_eq_none (by omega)] at hx; cases hx
      have h5 : (iV l)[i]? = some (.int .i64 x) := by simp [iV, hx]
      rw [← h4, List.getElem?_take, if_pos (by omega)] at h5
      unfold World.cell?
      rw [hg]
      simpa using h5
theorem row_ints {w : World} {v : Value} {l : List Int} (h : RowR 1 intR w v l) : ∀ z ∈ l, I64 z := by
  intro z hz
  obtain ⟨k, hk, rfl⟩ := List.getElem_of_mem hz
  obtain ⟨a, cap, rfl⟩ := row_get h
  obtain ⟨b, off, _, _, hc⟩ := ints_at h hk
  exact (hc k l[k] (by simp [hk])).2
theorem map_intV (l : List Int) : (List.range l.length).map (intV l) = iV l := by
  apply List.ext_getElem?
  intro i
  by_cases h : i < l.length
  · simp [h, intV, iV, List.getD]
  · simp [h, iV]
/-- rows that are the call's own, each in a block of its own -/
structure OwnRows (B : Nat) (e : TypeId) (w : World) (U : List Value) (L : List (List Int)) : Prop where
  len : U.length = L.length
  row : ∀ (i : Nat) (u : Value) (l : List Int), U[i]? = some u → L[i]? = some l → w.ownsRow B e 1 u l.length (iV l)
  apart : ∀ (i j : Nat) (u u' : Value) (g : Nat), i < j → U[i]? = some u → U[j]? = some u' → u.ownBlock = some g → u'.ownBlock ≠ some g
theorem OwnRows.nil (B : Nat) (e : TypeId) (w : World) : OwnRows B e w [] [] := ⟨rfl, fun i u l h => by simp at h, fun i j u u' g _ h => by simp at h⟩
theorem owns_lt {w : World} {B : Nat} {e : TypeId} {q n : Nat} {v : Value} {xs : List Value} (h : w.ownsRow B e q v n xs) {g : Nat} (hv : v.ownBlock = some g) : B ≤ g ∧ g < w.heap.size := by
  rcases h.2 with ⟨h0, _⟩ | ⟨b, cap, cur, h0, hb, h1, _⟩
  · rw [h0] at hv; simp [Value.ownBlock] at hv
  · rw [h0] at hv
    have e1 : b = g := by simpa [Value.ownBlock] using hv
    subst e1
    refine ⟨hb, ?_⟩
    by_cases hgl : b < w.heap.size
    · exact hgl
    · rw [Array.getElem?_eq_none (Nat.le_of_not_lt hgl)] at h1; cases h1
/-- one row more, that was made behind all others -/
theorem OwnRows.snoc {B : Nat} {e : TypeId} {w w' : World} {U : List Value} {L : List (List Int)} {u : Value} {l : List Int} (h : OwnRows B e w U L) (hb : Below w.heap.size w w') (hB : B ≤ w.heap.size) (hu : w'.ownsRow w.heap.size e 1 u l.length (iV l)) : OwnRows B e w' (U ++ [u]) (L ++ [l]) := by
  have hbase : w'.ownsRow B e 1 u l.length (iV l) := by
    refine ⟨hu.1, ?_⟩
    rcases hu.2 with h0 | ⟨g, cap, cur, h0, h1, h2⟩
    · exact Or.inl h0
    · exact Or.inr ⟨g, cap, cur, h0, by omega, h2⟩
  refine ⟨by simp [h.len], fun i x m hx hm => ?_, fun i j x y g hij hx hy hg => ?_⟩
  · by_cases hi : i < U.length
    · rw [List.getElem?_append_left hi] at hx
      rw [List.getElem?_append_left (by rw [← h.len]; exact hi)] at hm
      exact owns_below (h.row i x m hx hm) hb
    · have hin : i = U.length := by
        by_cases he : i = U.length
        · exact he
        · rw [List.getElem?_eq_none (by simp; omega)] at hx; cases hx
      subst hin
      have hx' : x = u := by simpa using hx.symm
      rw [h.len] at hm
      have hm' : m = l := by simpa using hm.symm
      rw [hx', hm']
      exact hbase
  · by_cases hj : j < U.length
    · rw [List.getElem?_append_left hj] at hy
      rw [List.getElem?_append_left (by omega)] at hx
      exact h.apart i j x y g hij hx hy hg
    · have hjn : j = U.length := by
        by_cases he : j = U.length
        · exact he
        · rw [List.getElem?_eq_none (by simp; omega)] at hy; cases hy
      subst hjn
      have hy' : y = u := by simpa using hy.symm
      rw [List.getElem?_append_left hij] at hx
      intro hyg
      rw [hy'] at hyg
      have h1 := (owns_lt hu hyg).1
      have h2 : i < L.length := by rw [← h.len]; exact hij
      have h3 := (owns_lt (h.row i x L[i] hx (by simp [h2])) hg).2
      omega
/-- what is appended: nothing, or cells that lie there -/
def Src (w : World) (sv : Value) (m : Nat) (news : List Value) : Prop :=
  (sv = .slice none 0 0 ∧ m = 0 ∧ news = []) ∨ ∃ (ad : Addr) (c : Nat), sv = .slice (some ad) m c ∧ ∀ j u, news[j]? = some u → w.cell? (ad.add j) = some u
theorem Src.below {w w' : World} {sv : Value} {m : Nat} {news : List Value} (h : Src w sv m news) (hb : Below w.heap.size w w') : Src w' sv m news := by
  rcases h with h | ⟨ad, c, h1, h2⟩
  · exact Or.inl h
  · exact Or.inr ⟨ad, c, h1, fun j u hu => (hb.cell (p := ad.add j) (World.block_lt_of_cell? w _ (h2 j u hu))).trans (h2 j u hu)⟩
theorem wp_append_src {P : Program} {w : World} {o : Oper} {a : Act} {K : Act → World → Prop} {Q : Exit → Act → World → Prop} (s x : Operand) (t : TypeId)
    (ho : o.op = .call { callee := .builtin .append, args := #[s, x], argTypes := #[t, t] })
    (base : Nat) (e : TypeId) (i : TypeInfo) (z : Value) (q bytes : Nat) (ht : P.underlying t = some (.slice e)) (hi : P.info? e = some i) (hz : i.zero = some z)
    (hsize : i.size = q) (hby : i.bytes = bytes) (hzs : z.cells.size = q) (hq : 0 < q)
    (v : Value) (n : Nat) (xs : List Value) (hs : a.eval s = v) (hown : w.ownsRow base e q v n xs)
    (sv : Value) (m : Nat) (news : List Value) (hx : a.eval x = sv) (hsrc : Src w sv m news) (hl : news.length = m * q) (h1 : ∀ u ∈ news, u.oneCell' = true)
    (h63 : n + m ≤ maxLen) (hbytes : (n + m) * bytes ≤ 140737488355328) (hbase : base ≤ w.heap.size)
    (h : ∀ v' w', w'.ownsRow base e q v' (n + m) (xs ++ news) → w.grownBy w' v.ownBlock → K (a.put o.dst v') w') : o.wp P a w K Q := by
  rcases hsrc with ⟨rfl, rfl, rfl⟩ | ⟨ad, c, rfl, hc⟩
  · have hrun := run_append_owned_none (P := P) (w := w) base t o.type e i q ht hi v n xs hown
    unfold Oper.wp
    simp [execOp, ho, resolve, invoke, builtin, hs, hx, hrun, Result.andThen]
    exact h v w (by simpa using hown) (World.grownBy.refl _ _)
  · exact wp_append_own w s x t ho base e i z q bytes ht hi hz hsize hby hzs hq v n xs hs hown ad m c news hx hl hc h1 h63 hbytes hbase (fun v' w' ho' hg _ => h v' w' ho' hg)
theorem wpList_append_src {P : Program} {w : World} {ops : Array Oper} {rest : List Oper} {o : Oper} {a : Act} {Q : Exit → Act → World → Prop} (hgd : o.guard = none) (s x : Operand) (t : TypeId)
    (ho : o.op = .call { callee := .builtin .append, args := #[s, x], argTypes := #[t, t] })
    (base : Nat) (e : TypeId) (i : TypeInfo) (z : Value) (q bytes : Nat) (ht : P.underlying t = some (.slice e)) (hi : P.info? e = some i) (hz : i.zero = some z)
    (hsize : i.size = q) (hby : i.bytes = bytes) (hzs : z.cells.size = q) (hq : 0 < q)
    (v : Value) (n : Nat) (xs : List Value) (hs : a.eval s = v) (hown : w.ownsRow base e q v n xs)
    (sv : Value) (m : Nat) (news : List Value) (hx : a.eval x = sv) (hsrc : Src w sv m news) (hl : news.length = m * q) (h1 : ∀ u ∈ news, u.oneCell' = true)
    (h63 : n + m ≤ maxLen) (hbytes : (n + m) * bytes ≤ 140737488355328) (hbase : base ≤ w.heap.size)
    (h : ∀ v' w', w'.ownsRow base e q v' (n + m) (xs ++ news) → w.grownBy w' v.ownBlock → wpList P ops Q rest (a.put o.dst v') w') : wpList P ops Q (o :: rest) a w :=
  wpList_plain hgd fun K hK => wp_append_src s x t ho base e i z q bytes ht hi hz hsize hby hzs hq v n xs hs hown sv m news hx hsrc hl h1 h63 hbytes hbase fun v' w' h2 h3 => hK _ _ (h v' w' h2 h3)
theorem add_at (b o j : Nat) : (⟨b, o, none⟩ : Addr).add j = ⟨b, o + j, none⟩ := by unfold Addr.add; by_cases h : j = 0 <;> simp [h]
theorem src_ints {w : World} {u : Value} {l : List Int} (h : RowR 1 intR w u l) : Src w u l.length (iV l) := by
  rcases h with ⟨a, cap, rfl, rfl, hc⟩ | ⟨b, off, cap, rfl, h2, h3, h4, h5, h6⟩
  · cases a with
    | none => rw [hc rfl]; exact Or.inl ⟨rfl, rfl, rfl⟩
    | some ad => exact Or.inr ⟨ad, cap, rfl, fun j u hu => by simp [iV] at hu⟩
  · refine Or.inr ⟨⟨b, off, none⟩, cap, rfl, fun j u hu => ?_⟩
    rw [add_at]
    have hj : j < l.length := by
      by_cases hj : j < l.length
      · exact hj
      · rw [List.getElem?_eq_none (by rw [iV_len]; omega)] at hu; cases hu
    obtain ⟨C, g1, g2, g3, _⟩ := h6 j l[j] (by simp [hj])
    subst g3
    have h7 := g2 0 _ rfl
    have h8 : u = .int .i64 l[j] := by simpa [iV, hj] using hu.symm
    rw [h8]
    simpa using h7
theorem iV_one (l : List Int) : ∀ u ∈ iV l, u.oneCell' = true := by
  intro u hu
  obtain ⟨z, _, rfl⟩ := List.mem_map.1 hu
  rfl
theorem owns_congr {w w' : World} {B : Nat} {e : TypeId} {q n : Nat} {v : Value} {xs : List Value} (h : w.ownsRow B e q v n xs) (hc : ∀ g, B ≤ g → w'.heap[g]? = w.heap[g]?) : w'.ownsRow B e q v n xs := by
  obtain ⟨hl, h⟩ := h
  refine ⟨hl, ?_⟩
  rcases h with h | ⟨g, cap, cur, h0, h1, hh, h2⟩
  · exact Or.inl h
  · exact Or.inr ⟨g, cap, cur, h0, h1, (hc g h1).trans hh, h2⟩
theorem OwnRows.congr {B : Nat} {e : TypeId} {w w' : World} {U : List Value} {L : List (List Int)} (h : OwnRows B e w U L) (hc : ∀ g, B ≤ g → w'.heap[g]? = w.heap[g]?) : OwnRows B e w' U L :=
  ⟨h.len, fun i u l hu hl => owns_congr (h.row i u l hu hl) hc, h.apart⟩
theorem OwnRows.below {B : Nat} {e : TypeId} {w w' : World} {U : List Value} {L : List (List Int)} (h : OwnRows B e w U L) (hb : Below w.heap.size w w') : OwnRows B e w' U L :=
  ⟨h.len, fun i u l hu hl => owns_below (h.row i u l hu hl) hb, h.apart⟩
theorem more_past (A : World) (l : Array Obj) (d : Nat) {g : Nat} (h : A.heap.size ≤ g) : (wmore A l d).heap[g]? = l[g - A.heap.size]? := by
  show (A.heap ++ l)[g]? = _
  rw [Array.getElem?_append_right h]
theorem more_congr {A A' : World} {l : Array Obj} {d d' : Nat} {B : Nat} (h : A.heap.size = A'.heap.size) (hB : A.heap.size ≤ B) : ∀ g, B ≤ g → (wmore A' l d').heap[g]? = (wmore A l d).heap[g]? := fun g hg => by
  rw [more_past A l d (by omega), more_past A' l d' (by omega), h]
theorem below_none {w w' : World} (hg : w.grownBy w' none) : Below w.heap.size w w' := ⟨hg.os, hg.tape, hg.output, hg.size, fun k hk => hg.block k hk (by simp)⟩
theorem take_set {U : Array Value} {k : Nat} {x : Value} (hk : k < U.size) : (U.setIfInBounds k x).toList.take (k + 1) = U.toList.take k ++ [x] := by
  apply List.ext_getElem?
  intro i
  rw [List.getElem?_take]
  by_cases hi : i < k
  · rw [if_pos (by omega), List.getElem?_append_left (by simp; omega), List.getElem?_take, if_pos hi]
    simp [Array.getElem?_setIfInBounds, show ¬ k = i by omega]
  · by_cases hik : i = k
    · subst hik
      rw [if_pos (by omega), List.getElem?_append_right (by simp; omega)]
      have : i - (List.take i U.toList).length = 0 := by simp; omega
      rw [this]
      simp [Array.getElem?_setIfInBounds, hk]
    · rw [if_neg (by omega), List.getElem?_eq_none (by simp; omega)]
theorem owns_form {w : World} {B : Nat} {e : TypeId} {q n : Nat} {v : Value} {xs : List Value} (h : w.ownsRow B e q v n xs) : ∃ a cap, v = .slice a n cap := by
  rcases h.2 with ⟨h0, hn⟩ | ⟨g, cap, cur, h0, _⟩
  · exact ⟨none, 0, by rw [h0, hn]⟩
  · exact ⟨_, cap, h0⟩
theorem more_grow (A : World) (l l2 : Array Obj) (d d2 : Nat) : Below (wmore A l d).heap.size (wmore A l d) (wmore A (l ++ l2) d2) := by
  rw [← more_more A l l2 d d2]
  exact more_below (Below.refl _ _) (Nat.le_refl _) _ _
theorem alloc_get {W : World} {o : Obj} {g : Nat} (h : g = W.heap.size) : (W.alloc o).heap[g]? = some o := by
  subst h
  show (W.heap.push _)[W.heap.size]? = _
  simp
theorem own_eq2 {w : World} {B : Nat} {e : TypeId} {q : Nat} {r : Value} {n m : Nat} {xs ys : List Value} (h : w.ownsRow B e q r n xs) (h1 : n = m) (h2 : xs = ys) : w.ownsRow B e q r m ys := by
  subst h1; subst h2; exact h
theorem own_base {w : World} {B C : Nat} {e : TypeId} {q : Nat} {r : Value} {n : Nat} {xs : List Value} (h : w.ownsRow B e q r n xs) (h1 : B = C) : w.ownsRow C e q r n xs := by
  subst h1; exact h
theorem more_alloc (A : World) (l : Array Obj) (d : Nat) (o : Obj) : (wmore A l d).alloc o = wmore A (l.push o) d := by
  unfold World.alloc wmore
  simp
theorem OwnRows.grown {B C : Nat} {e f : TypeId} {w w' : World} {U : List Value} {L : List (List Int)} {o : Value} {p n : Nat} {xs : List Value} (h : OwnRows B e w U L) (hO : w.ownsRow C f p o n xs) (hef : e ≠ f) (hg : w.grownBy w' o.ownBlock) : OwnRows B e w' U L :=
  ⟨h.len, fun i u l hu hl => owns_grown (h.row i u l hu hl) hg (fun g hg' => owns_type (h.row i u l hu hl) hO hef hg'), h.apart⟩
theorem grown3 {B : Nat} {w0 wa w2 : World} {v : Value} {e : TypeId} {q n : Nat} {xs : List Value} (hb : Below B w0 wa) (hs : B ≤ wa.heap.size) (hO : wa.ownsRow B e q v n xs) (hg : wa.grownBy w2 v.ownBlock) : Below B w0 w2 :=
  hb.trans ⟨hg.os, hg.tape, hg.output, hg.size, fun k hk => hg.block k (by omega) (fun h => by
    rcases hO.2 with ⟨h0, _⟩ | ⟨g, cap, cur, h0, h1, _⟩
    · rw [h0] at h; simp [Value.ownBlock] at h
    · rw [h0] at h
      have : k = g := by simpa [Value.ownBlock] using h
      omega)⟩
theorem iV_app (a b : List Int) : iV (a ++ b) = iV a ++ iV b := by simp [iV]
theorem src_new (w : World) (C : List Value) (t : TypeId) : Src (w.alloc (.cells C.toArray t)) (.slice (some ⟨w.heap.size, 0, none⟩) 1 1) 1 C :=
  Or.inr ⟨⟨w.heap.size, 0, none⟩, 1, rfl, fun j u hu => by rw [add_at, Nat.zero_add]; exact cell_new w _ t (0, 0) j (by simpa using hu)⟩
theorem owns_lift {w w' : World} {base : Nat} {e : TypeId} {q : Nat} {v : Value} {n : Nat} {xs : List Value} (h : w.ownsRow base e q v n xs) {B : Nat} (hb : Below B w w') (hB : w.heap.size = B) : w'.ownsRow base e q v n xs := owns_below h (hB ▸ hb)
theorem owns_made (w : World) (Z : Array Value) (e : TypeId) (q m : Nat) (hZ : Z.size = m * q) (hm : m ≤ maxLen) : (w.alloc (.cells Z e)).ownsRow w.heap.size e q (.slice (some ⟨w.heap.size, 0, none⟩) 0 m) 0 [] := by
  refine ⟨by simp, Or.inr ⟨w.heap.size, m, Z, rfl, Nat.le_refl _, ?_, by omega, hm, hZ, by simp⟩⟩
  show (w.heap.push _)[w.heap.size]? = _
  simp
theorem row_none {α : Type} {q : Nat} {R : Rep α} {w : World} : RowR q R w (.slice none 0 0) ([] : List α) := Or.inl ⟨none, 0, rfl, rfl, fun _ => rfl⟩
theorem row_cells1 {w : World} {b : Nat} {z : Int} (h : w.cell? ⟨b, 0, none⟩ = some (.int .i64 z)) (hz : I64 z) : RowR 1 intR w (.slice (some ⟨b, 0, none⟩) 1 1) [z] :=
  Or.inr ⟨b, 0, 1, rfl, by simp, by simp, by unfold maxLen; omega, World.block_lt_of_cell? w _ h, fun i x hx => by
    have hi : i < 1 := lt_of_get hx
    obtain rfl : i = 0 := by omega
    obtain rfl : z = x := by simpa using hx
    refine ⟨[.int .i64 z], rfl, fun j u hu => ?_, rfl, hz⟩
    have hj : j < 1 := lt_of_get hu
    obtain rfl : j = 0 := by omega
    obtain rfl : Value.int .i64 z = u := by simpa using hu
    exact h⟩
theorem row_cells2 {w : World} {b : Nat} {z y : Int} (h : w.cell? ⟨b, 0, none⟩ = some (.int .i64 z)) (h' : w.cell? ⟨b, 1, none⟩ = some (.int .i64 y)) (hz : I64 z) (hy : I64 y) : RowR 1 intR w (.slice (some ⟨b, 0, none⟩) 2 2) [z, y] :=
  Or.inr ⟨b, 0, 2, rfl, by simp, by simp, by unfold maxLen; omega, World.block_lt_of_cell? w _ h, fun i x hx => by
    have hi : i < 2 := lt_of_get hx
    have hxi : I64 x := by
      rcases List.mem_cons.1 (List.mem_of_getElem? hx) with rfl | hx
      · exact hz
      · rw [List.mem_singleton.1 hx]; exact hy
    refine ⟨[.int .i64 x], rfl, fun j u hu => ?_, rfl, hxi⟩
    have hj : j < 1 := lt_of_get hu
    obtain rfl : j = 0 := by omega
    obtain rfl : Value.int .i64 x = u := by simpa using hu
    obtain rfl | rfl : i = 0 ∨ i = 1 := by omega
    · obtain rfl : z = x := by simpa using hx
      exact h
    · obtain rfl : y = x := by simpa using hx
      exact h'⟩
/-- a slice that was just made, without elements -/
theorem owns_empty (W : World) (e : TypeId) (q : Nat) {base : Nat} (hb : base ≤ W.heap.size) : (W.alloc (.cells #[] e)).ownsRow base e q (.slice (some ⟨W.heap.size, 0, none⟩) 0 0) 0 [] := World.ownsRow_lit W #[] 0 hb (by unfold maxLen; omega) (by simp)
theorem owns_empty1 (w : World) (o : Obj) (e : TypeId) (q : Nat) : ((w.alloc o).alloc (.cells #[] e)).ownsRow (w.heap.size + 1) e q (.slice (some ⟨w.heap.size + 1, 0, none⟩) 0 0) 0 [] := by
  have := owns_empty (w.alloc o) e q (base := w.heap.size + 1) (by simp)
  simpa using this
end Go.Proofs.YtjikkipdmonndaaDoor

/- Contracts of octet (layer 3). -/
namespace Go.Proofs.YtjikkipdmonndaaDoor
open Go.RowKit
def bytesV (l : List UInt8) : List Value := l.map fun c => Value.int .u8 (c.toNat : Int)
theorem bytesV_len (l : List UInt8) : (bytesV l).length = l.length := by simp [bytesV]
theorem bytesV_at {l : List UInt8} {i : Nat} {v : Value} (h : (bytesV l)[i]? = some v) : i < l.length ∧ v = byteV l i := by
  have hi : i < l.length := by
    by_cases hi : i < l.length
    · exact hi
    · rw [List.getElem?_eq_none (by rw [bytesV_len]; omega)] at h; cases h
  have := byteV_at hi
  unfold bytesV at h
  rw [this] at h
  exact ⟨hi, (Option.some.inj h).symm⟩
theorem bytesV_one (l : List UInt8) : ∀ v ∈ bytesV l, v.oneCell' = true := by
  intro v hv
  obtain ⟨c, _, rfl⟩ := List.mem_map.1 hv
  rfl
def near8 (n : Int) : Int := min (max n 0) 8
theorem octet_near (n : Int) (w : World) : Calls Tryd.prog 56 #[.int .i64 n] w fun e w' => e = .returned (.int .i64 (near8 n)) ∧ w = w' := by
  by_cases h1 : n < 0
  · have Hr := Lib.hid (show near8 n = 0 by unfold near8; omega)
    go_enter Tryd.func56, Tryd.ntmps56; go_wp2; go_ret; exact ⟨by rw [Hr.out]; rfl, rfl⟩
  by_cases h2 : 8 < n
  · have Hr := Lib.hid (show near8 n = 8 by unfold near8; omega)
    have h3 : ¬ n < 0 := h1
    go_enter Tryd.func56, Tryd.ntmps56; go_wp2; go_ret; exact ⟨by rw [Hr.out]; rfl, rfl⟩
  · have Hr := Lib.hid (show near8 n = n by unfold near8; omega)
    go_enter Tryd.func56, Tryd.ntmps56; go_wp2; go_ret; exact ⟨by rw [Hr.out]; rfl, rfl⟩
theorem ref03_held (n : Int) (w : World) : Calls Tryd.prog 62 #[.int .i64 n] w fun e w' => e = .returned (.int .i64 (near8 n)) ∧ w = w' := by
  by_cases h1 : n < 0
  · have Hr := Lib.hid (show near8 n = 0 by unfold near8; omega)
    go_enter Tryd.func62, Tryd.ntmps62; go_wp2; go_ret; exact ⟨by rw [Hr.out]; rfl, rfl⟩
  by_cases h2 : 8 < n
  · have Hr := Lib.hid (show near8 n = 8 by unfold near8; omega)
    go_enter Tryd.func62, Tryd.ntmps62; go_wp2; go_ret; exact ⟨by rw [Hr.out]; rfl, rfl⟩
  · have Hr := Lib.hid (show near8 n = n by unfold near8; omega)
    go_enter Tryd.func62, Tryd.ntmps62; go_wp2; go_ret; exact ⟨by rw [Hr.out]; rfl, rfl⟩
theorem octet_grown (v : Value) (l : List UInt8) (m : Nat) (w : World) (hv : RowAt w v l.length (byteV l)) (hm : l.length + m ≤ 1000000000) :
    Calls Tryd.prog 55 #[v, .int .i64 (m : Int)] w fun e w' => e = .returned (.slice (some ⟨w.heap.size, 0, none⟩) l.length (l.length + m)) ∧ w'.ownsRow w.heap.size 5 1 (.slice (some ⟨w.heap.size, 0, none⟩) l.length (l.length + m)) l.length (bytesV l) ∧ Below w.heap.size w w' := by
  obtain ⟨i, hi, hz, hsize, hby⟩ : ∃ i, Tryd.prog.info? 5 = some i ∧ i.zero = some (.int .u8 0) ∧ i.size = 1 ∧ i.bytes = 1 := ⟨(Tryd.prog.info? 5).get!, by kernel_rfl, by kernel_rfl, by kernel_rfl, by kernel_rfl⟩
  obtain ⟨n, hn⟩ : ∃ n, l.length = n := ⟨_, rfl⟩
  have Hn := Lib.hid hn
  have hmk := run_make w 30 5 i _ Tryd.underlying30 hi hz .i64 .i64 (n : Int) ((n : Int) + (m : Int)) (by omega) (by omega) (by rw [hby]; omega) (by omega)
  rw [hsize, Nat.mul_one, show ((n : Int) + (m : Int)).toNat = n + m by omega, show ((n : Int)).toNat = n by omega] at hmk
  obtain ⟨Z, hZ⟩ : ∃ Z, madeCells (Value.int .u8 0).cells (n + m) = Z := ⟨_, rfl⟩
  have hZs : Z.toList.length = n + m := by rw [← hZ]; simp [madeCells]
  rw [hZ] at hmk
  have hg : (w.alloc (.cells Z 5)).heap[w.heap.size]? = some (.cells Z.toList.toArray 5 (0, 0)) := by show (w.heap.push _)[w.heap.size]? = _; simp
  have hB : Below w.heap.size w (w.alloc (.cells Z 5)) := (Below.refl _ _).alloc (Nat.le_refl _) _
  have hu := Tryd.underlying30
  have hsz : (Tryd.prog.info? 5).map (·.size) = some 1 := by rw [hi]; exact congrArg some hsize
  have fin : ∀ w2 : World, w2.heap[w.heap.size]? = some (.cells (splice Z.toList 0 (bytesV l)).toArray 5 (0, 0)) → w2.ownsRow w.heap.size 5 1 (.slice (some ⟨w.heap.size, 0, none⟩) l.length (l.length + m)) l.length (bytesV l) := by
    intro w2 h2
    refine ⟨by rw [bytesV_len]; omega, Or.inr ⟨_, _, _, rfl, Nat.le_refl _, h2, by omega, by unfold maxLen; omega, ?_, ?_⟩⟩
    · simp only [List.size_toArray]; rw [length_splice _ _ _ (by rw [bytesV_len]; omega)]; omega
    · rw [List.toList_toArray, Nat.mul_one]; unfold splice; rw [List.take_zero, List.nil_append]; exact List.take_left' (bytesV_len l)
  have HF := Lib.hid fin
  have HG := Lib.hid hg
  clear hZ fin hg
  rw [hn] at hv ⊢
  rcases hv with ⟨a, cap, rfl, h0, _⟩ | ⟨b, off, cap, rfl, h1, h2, h3, h4, hcell⟩
  · subst h0
    rw [show ((0 : Nat) : Int) = 0 from rfl, show (0 : Int) + (m : Int) = (m : Int) by omega] at hmk
    have hbz : bytesV l = [] := by rw [List.eq_nil_of_length_eq_zero hn]; rfl
    have HW := Lib.hid (HF.out (w.alloc (.cells Z 5)) (by rw [hbz, show splice Z.toList 0 [] = Z.toList from by simp [splice]]; exact HG.out))
    clear hbz
    go_enter Tryd.func55, Tryd.ntmps55
    go_wp2_with (first | (with_reducible show wpList _ _ _ _ _ _; refine wpList_copy_nothing (o := ⟨some 15, _, _, _, _, _⟩) rfl (.tmp 13) (.tmp 14) 30 30 rfl 5 hu hsz _ _ _ _ _ _ rfl rfl rfl ?_) | fail)
    go_wp2_with fail
    go_ret
    exact ⟨by simp, hn ▸ HW.out, hB⟩
  · have hsrc : ∀ j u, (bytesV l)[j]? = some u → (w.alloc (.cells Z 5)).cell? ((⟨b, off, none⟩ : Addr).add j) = some u := by
      intro j u hu
      obtain ⟨hj, rfl⟩ := bytesV_at hu
      have := (hB.cell (p := ⟨b, off + j, none⟩) h4).trans (hcell j (by omega))
      unfold Addr.add
      by_cases h0 : j = 0
      · subst h0; simpa using this
      · simpa [h0] using this
    have HS := Lib.hid hsrc
    clear hsrc hcell
    go_enter Tryd.func55, Tryd.ntmps55
    go_wp2_with (first | (with_reducible show wpList _ _ _ _ _ _; refine wpList_copy_splice (o := ⟨some 15, _, _, _, _, _⟩) rfl (.tmp 13) (.tmp 14) 30 30 rfl 5 hu hsz _ _ _ _ _ _ rfl rfl w.heap.size 0 Z.toList 5 HG.out (bytesV l) (by rw [bytesV_len, Hn.out]; simp [Nat.min_def]) (fun _ => ⟨rfl, _, rfl, fun j u hj => HS.out j u hj⟩) (by rw [bytesV_len, Hn.out]; omega) (bytesV_one l) w.heap.size w hB (Nat.le_refl _) ?_; intro w2 HG2 hB2) | fail)
    go_wp2_with fail
    go_ret
    exact ⟨rfl, hn ▸ HF.out w2 HG2.out, hB2⟩
end Go.Proofs.YtjikkipdmonndaaDoor

/- Contracts of octet (layer 3): Put. -/
namespace Go.Proofs.YtjikkipdmonndaaDoor
open Go.RowKit
def byteAt (n : Int) (i : Nat) : UInt8 := UInt8.ofNat ((n / 2 ^ (8 * i)) % 256).toNat
def putL (k : Nat) (n : Int) : List UInt8 := (List.range k).map (byteAt n)
theorem putL_succ (k : Nat) (n : Int) : putL (k + 1) n = putL k n ++ [byteAt n k] := by simp [putL, List.range_succ]
theorem putL_len (k : Nat) (n : Int) : (putL k n).length = k := by simp [putL]
theorem byteAt_val (n : Int) (i : Nat) : ((byteAt n i).toNat : Int) = (n / 2 ^ (8 * i)) % 256 := by
  unfold byteAt
  have h1 : 0 ≤ (n / 2 ^ (8 * i)) % 256 := by omega
  have h2 : (n / 2 ^ (8 * i)) % 256 < 256 := by omega
  rw [UInt8.toNat_ofNat']
  omega
theorem bytesV_snoc (l : List UInt8) (c : UInt8) : bytesV (l ++ [c]) = bytesV l ++ [Value.int .u8 (c.toNat : Int)] := by simp [bytesV]
set_option maxHeartbeats 1000000 in
theorem octet_Put (v : Value) (l : List UInt8) (many n : Int) (w : World) (hv : RowAt w v l.length (byteV l)) (hm : l.length ≤ 100000000) :
    Calls Tryd.prog 22 #[v, .int .i64 many, .int .i64 n] w fun e w' => ∃ r, e = .returned r ∧ w'.ownsRow w.heap.size 5 1 r (l.length + (near8 many).toNat) (bytesV (l ++ putL (near8 many).toNat n)) ∧ Below w.heap.size w w' := by
  obtain ⟨N, hN⟩ : ∃ N : Nat, (near8 many).toNat = N := ⟨_, rfl⟩
  have hN1 : near8 many = (N : Int) := by unfold near8 at *; omega
  have hN2 : N ≤ 8 := by unfold near8 at *; omega
  have HN := Lib.hid hN1
  rw [hN]
  clear hN1 hN
  obtain ⟨i, hi, hz, hsize, hby⟩ : ∃ i, Tryd.prog.info? 5 = some i ∧ i.zero = some (.int .u8 0) ∧ i.size = 1 ∧ i.bytes = 1 := ⟨(Tryd.prog.info? 5).get!, by kernel_rfl, by kernel_rfl, by kernel_rfl, by kernel_rfl⟩
  go_enter Tryd.func22, Tryd.ntmps22
  go_wp2_with fail
  refine (octet_near _ _).mono ?_; rintro e w' ⟨rfl, rfl⟩
  rw [HN.out]
  go_wp2_with fail
  refine (octet_grown _ l N _ hv (by omega)).mono ?_; rintro e w1 ⟨rfl, hown, hb⟩
  go_wp2_with fail
  refine (octet_near _ _).mono ?_; rintro e w' ⟨rfl, rfl⟩
  rw [HN.out]
  go_wp2_with fail
  go_loopw [7, 15] (fun o j wr => ∃ k : Nat, k ≤ N ∧ j = .int .i64 k ∧ o = .slice (some ⟨w.heap.size, 0, none⟩) (l.length + k) (l.length + N) ∧ Hid (wr.ownsRow w.heap.size 5 1 (.slice (some ⟨w.heap.size, 0, none⟩) (l.length + k) (l.length + N)) (l.length + k) (bytesV (l ++ putL k n))) ∧ Below w.heap.size w wr) (fun _ j _ => N - (intOf j).toNat)
  case atStart => exact ⟨0, by omega, rfl, rfl, Lib.hid (by rw [show putL 0 n = [] from rfl, List.append_nil]; exact hown), hb⟩
  case round =>
    obtain ⟨k, hk, rfl, rfl, hO, hB⟩ := hrel
    by_cases hlt : k < N
    · have hk8 : k < 8 := by omega
      have hz := hB.size
      go_wp2_with (first | (at_builtin; refine wpList_append_own_spare _ rfl (.tmp 18) (.tmp 24) 30 rfl w.heap.size 5 i 1 Tryd.underlying30 hi hsize w.heap.size (l.length + k) (l.length + N) _ rfl (hO.out.alloc _) ⟨wr.heap.size, 0, none⟩ 1 1 [.int .u8 (n / 2 ^ (8 * k) % 256)] rfl rfl (cell_one_new _ _ _) (by intro u hu; obtain rfl := List.mem_singleton.1 hu; rfl) (by omega) ?_; intro w2 hO2 hG2; have HO2 := Lib.hid hO2; clear hO2) | fail)
      go_roundw
      case rel => exact ⟨k + 1, by omega, by go_num, rfl, Lib.hid (by rw [putL_succ, ← List.append_assoc, bytesV_snoc, byteAt_val]; exact HO2.out), below_grown (hB.alloc hB.size _) (Nat.le_refl _) (by rw [World.size_alloc]; omega) hG2⟩
      case measure => simp [intOf]; omega
    · obtain rfl : k = N := by omega
      go_wp2_with fail
      go_ret
      exact ⟨_, rfl, hO.out, hB⟩
end Go.Proofs.YtjikkipdmonndaaDoor

/- Layer 14: numbers that fit a byte, and their bytes. -/
namespace Go.Proofs.YtjikkipdmonndaaDoor
open Go.RowKit
set_option linter.unusedSimpArgs false
set_option linter.unusedVariables false
def fitB (z : Int) : Bool := decide (0 ≤ z ∧ z ≤ 255)
theorem fitB_yes {z : Int} (h0 : 0 ≤ z) (h1 : z ≤ 255) : fitB z = true := decide_eq_true ⟨h0, h1⟩
theorem all_snoc {L : List Int} {k : Nat} {x : Int} {p : Int → Bool} (h : (L.take k).all p = true) (hx : L[k]? = some x) (hp : p x = true) : (L.take (k + 1)).all p = true := by
  rw [take_snoc hx, List.all_append, h]; simp [hp]
theorem ownsRow_none' (w : World) (B : Nat) (e : TypeId) (q : Nat) : w.ownsRow B e q (.slice none 0 0) 0 [] := ⟨by simp, Or.inl ⟨rfl, rfl⟩⟩
theorem all_not {L : List Int} {k : Nat} {x : Int} {p : Int → Bool} (hx : L[k]? = some x) (hp : p x = false) : L.all p = false := by
  rw [List.all_eq_false]; exact ⟨x, List.mem_of_getElem? hx, by simp [hp]⟩
set_option maxHeartbeats 2000000 in
theorem tab_fits (v : Value) (L : List Int) (w : World) (hv : RowR 1 intR w v L) :
    Calls Tryd.prog 48 #[v] w fun e w' => e = .returned (.bool (L.all fitB)) ∧ ∃ m, w' = w.drewN m := by
  have hL := hv.len
  obtain ⟨sa, ca, rfl⟩ := row_get hv
  have HY := Lib.hid (fun h : (L.take L.length).all fitB = true => (show L.all fitB = true by rwa [List.take_length] at h))
  obtain ⟨N, hN⟩ : ∃ N, L.length = N := ⟨_, rfl⟩
  rw [hN] at hv hL HY
  rw [hN]
  go_enter Tryd.func48, Tryd.ntmps48
  go_wp2_with fail
  go_loopw [7] (fun j wr => ∃ k m : Nat, k ≤ N ∧ j = .int .i64 k ∧ Hid ((L.take k).all fitB = true) ∧ wr = w.drewN m) (fun j _ => N - (intOf j).toNat)
  case atStart => exact ⟨0, 0, by omega, rfl, Lib.hid (by simp), rfl⟩
  case round =>
    obtain ⟨k, m, hk, rfl, heq, rfl⟩ := hrel
    by_cases hlt : k < N
    · obtain ⟨b, off, rfl, hbw, hc⟩ := ints_at hv (k := k) (by omega)
      obtain ⟨x, hx⟩ : ∃ x, L[k]? = some x := ⟨L[k]'(by omega), by simp [hN, hlt]⟩
      obtain ⟨c0, _⟩ := hc k x hx
      clear hc
      by_cases h0 : 0 ≤ x
      · have q0 : (x < 0) = False := eq_false (by omega)
        by_cases h1 : x ≤ 255
        · have q1 : (255 < x) = False := eq_false (by omega)
          have hs := Lib.hid (all_snoc heq.out hx (fitB_yes h0 h1))
          clear hx heq h0 h1
          go_wp2_with fail
          go_roundw
          case rel => exact ⟨k + 1, _, by omega, by simp, hs, rfl⟩
          case measure => first | (simp [intOf]; done) | (simp [intOf]; omega)
        · have q1 : (255 < x) = True := eq_true (by omega)
          have hs := Lib.hid (all_not hx (show fitB x = false from decide_eq_false (fun g => h1 g.2)))
          clear hx heq h0 h1
          go_wp2_with fail
          go_ret
          exact ⟨by rw [hs.out]; rfl, _, rfl⟩
      · have q0 : (x < 0) = True := eq_true (by omega)
        have hs := Lib.hid (all_not hx (show fitB x = false from decide_eq_false (fun g => h0 g.1)))
        clear hx heq h0
        go_wp2_with fail
        go_ret
        exact ⟨by rw [hs.out]; rfl, _, rfl⟩
    · obtain rfl : k = N := by omega
      have hs := Lib.hid (HY.out heq.out)
      clear heq
      go_wp2_with fail
      go_ret
      exact ⟨by rw [hs.out]; rfl, _, rfl⟩
-- bytes
def byteO (z : Int) : UInt8 := UInt8.ofNat (z % 256).toNat
theorem byteO_val (z : Int) : ((byteO z).toNat : Int) = z % 256 := by
  unfold byteO
  rw [UInt8.toNat_ofNat']
  omega
theorem bytesO_snoc {L : List Int} {k : Nat} {x : Int} (hx : L[k]? = some x) : bytesV ((L.take (k + 1)).map byteO) = bytesV ((L.take k).map byteO) ++ [.int .u8 (x % 256)] := by
  rw [take_snoc hx, List.map_append, ← byteO_val]; simp [bytesV]
set_option maxHeartbeats 2000000 in
theorem tab_bytesOf (v : Value) (L : List Int) (w : World) (hv : RowR 1 intR w v L) (hm : L.length ≤ 1000) :
    Calls Tryd.prog 47 #[v] w fun e w' => ∃ r, e = .returned r ∧ w'.ownsRow w.heap.size 5 1 r L.length (bytesV (L.map byteO)) ∧ Below w.heap.size w w' := by
  obtain ⟨i, hi, hz, hsize, hby⟩ : ∃ i, Tryd.prog.info? 5 = some i ∧ i.zero = some (.int .u8 0) ∧ i.size = 1 ∧ i.bytes = 1 := ⟨(Tryd.prog.info? 5).get!, by kernel_rfl, by kernel_rfl, by kernel_rfl, by kernel_rfl⟩
  obtain ⟨sa, ca, rfl⟩ := row_get hv
  have HY := Lib.hid (show L.take L.length = L from List.take_length)
  obtain ⟨N, hN⟩ : ∃ N, L.length = N := ⟨_, rfl⟩
  rw [hN] at hv hm HY
  rw [hN]
  go_enter Tryd.func47, Tryd.ntmps47
  go_wp2_with fail
  go_loopw [3, 8] (fun o j wr => ∃ k : Nat, k ≤ N ∧ j = .int .i64 k ∧ Hid (wr.ownsRow w.heap.size 5 1 o k (bytesV ((L.take k).map byteO))) ∧ Below w.heap.size w wr) (fun _ j _ => N - (intOf j).toNat)
  case atStart => exact ⟨0, by omega, rfl, Lib.hid (ownsRow_none' _ _ _ _), Below.refl _ _⟩
  case round =>
    obtain ⟨k, hk, rfl, hO, hB⟩ := hrel
    have hz' := hB.size
    by_cases hlt : k < N
    · obtain ⟨x, hx⟩ : ∃ x, L[k]? = some x := get_some (by omega)
      obtain ⟨b, off, rfl, hbw, hc⟩ := ints_at hv (k := k) (by omega)
      obtain ⟨c0, _⟩ := hc k x hx
      have c0 := (hB.cell (p := ⟨b, off + k, none⟩) hbw).trans c0
      have hn := Lib.hid (bytesO_snoc hx)
      have Hown := Lib.hid (fun W (hW : Below wr.heap.size wr W) => owns_below hO.out hW)
      clear hc hx
      go_wp2_with (first | (at_builtin; go_loud (refine wpList_append_src rfl (.tmp 12) (.tmp 15) 30 rfl w.heap.size 5 i (.int .u8 0) 1 1 Tryd.underlying30 hi hz hsize hby rfl (by omega) _ k _ rfl (Hown.out _ (by (repeat' (first | (with_reducible exact Below.refl _ _) | (with_reducible assumption) | (with_reducible refine below_drewN ?_ _) | (with_reducible refine Below.alloc ?_ ?_ _) | (with_reducible refine Below.drew ?_) | (with_reducible refine Below.setCell ?_ ?_ _) | go_size)))) _ 1 [.int .u8 (x % 256)] rfl (src_new _ _ _) rfl (by intro u hu; simp at hu; rw [hu]; rfl) (by unfold maxLen; omega) (by omega) (by simp; omega) ?_; intro v3 w3 hO3 hG3; have hB3 := Lib.hid (grown3 (Below.trans hB (show Below w.heap.size wr (wr.alloc _) from (show Below wr.heap.size wr _ by (repeat' (first | (with_reducible exact Below.refl _ _) | (with_reducible assumption) | (with_reducible refine below_drewN ?_ _) | (with_reducible refine Below.alloc ?_ ?_ _) | (with_reducible refine Below.drew ?_) | (with_reducible refine Below.setCell ?_ ?_ _) | go_size))).mono (by omega))) (by simp; omega) (Hown.out _ (by (repeat' (first | (with_reducible exact Below.refl _ _) | (with_reducible assumption) | (with_reducible refine below_drewN ?_ _) | (with_reducible refine Below.alloc ?_ ?_ _) | (with_reducible refine Below.drew ?_) | (with_reducible refine Below.setCell ?_ ?_ _) | go_size)))) hG3); have HO3 := Lib.hid hO3; clear hO3 hG3)) | fail)
      go_roundw
      case rel => exact ⟨k + 1, by omega, by simp, Lib.hid (own_eq2 HO3.out (by omega) hn.out.symm), hB3.out⟩
      case measure => first | (simp [intOf]; done) | (simp [intOf]; omega)
    · obtain rfl : k = N := by omega
      go_wp2_with fail
      go_ret
      exact ⟨_, rfl, by have := hO.out; rwa [HY.out] at this, hB⟩
end Go.Proofs.YtjikkipdmonndaaDoor

/- Layer 15: numbers that fit a byte, and their bytes: the unit's. -/
namespace Go.Proofs.YtjikkipdmonndaaDoor
open Go.RowKit
set_option linter.unusedSimpArgs false
set_option linter.unusedVariables false
set_option maxHeartbeats 2000000 in
theorem unit_small (v : Value) (L : List Int) (w : World) (hv : RowR 1 intR w v L) :
    Calls Tryd.prog 109 #[v] w fun e w' => e = .returned (.bool (L.all fitB)) ∧ ∃ m, w' = w.drewN m := by
  have hL := hv.len
  obtain ⟨sa, ca, rfl⟩ := row_get hv
  have HY := Lib.hid (fun h : (L.take L.length).all fitB = true => (show L.all fitB = true by rwa [List.take_length] at h))
  obtain ⟨N, hN⟩ : ∃ N, L.length = N := ⟨_, rfl⟩
  rw [hN] at hv hL HY
  rw [hN]
  go_enter Tryd.func109, Tryd.ntmps109
  go_wp2_with fail
  go_loopw [7] (fun j wr => ∃ k m : Nat, k ≤ N ∧ j = .int .i64 k ∧ Hid ((L.take k).all fitB = true) ∧ wr = w.drewN m) (fun j _ => N - (intOf j).toNat)
  case atStart => exact ⟨0, 0, by omega, rfl, Lib.hid (by simp), rfl⟩
  case round =>
    obtain ⟨k, m, hk, rfl, heq, rfl⟩ := hrel
    by_cases hlt : k < N
    · obtain ⟨b, off, rfl, hbw, hc⟩ := ints_at hv (k := k) (by omega)
      obtain ⟨x, hx⟩ : ∃ x, L[k]? = some x := ⟨L[k]'(by omega), by simp [hN, hlt]⟩
      obtain ⟨c0, _⟩ := hc k x hx
      clear hc
      by_cases h0 : 0 ≤ x
      · have q0 : (x < 0) = False := eq_false (by omega)
        by_cases h1 : x ≤ 255
        · have q1 : (255 < x) = False := eq_false (by omega)
          have hs := Lib.hid (all_snoc heq.out hx (fitB_yes h0 h1))
          clear hx heq h0 h1
          go_wp2_with fail
          go_roundw
          case rel => exact ⟨k + 1, _, by omega, by simp, hs, rfl⟩
          case measure => first | (simp [intOf]; done) | (simp [intOf]; omega)
        · have q1 : (255 < x) = True := eq_true (by omega)
          have hs := Lib.hid (all_not hx (show fitB x = false from decide_eq_false (fun g => h1 g.2)))
          clear hx heq h0 h1
          go_wp2_with fail
          go_ret
          exact ⟨by rw [hs.out]; rfl, _, rfl⟩
      · have q0 : (x < 0) = True := eq_true (by omega)
        have hs := Lib.hid (all_not hx (show fitB x = false from decide_eq_false (fun g => h0 g.1)))
        clear hx heq h0
        go_wp2_with fail
        go_ret
        exact ⟨by rw [hs.out]; rfl, _, rfl⟩
    · obtain rfl : k = N := by omega
      have hs := Lib.hid (HY.out heq.out)
      clear heq
      go_wp2_with fail
      go_ret
      exact ⟨by rw [hs.out]; rfl, _, rfl⟩
set_option maxHeartbeats 2000000 in
theorem ref15_bytes (v : Value) (L : List Int) (w : World) (hv : RowR 1 intR w v L) :
    Calls Tryd.prog 91 #[v] w fun e w' => e = .returned (.bool (L.all fitB)) ∧ ∃ m, w' = w.drewN m := by
  have hL := hv.len
  obtain ⟨sa, ca, rfl⟩ := row_get hv
  have HY := Lib.hid (fun h : (L.take L.length).all fitB = true => (show L.all fitB = true by rwa [List.take_length] at h))
  obtain ⟨N, hN⟩ : ∃ N, L.length = N := ⟨_, rfl⟩
  rw [hN] at hv hL HY
  rw [hN]
  go_enter Tryd.func91, Tryd.ntmps91
  go_wp2_with fail
  go_loopw [3] (fun j wr => ∃ k m : Nat, k ≤ N ∧ j = .int .i64 k ∧ Hid ((L.take k).all fitB = true) ∧ wr = w.drewN m) (fun j _ => N - (intOf j).toNat)
  case atStart => exact ⟨0, 0, by omega, rfl, Lib.hid (by simp), rfl⟩
  case round =>
    obtain ⟨k, m, hk, rfl, heq, rfl⟩ := hrel
    by_cases hlt : k < N
    · obtain ⟨b, off, rfl, hbw, hc⟩ := ints_at hv (k := k) (by omega)
      obtain ⟨x, hx⟩ : ∃ x, L[k]? = some x := ⟨L[k]'(by omega), by simp [hN, hlt]⟩
      obtain ⟨c0, _⟩ := hc k x hx
      clear hc
      by_cases h0 : 0 ≤ x
      · have q0 : (x < 0) = False := eq_false (by omega)
        by_cases h1 : x ≤ 255
        · have q1 : (255 < x) = False := eq_false (by omega)
          have hs := Lib.hid (all_snoc heq.out hx (fitB_yes h0 h1))
          clear hx heq h0 h1
          go_wp2_with fail
          go_roundw
          case rel => exact ⟨k + 1, _, by omega, by simp, hs, rfl⟩
          case measure => first | (simp [intOf]; done) | (simp [intOf]; omega)
        · have q1 : (255 < x) = True := eq_true (by omega)
          have hs := Lib.hid (all_not hx (show fitB x = false from decide_eq_false (fun g => h1 g.2)))
          clear hx heq h0 h1
          go_wp2_with fail
          go_ret
          exact ⟨by rw [hs.out]; rfl, _, rfl⟩
      · have q0 : (x < 0) = True := eq_true (by omega)
        have hs := Lib.hid (all_not hx (show fitB x = false from decide_eq_false (fun g => h0 g.1)))
        clear hx heq h0
        go_wp2_with fail
        go_ret
        exact ⟨by rw [hs.out]; rfl, _, rfl⟩
    · obtain rfl : k = N := by omega
      have hs := Lib.hid (HY.out heq.out)
      clear heq
      go_wp2_with fail
      go_ret
      exact ⟨by rw [hs.out]; rfl, _, rfl⟩
theorem made_row {w : World} {N : Nat} {C : Array Value} {e : TypeId} {L : List UInt8} (hC : C.size = N) (hm : N ≤ maxLen) (hL : N = L.length) (h : ∀ (i : Nat) (c : UInt8), L[i]? = some c → C[i]? = some (.int .u8 (c.toNat : Int))) : (w.alloc (.cells C e)).ownsRow w.heap.size e 1 (.slice (some ⟨w.heap.size, 0, none⟩) N N) N (bytesV L) := by
  refine ⟨by simp [bytesV, hL], Or.inr ⟨w.heap.size, N, C, rfl, Nat.le_refl _, alloc_get rfl, Nat.le_refl _, hm, by omega, ?_⟩⟩
  apply List.ext_getElem?
  intro i
  rw [List.getElem?_take]
  by_cases hi : i < N
  · rw [if_pos (by omega)]
    obtain ⟨c, hc⟩ := get_some (L := L) (n := i) (by omega)
    have := h i c hc
    simp [bytesV, hc, this]
  · rw [if_neg (by omega), List.getElem?_eq_none (by simp [bytesV]; omega)]
set_option maxHeartbeats 2000000 in
theorem unit_bytesOf (v : Value) (L : List Int) (w : World) (hv : RowR 1 intR w v L) (hm : L.length ≤ 20000) :
    Calls Tryd.prog 86 #[v] w fun e w' => ∃ r, e = .returned r ∧ w'.ownsRow w.heap.size 5 1 r L.length (bytesV (L.map byteO)) ∧ Below w.heap.size w w' := by
  obtain ⟨i, hi, hz, hsize, hby⟩ : ∃ i, Tryd.prog.info? 5 = some i ∧ i.zero = some (.int .u8 0) ∧ i.size = 1 ∧ i.bytes = 1 := ⟨(Tryd.prog.info? 5).get!, by kernel_rfl, by kernel_rfl, by kernel_rfl, by kernel_rfl⟩
  obtain ⟨sa, ca, rfl⟩ := row_get hv
  have HY := Lib.hid (show (L.map byteO).length = L.length by simp)
  obtain ⟨N, hN⟩ : ∃ N, L.length = N := ⟨_, rfl⟩
  rw [hN] at hv hm HY
  rw [hN]
  have hmk := run_make w 30 5 i _ Tryd.underlying30 hi hz .i64 .i64 (N : Int) (N : Int) (by omega) (by omega) (by rw [hby]; omega) (by omega)
  rw [hsize, Nat.mul_one, show ((N : Int)).toNat = N from by omega] at hmk
  obtain ⟨Z, hZ⟩ : ∃ Z, madeCells (Value.int .u8 0).cells N = Z := ⟨_, rfl⟩
  have hZs : Z.size = N := by rw [← hZ]; simp [madeCells]
  rw [hZ] at hmk
  clear hZ hi hz hsize hby
  go_enter Tryd.func86, Tryd.ntmps86
  go_wp2_with fail
  go_loopw [11] (fun j wr => ∃ (k : Nat) (C : Array Value), k ≤ N ∧ j = .int .i64 k ∧ C.size = N ∧ Hid (∀ i x, i < k → L[i]? = some x → C[i]? = some (.int .u8 (x % 256))) ∧ wr = w.alloc (.cells C 5)) (fun j _ => N - (intOf j).toNat)
  case atStart => exact ⟨0, Z, by omega, rfl, hZs, Lib.hid (fun i x h => by omega), rfl⟩
  case round =>
    clear hmk
    obtain ⟨k, C, hk, rfl, hCs, hall, rfl⟩ := hrel
    have hB : Below w.heap.size w (w.alloc (.cells C 5)) := (Below.refl _ _).alloc (Nat.le_refl _) _
    by_cases hlt : k < N
    · obtain ⟨x, hx⟩ : ∃ x, L[k]? = some x := get_some (by omega)
      obtain ⟨b, off, rfl, hbw, hc⟩ := ints_at hv (k := k) (by omega)
      obtain ⟨c0, _⟩ := hc k x hx
      have c0 := (hB.cell (p := ⟨b, off + k, none⟩) hbw).trans c0
      obtain ⟨u0, hu0⟩ : ∃ u0, C[k]? = some u0 := ⟨C[k]'(by omega), by simp [hCs, hlt]⟩
      have hn := Lib.hid (show ∀ i y, i < k + 1 → L[i]? = some y → (C.setIfInBounds k (.int .u8 (x % 256)))[i]? = some (.int .u8 (y % 256)) from fun i y hi hy => by
        by_cases hik : i = k
        · subst hik
          rw [hx] at hy
          obtain rfl := Option.some.inj hy
          simp [Array.getElem?_setIfInBounds, hCs, hlt]
        · rw [Array.getElem?_setIfInBounds, if_neg (by omega)]
          exact hall.out i y (by omega) hy)
      clear hc hx hB
      go_wp2_with fail
      go_roundw
      case rel => exact ⟨k + 1, _, by omega, by simp, by simp [hCs], hn.out, rfl⟩
      case measure => first | (simp [intOf]; done) | (simp [intOf]; omega)
    · obtain rfl : k = N := by omega
      go_wp2_with fail
      go_ret
      refine ⟨_, rfl, made_row hCs (by unfold maxLen; omega) (by simp [hN]) (fun i c hc => ?_), hB⟩
      have hi : i < L.length := by have := lt_of_get hc; simpa using this
      have hxi : L[i]? = some L[i] := by simp [hi]
      have hci : c = byteO L[i] := by simpa [hi] using hc.symm
      rw [hci, byteO_val]
      exact hall.out i _ (by omega) hxi
end Go.Proofs.YtjikkipdmonndaaDoor

/- Programs as plain lists. -/
namespace Go.Proofs.YtjikkipdmonndaaDoor
open Go.RowKit
set_option linter.unusedSimpArgs false
set_option linter.unusedVariables false
structure Vr where
  name : List UInt8
  t : Int
  n : Int
  area : Int
  init : Int
structure Bk where
  name : List UInt8
  kind : Int
structure Un where
  name : List UInt8
  params : List Int
  result : Int
  locals : List Int
  code : List Ins
structure Pr where
  consts : List (Int × Int)
  vars : List Vr
  blocks : List Bk
  units : List Un
def sz (s : List UInt8) : Prop := s.length ≤ 9223372036854775807
def constR : Rep (Int × Int) := fun _ cs x => cs = [.int .i64 x.1, .int .i64 x.2] ∧ I64 x.1 ∧ I64 x.2
theorem constR_stable : Stable constR := fun _ _ _ _ h _ => h
def varR : Rep Vr := fun _ cs x => cs = [.string ⟨x.name.toArray⟩, .int .i64 x.t, .int .i64 x.n, .int .i64 x.area, .int .i64 x.init] ∧ sz x.name ∧ I64 x.t ∧ I64 x.n ∧ I64 x.area ∧ I64 x.init
theorem varR_stable : Stable varR := fun _ _ _ _ h _ => h
def blkR : Rep Bk := fun _ cs x => cs = [.string ⟨x.name.toArray⟩, .int .i64 x.kind] ∧ sz x.name ∧ I64 x.kind
theorem blkR_stable : Stable blkR := fun _ _ _ _ h _ => h
/-- a unit, by its three slices -/
structure UnAt (w : World) (a b c : Value) (x : Un) : Prop where
  ps : RowR 1 intR w a x.params
  ls : RowR 1 intR w b x.locals
  cs : RowR 3 insR w c x.code
  ns : sz x.name
  r64 : I64 x.result
theorem UnAt.below {w w' : World} {a b c : Value} {x : Un} (h : UnAt w a b c x) (hb : Below w.heap.size w w') : UnAt w' a b c x :=
  ⟨h.ps.below intR_stable hb, h.ls.below intR_stable hb, h.cs.below insR_stable hb, h.ns, h.r64⟩
def unitR : Rep Un := fun w cs x => ∃ a b c, cs = [.string ⟨x.name.toArray⟩, a, .int .i64 x.result, b, c] ∧ UnAt w a b c x
theorem unitR_stable : Stable unitR := fun _ _ _ _ ⟨a, b, c, h1, h2⟩ hb => ⟨a, b, c, h1, h2.below hb⟩
/-- a program, by its four slices -/
structure PrAt (w : World) (c v b u : Value) (p : Pr) : Prop where
  cs : RowR 2 constR w c p.consts
  vs : RowR 5 varR w v p.vars
  bs : RowR 2 blkR w b p.blocks
  us : RowR 5 unitR w u p.units
theorem PrAt.below {w w' : World} {c v b u : Value} {p : Pr} (h : PrAt w c v b u p) (hb : Below w.heap.size w w') : PrAt w' c v b u p :=
  ⟨h.cs.below constR_stable hb, h.vs.below varR_stable hb, h.bs.below blkR_stable hb, h.us.below unitR_stable hb⟩
/-- the cells of a slice of variables -/
theorem var_at {w : World} {a : Option Addr} {n cap : Nat} {L : List Vr} (hv : RowR 5 varR w (.slice a n cap) L) {k : Nat} (hk : k < L.length) : ∃ b off, a = some ⟨b, off, none⟩ ∧ b < w.heap.size ∧ ∀ i x, L[i]? = some x →
    w.cell? ⟨b, off + i * 5, none⟩ = some (.string ⟨x.name.toArray⟩) ∧ w.cell? ⟨b, off + i * 5 + 1, none⟩ = some (.int .i64 x.t) ∧ w.cell? ⟨b, off + i * 5 + 2, none⟩ = some (.int .i64 x.n) ∧ w.cell? ⟨b, off + i * 5 + 3, none⟩ = some (.int .i64 x.area) ∧ w.cell? ⟨b, off + i * 5 + 4, none⟩ = some (.int .i64 x.init) ∧ sz x.name ∧ I64 x.t ∧ I64 x.n ∧ I64 x.area ∧ I64 x.init := by
  obtain ⟨b, off, e, hb, h⟩ := row_at hv hk
  refine ⟨b, off, e, hb, fun i x hx => ?_⟩
  obtain ⟨C, g1, g2, g3, g4⟩ := h i x hx
  subst g3
  exact ⟨g2 0 _ rfl, g2 1 _ rfl, g2 2 _ rfl, g2 3 _ rfl, g2 4 _ rfl, g4⟩
theorem blk_at {w : World} {a : Option Addr} {n cap : Nat} {L : List Bk} (hv : RowR 2 blkR w (.slice a n cap) L) {k : Nat} (hk : k < L.length) : ∃ b off, a = some ⟨b, off, none⟩ ∧ b < w.heap.size ∧ ∀ i x, L[i]? = some x →
    w.cell? ⟨b, off + i * 2, none⟩ = some (.string ⟨x.name.toArray⟩) ∧ w.cell? ⟨b, off + i * 2 + 1, none⟩ = some (.int .i64 x.kind) ∧ sz x.name ∧ I64 x.kind := by
  obtain ⟨b, off, e, hb, h⟩ := row_at hv hk
  refine ⟨b, off, e, hb, fun i x hx => ?_⟩
  obtain ⟨C, g1, g2, g3, g4⟩ := h i x hx
  subst g3
  exact ⟨g2 0 _ rfl, g2 1 _ rfl, g4⟩
theorem const_at {w : World} {a : Option Addr} {n cap : Nat} {L : List (Int × Int)} (hv : RowR 2 constR w (.slice a n cap) L) {k : Nat} (hk : k < L.length) : ∃ b off, a = some ⟨b, off, none⟩ ∧ b < w.heap.size ∧ ∀ i x, L[i]? = some x →
    w.cell? ⟨b, off + i * 2, none⟩ = some (.int .i64 x.1) ∧ w.cell? ⟨b, off + i * 2 + 1, none⟩ = some (.int .i64 x.2) ∧ I64 x.1 ∧ I64 x.2 := by
  obtain ⟨b, off, e, hb, h⟩ := row_at hv hk
  refine ⟨b, off, e, hb, fun i x hx => ?_⟩
  obtain ⟨C, g1, g2, g3, g4⟩ := h i x hx
  subst g3
  exact ⟨g2 0 _ rfl, g2 1 _ rfl, g4⟩
theorem unit_at {w : World} {a : Option Addr} {n cap : Nat} {L : List Un} (hv : RowR 5 unitR w (.slice a n cap) L) {k : Nat} (hk : k < L.length) : ∃ b off, a = some ⟨b, off, none⟩ ∧ b < w.heap.size ∧ ∀ i x, L[i]? = some x → ∃ u1 u3 u4,
    w.cell? ⟨b, off + i * 5, none⟩ = some (.string ⟨x.name.toArray⟩) ∧ w.cell? ⟨b, off + i * 5 + 1, none⟩ = some u1 ∧ w.cell? ⟨b, off + i * 5 + 2, none⟩ = some (.int .i64 x.result) ∧ w.cell? ⟨b, off + i * 5 + 3, none⟩ = some u3 ∧ w.cell? ⟨b, off + i * 5 + 4, none⟩ = some u4 ∧ UnAt w u1 u3 u4 x := by
  obtain ⟨b, off, e, hb, h⟩ := row_at hv hk
  refine ⟨b, off, e, hb, fun i x hx => ?_⟩
  obtain ⟨C, g1, g2, u1, u3, u4, g3, g4⟩ := h i x hx
  subst g3
  exact ⟨u1, u3, u4, g2 0 _ rfl, g2 1 _ rfl, g2 2 _ rfl, g2 3 _ rfl, g2 4 _ rfl, g4⟩
def fewU (x : Un) : Bool := decide (x.name.length ≤ 300 ∧ x.params.length ≤ 20 ∧ x.locals.length ≤ 1100 ∧ x.code.length ≤ 300)
def fewP (p : Pr) : Bool := decide ((p.consts.length ≤ 60 ∧ p.vars.length ≤ 70 ∧ p.blocks.length ≤ 40 ∧ p.units.length ≤ 10) ∧ (∀ x ∈ p.vars, x.name.length ≤ 300) ∧ (∀ x ∈ p.blocks, x.name.length ≤ 300) ∧ ∀ x ∈ p.units, fewU x = true)
end Go.Proofs.YtjikkipdmonndaaDoor

/- Cells of older blocks, in later worlds. -/
namespace Go.Proofs.YtjikkipdmonndaaDoor
open Go.RowKit
theorem cellB {a b : World} (k : Below a.heap.size a b) {g o : Nat} {v : Value} (hc : a.cell? ⟨g, o, none⟩ = some v) (hp : g < a.heap.size) : b.cell? ⟨g, o, none⟩ = some v := (k.cell (p := ⟨g, o, none⟩) hp).trans hc
end Go.Proofs.YtjikkipdmonndaaDoor

/- What a block that was made for a value holds. -/
namespace Go.Proofs.YtjikkipdmonndaaDoor
open Go.RowKit
def Boxed (W : World) (g : Nat) (L : List Value) : Prop := ∀ i u, L[i]? = some u → W.cell? ⟨g, i, none⟩ = some u
theorem Boxed.new (W : World) (L : List Value) (t : TypeId) {W' : World} (h : Below (W.heap.size + 1) (W.alloc (.cells L.toArray t)) W') : Boxed W' W.heap.size L := fun i u hu =>
  (h.cell (p := ⟨W.heap.size, i, none⟩) (by show W.heap.size < _; omega)).trans (by rw [cell_at rfl]; simpa using hu)
theorem Boxed.keep {W W' : World} {g : Nat} {L : List Value} (c : Boxed W g L) (hb : g < W.heap.size) (h : Below W.heap.size W W') : Boxed W' g L := fun i u hu => (h.cell (p := ⟨g, i, none⟩) hb).trans (c i u hu)
/-- two boxes, one behind the other -/
theorem boxed2 (w : World) (L M : List Value) (t u : TypeId) {W' : World} (h : Below (w.heap.size + 2) ((w.alloc (.cells L.toArray t)).alloc (.cells M.toArray u)) W') : Boxed W' w.heap.size L ∧ Boxed W' (w.heap.size + 1) M ∧ w.heap.size + 1 < W'.heap.size ∧ Below w.heap.size w W' := by
  have e : (w.alloc (.cells L.toArray t)).heap.size = w.heap.size + 1 := by simp
  have hb : Below w.heap.size w ((w.alloc (.cells L.toArray t)).alloc (.cells M.toArray u)) := Below.alloc (Below.alloc (Below.refl _ _) (by omega) _) (by simp) _
  refine ⟨?_, ?_, by have := h.size; simp at this; omega, hb.trans (h.mono (by omega))⟩
  · exact Boxed.new w L t (Below.trans (Below.alloc (Below.refl _ _) (by simp) _) (h.mono (by omega)))
  · have := Boxed.new (w.alloc (.cells L.toArray t)) M u (W' := W') (by rw [e]; exact h)
    rw [e] at this; exact this
end Go.Proofs.YtjikkipdmonndaaDoor

/- Layer 12: the tables of op, and its small functions. -/
namespace Go.Proofs.YtjikkipdmonndaaDoor
open Go.RowKit
set_option linter.unusedSimpArgs false
set_option linter.unusedVariables false
def wordsV : List Value := [.string ⟨#[110, 111, 112]⟩, .string ⟨#[99, 111, 110, 115, 116]⟩, .string ⟨#[108, 111, 97, 100]⟩, .string ⟨#[115, 116, 111, 114, 101]⟩, .string ⟨#[103, 101, 116]⟩, .string ⟨#[112, 117, 116]⟩, .string ⟨#[105, 116, 101, 109]⟩, .string ⟨#[107, 101, 101, 112]⟩, .string ⟨#[97, 100, 100]⟩, .string ⟨#[115, 117, 98]⟩, .string ⟨#[109, 117, 108]⟩, .string ⟨#[100, 105, 118]⟩, .string ⟨#[109, 111, 100]⟩, .string ⟨#[110, 101, 103]⟩, .string ⟨#[97, 110, 100]⟩, .string ⟨#[111, 114]⟩, .string ⟨#[120, 111, 114]⟩, .string ⟨#[110, 111, 116]⟩, .string ⟨#[115, 104, 108]⟩, .string ⟨#[115, 104, 114]⟩, .string ⟨#[101, 113]⟩, .string ⟨#[110, 101]⟩, .string ⟨#[108, 116]⟩, .string ⟨#[108, 101]⟩, .string ⟨#[103, 116]⟩, .string ⟨#[103, 101]⟩, .string ⟨#[99, 111, 110, 118]⟩, .string ⟨#[100, 117, 112]⟩, .string ⟨#[112, 111, 112]⟩, .string ⟨#[115, 119, 97, 112]⟩, .string ⟨#[106, 117, 109, 112]⟩, .string ⟨#[102, 97, 108, 115, 101]⟩, .string ⟨#[115, 119, 105, 116, 99, 104]⟩, .string ⟨#[99, 97, 108, 108]⟩, .string ⟨#[114, 101, 116]⟩, .string ⟨#[115, 101, 116]⟩, .string ⟨#[114, 117, 110]⟩, .string ⟨#[111, 117, 116]⟩]
def shapesV : List Value := [.int .i64 10, .int .i64 10, .int .i64 1, .int .i64 0, .int .i64 2, .int .i64 0, .int .i64 2, .int .i64 0, .int .i64 3, .int .i64 0, .int .i64 3, .int .i64 0, .int .i64 2, .int .i64 0, .int .i64 2, .int .i64 0, .int .i64 0, .int .i64 0, .int .i64 0, .int .i64 0, .int .i64 0, .int .i64 0, .int .i64 0, .int .i64 0, .int .i64 0, .int .i64 0, .int .i64 0, .int .i64 0, .int .i64 0, .int .i64 0, .int .i64 0, .int .i64 0, .int .i64 0, .int .i64 0, .int .i64 0, .int .i64 0, .int .i64 0, .int .i64 0, .int .i64 0, .int .i64 0, .int .i64 0, .int .i64 0, .int .i64 0, .int .i64 0, .int .i64 0, .int .i64 0, .int .i64 0, .int .i64 0, .int .i64 0, .int .i64 0, .int .i64 0, .int .i64 0, .int .i64 4, .int .i64 4, .int .i64 0, .int .i64 0, .int .i64 0, .int .i64 0, .int .i64 0, .int .i64 0, .int .i64 5, .int .i64 10, .int .i64 5, .int .i64 10, .int .i64 6, .int .i64 10, .int .i64 7, .int .i64 0, .int .i64 0, .int .i64 0, .int .i64 8, .int .i64 9, .int .i64 8, .int .i64 0, .int .i64 8, .int .i64 9]
def wL : List (List UInt8) := [[110, 111, 112], [99, 111, 110, 115, 116], [108, 111, 97, 100], [115, 116, 111, 114, 101], [103, 101, 116], [112, 117, 116], [105, 116, 101, 109], [107, 101, 101, 112], [97, 100, 100], [115, 117, 98], [109, 117, 108], [100, 105, 118], [109, 111, 100], [110, 101, 103], [97, 110, 100], [111, 114], [120, 111, 114], [110, 111, 116], [115, 104, 108], [115, 104, 114], [101, 113], [110, 101], [108, 116], [108, 101], [103, 116], [103, 101], [99, 111, 110, 118], [100, 117, 112], [112, 111, 112], [115, 119, 97, 112], [106, 117, 109, 112], [102, 97, 108, 115, 101], [115, 119, 105, 116, 99, 104], [99, 97, 108, 108], [114, 101, 116], [115, 101, 116], [114, 117, 110], [111, 117, 116]]
def aL : List Int := [10, 1, 2, 2, 3, 3, 2, 2, 4, 4, 4, 4, 4, 4, 4, 4, 4, 4, 4, 4, 4, 4, 4, 4, 4, 4, 4, 0, 0, 0, 5, 5, 6, 7, 0, 8, 8, 8]
def bL : List Int := [10, 0, 0, 0, 0, 0, 0, 0, 0, 0, 0, 0, 0, 0, 0, 0, 0, 0, 0, 0, 0, 0, 0, 0, 0, 0, 4, 0, 0, 0, 10, 10, 10, 0, 0, 9, 0, 9]
structure STab (w : World) : Prop where
  sh : ∀ i : Nat, w.cell? ⟨0, i, none⟩ = shapesV[i]?
  big1 : 0 < w.heap.size
theorem STab.below {w w' : World} (h : STab w) (hb : Below w.heap.size w w') : STab w' :=
  ⟨fun i => (hb.cell h.big1).trans (h.sh i), Nat.lt_of_lt_of_le h.big1 hb.size⟩
def oIs (n : Int) : Bool := decide (0 ≤ n ∧ n ≤ 37)
theorem oIs_yes {n : Int} (h : 0 ≤ n ∧ n ≤ 37) : oIs n = true := decide_eq_true h
theorem oIs_no {n : Int} (h : ¬ (0 ≤ n ∧ n ≤ 37)) : oIs n = false := decide_eq_false h
/-- what an operation has at A and at B -/
def oA (n : Int) : Int := if 0 ≤ n then aL.getD n.toNat 0 else 0
def oB (n : Int) : Int := if 0 ≤ n then bL.getD n.toNat 0 else 0
def oW (n : Int) : ByteArray := if 0 ≤ n then ⟨(wL.getD n.toNat []).toArray⟩ else ⟨#[]⟩
theorem o_no {n : Int} (h : ¬ (0 ≤ n ∧ n ≤ 37)) : oA n = 0 ∧ oB n = 0 ∧ oW n = ⟨#[]⟩ := by
  unfold oA oB oW
  by_cases h0 : 0 ≤ n
  · rw [if_pos h0, if_pos h0, if_pos h0]
    have e1 : aL.length = 38 := rfl
    have e2 : bL.length = 38 := rfl
    have e3 : wL.length = 38 := rfl
    simp only [List.getD, List.getElem?_eq_none (show aL.length ≤ n.toNat by omega), List.getElem?_eq_none (show bL.length ≤ n.toNat by omega), List.getElem?_eq_none (show wL.length ≤ n.toNat by omega)]
    exact ⟨rfl, rfl, rfl⟩
  · rw [if_neg h0, if_neg h0, if_neg h0]; exact ⟨rfl, rfl, rfl⟩
theorem o38 {n : Int} (h : 0 ≤ n ∧ n ≤ 37) : n = 0 ∨ n = 1 ∨ n = 2 ∨ n = 3 ∨ n = 4 ∨ n = 5 ∨ n = 6 ∨ n = 7 ∨ n = 8 ∨ n = 9 ∨ n = 10 ∨ n = 11 ∨ n = 12 ∨ n = 13 ∨ n = 14 ∨ n = 15 ∨ n = 16 ∨ n = 17 ∨ n = 18 ∨ n = 19 ∨ n = 20 ∨ n = 21 ∨ n = 22 ∨ n = 23 ∨ n = 24 ∨ n = 25 ∨ n = 26 ∨ n = 27 ∨ n = 28 ∨ n = 29 ∨ n = 30 ∨ n = 31 ∨ n = 32 ∨ n = 33 ∨ n = 34 ∨ n = 35 ∨ n = 36 ∨ n = 37 := by omega
theorem op_Is (n : Int) (w : World) : Calls Tryd.prog 119 #[.int .i64 n] w fun e w' => e = .returned (.bool (oIs n)) ∧ w = w' := by
  by_cases h1 : 0 ≤ n
  · by_cases h2 : n ≤ 37
    · go_enter Tryd.func119, Tryd.ntmps119
      go_wp2
      go_ret
      exact ⟨by rw [oIs_yes ⟨h1, h2⟩]; rfl, rfl⟩
    · go_enter Tryd.func119, Tryd.ntmps119
      go_wp2
      go_ret
      exact ⟨by rw [oIs_no (by omega)]; rfl, rfl⟩
  · go_enter Tryd.func119, Tryd.ntmps119
    go_wp2
    go_ret
    exact ⟨by rw [oIs_no (by omega)]; rfl, rfl⟩
theorem STab.sk {w : World} (h : STab w) {k : Nat} (hk : k ≤ 37) (hn : ¬ (8 ≤ k ∧ k < 26)) : w.cell? ⟨0, k * 2, none⟩ = some (.int .i64 (oA k)) ∧ w.cell? ⟨0, k * 2 + 1, none⟩ = some (.int .i64 (oB k)) := by
  rw [h.sh (k * 2), h.sh (k * 2 + 1)]
  have hall : ∀ m : Fin 38, ¬ (8 ≤ m.1 ∧ m.1 < 26) → shapesV[m.1 * 2]? = some (.int .i64 (oA (m.1 : Int))) ∧ shapesV[m.1 * 2 + 1]? = some (.int .i64 (oB (m.1 : Int))) := by
    intro m
    have := m.2
    obtain h | h | h | h | h | h | h | h | h | h | h | h | h | h | h | h | h | h | h | h | h | h | h | h | h | h | h | h | h | h | h | h | h | h | h | h | h | h := o38 (n := (m.1 : Int)) (by omega)
    all_goals
      have e : m.1 = (m.1 : Int).toNat := by omega
      rw [h, e, h]
      intro hq
      first | exact ⟨rfl, rfl⟩ | (exfalso; exact hq (by decide))
  exact hall ⟨k, by omega⟩ hn
theorem o_mid {k : Nat} (h : 8 ≤ k ∧ k < 26) : oA k = 4 ∧ oB k = 0 := by
  have hall : ∀ m : Fin 38, (8 ≤ m.1 ∧ m.1 < 26) → oA (m.1 : Int) = 4 ∧ oB (m.1 : Int) = 0 := by decide +kernel
  exact hall ⟨k, by omega⟩ h
set_option maxHeartbeats 1000000 in
theorem op_ShapeS (n : Int) (w : World) (hT : STab w) : Calls Tryd.prog 118 #[.int .i64 n] w fun e w' => e = .returned (.tuple #[.int .i64 (oA n), .int .i64 (oB n)]) ∧ ∃ m, w' = w.drewN m := by
  by_cases h : 0 ≤ n ∧ n ≤ 37
  · have hr := oIs_yes h
    obtain ⟨k, rfl⟩ := Int.eq_ofNat_of_zero_le h.1
    have hk : k ≤ 37 := by omega
    by_cases hm : 8 ≤ k ∧ k < 26
    · have e1 := Lib.hid (o_mid hm)
      have g1 : (8 ≤ (k : Int)) := by omega
      have g2 : ((k : Int) < 26) := by omega
      clear hT h hm
      go_enter Tryd.func118, Tryd.ntmps118
      go_wp2_with fail
      refine (op_Is _ _).mono ?_; rintro e w' ⟨rfl, rfl⟩
      go_wp2_with fail
      go_returns
      exact ⟨by rw [e1.out.1, e1.out.2]; rfl, 0, rfl⟩
    · obtain ⟨c0, c1⟩ := hT.sk hk hm
      have ec0 : w.cell? ⟨0, k * 2 + 0 * 1, none⟩ = some (.int .i64 (oA k)) := c0
      clear hT h
      generalize oA (k : Int) = x at *
      generalize oB (k : Int) = y at *
      by_cases h8 : 8 ≤ k
      · have g1 : (8 ≤ (k : Int)) := by omega
        have g2 : ¬ ((k : Int) < 26) := by omega
        clear hm
        go_enter Tryd.func118, Tryd.ntmps118
        go_wp2_with fail
        refine (op_Is _ _).mono ?_; rintro e w' ⟨rfl, rfl⟩
        go_wp2_with fail
        go_quiet (fail); go_wp2_with fail
        go_returns
        exact ⟨rfl, _, rfl⟩
      · have g1 : ¬ (8 ≤ (k : Int)) := by omega
        clear hm
        go_enter Tryd.func118, Tryd.ntmps118
        go_wp2_with fail
        refine (op_Is _ _).mono ?_; rintro e w' ⟨rfl, rfl⟩
        go_wp2_with fail
        go_quiet (fail); go_wp2_with fail
        go_returns
        exact ⟨rfl, _, rfl⟩
  · have hr := oIs_no h
    have e1 := Lib.hid (o_no h)
    clear hT h
    go_enter Tryd.func118, Tryd.ntmps118
    go_wp2_with fail
    refine (op_Is _ _).mono ?_; rintro e w' ⟨rfl, rfl⟩
    go_wp2_with fail
    go_returns
    exact ⟨by rw [e1.out.1, e1.out.2.1]; rfl, 0, rfl⟩
set_option maxHeartbeats 4000000 in
theorem ref12_Shape (n : Int) (w : World) : Calls Tryd.prog 111 #[.int .i64 n] w fun e w' => e = .returned (.tuple #[.int .i64 (oA n), .int .i64 (oB n)]) ∧ Below w.heap.size w w' := by
  by_cases h : 0 ≤ n ∧ n ≤ 37
  · rcases o38 h with h | h | h | h | h | h | h | h | h | h | h | h | h | h | h | h | h | h | h | h | h | h | h | h | h | h | h | h | h | h | h | h | h | h | h | h | h | h
    all_goals
      subst h
      go_enter Tryd.func111, Tryd.ntmps111
      go_wp2
      (first | (go_returns; exact ⟨rfl, by (repeat' (first | (with_reducible exact Below.refl _ _) | (with_reducible assumption) | (with_reducible refine below_drewN ?_ _) | (with_reducible refine Below.alloc ?_ ?_ _) | (with_reducible refine Below.drew ?_) | (with_reducible refine Below.setCell ?_ ?_ _) | go_size))⟩) | (go_quiet (fail); go_wp2_with fail; go_returns; exact ⟨rfl, by (repeat' (first | (with_reducible exact Below.refl _ _) | (with_reducible assumption) | (with_reducible refine below_drewN ?_ _) | (with_reducible refine Below.alloc ?_ ?_ _) | (with_reducible refine Below.drew ?_) | (with_reducible refine Below.setCell ?_ ?_ _) | go_size))⟩))
  · by_cases h0 : n < 0
    · go_enter Tryd.func111, Tryd.ntmps111
      go_wp2
      go_returns
      exact ⟨by rw [(o_no h).1, (o_no h).2.1]; rfl, Below.refl _ _⟩
    · have h37 : 37 < n := by omega
      have q := o_no h
      have Q := Lib.hid q
      clear h h0 q
      go_enter Tryd.func111, Tryd.ntmps111
      go_wp2
      go_returns
      exact ⟨by rw [Q.out.1, Q.out.2.1]; rfl, Below.refl _ _⟩
end Go.Proofs.YtjikkipdmonndaaDoor

/- Layer 12: whether an instruction is right. -/
namespace Go.Proofs.YtjikkipdmonndaaDoor
open Go.RowKit
set_option linter.unusedSimpArgs false
set_option linter.unusedVariables false
def oFit (a n : Int) : Bool := if a = 0 then n == 0 else decide (0 ≤ n ∧ n ≤ 65535)
theorem oFit_0 {a : Int} (h : a = 0) (n : Int) : oFit a n = (n == 0) := if_pos h
theorem oFit_yes {a n : Int} (h : ¬ a = 0) (hn : 0 ≤ n ∧ n ≤ 65535) : oFit a n = true := by unfold oFit; rw [if_neg h]; exact decide_eq_true hn
theorem oFit_no {a n : Int} (h : ¬ a = 0) (hn : ¬ (0 ≤ n ∧ n ≤ 65535)) : oFit a n = false := by unfold oFit; rw [if_neg h]; exact decide_eq_false hn
def oRight (o a b : Int) : Bool := oIs o && oFit (oA o) a && oFit (oB o) b
theorem op_fits (a n : Int) (w : World) : Calls Tryd.prog 120 #[.int .i64 a, .int .i64 n] w fun e w' => e = .returned (.bool (oFit a n)) ∧ w = w' := by
  by_cases ha : a = 0
  · have HF := Lib.hid (oFit_0 ha n)
    subst ha
    go_enter Tryd.func120, Tryd.ntmps120
    go_wp2
    go_ret
    exact ⟨by rw [HF.out]; rfl, rfl⟩
  · have hz : ((a : Int) == 0) = false := beq_eq_false_iff_ne.2 ha
    by_cases h0 : 0 ≤ n
    · by_cases h1 : n ≤ 65535
      · have HF := Lib.hid (oFit_yes ha ⟨h0, h1⟩)
        clear ha
        go_enter Tryd.func120, Tryd.ntmps120
        go_wp2
        go_ret
        exact ⟨by rw [HF.out]; rfl, rfl⟩
      · have HF := Lib.hid (oFit_no ha (fun h => h1 h.2))
        clear ha
        go_enter Tryd.func120, Tryd.ntmps120
        go_wp2
        go_ret
        exact ⟨by rw [HF.out]; rfl, rfl⟩
    · have HF := Lib.hid (oFit_no ha (fun h => h0 h.1))
      clear ha
      go_enter Tryd.func120, Tryd.ntmps120
      go_wp2
      go_ret
      exact ⟨by rw [HF.out]; rfl, rfl⟩
theorem ref12_may (n a : Int) (w : World) : Calls Tryd.prog 112 #[.int .i64 n, .int .i64 a] w fun e w' => e = .returned (.bool (oFit a n)) ∧ w = w' := by
  by_cases hn : n = 0
  · have HF : Hid (oFit a n = true) := Lib.hid (by
      by_cases ha : a = 0
      · rw [oFit_0 ha, hn]; rfl
      · exact oFit_yes ha (by omega))
    subst hn
    go_enter Tryd.func112, Tryd.ntmps112
    go_wp2
    go_ret
    exact ⟨by rw [HF.out]; rfl, rfl⟩
  · have hz : ((n : Int) == 0) = false := beq_eq_false_iff_ne.2 hn
    by_cases ha : a = 0
    · have HF : Hid (oFit a n = false) := Lib.hid (by rw [oFit_0 ha, hz])
      subst ha
      clear hn
      go_enter Tryd.func112, Tryd.ntmps112
      go_wp2
      go_ret
      exact ⟨by rw [HF.out]; rfl, rfl⟩
    · have hza : ((a : Int) == 0) = false := beq_eq_false_iff_ne.2 ha
      have hzb : ((a : Int) != 0) = true := by rw [bne, hza]; rfl
      by_cases h0 : 0 < n
      · by_cases h1 : n < 65536
        · have HF := Lib.hid (oFit_yes ha (n := n) (by omega))
          clear ha hn
          go_enter Tryd.func112, Tryd.ntmps112
          go_wp2
          go_ret
          exact ⟨by rw [HF.out]; rfl, rfl⟩
        · have HF := Lib.hid (oFit_no ha (n := n) (by omega))
          clear ha hn
          go_enter Tryd.func112, Tryd.ntmps112
          go_wp2
          go_ret
          exact ⟨by rw [HF.out]; rfl, rfl⟩
      · have HF := Lib.hid (oFit_no ha (n := n) (by omega))
        clear ha hn
        go_enter Tryd.func112, Tryd.ntmps112
        go_wp2
        go_ret
        exact ⟨by rw [HF.out]; rfl, rfl⟩
set_option maxHeartbeats 2000000 in
theorem op_RightS (o a b : Int) (w : World) (hT : STab w) : Calls Tryd.prog 110 #[.agg #[.int .i64 o, .int .i64 a, .int .i64 b]] w fun e w' => e = .returned (.bool (oRight o a b)) ∧ Below w.heap.size w w' := by
  have HR := Lib.hid (show oRight o a b = (oIs o && oFit (oA o) a && oFit (oB o) b) from rfl)
  have hS := @op_ShapeS o
  have hI := @op_Is o
  have hA := @op_fits (oA o) a
  have hB := @op_fits (oB o) b
  generalize oA o = x at *
  generalize oB o = y at *
  generalize oIs o = i at *
  generalize oFit x a = p at *
  generalize oFit y b = q at *
  cases i <;> cases p <;> cases q
  all_goals
    go_enter Tryd.func110, Tryd.ntmps110
    go_wp2_with fail
    refine (hS _ (hT.below (by (repeat' (first | (with_reducible exact Below.refl _ _) | (with_reducible assumption) | (with_reducible refine below_drewN ?_ _) | (with_reducible refine Below.alloc ?_ ?_ _) | (with_reducible refine Below.drew ?_) | (with_reducible refine Below.setCell ?_ ?_ _) | go_size))))).mono ?_; rintro e w1 ⟨rfl, m, rfl⟩
    go_wp2_with fail
    refine (hI _).mono ?_; rintro e w' ⟨rfl, rfl⟩
    go_wp2_with fail
    try (refine (hA _).mono ?_; rintro e w' ⟨rfl, rfl⟩; go_wp2_with fail)
    try (refine (hB _).mono ?_; rintro e w' ⟨rfl, rfl⟩; go_wp2_with fail)
    go_ret
    exact ⟨by rw [HR.out]; rfl, by (repeat' (first | (with_reducible exact Below.refl _ _) | (with_reducible assumption) | (with_reducible refine below_drewN ?_ _) | (with_reducible refine Below.alloc ?_ ?_ _) | (with_reducible refine Below.drew ?_) | (with_reducible refine Below.setCell ?_ ?_ _) | go_size))⟩
end Go.Proofs.YtjikkipdmonndaaDoor

/- Layer 13: instructions and their bytes: numbers and lists alone. -/
namespace Go.Proofs.YtjikkipdmonndaaDoor
open Go.RowKit
set_option linter.unusedSimpArgs false
set_option linter.unusedVariables false

def rI (x : Ins) : Bool := oRight x.1 x.2.1 x.2.2
def encI (x : Ins) : List UInt8 := byteAt x.1 0 :: (putL 2 x.2.1 ++ putL 2 x.2.2)
def enc (L : List Ins) : List UInt8 := L.flatMap encI
theorem encI_len (x : Ins) : (encI x).length = 5 := by simp [encI, putL_len]
theorem enc_snoc (L : List Ins) (x : Ins) : enc (L ++ [x]) = enc L ++ encI x := by simp [enc]
theorem enc_len (L : List Ins) : (enc L).length = 5 * L.length := by
  induction L with
  | nil => rfl
  | cons x t ih =>
    show (encI x ++ enc t).length = _
    rw [List.length_append, encI_len, ih, List.length_cons]; omega
theorem putL_2 (n : Int) : putL 2 n = [byteAt n 0, byteAt n 1] := by simp [putL, List.range_succ]
theorem encI_bytes (x : Ins) : encI x = [byteAt x.1 0, byteAt x.2.1 0, byteAt x.2.1 1, byteAt x.2.2 0, byteAt x.2.2 1] := by simp [encI, putL_2]
/-- the i-th instruction of bytes -/
def insAt (B : List UInt8) (i : Nat) : Ins := ((B.getD (5 * i) 0).toNat, (B.getD (5 * i + 1) 0).toNat + 256 * (B.getD (5 * i + 2) 0).toNat, (B.getD (5 * i + 3) 0).toNat + 256 * (B.getD (5 * i + 4) 0).toNat)
def oReal (n : Int) : Bool := decide (48 ≤ n ∧ n ≤ 55)
def errAt (B : List UInt8) (i : Nat) : Int := if B.length < 5 * i + 5 then 1 else if oReal (insAt B i).1 then 6 else if rI (insAt B i) then 0 else 7
def decL (B : List UInt8) (k : Nat) : List Ins := (List.range k).map (insAt B)
theorem decL_succ (B : List UInt8) (k : Nat) : decL B (k + 1) = decL B k ++ [insAt B k] := by simp [decL, List.range_succ]
theorem decL_len (B : List UInt8) (k : Nat) : (decL B k).length = k := by simp [decL]
def Good (B : List UInt8) (k : Nat) : Prop := ∀ j, j < k → 5 * j < B.length ∧ errAt B j = 0
/-- what bytes are read as -/
def DecR (B : List UInt8) (L : List Ins) (a e : Int) : Prop :=
  (∃ k : Nat, Good B k ∧ 5 * k < B.length ∧ errAt B k = e ∧ e ≠ 0 ∧ L = [] ∧ a = k) ∨ (∃ k : Nat, Good B k ∧ B.length ≤ 5 * k ∧ L = decL B k ∧ a = 0 ∧ e = 0)
theorem Good.succ {B : List UInt8} {k : Nat} (h : Good B k) (h1 : 5 * k < B.length) (h2 : errAt B k = 0) : Good B (k + 1) := fun j hj => by
  rcases (show j < k ∨ j = k by omega) with h3 | rfl
  · exact h j h3
  · exact ⟨h1, h2⟩
theorem DecR.unique {B : List UInt8} {L M : List Ins} {a b e f : Int} (h : DecR B L a e) (g : DecR B M b f) : L = M ∧ a = b ∧ e = f := by
  rcases h with ⟨k, h1, h2, h3, h4, h5, h6⟩ | ⟨k, h1, h2, h3, h4, h5⟩ <;> rcases g with ⟨m, g1, g2, g3, g4, g5, g6⟩ | ⟨m, g1, g2, g3, g4, g5⟩
  · have hk : k = m := by
      rcases Nat.lt_trichotomy k m with h | h | h
      · exact absurd (g1 k h).2 (by rw [h3]; exact h4)
      · exact h
      · exact absurd (h1 m h).2 (by rw [g3]; exact g4)
    subst hk
    exact ⟨by rw [h5, g5], by rw [h6, g6], by rw [← h3, ← g3]⟩
  · exfalso
    have : k < m := by omega
    exact absurd (g1 k this).2 (by rw [h3]; exact h4)
  · exfalso
    have : m < k := by omega
    exact absurd (h1 m this).2 (by rw [g3]; exact g4)
  · have hk : k = m := by
      rcases Nat.lt_trichotomy k m with h | h | h
      · have := (g1 k h).1; omega
      · exact h
      · have := (h1 m h).1; omega
    subst hk
    exact ⟨by rw [h3, g3], by rw [h4, g4], by rw [h5, g5]⟩
theorem byteAt_0 {n : Int} (h : 0 ≤ n ∧ n ≤ 65535) : ((byteAt n 0).toNat : Int) = n % 256 := by rw [byteAt_val]; simp
theorem byteAt_1 {n : Int} (h : 0 ≤ n ∧ n ≤ 65535) : ((byteAt n 1).toNat : Int) = n / 256 := by rw [byteAt_val]; simp; omega
theorem oFit_in {a n : Int} (h : oFit a n = true) : 0 ≤ n ∧ n ≤ 65535 := by
  by_cases ha : a = 0
  · rw [oFit_0 ha] at h; have : n = 0 := by simpa using h
    omega
  · unfold oFit at h; rw [if_neg ha] at h; simpa using h
theorem rI_in {x : Ins} (h : rI x = true) : (0 ≤ x.1 ∧ x.1 ≤ 37) ∧ (0 ≤ x.2.1 ∧ x.2.1 ≤ 65535) ∧ (0 ≤ x.2.2 ∧ x.2.2 ≤ 65535) := by
  unfold rI oRight at h
  simp only [Bool.and_eq_true] at h
  refine ⟨?_, oFit_in h.1.2, oFit_in h.2⟩
  have := h.1.1
  unfold oIs at this
  simpa using this
theorem enc_get (L : List Ins) : ∀ (i j : Nat), i < L.length → j < 5 → (enc L).getD (5 * i + j) 0 = (encI (L.getD i (0, 0, 0))).getD j 0 := by
  induction L with
  | nil => intro i j h; simp at h
  | cons x t ih =>
    intro i j h hj
    have e : enc (x :: t) = encI x ++ enc t := rfl
    rw [e]
    cases i with
    | zero =>
      simp only [List.getD, Nat.mul_zero, Nat.zero_add]
      rw [List.getElem?_append_left (by rw [encI_len]; exact hj)]
      rfl
    | succ i =>
      simp only [List.getD]
      rw [List.getElem?_append_right (by rw [encI_len]; omega), encI_len]
      have := ih i j (by simpa using h) hj
      simp only [List.getD] at this
      rw [show 5 * (i + 1) + j - 5 = 5 * i + j by omega, this]
      rfl
theorem enc_ins {L : List Ins} {i : Nat} (hi : i < L.length) (h : rI (L.getD i (0, 0, 0)) = true) : insAt (enc L) i = L.getD i (0, 0, 0) := by
  obtain ⟨h0, h1, h2⟩ := rI_in h
  have q0 := enc_get L i 0 hi (by omega)
  have q1 := enc_get L i 1 hi (by omega)
  have q2 := enc_get L i 2 hi (by omega)
  have q3 := enc_get L i 3 hi (by omega)
  have q4 := enc_get L i 4 hi (by omega)
  rw [encI_bytes] at q0 q1 q2 q3 q4
  unfold insAt
  rw [Nat.add_zero] at q0
  rw [q0, q1, q2, q3, q4]
  generalize L.getD i (0, 0, 0) = x at *
  obtain ⟨o, a, b⟩ := x
  simp only at h0 h1 h2 ⊢
  simp only [List.getD, List.getElem?_cons_zero, List.getElem?_cons_succ, Option.getD_some]
  rw [byteAt_0 (n := o) (by omega), byteAt_0 h1, byteAt_1 h1, byteAt_0 h2, byteAt_1 h2]
  congr 1
  · omega
  · congr 1 <;> omega
theorem enc_good {L : List Ins} (h : L.all rI = true) : ∀ k, k ≤ L.length → Good (enc L) k := by
  intro k hk j hj
  have hl := enc_len L
  have hr : rI (L.getD j (0, 0, 0)) = true := by
    rw [List.all_eq_true] at h
    have : L.getD j (0, 0, 0) = L[j]'(by omega) := by simp [List.getD, show j < L.length by omega]
    rw [this]
    exact h _ (List.getElem_mem _)
  have he := enc_ins (by omega) hr
  refine ⟨by omega, ?_⟩
  unfold errAt
  rw [if_neg (by omega), he]
  have hn : oReal (L.getD j (0, 0, 0)).1 = false := decide_eq_false (by have := (rI_in hr).1; omega)
  rw [hn, hr]
  simp
theorem enc_dec {L : List Ins} (h : L.all rI = true) : DecR (enc L) L 0 0 := by
  refine Or.inr ⟨L.length, enc_good h _ (Nat.le_refl _), by rw [enc_len]; exact Nat.le_refl _, ?_, rfl, rfl⟩
  apply List.ext_getElem?
  intro i
  by_cases hi : i < L.length
  · have hr : rI (L.getD i (0, 0, 0)) = true := by
      rw [List.all_eq_true] at h
      have : L.getD i (0, 0, 0) = L[i] := by simp [List.getD, hi]
      rw [this]
      exact h _ (List.getElem_mem _)
    have := enc_ins hi hr
    simp only [decL, List.getElem?_map, List.getElem?_range hi, Option.map_some, this]
    simp [List.getD, hi]
  · rw [List.getElem?_eq_none (by omega), List.getElem?_eq_none (by rw [decL_len]; omega)]
theorem byteAt_of (c : UInt8) : byteAt (c.toNat : Int) 0 = c := by
  apply UInt8.toNat_inj.1
  have h := byteAt_val (c.toNat : Int) 0
  have := c.toNat_lt
  simp at h
  omega
theorem byteAt_lo (c d : UInt8) : byteAt ((c.toNat : Int) + 256 * d.toNat) 0 = c ∧ byteAt ((c.toNat : Int) + 256 * d.toNat) 1 = d := by
  have h1 := c.toNat_lt
  have h2 := d.toNat_lt
  constructor
  · apply UInt8.toNat_inj.1
    have h := byteAt_val ((c.toNat : Int) + 256 * d.toNat) 0
    simp at h
    omega
  · apply UInt8.toNat_inj.1
    have h := byteAt_val ((c.toNat : Int) + 256 * d.toNat) 1
    simp at h
    omega
theorem encI_ins {B : List UInt8} {i : Nat} (h : 5 * i + 5 ≤ B.length) : encI (insAt B i) = (B.drop (5 * i)).take 5 := by
  rw [encI_bytes]
  unfold insAt
  simp only
  rw [byteAt_of, (byteAt_lo _ _).1, (byteAt_lo _ _).2, (byteAt_lo _ _).1, (byteAt_lo _ _).2]
  apply List.ext_getElem?
  intro j
  rw [List.getElem?_take]
  by_cases hj : j < 5
  · rw [if_pos hj, List.getElem?_drop]
    have : ∀ q, q < B.length → B[q]? = some (B.getD q 0) := fun q hq => by simp [List.getD, hq]
    rw [this _ (by omega)]
    obtain rfl | rfl | rfl | rfl | rfl : j = 0 ∨ j = 1 ∨ j = 2 ∨ j = 3 ∨ j = 4 := by omega
    all_goals rfl
  · rw [if_neg hj, List.getElem?_eq_none (by simp; omega)]
theorem dec_enc {B : List UInt8} : ∀ k, Good B k → enc (decL B k) = B.take (5 * k) ∧ (decL B k).all rI = true := by
  intro k
  induction k with
  | zero => intro _; simp [decL, enc]
  | succ k ih =>
    intro h
    obtain ⟨h1, h2⟩ := ih (fun j hj => h j (by omega))
    obtain ⟨h3, h4⟩ := h k (by omega)
    have h5 : 5 * k + 5 ≤ B.length := by
      unfold errAt at h4
      by_cases hs : B.length < 5 * k + 5
      · rw [if_pos hs] at h4; omega
      · omega
    have h6 : rI (insAt B k) = true := by
      unfold errAt at h4
      rw [if_neg (by omega)] at h4
      cases hr : rI (insAt B k)
      · rw [hr] at h4
        split at h4 <;> simp at h4
      · rfl
    rw [decL_succ, enc_snoc, h1, encI_ins h5]
    constructor
    · rw [show 5 * (k + 1) = 5 * k + 5 by omega, List.take_add]
    · rw [List.all_append, h2]; simp [h6]
/-- what was read is put as it was -/
theorem DecR.back {B : List UInt8} {L : List Ins} {a e : Int} (h : DecR B L a e) : (e ≠ 0 ∧ L = []) ∨ (e = 0 ∧ L.all rI = true ∧ enc L = B) := by
  rcases h with ⟨k, h1, h2, h3, h4, h5, h6⟩ | ⟨k, h1, h2, h3, h4, h5⟩
  · exact Or.inl ⟨h4, h5⟩
  · obtain ⟨q1, q2⟩ := dec_enc k h1
    subst h3
    refine Or.inr ⟨h5, q2, ?_⟩
    rw [q1, List.take_of_length_le h2]
end Go.Proofs.YtjikkipdmonndaaDoor

/- Contracts of octet's answer (layer 3): Put. -/
namespace Go.Proofs.YtjikkipdmonndaaDoor
open Go.RowKit
def ux (n : Int) (k : Nat) : Int := (n % 18446744073709551616) / 256 ^ k
theorem ux_cases {k : Nat} (h : k < 8) : k = 0 ∨ k = 1 ∨ k = 2 ∨ k = 3 ∨ k = 4 ∨ k = 5 ∨ k = 6 ∨ k = 7 := by omega
theorem ux_succ (n : Int) {k : Nat} (h : k < 8) : ux n k / 256 = ux n (k + 1) := by
  unfold ux
  obtain rfl | rfl | rfl | rfl | rfl | rfl | rfl | rfl := ux_cases h <;> omega
theorem ux_byte (n : Int) {k : Nat} (h : k < 8) : ux n k % 256 = ((byteAt n k).toNat : Int) := by
  rw [byteAt_val]
  unfold ux
  obtain rfl | rfl | rfl | rfl | rfl | rfl | rfl | rfl := ux_cases h <;> omega
theorem ux_bd (n : Int) {k : Nat} (h : k ≤ 8) : 0 ≤ ux n k ∧ ux n k < 18446744073709551616 := by
  unfold ux
  obtain rfl | rfl | rfl | rfl | rfl | rfl | rfl | rfl | rfl : k = 0 ∨ k = 1 ∨ k = 2 ∨ k = 3 ∨ k = 4 ∨ k = 5 ∨ k = 6 ∨ k = 7 ∨ k = 8 := by omega
  all_goals omega
set_option maxHeartbeats 1000000 in
theorem ref03_Put (v : Value) (l : List UInt8) (many n : Int) (w : World) (hv : RowAt w v l.length (byteV l)) (hm : l.length ≤ 100000000) :
    Calls Tryd.prog 28 #[v, .int .i64 many, .int .i64 n] w fun e w' => ∃ r, e = .returned r ∧ w'.ownsRow w.heap.size 5 1 r (l.length + (near8 many).toNat) (bytesV (l ++ putL (near8 many).toNat n)) ∧ Below w.heap.size w w' := by
  obtain ⟨N, hN⟩ : ∃ N : Nat, (near8 many).toNat = N := ⟨_, rfl⟩
  have hN1 : near8 many = (N : Int) := by unfold near8 at *; omega
  have hN2 : N ≤ 8 := by unfold near8 at *; omega
  have HN := Lib.hid hN1
  rw [hN]
  clear hN1 hN
  obtain ⟨i, hi, hz, hsize, hby⟩ : ∃ i, Tryd.prog.info? 5 = some i ∧ i.zero = some (.int .u8 0) ∧ i.size = 1 ∧ i.bytes = 1 := ⟨(Tryd.prog.info? 5).get!, by kernel_rfl, by kernel_rfl, by kernel_rfl, by kernel_rfl⟩
  have hrow : ∀ W, Below w.heap.size w W → RowAt W v l.length (byteV l) := fun W h => hv.below h
  have HR := Lib.hid hrow
  clear hrow
  have hmap : (List.range l.length).map (byteV l) = bytesV l := map_byteV l
  go_enter Tryd.func28, Tryd.ntmps28
  go_wp2_with (first | (at_builtin; refine wpList_append_row1 rfl (.tmp 10) (.tmp 11) 30 rfl w.heap.size 5 i (.int .u8 0) 1 Tryd.underlying30 hi hz hsize hby rfl _ 0 [] rfl (World.ownsRow_lit w #[] 0 (Nat.le_refl _) (by unfold maxLen; omega) rfl) _ l.length (byteV l) rfl (HR.out _ ((Below.refl _ _).alloc (Nat.le_refl _) _)) (fun _ _ => rfl) (by unfold maxLen; omega) (by omega) (by rw [World.size_alloc]; omega) ?_; intro v1 w1 hO1 hG1) | fail)
  have HO := Lib.hid (show w1.ownsRow w.heap.size 5 1 v1 l.length (bytesV l) by rw [hmap, List.nil_append, Nat.zero_add] at hO1; exact hO1)
  have hB1 : Below w.heap.size w w1 := below_grown ((Below.refl _ _).alloc (Nat.le_refl _) _) (Nat.le_refl _) (by rw [World.size_alloc]; omega) hG1
  clear hO1 hG1 hmap HR
  have u0 : IntKind.u64.wrap n = ux n 0 := by rw [show IntKind.u64.wrap n = n % 18446744073709551616 from by simp [IntKind.wrap, IntKind.signed, IntKind.bits]]; unfold ux; omega
  have U0 := Lib.hid u0
  clear u0
  go_loopw [7, 8, 9] (fun o x j wr => ∃ k : Nat, k ≤ N ∧ j = .int .i64 k ∧ x = .int .u64 (ux n k) ∧ Hid (wr.ownsRow w.heap.size 5 1 o (l.length + k) (bytesV (l ++ putL k n))) ∧ Below w.heap.size w wr) (fun _ _ j _ => N - (intOf j).toNat)
  case atStart => exact ⟨0, by omega, rfl, by rw [← U0.out], Lib.hid (by rw [show putL 0 n = [] from rfl, List.append_nil]; exact HO.out), hB1⟩
  case round =>
    clear hB1 HO
    obtain ⟨k, hk, rfl, rfl, hO, hB⟩ := hrel
    have hbd := ux_bd n (show k ≤ 8 by omega)
    have hz' := hB.size
    go_wp2_with fail
    refine (ref03_held _ _).mono ?_; rintro e w' ⟨rfl, rfl⟩
    rw [HN.out]
    by_cases hlt : k < N
    · have hk8 : k < 8 := by omega
      have Hb := Lib.hid (ux_byte n hk8)
      have Hs := Lib.hid (ux_succ n hk8)
      generalize ux n k = x at *
      go_wp2_with (first | (at_builtin; refine wpList_append_row1 rfl (.tmp 21) (.tmp 25) 30 rfl w.heap.size 5 i (.int .u8 0) 1 Tryd.underlying30 hi hz hsize hby rfl _ (l.length + k) _ rfl (hO.out.alloc _) _ 1 (fun _ => .int .u8 (x % 256)) rfl (RowAt.new _ _ _ _ _ 1 1 (by omega) (by omega) (by omega) (fun i hi => by obtain rfl : i = 0 := (by omega); rfl)) (fun _ _ => rfl) (by unfold maxLen; omega) (by omega) (by rw [World.size_alloc]; omega) ?_; intro v2 w2 hO2 hG2; have HO2 := Lib.hid hO2; have hB2 := below_grownV (hB.alloc hB.size _) (by rw [World.size_alloc]; omega) (hO.out.alloc _) hG2; clear hO2 hG2) | fail)
      go_roundw
      case rel => exact ⟨k + 1, by omega, by go_num, by rw [← Hs.out], Lib.hid (by rw [putL_succ, ← List.append_assoc, bytesV_snoc, ← Hb.out]; exact HO2.out), hB2⟩
      case measure => simp [intOf]; omega
    · obtain rfl : k = N := by omega
      go_wp2_with fail
      go_ret
      exact ⟨_, rfl, hO.out, hB⟩
end Go.Proofs.YtjikkipdmonndaaDoor

/- Three cells that lie together. -/
namespace Go.Proofs.YtjikkipdmonndaaDoor
open Go.RowKit
/-- the three cells of an instruction in memory -/
def C3 (W : World) (b : Nat) (x y z : Int) : Prop := W.cell? ⟨b, 0, none⟩ = some (.int .i64 x) ∧ W.cell? ⟨b, 1, none⟩ = some (.int .i64 y) ∧ W.cell? ⟨b, 2, none⟩ = some (.int .i64 z)
theorem C3.new (W : World) (x y z : Int) (t : TypeId) {W' : World} (h : Below (W.heap.size + 1) (W.alloc (.cells #[.int .i64 x, .int .i64 y, .int .i64 z] t)) W') : C3 W' W.heap.size x y z :=
  ⟨(h.cell (by simp)).trans (by rw [cell_at (by simp)]; rfl), (h.cell (by simp)).trans (by rw [cell_at (by simp)]; rfl), (h.cell (by simp)).trans (by rw [cell_at (by simp)]; rfl)⟩
theorem C3.keep {W W' : World} {b : Nat} {x y z : Int} (c : C3 W b x y z) (hb : b < W.heap.size) (h : Below W.heap.size W W') : C3 W' b x y z :=
  ⟨(h.cell (p := ⟨b, 0, none⟩) hb).trans c.1, (h.cell (p := ⟨b, 1, none⟩) hb).trans c.2.1, (h.cell (p := ⟨b, 2, none⟩) hb).trans c.2.2⟩
end Go.Proofs.YtjikkipdmonndaaDoor

/- Layer 13: instructions as bytes: Encode of both sides. -/
namespace Go.Proofs.YtjikkipdmonndaaDoor
open Go.RowKit
set_option linter.unusedSimpArgs false
set_option linter.unusedVariables false
def encO (L : List Ins) : List UInt8 := if L.all rI then enc L else []
theorem encO_yes {L : List Ins} (h : L.all rI = true) : encO L = enc L := if_pos h
theorem encO_no {L : List Ins} (h : L.all rI = false) : encO L = [] := by unfold encO; rw [h]; exact if_neg (by decide)
theorem all_take_no {L : List Ins} {k : Nat} {x : Ins} (hx : L[k]? = some x) (h : rI x = false) : L.all rI = false := by
  rw [Bool.eq_false_iff]; intro ha
  rw [List.all_eq_true] at ha
  have := ha x (List.mem_of_getElem? hx)
  rw [h] at this; cases this
theorem owns_make (w : World) (Z : Array Value) (e : TypeId) (q m : Nat) (hZ : Z.size = m * q) (hm : m ≤ maxLen) : (w.alloc (.cells Z e)).ownsRow w.heap.size e q (.slice (some ⟨w.heap.size, 0, none⟩) 0 m) 0 [] := by
  refine ⟨by simp, Or.inr ⟨w.heap.size, m, Z, rfl, Nat.le_refl _, ?_, by omega, hm, hZ, by simp⟩⟩
  show (w.heap.push _)[w.heap.size]? = _
  simp
theorem ins_get {w : World} {v : Value} {L : List Ins} (hv : RowR 3 insR w v L) : ∃ a cap, v = .slice a L.length cap := by
  rcases hv with ⟨a, cap, rfl, rfl, _⟩ | ⟨b, off, cap, h1, _⟩
  · exact ⟨a, cap, rfl⟩
  · exact ⟨_, cap, h1⟩
theorem ins_at {w : World} {a : Option Addr} {n cap : Nat} {L : List Ins} (hv : RowR 3 insR w (.slice a n cap) L) {k : Nat} (hk : k < L.length) : ∃ b off, a = some ⟨b, off, none⟩ ∧ b < w.heap.size ∧ ∀ i x, L[i]? = some x → w.cell? ⟨b, off + i * 3, none⟩ = some (.int .i64 x.1) ∧ w.cell? ⟨b, off + i * 3 + 1, none⟩ = some (.int .i64 x.2.1) ∧ w.cell? ⟨b, off + i * 3 + 2, none⟩ = some (.int .i64 x.2.2) ∧ I64 x.1 ∧ I64 x.2.1 ∧ I64 x.2.2 := by
  rcases hv with ⟨a, cap, h, rfl, _⟩ | ⟨b, off, cap, h1, _, _, _, h5, h6⟩
  · simp at hk
  · have e : a = some ⟨b, off, none⟩ := by injection h1
    exact ⟨b, off, e, h5, fun i x hx => ins_cells h6 hx⟩
theorem bytesV_app (a b : List UInt8) : bytesV (a ++ b) = bytesV a ++ bytesV b := by simp [bytesV]
theorem byte_o (o : Int) : (((byteAt o 0).toNat : Int)) = o % 256 := by rw [byteAt_val]; simp
theorem owns_bytes {w : World} {B : Nat} {e : TypeId} {r : Value} {n : Nat} {L : List UInt8} (h : w.ownsRow B e 1 r n (bytesV L)) (hn : n = L.length) : RowAt w r L.length (byteV L) := by
  subst hn
  exact RowAt.owns h (fun i hi => byteV_at hi)
theorem own_eq {w : World} {B : Nat} {e : TypeId} {q : Nat} {r : Value} {n m : Nat} {xs ys : List Value} (h : w.ownsRow B e q r n xs) (h1 : n = m) (h2 : xs = ys) : w.ownsRow B e q r m ys := by
  subst h1; subst h2; exact h
theorem map_bytesV (l : List UInt8) : (List.range l.length).map (byteV l) = bytesV l := map_byteV l
theorem enc_val (E : List UInt8) (x : Ins) (h : 0 ≤ x.1 ∧ x.1 ≤ 37) : bytesV E ++ (List.range 1).map (fun _ => Value.int .u8 x.1) ++ bytesV (putL 2 x.2.1 ++ putL 2 x.2.2) = bytesV (E ++ encI x) := by
  have h1 : ((byteAt x.1 0).toNat : Int) = x.1 := by rw [byte_o, Int.emod_eq_of_lt h.1 (by omega)]
  unfold encI
  rw [show E ++ (byteAt x.1 0 :: (putL 2 x.2.1 ++ putL 2 x.2.2)) = (E ++ [byteAt x.1 0]) ++ (putL 2 x.2.1 ++ putL 2 x.2.2) by simp, bytesV_app (E ++ [byteAt x.1 0]), bytesV_snoc, h1]
  rfl
set_option maxHeartbeats 4000000 in
theorem code_Encode (v : Value) (L : List Ins) (w : World) (hT : STab w) (hv : RowR 3 insR w v L) (hn : L.length ≤ 1000) :
    Calls Tryd.prog 87 #[v] w fun e w' => ∃ r, e = .returned (.tuple #[r, .bool (L.all rI)]) ∧ RowAt w' r (encO L).length (byteV (encO L)) ∧ Below w.heap.size w w' := by
  obtain ⟨i, hi, hz, hsize, hby⟩ : ∃ i, Tryd.prog.info? 5 = some i ∧ i.zero = some (.int .u8 0) ∧ i.size = 1 ∧ i.bytes = 1 := ⟨(Tryd.prog.info? 5).get!, by kernel_rfl, by kernel_rfl, by kernel_rfl, by kernel_rfl⟩
  obtain ⟨sa, cap, rfl⟩ := ins_get hv
  have hmk := run_make w 30 5 i _ Tryd.underlying30 hi hz .i64 .i64 (0 : Int) (5 * (L.length : Int)) (by omega) (by omega) (by rw [hby]; omega) (by omega)
  rw [hsize, Nat.mul_one, show ((0 : Int)).toNat = 0 from rfl, show (5 * (L.length : Int)).toNat = 5 * L.length by omega] at hmk
  obtain ⟨Z, hZ⟩ : ∃ Z, madeCells (Value.int .u8 0).cells (5 * L.length) = Z := ⟨_, rfl⟩
  have hZs : Z.size = 5 * L.length * 1 := by rw [← hZ]; simp [madeCells]
  rw [hZ] at hmk
  have hO0 := Lib.hid (owns_make w Z 5 1 (5 * L.length) hZs (by unfold maxLen; omega))
  have hB0 : Below w.heap.size w (w.alloc (.cells Z 5)) := (Below.refl _ _).alloc (Nat.le_refl _) _
  have hw5 : IntKind.i64.wrap (5 * (L.length : Int)) = 5 * (L.length : Int) := IntWalk.i64_in _ (by omega)
  clear hZ hZs
  have HY := Lib.hid (encO_yes (L := L))
  have HN := Lib.hid (encO_no (L := L))
  have cp := @cell_past
  generalize hN : L.length = N at *
  go_enter Tryd.func87, Tryd.ntmps87
  go_wp2_with fail
  go_loopw [4, 13] (fun o j wr => ∃ k : Nat, k ≤ N ∧ j = .int .i64 k ∧ Hid ((L.take k).all rI = true) ∧ Hid (wr.ownsRow w.heap.size 5 1 o (enc (L.take k)).length (bytesV (enc (L.take k)))) ∧ Below w.heap.size w wr) (fun _ j _ => N - (intOf j).toNat)
  case atStart => exact ⟨0, by omega, rfl, Lib.hid (by simp), Lib.hid hO0.out, hB0⟩
  case round =>
    obtain ⟨k, hk, rfl, hall, hO, hB⟩ := hrel
    have hz' := hB.size
    by_cases hlt : k < N
    · obtain ⟨b, off, rfl, hbw, hc⟩ := ins_at hv (k := k) (by omega)
      obtain ⟨x, hx⟩ : ∃ x, L[k]? = some x := ⟨L[k]'(by omega), by simp [hN, hlt]⟩
      obtain ⟨c0, c1, c2, w0, w1, w2⟩ := hc k x hx
      have c0 := (hB.cell (p := ⟨b, off + k * 3, none⟩) hbw).trans c0
      have c1 := (hB.cell (p := ⟨b, off + k * 3 + 1, none⟩) hbw).trans c1
      have c2 := (hB.cell (p := ⟨b, off + k * 3 + 2, none⟩) hbw).trans c2
      have hlen : (enc (L.take k)).length = 5 * k := by rw [enc_len, List.length_take, hN]; rw [Nat.min_eq_left (by omega)]
      have hts := Lib.hid (take_snoc hx)
      have hR := op_RightS x.1 x.2.1 x.2.2
      have hno := Lib.hid (all_take_no hx)
      have hxr : oRight x.1 x.2.1 x.2.2 = rI x := rfl
      rw [hxr] at hR
      have hI := Lib.hid (rI_in (x := x))
      clear hc hxr
      cases hr : rI x
      · have hal := hno.out hr
        have hen := Lib.hid (HN.out hal)
        have HAL := Lib.hid hal
        rw [hr] at hR
        clear hal hall hO hts hx
        go_wp2_with fail
        refine (hR _ (hT.below (by (repeat' (first | (with_reducible exact Below.refl _ _) | (with_reducible assumption) | (with_reducible refine more_below ?_ ?_ _ _) | (with_reducible refine below_drewN ?_ _) | (with_reducible refine Below.alloc ?_ ?_ _) | (with_reducible refine Below.drew ?_) | (with_reducible refine Below.setCell ?_ ?_ _) | (simp only [World.size_alloc, World.size_setCell, World.size_drew, more_size, World.heap_drewN]; omega) | go_size))))).mono ?_; rintro e W1 ⟨rfl, hb1⟩
        have hB1 : Below w.heap.size w W1 := Below.trans (by (repeat' (first | (with_reducible exact Below.refl _ _) | (with_reducible assumption) | (with_reducible refine more_below ?_ ?_ _ _) | (with_reducible refine below_drewN ?_ _) | (with_reducible refine Below.alloc ?_ ?_ _) | (with_reducible refine Below.drew ?_) | (with_reducible refine Below.setCell ?_ ?_ _) | (simp only [World.size_alloc, World.size_setCell, World.size_drew, more_size, World.heap_drewN]; omega) | go_size))) (hb1.mono (by simp; omega))
        go_wp2_with fail
        go_returns
        exact ⟨.slice none 0 0, by rw [HAL.out]; rfl, by rw [hen.out]; exact Or.inl ⟨none, 0, rfl, rfl, fun _ => rfl⟩, hB1⟩
      · rw [hr] at hR
        obtain ⟨i0, i1, i2⟩ := hI.out hr
        have hx2 := Lib.hid hx
        clear hx hI
        generalize hee : enc (L.take k) = E at *
        have HE := Lib.hid hee
        clear hee
        go_wp2_with fail
        refine (hR _ (hT.below (by (repeat' (first | (with_reducible exact Below.refl _ _) | (with_reducible assumption) | (with_reducible refine more_below ?_ ?_ _ _) | (with_reducible refine below_drewN ?_ _) | (with_reducible refine Below.alloc ?_ ?_ _) | (with_reducible refine Below.drew ?_) | (with_reducible refine Below.setCell ?_ ?_ _) | (simp only [World.size_alloc, World.size_setCell, World.size_drew, more_size, World.heap_drewN]; omega) | go_size))))).mono ?_; rintro e W1 ⟨rfl, hb1⟩
        have hbn : Below wr.heap.size wr W1 := Below.trans (by (repeat' (first | (with_reducible exact Below.refl _ _) | (with_reducible assumption) | (with_reducible refine below_drewN ?_ _) | (with_reducible refine Below.alloc ?_ ?_ _) | (with_reducible refine Below.drew ?_) | (with_reducible refine Below.setCell ?_ ?_ _) | go_size))) (hb1.mono (by simp))
        have hO1 := Lib.hid (owns_below hO.out hbn)
        have hB1 : Below w.heap.size w W1 := Below.trans hB (hbn.mono hz')
        have e1 := C3.new wr x.1 x.2.1 x.2.2 _ (by simpa using hb1)
        have hz1 : wr.heap.size < W1.heap.size := by have := hb1.size; simp at this; omega
        obtain ⟨k0, k1, k2⟩ := e1
        have hOr := hO
        clear hb1 c0 c1 c2 hO
        go_wp2_with (first | (at_builtin; refine wpList_append_row1_at rfl (.tmp 20) (.tmp 24) 30 rfl w.heap.size 5 i (.int .u8 0) 1 Tryd.underlying30 hi hz hsize hby rfl _ E.length _ rfl (hO1.out.alloc _) _ 1 (fun _ => .int .u8 x.1) rfl (RowAt.new _ _ _ _ _ 1 1 (by omega) (by omega) (by omega) (fun i hi => by obtain rfl : i = 0 := (by omega); rfl)) (by omega) (fun _ _ => rfl) (by unfold maxLen; omega) (by omega) (by rw [World.size_alloc]; omega) ?_; intro v2 w2 hO2 hG2 hat2; have HO2 := Lib.hid hO2; have hB2 := below_grownV (hB1.alloc (by omega) _) (by rw [World.size_alloc]; omega) (hO1.out.alloc _) hG2; have hG := Lib.hid hG2; clear hO2 hG2) | fail)
        have c2 : C3 w2 wr.heap.size x.1 x.2.1 x.2.2 := ⟨(grown_cell hG.out (own_ne hOr.out (Nat.le_refl _)) (by simp; omega)).trans ((cell_past hz1).trans k0), (grown_cell hG.out (own_ne hOr.out (Nat.le_refl _)) (by simp; omega)).trans ((cell_past hz1).trans k1), (grown_cell hG.out (own_ne hOr.out (Nat.le_refl _)) (by simp; omega)).trans ((cell_past hz1).trans k2)⟩
        have z2 : wr.heap.size < w2.heap.size := by have := hG.out.size; simp at this; omega
        have hne : v2.ownBlock ≠ some wr.heap.size := by
          rcases hat2 with h | h
          · rw [h]; exact own_ne hOr.out (Nat.le_refl _)
          · rw [h]; simp; omega
        clear hG hOr k0 k1 k2 hat2
        have hn8 : (near8 2).toNat = 2 := by decide
        refine wp_region_held_drew (S := (fun w' => Below w.heap.size w w' ∧ C3 w' wr.heap.size x.1 x.2.1 x.2.2 ∧ wr.heap.size < w'.heap.size)) (by kernel_rfl) ?_ (fun hHeld => ?_)
        · (try dsimp only); first | exact ⟨hB2.drew, c2, z2⟩ | exact hHeld | (trace_state; fail)
        refine wpAnyH_take (i := 0) (oi := { dst := some 26, op := Op.move (Operand.tmp 4), type := 30, pos := _, after := #[], guard := none }) (v := ?_) rfl (by kernel_rfl) (by kernel_rfl) (by kernel_rfl) (fun _ _ _ h => h) (Or.inl ⟨by rfl, ?_⟩) (by assumption) ?_
        rotate_left
        · intro w hSw; (try dsimp only at hSw); first | (go_simp; done) | (go_simp; with_reducible rfl)
        try simp only [Act.put, List.setIfInBounds_toArray, List.set_cons_zero, List.set_cons_succ]
        refine wpAnyH_take (i := 1) (oi := { dst := some 27, op := Op.fieldAddr 92 (Operand.tmp 6) 1, type := 0, pos := _, after := #[], guard := none }) (v := ?_) rfl (by kernel_rfl) (by kernel_rfl) (by kernel_rfl) (fun _ _ _ h => h) (Or.inl ⟨by rfl, ?_⟩) (by assumption) ?_
        rotate_left
        · intro w hSw; (try dsimp only at hSw); first | (go_simp; done) | (go_simp; with_reducible rfl)
        try simp only [Act.put, List.setIfInBounds_toArray, List.set_cons_zero, List.set_cons_succ]
        refine wpAnyH_take (i := 2) (oi := { dst := some 28, op := Op.load 3 (Operand.tmp 27), type := 3, pos := _, after := #[{ on := 1, ground := Ground.data }], guard := none }) (v := ?_) rfl (by kernel_rfl) (by kernel_rfl) (by kernel_rfl) (fun _ _ _ h => h) (Or.inl ⟨by rfl, ?_⟩) (by assumption) ?_
        rotate_left
        · intro wt hSw; (try dsimp only at hSw); obtain ⟨_, ⟨q0, q1, q2⟩, _⟩ := hSw; first | (go_simp; done) | (go_simp; with_reducible rfl) | (trace_state; fail)
        try simp only [Act.put, List.setIfInBounds_toArray, List.set_cons_zero, List.set_cons_succ]
        refine wpAnyH_take (i := 4) (oi := { dst := some 30, op := Op.fieldAddr 92 (Operand.tmp 6) 2, type := 0, pos := _, after := #[], guard := none }) (v := ?_) rfl (by kernel_rfl) (by kernel_rfl) (by kernel_rfl) (fun _ _ _ h => h) (Or.inl ⟨by rfl, ?_⟩) (by assumption) ?_
        rotate_left
        · intro w hSw; (try dsimp only at hSw); first | (go_simp; done) | (go_simp; with_reducible rfl)
        try simp only [Act.put, List.setIfInBounds_toArray, List.set_cons_zero, List.set_cons_succ]
        refine wpAnyH_take (i := 5) (oi := { dst := some 31, op := Op.load 3 (Operand.tmp 30), type := 3, pos := _, after := #[{ on := 4, ground := Ground.data }], guard := none }) (v := ?_) rfl (by kernel_rfl) (by kernel_rfl) (by kernel_rfl) (fun _ _ _ h => h) (Or.inl ⟨by rfl, ?_⟩) (by assumption) ?_
        rotate_left
        · intro wt hSw; (try dsimp only at hSw); obtain ⟨_, ⟨q0, q1, q2⟩, _⟩ := hSw; first | (go_simp; done) | (go_simp; with_reducible rfl) | (trace_state; fail)
        try simp only [Act.put, List.setIfInBounds_toArray, List.set_cons_zero, List.set_cons_succ]
        refine wpAnyH_ready (rs := [3]) (by kernel_rfl) (by simp) ?_
        refine AllReadyH.cons (o := { dst := some 29, op := Op.call { callee := Callee.value (Operand.func 22), args := #[Operand.const (Value.slice none 0 0), Operand.const (Value.int IntKind.i64 2), Operand.tmp 28], argTypes := #[30, 3, 3] }, type := 30, pos := _, after := #[{ on := 2, ground := Ground.data }], guard := none }) rfl (fun K hK => ?_) AllReadyH.nil
        go_simp
        refine (octet_Put (.slice none 0 0) [] 2 x.2.1 _ (Or.inl ⟨none, 0, rfl, rfl, fun _ => rfl⟩) (by simp)).mono ?_; rintro e wa ⟨r1, rfl, hr1, hba⟩; rw [hn8] at hr1; have HOa := Lib.hid (owns_below (w := World.drew w2) HO2.out hba); have HR1 := Lib.hid (owns_bytes (L := putL 2 x.2.1) (by simpa using hr1) (by simp [putL_len])); clear hr1
        go_wp2_with fail
        refine hK.out _ _ ?_ (fun hHeld => ?_)
        · (try dsimp only); exact ⟨hHeld.1.trans (hba.mono hHeld.1.size), hHeld.2.1.keep hHeld.2.2 hba, Nat.lt_of_lt_of_le hHeld.2.2 hba.size⟩
        clear hK K
        try simp only [Act.put, List.setIfInBounds_toArray, List.set_cons_zero, List.set_cons_succ]
        refine wpAnyH_ready (rs := [6]) (by kernel_rfl) (by simp) ?_
        refine AllReadyH.cons (o := { dst := some 32, op := Op.call { callee := Callee.value (Operand.func 22), args := #[Operand.tmp 29, Operand.const (Value.int IntKind.i64 2), Operand.tmp 31], argTypes := #[30, 3, 3] }, type := 30, pos := _, after := #[{ on := 3, ground := Ground.data }, { on := 5, ground := Ground.data }, { on := 3, ground := Ground.chain }], guard := none }) rfl (fun K hK => ?_) AllReadyH.nil
        go_simp
        refine (octet_Put r1 (putL 2 x.2.1) 2 x.2.2 _ HR1.out (by rw [putL_len]; omega)).mono ?_; rintro e wb ⟨r2, rfl, hr2, hbb⟩; rw [hn8] at hr2; have HOb := Lib.hid (owns_below HOa.out hbb); have HR2 := Lib.hid (owns_bytes (L := putL 2 x.2.1 ++ putL 2 x.2.2) hr2 (by simp [putL_len])); clear hr2
        go_wp2_with fail
        refine hK.out _ _ ?_ (fun hHeld => ?_)
        · (try dsimp only); exact ⟨hHeld.1.trans (hbb.mono hHeld.1.size), hHeld.2.1.keep hHeld.2.2 hbb, Nat.lt_of_lt_of_le hHeld.2.2 hbb.size⟩
        clear hK K
        try simp only [Act.put, List.setIfInBounds_toArray, List.set_cons_zero, List.set_cons_succ]
        refine wpAnyH_ready (rs := [7]) (by kernel_rfl) (by simp) ?_
        refine AllReadyH.cons (o := { dst := some 33, op := Op.call { callee := Callee.builtin Builtin.append, args := #[Operand.tmp 26, Operand.tmp 32], argTypes := #[30, 30] }, type := 30, pos := _, after := #[{ on := 0, ground := Ground.data }, { on := 6, ground := Ground.data }, { on := 6, ground := Ground.chain }], guard := none }) rfl (fun K hK => ?_) AllReadyH.nil
        refine wp_append_row1 (.tmp 26) (.tmp 32) 30 rfl w.heap.size 5 i (.int .u8 0) 1 Tryd.underlying30 hi hz hsize hby rfl _ (E.length + 1) _ rfl HOb.out _ (putL 2 x.2.1 ++ putL 2 x.2.2).length (byteV (putL 2 x.2.1 ++ putL 2 x.2.2)) rfl HR2.out (by simp [putL_len]) (fun _ _ => rfl) (by unfold maxLen; simp only [List.length_append, putL_len]; omega) (by simp only [List.length_append, putL_len]; omega) (by exact hHeld.1.size) ?_; intro v3 w3 hO3 hG3; have HO3 := Lib.hid hO3; have hB3 := below_grownV hHeld.1 hHeld.1.size HOb.out hG3; clear hO3
        refine hK.out _ _ ?_ (fun hHeld => ?_)
        · (try dsimp only); exact ⟨hB3, ⟨(grown_cell hG3 hne hHeld.2.2).trans hHeld.2.1.1, (grown_cell hG3 hne hHeld.2.2).trans hHeld.2.1.2.1, (grown_cell hG3 hne hHeld.2.2).trans hHeld.2.1.2.2⟩, Nat.lt_of_lt_of_le hHeld.2.2 hG3.size⟩
        clear hK K
        try simp only [Act.put, List.setIfInBounds_toArray, List.set_cons_zero, List.set_cons_succ]
        refine wpAnyH_take (i := 8) (oi := { dst := some 4, op := Op.assign (Operand.tmp 33), type := 30, pos := _, after := #[{ on := 7, ground := Ground.data }, { on := 7, ground := Ground.chain }, { on := 0, ground := Ground.phase }, { on := 1, ground := Ground.phase }, { on := 2, ground := Ground.phase }, { on := 3, ground := Ground.phase }, { on := 4, ground := Ground.phase }, { on := 5, ground := Ground.phase }, { on := 6, ground := Ground.phase }, { on := 7, ground := Ground.phase }], guard := none }) (v := ?_) rfl (by kernel_rfl) (by kernel_rfl) (by kernel_rfl) (fun _ _ _ h => h) (Or.inl ⟨by rfl, ?_⟩) (by assumption) ?_
        rotate_left
        · intro w hSw; (try dsimp only at hSw); first | (go_simp; done) | (go_simp; with_reducible rfl)
        try simp only [Act.put, List.setIfInBounds_toArray, List.set_cons_zero, List.set_cons_succ]
        refine wpAnyH_done (by kernel_rfl) ?_ _
        go_wp2_with fail
        go_roundw
        case rel => exact ⟨k + 1, by omega, by simp, Lib.hid (by rw [hts.out, List.all_append, hall.out]; simp [hr]), Lib.hid (own_eq HO3.out (by rw [hts.out, enc_snoc, HE.out]; simp [encI, putL_len]; try omega) (by
          rw [hts.out, enc_snoc, HE.out, map_bytesV]; exact enc_val E x i0)), hB3⟩
        case measure => first | (simp [intOf]; done) | (simp [intOf]; omega)
    · obtain rfl : k = N := by omega
      have htk : L.take k = L := by rw [← hN, List.take_length]
      have h1 := hall.out
      have h2 := hO.out
      rw [htk] at h1 h2
      have h3 := Lib.hid (HY.out h1)
      have h4 := Lib.hid h2
      have h5 := Lib.hid h1
      clear hall hO h1 h2
      go_wp2_with fail
      go_returns
      refine ⟨_, by rw [h5.out]; rfl, ?_, hB⟩
      rw [h3.out]
      exact RowAt.owns h4.out (fun i hi => byteV_at hi)
end Go.Proofs.YtjikkipdmonndaaDoor

/- '==' between two instructions. -/
namespace Go.Proofs.YtjikkipdmonndaaDoor
open Go.RowKit
set_option linter.unusedSimpArgs false
set_option linter.unusedVariables false
theorem eq_instr (w : World) (a b c d f g : Int) : (binOp .eql 92 (.agg #[.int .i64 a, .int .i64 b, .int .i64 c]) (.agg #[.int .i64 d, .int .i64 f, .int .i64 g])).run Tryd.prog w = .ok (.bool ((a == d) && (b == f) && (c == g))) w := by
  have hs : Tryd.prog.stoodInHeld 92 = false := by kernel_rfl
  have hu : Tryd.prog.underlying 92 = some (.struct (Tryd.prog.fieldsOf 92)) := by kernel_rfl
  rw [run_eql_struct, run_equalIn_agg (d := 9999) (ht := hu) (hp := hs)]
  obtain ⟨f0, f1, f2, hfs, hn0, ht0, ho0, hn1, ht1, ho1, hn2, ht2, ho2⟩ : ∃ f0 f1 f2, (Tryd.prog.fieldsOf 92).toList = [f0, f1, f2] ∧ f0.name ≠ "_" ∧ f0.type = 3 ∧ f0.offset = 0 ∧ f1.name ≠ "_" ∧ f1.type = 3 ∧ f1.offset = 1 ∧ f2.name ≠ "_" ∧ f2.type = 3 ∧ f2.offset = 2 :=
    ⟨(Tryd.prog.fieldsOf 92)[0]!, (Tryd.prog.fieldsOf 92)[1]!, (Tryd.prog.fieldsOf 92)[2]!, by kernel_rfl, of_decide_eq_true (by kernel_rfl), by kernel_rfl, by kernel_rfl, of_decide_eq_true (by kernel_rfl), by kernel_rfl, by kernel_rfl, of_decide_eq_true (by kernel_rfl), by kernel_rfl, by kernel_rfl⟩
  rw [hfs]
  have hp : ∀ (xs : Array Value) (i : Nat) (z : Int), xs[i]? = some (.int .i64 z) → (part 3 xs i).run Tryd.prog w = .ok (.int .i64 z) w := fun xs i z hz => by
    simp [part, isAgg, run_underlying Tryd.underlying3, hz]
  have p0 : ∀ x y z : Int, (part 3 #[.int .i64 x, .int .i64 y, .int .i64 z] 0).run Tryd.prog w = .ok (.int .i64 x) w := fun x y z => hp _ 0 x rfl
  have p1 : ∀ x y z : Int, (part 3 #[.int .i64 x, .int .i64 y, .int .i64 z] 1).run Tryd.prog w = .ok (.int .i64 y) w := fun x y z => hp _ 1 y rfl
  have p2 : ∀ x y z : Int, (part 3 #[.int .i64 x, .int .i64 y, .int .i64 z] 2).run Tryd.prog w = .ok (.int .i64 z) w := fun x y z => hp _ 2 z rfl
  have e1 : ∀ x y : Int, (Op.equalIn 9999 3 (.int .i64 x) (.int .i64 y)).run Tryd.prog w = .ok (x == y) w := fun x y => run_equalIn_int (P := Tryd.prog) w 9998 3 .i64 .i64 x y Tryd.underlying3
  simp only [Op.eqFields, hn0, ht0, ho0, hn1, ht1, ho1, hn2, ht2, ho2, Sem.run_bind, ne_eq, not_false_eq_true, if_true, Result.andThen_ok, p0, p1, p2, e1]
  by_cases h1 : a = d <;> by_cases h2 : b = f <;> by_cases h3 : c = g <;> simp [h1, h2, h3, p0, p1, p2, e1, Result.andThen]
end Go.Proofs.YtjikkipdmonndaaDoor

/- Layer 12: the answer's Right. -/
namespace Go.Proofs.YtjikkipdmonndaaDoor
open Go.RowKit
set_option linter.unusedSimpArgs false
set_option linter.unusedVariables false
set_option maxHeartbeats 2000000 in
theorem ref12_Right (o a b : Int) (w : World) : Calls Tryd.prog 90 #[.agg #[.int .i64 o, .int .i64 a, .int .i64 b]] w fun e w' => e = .returned (.bool (oRight o a b)) ∧ Below w.heap.size w w' := by
  have mc := @more_cell
  have HR := Lib.hid (show oRight o a b = (oIs o && oFit (oA o) a && oFit (oB o) b) from rfl)
  have HY := Lib.hid (@oIs_yes o)
  have HN := Lib.hid (@oIs_no o)
  have hS := @ref12_Shape o
  have hA := @ref12_may a (oA o)
  have hB := @ref12_may b (oB o)
  generalize oA o = x at *
  generalize oB o = y at *
  generalize oFit x a = p at *
  generalize oFit y b = q at *
  by_cases h0 : 0 ≤ o
  · by_cases h1 : o ≤ 37
    · have hi := Lib.hid (HY.out ⟨h0, h1⟩)
      cases p <;> cases q
      all_goals
        go_enter Tryd.func90, Tryd.ntmps90
        go_wp2_with fail
        refine (hS _).mono ?_; rintro e w1 ⟨rfl, hb⟩
        obtain ⟨l, d, rfl⟩ := more_of hb
        clear hb
        go_wp2_with fail
        try (refine (hA _).mono ?_; rintro e w' ⟨rfl, rfl⟩; go_wp2_with fail)
        try (refine (hB _).mono ?_; rintro e w' ⟨rfl, rfl⟩; go_wp2_with fail)
        go_ret
        exact ⟨by rw [HR.out, hi.out]; rfl, by (repeat' (first | (with_reducible exact Below.refl _ _) | (with_reducible assumption) | (with_reducible refine more_below ?_ ?_ _ _) | (with_reducible refine below_drewN ?_ _) | (with_reducible refine Below.alloc ?_ ?_ _) | (with_reducible refine Below.drew ?_) | (with_reducible refine Below.setCell ?_ ?_ _) | (simp only [World.size_alloc, World.size_setCell, World.size_drew, more_size, World.heap_drewN]; omega) | go_size))⟩
    · have hi := Lib.hid (HN.out (fun h => h1 h.2))
      go_enter Tryd.func90, Tryd.ntmps90
      go_wp2_with fail
      refine (hS _).mono ?_; rintro e w1 ⟨rfl, hb⟩
      obtain ⟨l, d, rfl⟩ := more_of hb
      clear hb
      go_wp2_with fail
      go_ret
      exact ⟨by rw [HR.out, hi.out]; rfl, by (repeat' (first | (with_reducible exact Below.refl _ _) | (with_reducible assumption) | (with_reducible refine more_below ?_ ?_ _ _) | (with_reducible refine below_drewN ?_ _) | (with_reducible refine Below.alloc ?_ ?_ _) | (with_reducible refine Below.drew ?_) | (with_reducible refine Below.setCell ?_ ?_ _) | (simp only [World.size_alloc, World.size_setCell, World.size_drew, more_size, World.heap_drewN]; omega) | go_size))⟩
  · have hi := Lib.hid (HN.out (fun h => h0 h.1))
    go_enter Tryd.func90, Tryd.ntmps90
    go_wp2_with fail
    refine (hS _).mono ?_; rintro e w1 ⟨rfl, hb⟩
    obtain ⟨l, d, rfl⟩ := more_of hb
    clear hb
    go_wp2_with fail
    go_ret
    exact ⟨by rw [HR.out, hi.out]; rfl, by (repeat' (first | (with_reducible exact Below.refl _ _) | (with_reducible assumption) | (with_reducible refine more_below ?_ ?_ _ _) | (with_reducible refine below_drewN ?_ _) | (with_reducible refine Below.alloc ?_ ?_ _) | (with_reducible refine Below.drew ?_) | (with_reducible refine Below.setCell ?_ ?_ _) | (simp only [World.size_alloc, World.size_setCell, World.size_drew, more_size, World.heap_drewN]; omega) | go_size))⟩
end Go.Proofs.YtjikkipdmonndaaDoor

/- Layer 13: the same instructions; Encode of the answer. -/
namespace Go.Proofs.YtjikkipdmonndaaDoor
open Go.RowKit
set_option linter.unusedSimpArgs false
set_option linter.unusedVariables false
theorem neq_instr (w : World) (a b c d f g : Int) : (binOp .neq 92 (.agg #[.int .i64 a, .int .i64 b, .int .i64 c]) (.agg #[.int .i64 d, .int .i64 f, .int .i64 g])).run Tryd.prog w = .ok (.bool (!((a == d) && (b == f) && (c == g)))) w := by
  have h := eq_instr w a b c d f g
  rw [run_eql_struct] at h
  rw [run_neq_struct]
  cases hh : (Op.equalIn 10000 92 (.agg #[.int .i64 a, .int .i64 b, .int .i64 c]) (.agg #[.int .i64 d, .int .i64 f, .int .i64 g])).run Tryd.prog w with
  | ok v w' => rw [hh] at h; simp [Result.andThen] at h ⊢; obtain ⟨h1, h2⟩ := h; exact ⟨by rw [h1], h2⟩
  | halt r w' => rw [hh] at h; simp [Result.andThen] at h
theorem ins_eq {x y : Ins} : ((x.1 == y.1) && (x.2.1 == y.2.1) && (x.2.2 == y.2.2)) = decide (x = y) := by
  obtain ⟨a, b, c⟩ := x
  obtain ⟨d, f, g⟩ := y
  by_cases h1 : a = d <;> by_cases h2 : b = f <;> by_cases h3 : c = g <;> simp [h1, h2, h3]
set_option maxHeartbeats 2000000 in
theorem ref13_Same (v u : Value) (L M : List Ins) (w : World) (hv : RowR 3 insR w v L) (hu : RowR 3 insR w u M) (hL : L.length ≤ 1000000000) :
    Calls Tryd.prog 67 #[v, u] w fun e w' => e = .returned (.bool (decide (L = M))) ∧ ∃ m, w' = w.drewN m := by
  obtain ⟨sa, ca, rfl⟩ := ins_get hv
  obtain ⟨sb, cb, rfl⟩ := ins_get hu
  have hneq := neq_instr
  by_cases hlen : L.length = M.length
  · have hb : (((L.length : Nat) : Int) != ((M.length : Nat) : Int)) = false := by rw [hlen]; simp
    have HY := Lib.hid (fun h : L = M => (decide_eq_true h : decide (L = M) = true))
    have HN := Lib.hid (fun h : ¬ L = M => (decide_eq_false h : decide (L = M) = false))
    obtain ⟨N, hN⟩ : ∃ N, L.length = N := ⟨_, rfl⟩
    have hM : M.length = N := hlen.symm.trans hN
    rw [hN] at hv hL
    rw [hM] at hu
    rw [hN, hM] at hb
    rw [hN, hM]
    clear hlen
    go_enter Tryd.func67, Tryd.ntmps67
    go_wp2_with fail
    go_loopw [5] (fun j wr => ∃ k m : Nat, k ≤ N ∧ j = .int .i64 k ∧ Hid (L.take k = M.take k) ∧ wr = w.drewN m) (fun j _ => N - (intOf j).toNat)
    case atStart => exact ⟨0, 0, by omega, rfl, Lib.hid (by simp), rfl⟩
    case round =>
      obtain ⟨k, m, hk, rfl, heq, rfl⟩ := hrel
      by_cases hlt : k < N
      · obtain ⟨b, off, rfl, hbw, hc⟩ := ins_at hv (k := k) (by omega)
        obtain ⟨b2, off2, rfl, hbw2, hd⟩ := ins_at hu (k := k) (by omega)
        obtain ⟨x, hx⟩ : ∃ x, L[k]? = some x := ⟨L[k]'(by omega), by simp [hN, hlt]⟩
        obtain ⟨y, hy⟩ : ∃ y, M[k]? = some y := ⟨M[k]'(by omega), by simp [hlt, hM]⟩
        obtain ⟨c0, c1, c2, _⟩ := hc k x hx
        obtain ⟨d0, d1, d2, _⟩ := hd k y hy
        have hix := ins_eq (x := x) (y := y)
        clear hc hd
        by_cases hxy : x = y
        · have hq := decide_eq_true hxy
          have hs := Lib.hid (show L.take (k + 1) = M.take (k + 1) by rw [take_snoc hx, take_snoc hy, heq.out, hxy])
          rw [hq] at hix
          clear hxy hx hy hq heq
          go_wp2_with fail
          go_quiet (fail)
          go_wp2_with fail
          go_roundw
          case rel => exact ⟨k + 1, _, by omega, by simp, hs, rfl⟩
          case measure => first | (simp [intOf]; done) | (simp [intOf]; omega)
        · have hq := decide_eq_false hxy
          have hs := Lib.hid (HN.out (fun h => hxy (by rw [h, hy] at hx; exact (Option.some.inj hx).symm)))
          rw [hq] at hix
          clear hxy hx hy hq heq
          go_wp2_with fail
          go_quiet (fail)
          go_wp2_with fail
          go_ret
          exact ⟨by rw [hs.out]; rfl, _, World.drewN_drewN _ _ _⟩
      · obtain rfl : k = N := by omega
        have hs := Lib.hid (HY.out (by have := heq.out; rw [List.take_of_length_le (by omega), List.take_of_length_le (by omega)] at this; exact this))
        clear heq
        go_wp2_with fail
        go_ret
        exact ⟨by rw [hs.out]; rfl, _, rfl⟩
  · have hb : (((L.length : Nat) : Int) != ((M.length : Nat) : Int)) = true := by simp; omega
    have hs := Lib.hid (show decide (L = M) = false from decide_eq_false (fun h => hlen (by rw [h])))
    clear hlen
    go_enter Tryd.func67, Tryd.ntmps67
    go_wp2_with fail
    go_ret
    exact ⟨by rw [hs.out]; rfl, 0, rfl⟩
theorem encI_put (E : List UInt8) (x : Ins) : E ++ putL 1 x.1 ++ putL 2 x.2.1 ++ putL 2 x.2.2 = E ++ encI x := by
  simp [encI, putL, List.range_succ]
set_option maxHeartbeats 4000000 in
theorem ref13_Encode (v : Value) (L : List Ins) (w : World) (hv : RowR 3 insR w v L) (hn : L.length ≤ 1000) :
    Calls Tryd.prog 61 #[v] w fun e w' => ∃ r, e = .returned (.tuple #[r, .bool (L.all rI)]) ∧ RowAt w' r (encO L).length (byteV (encO L)) ∧ Below w.heap.size w w' := by
  obtain ⟨sa, cap, rfl⟩ := ins_get hv
  have HY := Lib.hid (encO_yes (L := L))
  have HN := Lib.hid (encO_no (L := L))
  have hn1 : (near8 1).toNat = 1 := by decide
  have hn2 : (near8 2).toNat = 2 := by decide
  generalize hN : L.length = N at *
  go_enter Tryd.func61, Tryd.ntmps61
  go_wp2_with fail
  go_loopw [4, 5] (fun o j wr => ∃ k : Nat, k ≤ N ∧ j = .int .i64 k ∧ Hid ((L.take k).all rI = true) ∧ Hid (RowAt wr o (enc (L.take k)).length (byteV (enc (L.take k)))) ∧ Below w.heap.size w wr) (fun _ j _ => N - (intOf j).toNat)
  case atStart => exact ⟨0, by omega, rfl, Lib.hid (by simp), Lib.hid (Or.inl ⟨none, 0, rfl, rfl, fun _ => rfl⟩), Below.refl _ _⟩
  case round =>
    obtain ⟨k, hk, rfl, hall, hO, hB⟩ := hrel
    have hz' := hB.size
    by_cases hlt : k < N
    · obtain ⟨b, off, rfl, hbw, hc⟩ := ins_at hv (k := k) (by omega)
      obtain ⟨x, hx⟩ : ∃ x, L[k]? = some x := ⟨L[k]'(by omega), by simp [hN, hlt]⟩
      obtain ⟨c0, c1, c2, w0, w1, w2⟩ := hc k x hx
      have c0 := (hB.cell (p := ⟨b, off + k * 3, none⟩) hbw).trans c0
      have c1 := (hB.cell (p := ⟨b, off + k * 3 + 1, none⟩) hbw).trans c1
      have c2 := (hB.cell (p := ⟨b, off + k * 3 + 2, none⟩) hbw).trans c2
      have hlen : (enc (L.take k)).length = 5 * k := by rw [enc_len, List.length_take, hN]; rw [Nat.min_eq_left (by omega)]
      have hts := Lib.hid (take_snoc hx)
      have hR := ref12_Right x.1 x.2.1 x.2.2
      have hno := Lib.hid (all_take_no hx)
      have hxr : oRight x.1 x.2.1 x.2.2 = rI x := rfl
      rw [hxr] at hR
      clear hc hxr
      cases hr : rI x
      · have hal := hno.out hr
        have hen := Lib.hid (HN.out hal)
        have HAL := Lib.hid hal
        rw [hr] at hR
        clear hal hall hO hts hx
        go_wp2_with fail
        refine (hR _).mono ?_; rintro e W1 ⟨rfl, hb1⟩
        have hB1 : Below w.heap.size w W1 := Below.trans hB (hb1.mono hz')
        go_wp2_with fail
        go_returns
        exact ⟨.slice none 0 0, by rw [HAL.out]; rfl, by rw [hen.out]; exact Or.inl ⟨none, 0, rfl, rfl, fun _ => rfl⟩, hB1⟩
      · rw [hr] at hR
        clear hx
        generalize hee : enc (L.take k) = E at *
        have HE := Lib.hid hee
        clear hee
        go_wp2_with fail
        refine (hR _).mono ?_; rintro e W1 ⟨rfl, hb1⟩
        have hE1 := Lib.hid (hO.out.below hb1)
        have hB1 : Below w.heap.size w W1 := Below.trans hB (hb1.mono hz')
        have c0 := (hb1.cell (p := ⟨b, off + k * 3, none⟩) (Nat.lt_of_lt_of_le hbw hz')).trans c0
        have c1 := (hb1.cell (p := ⟨b, off + k * 3 + 1, none⟩) (Nat.lt_of_lt_of_le hbw hz')).trans c1
        have c2 := (hb1.cell (p := ⟨b, off + k * 3 + 2, none⟩) (Nat.lt_of_lt_of_le hbw hz')).trans c2
        clear hb1 hO
        go_wp2_with fail
        refine wp_region_held_drew (S := (fun w' => Below W1.heap.size W1 w')) (by kernel_rfl) ?_ (fun hHeld => ?_)
        · (try dsimp only); first | exact (Below.refl _ _).drew | exact hHeld.trans (hbz.mono hHeld.size) | (trace_state; fail)
        refine wpAnyH_take (i := 0) (oi := { dst := some 18, op := Op.move (Operand.tmp 4), type := 30, pos := _, after := #[], guard := none }) (v := ?_) rfl (by kernel_rfl) (by kernel_rfl) (by kernel_rfl) (fun _ _ _ h => h) (Or.inl ⟨by rfl, ?_⟩) (by assumption) ?_
        rotate_left
        · intro w hSw; (try dsimp only at hSw); first | (go_simp; done) | (go_simp; with_reducible rfl)
        try simp only [Act.put, List.setIfInBounds_toArray, List.set_cons_zero, List.set_cons_succ]
        refine wpAnyH_take (i := 1) (oi := { dst := some 19, op := Op.move (Operand.tmp 0), type := 46, pos := _, after := #[], guard := none }) (v := ?_) rfl (by kernel_rfl) (by kernel_rfl) (by kernel_rfl) (fun _ _ _ h => h) (Or.inl ⟨by rfl, ?_⟩) (by assumption) ?_
        rotate_left
        · intro w hSw; (try dsimp only at hSw); first | (go_simp; done) | (go_simp; with_reducible rfl)
        try simp only [Act.put, List.setIfInBounds_toArray, List.set_cons_zero, List.set_cons_succ]
        refine wpAnyH_take (i := 2) (oi := { dst := some 20, op := Op.move (Operand.tmp 5), type := 3, pos := _, after := #[], guard := none }) (v := ?_) rfl (by kernel_rfl) (by kernel_rfl) (by kernel_rfl) (fun _ _ _ h => h) (Or.inl ⟨by rfl, ?_⟩) (by assumption) ?_
        rotate_left
        · intro w hSw; (try dsimp only at hSw); first | (go_simp; done) | (go_simp; with_reducible rfl)
        try simp only [Act.put, List.setIfInBounds_toArray, List.set_cons_zero, List.set_cons_succ]
        refine wpAnyH_take (i := 3) (oi := { dst := some 21, op := Op.indexAddr 46 (Operand.tmp 19) (Operand.tmp 20), type := 0, pos := _, after := #[{ on := 1, ground := Ground.data }, { on := 2, ground := Ground.data }], guard := none }) (v := ?_) rfl (by kernel_rfl) (by kernel_rfl) (by kernel_rfl) (fun _ _ _ h => h) (Or.inl ⟨by rfl, ?_⟩) (by assumption) ?_
        rotate_left
        · intro w hSw; (try dsimp only at hSw); first | (go_simp; done) | (go_simp; with_reducible rfl)
        try simp only [Act.put, List.setIfInBounds_toArray, List.set_cons_zero, List.set_cons_succ]
        refine wpAnyH_take (i := 4) (oi := { dst := some 22, op := Op.fieldAddr 92 (Operand.tmp 21) 0, type := 0, pos := _, after := #[{ on := 3, ground := Ground.data }], guard := none }) (v := ?_) rfl (by kernel_rfl) (by kernel_rfl) (by kernel_rfl) (fun _ _ _ h => h) (Or.inl ⟨by rfl, ?_⟩) (by assumption) ?_
        rotate_left
        · intro w hSw; (try dsimp only at hSw); first | (go_simp; done) | (go_simp; with_reducible rfl)
        try simp only [Act.put, List.setIfInBounds_toArray, List.set_cons_zero, List.set_cons_succ]
        refine wpAnyH_take (i := 5) (oi := { dst := some 23, op := Op.load 3 (Operand.tmp 22), type := 3, pos := _, after := #[{ on := 4, ground := Ground.data }], guard := none }) (v := ?_) rfl (by kernel_rfl) (by kernel_rfl) (by kernel_rfl) (fun _ _ _ h => h) (Or.inl ⟨by rfl, ?_⟩) (by assumption) ?_
        rotate_left
        · intro wt hSw; (try dsimp only at hSw); have q0 := (hSw.cell (p := ⟨b, off + k * 3, none⟩) (Nat.lt_of_lt_of_le hbw hB1.size)).trans c0; have q1 := (hSw.cell (p := ⟨b, off + k * 3 + 1, none⟩) (Nat.lt_of_lt_of_le hbw hB1.size)).trans c1; have q2 := (hSw.cell (p := ⟨b, off + k * 3 + 2, none⟩) (Nat.lt_of_lt_of_le hbw hB1.size)).trans c2; first | (go_simp; done) | (go_simp; with_reducible rfl) | (trace_state; fail)
        try simp only [Act.put, List.setIfInBounds_toArray, List.set_cons_zero, List.set_cons_succ]
        refine wpAnyH_take (i := 7) (oi := { dst := some 25, op := Op.move (Operand.tmp 0), type := 46, pos := _, after := #[], guard := none }) (v := ?_) rfl (by kernel_rfl) (by kernel_rfl) (by kernel_rfl) (fun _ _ _ h => h) (Or.inl ⟨by rfl, ?_⟩) (by assumption) ?_
        rotate_left
        · intro w hSw; (try dsimp only at hSw); first | (go_simp; done) | (go_simp; with_reducible rfl)
        try simp only [Act.put, List.setIfInBounds_toArray, List.set_cons_zero, List.set_cons_succ]
        refine wpAnyH_take (i := 8) (oi := { dst := some 26, op := Op.move (Operand.tmp 5), type := 3, pos := _, after := #[], guard := none }) (v := ?_) rfl (by kernel_rfl) (by kernel_rfl) (by kernel_rfl) (fun _ _ _ h => h) (Or.inl ⟨by rfl, ?_⟩) (by assumption) ?_
        rotate_left
        · intro w hSw; (try dsimp only at hSw); first | (go_simp; done) | (go_simp; with_reducible rfl)
        try simp only [Act.put, List.setIfInBounds_toArray, List.set_cons_zero, List.set_cons_succ]
        refine wpAnyH_take (i := 9) (oi := { dst := some 27, op := Op.indexAddr 46 (Operand.tmp 25) (Operand.tmp 26), type := 0, pos := _, after := #[{ on := 7, ground := Ground.data }, { on := 8, ground := Ground.data }], guard := none }) (v := ?_) rfl (by kernel_rfl) (by kernel_rfl) (by kernel_rfl) (fun _ _ _ h => h) (Or.inl ⟨by rfl, ?_⟩) (by assumption) ?_
        rotate_left
        · intro w hSw; (try dsimp only at hSw); first | (go_simp; done) | (go_simp; with_reducible rfl)
        try simp only [Act.put, List.setIfInBounds_toArray, List.set_cons_zero, List.set_cons_succ]
        refine wpAnyH_take (i := 10) (oi := { dst := some 28, op := Op.fieldAddr 92 (Operand.tmp 27) 1, type := 0, pos := _, after := #[{ on := 9, ground := Ground.data }], guard := none }) (v := ?_) rfl (by kernel_rfl) (by kernel_rfl) (by kernel_rfl) (fun _ _ _ h => h) (Or.inl ⟨by rfl, ?_⟩) (by assumption) ?_
        rotate_left
        · intro w hSw; (try dsimp only at hSw); first | (go_simp; done) | (go_simp; with_reducible rfl)
        try simp only [Act.put, List.setIfInBounds_toArray, List.set_cons_zero, List.set_cons_succ]
        refine wpAnyH_take (i := 11) (oi := { dst := some 29, op := Op.load 3 (Operand.tmp 28), type := 3, pos := _, after := #[{ on := 10, ground := Ground.data }], guard := none }) (v := ?_) rfl (by kernel_rfl) (by kernel_rfl) (by kernel_rfl) (fun _ _ _ h => h) (Or.inl ⟨by rfl, ?_⟩) (by assumption) ?_
        rotate_left
        · intro wt hSw; (try dsimp only at hSw); have q0 := (hSw.cell (p := ⟨b, off + k * 3, none⟩) (Nat.lt_of_lt_of_le hbw hB1.size)).trans c0; have q1 := (hSw.cell (p := ⟨b, off + k * 3 + 1, none⟩) (Nat.lt_of_lt_of_le hbw hB1.size)).trans c1; have q2 := (hSw.cell (p := ⟨b, off + k * 3 + 2, none⟩) (Nat.lt_of_lt_of_le hbw hB1.size)).trans c2; first | (go_simp; done) | (go_simp; with_reducible rfl) | (trace_state; fail)
        try simp only [Act.put, List.setIfInBounds_toArray, List.set_cons_zero, List.set_cons_succ]
        refine wpAnyH_take (i := 13) (oi := { dst := some 31, op := Op.move (Operand.tmp 0), type := 46, pos := _, after := #[], guard := none }) (v := ?_) rfl (by kernel_rfl) (by kernel_rfl) (by kernel_rfl) (fun _ _ _ h => h) (Or.inl ⟨by rfl, ?_⟩) (by assumption) ?_
        rotate_left
        · intro w hSw; (try dsimp only at hSw); first | (go_simp; done) | (go_simp; with_reducible rfl)
        try simp only [Act.put, List.setIfInBounds_toArray, List.set_cons_zero, List.set_cons_succ]
        refine wpAnyH_take (i := 14) (oi := { dst := some 32, op := Op.move (Operand.tmp 5), type := 3, pos := _, after := #[], guard := none }) (v := ?_) rfl (by kernel_rfl) (by kernel_rfl) (by kernel_rfl) (fun _ _ _ h => h) (Or.inl ⟨by rfl, ?_⟩) (by assumption) ?_
        rotate_left
        · intro w hSw; (try dsimp only at hSw); first | (go_simp; done) | (go_simp; with_reducible rfl)
        try simp only [Act.put, List.setIfInBounds_toArray, List.set_cons_zero, List.set_cons_succ]
        refine wpAnyH_take (i := 15) (oi := { dst := some 33, op := Op.indexAddr 46 (Operand.tmp 31) (Operand.tmp 32), type := 0, pos := _, after := #[{ on := 13, ground := Ground.data }, { on := 14, ground := Ground.data }], guard := none }) (v := ?_) rfl (by kernel_rfl) (by kernel_rfl) (by kernel_rfl) (fun _ _ _ h => h) (Or.inl ⟨by rfl, ?_⟩) (by assumption) ?_
        rotate_left
        · intro w hSw; (try dsimp only at hSw); first | (go_simp; done) | (go_simp; with_reducible rfl)
        try simp only [Act.put, List.setIfInBounds_toArray, List.set_cons_zero, List.set_cons_succ]
        refine wpAnyH_take (i := 16) (oi := { dst := some 34, op := Op.fieldAddr 92 (Operand.tmp 33) 2, type := 0, pos := _, after := #[{ on := 15, ground := Ground.data }], guard := none }) (v := ?_) rfl (by kernel_rfl) (by kernel_rfl) (by kernel_rfl) (fun _ _ _ h => h) (Or.inl ⟨by rfl, ?_⟩) (by assumption) ?_
        rotate_left
        · intro w hSw; (try dsimp only at hSw); first | (go_simp; done) | (go_simp; with_reducible rfl)
        try simp only [Act.put, List.setIfInBounds_toArray, List.set_cons_zero, List.set_cons_succ]
        refine wpAnyH_take (i := 17) (oi := { dst := some 35, op := Op.load 3 (Operand.tmp 34), type := 3, pos := _, after := #[{ on := 16, ground := Ground.data }], guard := none }) (v := ?_) rfl (by kernel_rfl) (by kernel_rfl) (by kernel_rfl) (fun _ _ _ h => h) (Or.inl ⟨by rfl, ?_⟩) (by assumption) ?_
        rotate_left
        · intro wt hSw; (try dsimp only at hSw); have q0 := (hSw.cell (p := ⟨b, off + k * 3, none⟩) (Nat.lt_of_lt_of_le hbw hB1.size)).trans c0; have q1 := (hSw.cell (p := ⟨b, off + k * 3 + 1, none⟩) (Nat.lt_of_lt_of_le hbw hB1.size)).trans c1; have q2 := (hSw.cell (p := ⟨b, off + k * 3 + 2, none⟩) (Nat.lt_of_lt_of_le hbw hB1.size)).trans c2; first | (go_simp; done) | (go_simp; with_reducible rfl) | (trace_state; fail)
        try simp only [Act.put, List.setIfInBounds_toArray, List.set_cons_zero, List.set_cons_succ]
        refine wpAnyH_ready (rs := [6]) (by kernel_rfl) (by simp) ?_
        refine AllReadyH.cons (o := { dst := some 24, op := Op.call { callee := Callee.value (Operand.func 28), args := #[Operand.tmp 18, Operand.const (Value.int IntKind.i64 1), Operand.tmp 23], argTypes := #[30, 3, 3] }, type := 30, pos := _, after := #[{ on := 0, ground := Ground.data }, { on := 5, ground := Ground.data }], guard := none }) rfl (fun K hK => ?_) AllReadyH.nil
        go_simp
        refine (ref03_Put _ E 1 x.1 _ (hE1.out.below (by exact hHeld)) (by omega)).mono ?_; rintro e wz ⟨r1, rfl, hr1, hbz⟩; rw [hn1] at hr1; have HR1 := Lib.hid (owns_bytes (L := E ++ putL 1 x.1) hr1 (by simp [putL_len])); clear hr1
        go_wp2_with fail
        refine hK.out _ _ ?_ (fun hHeld => ?_)
        · (try dsimp only); first | exact (Below.refl _ _).drew | exact hHeld.trans (hbz.mono hHeld.size) | (trace_state; fail)
        clear hK K
        try simp only [Act.put, List.setIfInBounds_toArray, List.set_cons_zero, List.set_cons_succ]
        refine wpAnyH_ready (rs := [12]) (by kernel_rfl) (by simp) ?_
        refine AllReadyH.cons (o := { dst := some 30, op := Op.call { callee := Callee.value (Operand.func 28), args := #[Operand.tmp 24, Operand.const (Value.int IntKind.i64 2), Operand.tmp 29], argTypes := #[30, 3, 3] }, type := 30, pos := _, after := #[{ on := 6, ground := Ground.data }, { on := 11, ground := Ground.data }, { on := 6, ground := Ground.chain }], guard := none }) rfl (fun K hK => ?_) AllReadyH.nil
        go_simp
        refine (ref03_Put r1 (E ++ putL 1 x.1) 2 x.2.1 _ HR1.out (by simp [putL_len]; omega)).mono ?_; rintro e wz ⟨r2, rfl, hr2, hbz⟩; rw [hn2] at hr2; have HR2 := Lib.hid (owns_bytes (L := E ++ putL 1 x.1 ++ putL 2 x.2.1) hr2 (by simp [putL_len]; try omega)); clear hr2
        go_wp2_with fail
        refine hK.out _ _ ?_ (fun hHeld => ?_)
        · (try dsimp only); first | exact (Below.refl _ _).drew | exact hHeld.trans (hbz.mono hHeld.size) | (trace_state; fail)
        clear hK K
        try simp only [Act.put, List.setIfInBounds_toArray, List.set_cons_zero, List.set_cons_succ]
        refine wpAnyH_ready (rs := [18]) (by kernel_rfl) (by simp) ?_
        refine AllReadyH.cons (o := { dst := some 36, op := Op.call { callee := Callee.value (Operand.func 28), args := #[Operand.tmp 30, Operand.const (Value.int IntKind.i64 2), Operand.tmp 35], argTypes := #[30, 3, 3] }, type := 30, pos := _, after := #[{ on := 12, ground := Ground.data }, { on := 17, ground := Ground.data }, { on := 12, ground := Ground.chain }], guard := none }) rfl (fun K hK => ?_) AllReadyH.nil
        go_simp
        refine (ref03_Put r2 (E ++ putL 1 x.1 ++ putL 2 x.2.1) 2 x.2.2 _ HR2.out (by simp [putL_len]; omega)).mono ?_; rintro e wz ⟨r3, rfl, hr3, hbz⟩; rw [hn2] at hr3; have HR3 := Lib.hid (owns_bytes (L := E ++ putL 1 x.1 ++ putL 2 x.2.1 ++ putL 2 x.2.2) hr3 (by simp [putL_len]; try omega)); clear hr3
        go_wp2_with fail
        refine hK.out _ _ ?_ (fun hHeld => ?_)
        · (try dsimp only); first | exact (Below.refl _ _).drew | exact hHeld.trans (hbz.mono hHeld.size) | (trace_state; fail)
        clear hK K
        try simp only [Act.put, List.setIfInBounds_toArray, List.set_cons_zero, List.set_cons_succ]
        refine wpAnyH_take (i := 19) (oi := { dst := some 4, op := Op.assign (Operand.tmp 36), type := 30, pos := _, after := #[{ on := 18, ground := Ground.data }, { on := 18, ground := Ground.chain }, { on := 0, ground := Ground.phase }, { on := 1, ground := Ground.phase }, { on := 2, ground := Ground.phase }, { on := 3, ground := Ground.phase }, { on := 4, ground := Ground.phase }, { on := 5, ground := Ground.phase }, { on := 6, ground := Ground.phase }, { on := 7, ground := Ground.phase }, { on := 8, ground := Ground.phase }, { on := 9, ground := Ground.phase }, { on := 10, ground := Ground.phase }, { on := 11, ground := Ground.phase }, { on := 12, ground := Ground.phase }, { on := 13, ground := Ground.phase }, { on := 14, ground := Ground.phase }, { on := 15, ground := Ground.phase }, { on := 16, ground := Ground.phase }, { on := 17, ground := Ground.phase }, { on := 18, ground := Ground.phase }], guard := none }) (v := ?_) rfl (by kernel_rfl) (by kernel_rfl) (by kernel_rfl) (fun _ _ _ h => h) (Or.inl ⟨by rfl, ?_⟩) (by assumption) ?_
        rotate_left
        · intro w hSw; (try dsimp only at hSw); first | (go_simp; done) | (go_simp; with_reducible rfl)
        try simp only [Act.put, List.setIfInBounds_toArray, List.set_cons_zero, List.set_cons_succ]
        refine wpAnyH_done (by kernel_rfl) ?_ _
        go_wp2_with fail
        go_roundw
        case rel => exact ⟨k + 1, by omega, by simp, Lib.hid (by rw [hts.out, List.all_append, hall.out]; simp [hr]), Lib.hid (by rw [hts.out, enc_snoc, HE.out, ← encI_put]; exact HR3.out), hB1.trans (hHeld.mono hB1.size)⟩
        case measure => first | (simp [intOf]; done) | (simp [intOf]; omega)
    · obtain rfl : k = N := by omega
      have htk : L.take k = L := by rw [← hN, List.take_length]
      have h1 := hall.out
      have h2 := hO.out
      rw [htk] at h1 h2
      have h3 := Lib.hid (HY.out h1)
      have h4 := Lib.hid h2
      have h5 := Lib.hid h1
      clear hall hO h1 h2
      go_wp2_with fail
      go_returns
      refine ⟨_, by rw [h5.out]; rfl, ?_, hB⟩
      rw [h3.out]
      exact h4.out
end Go.Proofs.YtjikkipdmonndaaDoor
