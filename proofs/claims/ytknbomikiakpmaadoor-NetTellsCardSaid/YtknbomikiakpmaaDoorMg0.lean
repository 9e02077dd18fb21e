/- Merged texts: Tk, Row, Rep, Seq, Ex, Pgm, Kind, Alu, AluMore, More, BlockC, ExT, NnA, NnB, Grow, MoreB, RowTwo, HeldMore, Own, OwnLow, Obj, Heap, NnG, Bools, ExFold, ExA, ExB, Block, BlockF, Keep, ExC, Boxed, Grid. -/
import Derived.OrdersHeld
import Derived.KernelRfl
import Derived.BigRegion
import Derived.Test.YtknbomikiakpmaaDoorChecked
import Derived.Handy
import Derived.Lib.Hide
import Derived.Deep.Draws
import Derived.Laws.AppendOwnNone
import Derived.Laws.OwnMore
import Derived.WalkKit
import Derived.WalkSpells
import Derived.WalkLawsBesides
import Derived.Laws.BitsAllLaws
import Derived.WalkSmall
import Derived.Maps.AppendAt
import Derived.Deep.RegionHeld3
import Derived.Laws.IdiomStrings
import Derived.Laws.BytesString
import Derived.OwnWalk
import Derived.LoopTactic
import Derived.Deep.QuietTactic
import Derived.BigQuiet
import Derived.IntWalk
import Derived.Deep.RegionWith
/- Steps of a region that draws its order, told by their numbers. -/
namespace Go.Proofs.YtknbomikiakpmaaDoor
open Go.RowKit
set_option linter.unusedSimpArgs false
set_option linter.unusedVariables false
section
variable {P : Program} {ops : Array Oper} {Q : Exit → Act → World → Prop} {md : Region.Mode} {S : World → Prop}
theorem tk {o1 o2 o3 o4 o5 o6} {v : Value} {fuel : Nat} {listed : Array Bool} {a : Act} {w : World} (i : Nat) (hi : ops[i]? = some ⟨o1, o2, o3, o4, o5, o6⟩ := by rfl)
    (hs : Region.noSelect ops = true := by kernel_rfl) (hf : Region.free md ops listed i = true := by kernel_rfl) (hr : (Region.ready md ops listed).contains i = true := by kernel_rfl)
    (hQ : ∀ c a w, Q (.panic c) (a.put o1 v) w → Q (.panic c) a w := by exact fun _ _ _ h => h) (hw : Region.wanted ⟨o1, o2, o3, o4, o5, o6⟩ (yielded ops a.tmps) = true := by rfl)
    (hy : ∀ w, S w → (execOp a.eval ⟨o1, o2, o3, o4, o5, o6⟩).run P w = .ok (.value v) w) (h : wpAnyH P md ops Q S fuel (listed.setIfInBounds i true) (a.put o1 v) w) (hS : S w := by assumption) : wpAnyH P md ops Q S (fuel + 1) listed a w :=
  wpAnyH_take hi hs hf hr hQ (Or.inl ⟨hw, hy⟩) hS h
theorem sk {o1 o2 o3 o4 o5 o6} {fuel : Nat} {listed : Array Bool} {a : Act} {w : World} (i : Nat) (hi : ops[i]? = some ⟨o1, o2, o3, o4, o5, o6⟩ := by rfl)
    (hs : Region.noSelect ops = true := by kernel_rfl) (hf : Region.free md ops listed i = true := by kernel_rfl) (hr : (Region.ready md ops listed).contains i = true := by kernel_rfl)
    (hQ : ∀ c a w, Q (.panic c) (a.put o1 undef) w → Q (.panic c) a w := by exact fun _ _ _ h => h) (hw : Region.wanted ⟨o1, o2, o3, o4, o5, o6⟩ (yielded ops a.tmps) = false := by rfl)
    (h : wpAnyH P md ops Q S fuel (listed.setIfInBounds i true) (a.put o1 undef) w) (hS : S w := by assumption) : wpAnyH P md ops Q S (fuel + 1) listed a w :=
  wpAnyH_take hi hs hf hr hQ (Or.inr ⟨hw, rfl⟩) hS h
end
theorem pu (t d i v) : Act.put ⟨t, d⟩ (some i) v = ⟨t.setIfInBounds i v, d⟩ := rfl
theorem pn (a v) : Act.put a none v = a := rfl
theorem pa {α : Type} (l : List α) (i : Nat) (v : α) : l.toArray.setIfInBounds i v = (l.set i v).toArray := List.setIfInBounds_toArray ..
theorem pz {α : Type} (x : α) (l : List α) (v : α) : (x :: l).set 0 v = v :: l := rfl
theorem ps {α : Type} (x : α) (l : List α) (n : Nat) (v : α) : (x :: l).set (n + 1) v = x :: l.set n v := rfl
end Go.Proofs.YtknbomikiakpmaaDoor

/- Slices as rows of cells: one word for nil, empty and other slices. -/
namespace Go.Proofs.YtknbomikiakpmaaDoor
open Go.RowKit
/-- v is a slice of n elements of one cell each, the i-th of which is f i -/
def RowAt (w : World) (v : Value) (n : Nat) (f : Nat → Value) : Prop :=
  (∃ a cap, v = .slice a 0 cap ∧ n = 0 ∧ (a = none → cap = 0)) ∨ ∃ b off cap, v = .slice (some ⟨b, off, none⟩) n cap ∧ 0 < n ∧ n ≤ cap ∧ cap ≤ maxLen ∧ b < w.heap.size ∧ ∀ i, i < n → w.cell? ⟨b, off + i, none⟩ = some (f i)
theorem RowAt.below {w w' : World} {v : Value} {n : Nat} {f : Nat → Value} (h : RowAt w v n f) (hb : Below w.heap.size w w') : RowAt w' v n f := by
  rcases h with h | ⟨b, off, cap, h1, h2, h3, h4, h5, h6⟩
  · exact Or.inl h
  · exact Or.inr ⟨b, off, cap, h1, h2, h3, h4, Nat.lt_of_lt_of_le h5 hb.size, fun i hi => (hb.cell (p := ⟨b, off + i, none⟩) h5).trans (h6 i hi)⟩
theorem RowAt.le {w : World} {v : Value} {n : Nat} {f : Nat → Value} (h : RowAt w v n f) : n ≤ 9223372036854775807 := by
  rcases h with ⟨_, _, _, h, _⟩ | ⟨b, off, cap, h1, h2, h3, h4, h5, h6⟩
  · omega
  · unfold maxLen at h4; omega
def byteV (l : List UInt8) (i : Nat) : Value := .int .u8 ((l.getD i 0).toNat : Int)
def boolV (l : List Bool) (i : Nat) : Value := .bool (l.getD i false)
def intV (l : List Int) (i : Nat) : Value := .int .i64 (l.getD i 0)
/-- a cell of a block that was just made -/
theorem cell_new (w : World) (C : Array Value) (t : TypeId) (fr : Nat × Nat) (i : Nat) {v : Value} (h : C[i]? = some v) : (w.alloc (.cells C t fr)).cell? ⟨w.heap.size, i, none⟩ = some v := by
  have e : (w.alloc (.cells C t fr)).heap[w.heap.size]? = some (.cells C t fr) := by show (w.heap.push _)[w.heap.size]? = _; simp
  unfold World.cell?
  rw [e]
  simpa using h
/-- a slice of a block that was just made -/
theorem RowAt.new (w : World) (C : Array Value) (t : TypeId) (fr : Nat × Nat) (f : Nat → Value) (n cap : Nat) (h0 : 0 < n) (hn : n ≤ cap) (hc : cap ≤ 9223372036854775807) (h : ∀ i, i < n → C[i]? = some (f i)) :
    RowAt (w.alloc (.cells C t fr)) (.slice (some ⟨w.heap.size, 0, none⟩) n cap) n f :=
  Or.inr ⟨_, 0, cap, rfl, h0, hn, by unfold maxLen; omega, by simp, fun i hi => by rw [Nat.zero_add]; exact cell_new w C t fr i (h i hi)⟩
theorem Below_drewN (B : Nat) (w : World) (n : Nat) : Below B w (w.drewN n) := ⟨rfl, rfl, rfl, Nat.le_refl _, fun _ _ => rfl⟩
/-- behind a call that turns nothing of what was there -/
theorem belowStep {w a b : World} (h : Below w.heap.size w a) (k : Below a.heap.size a b) : Below w.heap.size w b := h.trans (k.mono h.size)
theorem cellStep {w a b : World} (h : Below w.heap.size w a) (k : Below a.heap.size a b) {p : Addr} (hp : p.block < w.heap.size) {v : Value} (hc : a.cell? p = some v) : b.cell? p = some v :=
  (k.cell (Nat.lt_of_lt_of_le hp h.size)).trans hc
theorem RowAt.owns {w : World} {base : Nat} {e : TypeId} {v : Value} {n : Nat} {xs : List Value} {f : Nat → Value} (h : w.ownsRow base e 1 v n xs) (hf : ∀ i, i < n → xs[i]? = some (f i)) : RowAt w v n f := by
  obtain ⟨hl, h⟩ := h
  rcases h with ⟨rfl, rfl⟩ | ⟨g, cap, cur, rfl, hb, hg, h1, h2, h3, h4⟩
  · exact Or.inl ⟨none, 0, rfl, rfl, fun _ => rfl⟩
  · by_cases h0 : n = 0
    · subst h0; exact Or.inl ⟨_, cap, rfl, rfl, fun h => by cases h⟩
    · have hlt : g < w.heap.size := by
        by_cases hgl : g < w.heap.size
        · exact hgl
        · rw [Array.getElem?_eq_none (Nat.le_of_not_lt hgl)] at hg; cases hg
      refine Or.inr ⟨g, 0, cap, rfl, by omega, h1, h2, hlt, fun i hi => ?_⟩
      have h5 := hf i hi
      rw [← h4] at h5
      rw [List.getElem?_take] at h5
      unfold World.cell?
      rw [hg]
      simp only [Nat.zero_add]
      have hin : i < n * 1 := by omega
      rw [if_pos hin] at h5
      simpa using h5
theorem map_byteV (l : List UInt8) : (List.range l.length).map (byteV l) = l.map fun c => Value.int .u8 (c.toNat : Int) := by
  apply List.ext_getElem?
  intro i
  by_cases h : i < l.length
  · simp [h, byteV, List.getD]
  · simp [h]
theorem byteV_at {l : List UInt8} {i : Nat} (h : i < l.length) : (l.map fun c => Value.int .u8 (c.toNat : Int))[i]? = some (byteV l i) := by
  simp [h, byteV, List.getD]
theorem owns_slice {w : World} {base : Nat} {e : TypeId} {v : Value} {n size : Nat} {xs : List Value} (h : w.ownsRow base e size v n xs) (h0 : 0 < n) : ∃ g cap, v = .slice (some ⟨g, 0, none⟩) n cap ∧ n ≤ cap ∧ base ≤ g ∧ g < w.heap.size := by
  have hlt := h.lt
  rcases h.2 with ⟨_, h⟩ | ⟨g, cap, cur, rfl, hb, hg, h1, _⟩
  · omega
  · exact ⟨g, cap, rfl, h1, hb, (hlt g rfl).2⟩
theorem owns_cell {w : World} {base g cap : Nat} {e : TypeId} {n : Nat} {xs : List Value} (h : w.ownsRow base e 1 (.slice (some ⟨g, 0, none⟩) n cap) n xs) (j : Nat) (hj : j < n) : ∃ u, xs[j]? = some u ∧ w.cell? ⟨g, j, none⟩ = some u := by
  have hc := h.cellAt j (by omega)
  have hl := h.1
  exact ⟨xs[j]'(by omega), by simp, by rw [hc]; simp⟩
theorem cellKeep {a b : World} (k : Below a.heap.size a b) {p : Addr} (hp : p.block < a.heap.size) {v : Value} (hc : a.cell? p = some v) : b.cell? p = some v := (k.cell hp).trans hc
theorem sizeKeep {a b : World} (k : Below a.heap.size a b) {n : Nat} (hp : n < a.heap.size) : n < b.heap.size := Nat.lt_of_lt_of_le hp k.size
end Go.Proofs.YtknbomikiakpmaaDoor

/- Values of nested types as plain lists: what cells read as, and slices of such. -/
namespace Go.Proofs.YtknbomikiakpmaaDoor
open Go.RowKit
set_option linter.unusedSimpArgs false
set_option linter.unusedVariables false
abbrev Rep (α : Type) := World → List Value → α → Prop
def Stable {α : Type} (R : Rep α) : Prop := ∀ w w' cs x, R w cs x → Below w.heap.size w w' → R w' cs x
/-- v is a slice of elements of q cells each, that read as L's -/
def RowR {α : Type} (q : Nat) (R : Rep α) (w : World) (v : Value) (L : List α) : Prop :=
  (∃ a cap, v = .slice a 0 cap ∧ L = [] ∧ (a = none → cap = 0)) ∨ ∃ b off cap, v = .slice (some ⟨b, off, none⟩) L.length cap ∧ 0 < L.length ∧ L.length ≤ cap ∧ cap ≤ maxLen ∧ b < w.heap.size ∧
    ∀ i x, L[i]? = some x → ∃ C : List Value, C.length = q ∧ (∀ j u, C[j]? = some u → w.cell? ⟨b, off + i * q + j, none⟩ = some u) ∧ R w C x
def sliceR {α : Type} (q : Nat) (R : Rep α) : Rep (List α) := fun w cs L => ∃ v, cs = [v] ∧ RowR q R w v L
theorem RowR.below {α : Type} {q : Nat} {R : Rep α} (hR : Stable R) {w w' : World} {v : Value} {L : List α} (h : RowR q R w v L) (hb : Below w.heap.size w w') : RowR q R w' v L := by
  rcases h with h | ⟨b, off, cap, h1, h2, h3, h4, h5, h6⟩
  · exact Or.inl h
  · refine Or.inr ⟨b, off, cap, h1, h2, h3, h4, Nat.lt_of_lt_of_le h5 hb.size, fun i x hx => ?_⟩
    obtain ⟨C, g1, g2, g3⟩ := h6 i x hx
    exact ⟨C, g1, fun j u hu => (hb.cell (p := ⟨b, off + i * q + j, none⟩) h5).trans (g2 j u hu), hR _ _ _ _ g3 hb⟩
theorem sliceR_stable {α : Type} {q : Nat} {R : Rep α} (hR : Stable R) : Stable (sliceR q R) := fun w w' cs L ⟨v, h1, h2⟩ hb => ⟨v, h1, h2.below hR hb⟩
theorem RowR.len_le {α : Type} {q : Nat} {R : Rep α} {w : World} {v : Value} {L : List α} (h : RowR q R w v L) : L.length ≤ 140737488355328 ∨ L.length ≤ 9223372036854775807 := by
  rcases h with ⟨_, _, _, rfl, _⟩ | ⟨b, off, cap, h1, h2, h3, h4, h5, h6⟩
  · exact Or.inl (by simp)
  · refine Or.inr ?_; unfold maxLen at h4; omega
theorem RowR.len {α : Type} {q : Nat} {R : Rep α} {w : World} {v : Value} {L : List α} (h : RowR q R w v L) : L.length ≤ 9223372036854775807 := by
  rcases h.len_le with h | h <;> omega
def I64 (z : Int) : Prop := -9223372036854775808 ≤ z ∧ z ≤ 9223372036854775807
def intR : Rep Int := fun _ cs z => cs = [.int .i64 z] ∧ I64 z
theorem intR_stable : Stable intR := fun _ _ _ _ h _ => h
def strR : Rep (List UInt8) := fun _ cs s => cs = [.string ⟨s.toArray⟩] ∧ s.length ≤ 9223372036854775807
theorem strR_stable : Stable strR := fun _ _ _ _ h _ => h
/-- one element's cell, of a slice whose elements have one -/
theorem RowR.ints {w : World} {v : Value} {L : List Int} (h : RowR 1 intR w v L) : RowAt w v L.length (intV L) := by
  rcases h with ⟨a, cap, rfl, rfl, h⟩ | ⟨b, off, cap, h1, h2, h3, h4, h5, h6⟩
  · exact Or.inl ⟨a, cap, rfl, rfl, h⟩
  · refine Or.inr ⟨b, off, cap, h1, h2, h3, h4, h5, fun i hi => ?_⟩
    obtain ⟨C, g1, g2, g3, _⟩ := h6 i L[i] (by simp [hi])
    subst g3
    have := g2 0 _ rfl
    simpa [intV, List.getD, hi] using this
abbrev Ins := Int × Int × Int
def insR : Rep Ins := fun _ cs x => cs = [.int .i64 x.1, .int .i64 x.2.1, .int .i64 x.2.2] ∧ I64 x.1 ∧ I64 x.2.1 ∧ I64 x.2.2
theorem insR_stable : Stable insR := fun _ _ _ _ h _ => h
/-- the cells of a slice of instructions -/
theorem ins_cells {w : World} {b off : Nat} {L : List Ins} (h : ∀ i x, L[i]? = some x → ∃ C : List Value, C.length = 3 ∧ (∀ j u, C[j]? = some u → w.cell? ⟨b, off + i * 3 + j, none⟩ = some u) ∧ insR w C x) {i : Nat} {x : Ins} (hx : L[i]? = some x) :
    w.cell? ⟨b, off + i * 3, none⟩ = some (.int .i64 x.1) ∧ w.cell? ⟨b, off + i * 3 + 1, none⟩ = some (.int .i64 x.2.1) ∧ w.cell? ⟨b, off + i * 3 + 2, none⟩ = some (.int .i64 x.2.2) ∧ I64 x.1 ∧ I64 x.2.1 ∧ I64 x.2.2 := by
  obtain ⟨C, g1, g2, g3, g4⟩ := h i x hx
  subst g3
  exact ⟨g2 0 _ rfl, g2 1 _ rfl, g2 2 _ rfl, g4⟩
def insV (L : List Ins) : List Value := L.flatMap fun x => [.int .i64 x.1, .int .i64 x.2.1, .int .i64 x.2.2]
theorem insV_len (L : List Ins) : (insV L).length = L.length * 3 := by
  induction L with
  | nil => rfl
  | cons x t ih =>
    show (_ ++ insV t).length = _
    rw [List.length_append, ih]; simp; omega
theorem insV_snoc (L : List Ins) (x : Ins) : insV (L ++ [x]) = insV L ++ [.int .i64 x.1, .int .i64 x.2.1, .int .i64 x.2.2] := by simp [insV]
theorem insV_get (L : List Ins) : ∀ (i j : Nat) (x : Ins), L[i]? = some x → j < 3 → (insV L)[i * 3 + j]? = [Value.int .i64 x.1, .int .i64 x.2.1, .int .i64 x.2.2][j]? := by
  induction L with
  | nil => intro i j x h; simp at h
  | cons y t ih =>
    intro i j x h hj
    have e : insV (y :: t) = [Value.int .i64 y.1, .int .i64 y.2.1, .int .i64 y.2.2] ++ insV t := rfl
    rw [e]
    cases i with
    | zero =>
      obtain rfl : y = x := by simpa using h
      rw [Nat.zero_mul, Nat.zero_add, List.getElem?_append_left (by simpa using hj)]
    | succ i =>
      rw [List.getElem?_append_right (by simp; omega)]
      have := ih i j x (by simpa using h) hj
      rw [← this]
      congr 1
      simp; omega
theorem owns_below {w w' : World} {base : Nat} {e : TypeId} {q : Nat} {v : Value} {n : Nat} {xs : List Value} (h : w.ownsRow base e q v n xs) (hb : Below w.heap.size w w') : w'.ownsRow base e q v n xs := by
  obtain ⟨hl, h⟩ := h
  refine ⟨hl, ?_⟩
  rcases h with h | ⟨g, cap, cur, h0, h1, hg, h2⟩
  · exact Or.inl h
  · have hlt : g < w.heap.size := by
      by_cases hgl : g < w.heap.size
      · exact hgl
      · rw [Array.getElem?_eq_none (Nat.le_of_not_lt hgl)] at hg; cases hg
    exact Or.inr ⟨g, cap, cur, h0, h1, (hb.block g hlt).trans hg, h2⟩
end Go.Proofs.YtknbomikiakpmaaDoor

/- Slices of elements of q cells each: forms, elements. -/
namespace Go.Proofs.YtknbomikiakpmaaDoor
open Go.RowKit
set_option linter.unusedSimpArgs false
set_option linter.unusedVariables false
theorem row_get {α : Type} {q : Nat} {R : Rep α} {w : World} {v : Value} {L : List α} (hv : RowR q R w v L) : ∃ a cap, v = .slice a L.length cap := by
  rcases hv with ⟨a, cap, rfl, rfl, _⟩ | ⟨b, off, cap, h1, _⟩
  · exact ⟨a, cap, rfl⟩
  · exact ⟨_, cap, h1⟩
theorem take_snoc {α : Type} {L : List α} {k : Nat} {x : α} (hx : L[k]? = some x) : L.take (k + 1) = L.take k ++ [x] := by
  rw [List.take_add_one, hx]; rfl
theorem lt_of_get {α : Type} {L : List α} {n : Nat} {a : α} (h : L[n]? = some a) : n < L.length := by
  by_cases g : n < L.length
  · exact g
  · rw [List.getElem?_eq_none (by omega)] at h; cases h
theorem get_some {α : Type} {L : List α} {n : Nat} (h : n < L.length) : ∃ a, L[n]? = some a := ⟨L[n], by simp [h]⟩
/-- the cells of a slice's elements -/
theorem row_at {α : Type} {q : Nat} {R : Rep α} {w : World} {a : Option Addr} {n cap : Nat} {L : List α} (hv : RowR q R w (.slice a n cap) L) {k : Nat} (hk : k < L.length) :
    ∃ b off, a = some ⟨b, off, none⟩ ∧ b < w.heap.size ∧ ∀ i x, L[i]? = some x → ∃ C : List Value, C.length = q ∧ (∀ j u, C[j]? = some u → w.cell? ⟨b, off + i * q + j, none⟩ = some u) ∧ R w C x := by
  rcases hv with ⟨a, cap, h, rfl, _⟩ | ⟨b, off, cap, h1, _, _, _, h5, h6⟩
  · simp at hk
  · have e : a = some ⟨b, off, none⟩ := by injection h1
    exact ⟨b, off, e, h5, h6⟩
end Go.Proofs.YtknbomikiakpmaaDoor

/- Expressions: plain trees, and how they lie in memory. -/
namespace Go.Proofs.YtknbomikiakpmaaDoor
open Go.RowKit
set_option linter.unusedSimpArgs false
set_option linter.unusedVariables false
structure Ex where
  op : Int
  t : Int
  n : Int
  m : Int
  l : List Ex
/-- one thing of an expression, by what was made of those within it -/
noncomputable def foldE {α : Type} (f : Ex → List α → α) (e : Ex) : α :=
  Ex.rec (motive_1 := fun _ => α) (motive_2 := fun _ => List α) (fun op t n m l ih => f (.mk op t n m l) ih) [] (fun _ _ h t => h :: t) e
theorem foldE_mk {α : Type} (f : Ex → List α → α) (op t n m : Int) (l : List Ex) : foldE f (.mk op t n m l) = f (.mk op t n m l) (l.map (foldE f)) := by
  have h : ∀ l : List Ex, (Ex.rec_1 (motive_1 := fun _ => α) (motive_2 := fun _ => List α) (fun op t n m l ih => f (.mk op t n m l) ih) [] (fun _ _ h t => h :: t) l : List α) = l.map (foldE f) := by
    intro l
    induction l with
    | nil => rfl
    | cons a t ih =>
      rw [List.map_cons, ← ih]
      rfl
  rw [← h l]
  rfl
theorem foldE_eq {α : Type} (f : Ex → List α → α) (e : Ex) : foldE f e = f e (e.l.map (foldE f)) := by
  cases e; exact foldE_mk f _ _ _ _ _
theorem Ex.ind {P : Ex → Prop} (h : ∀ op t n m l, (∀ x ∈ l, P x) → P (.mk op t n m l)) (e : Ex) : P e :=
  Ex.rec (motive_1 := P) (motive_2 := fun l => ∀ x ∈ l, P x) (fun op t n m l ih => h op t n m l ih) (fun x hx => by cases hx) (fun a t ha ht x hx => by
    rcases List.mem_cons.1 hx with rfl | hx
    · exact ha
    · exact ht x hx) e
theorem rowR_map {α β : Type} {q : Nat} {w : World} {v : Value} {l : List α} (g : α → β) (R : Rep β) : RowR q R w v (l.map g) ↔ RowR q (fun w C x => R w C (g x)) w v l := by
  unfold RowR
  constructor
  · rintro (⟨a, cap, h1, h2, h3⟩ | ⟨b, off, cap, h1, h2, h3, h4, h5, h6⟩)
    · exact Or.inl ⟨a, cap, h1, by simpa using h2, h3⟩
    · rw [List.length_map] at h1 h2 h3
      exact Or.inr ⟨b, off, cap, h1, h2, h3, h4, h5, fun i x hx => h6 i (g x) (by simp [hx])⟩
  · rintro (⟨a, cap, h1, h2, h3⟩ | ⟨b, off, cap, h1, h2, h3, h4, h5, h6⟩)
    · exact Or.inl ⟨a, cap, h1, by simp [h2], h3⟩
    · refine Or.inr ⟨b, off, cap, by rw [List.length_map]; exact h1, by rw [List.length_map]; exact h2, by rw [List.length_map]; exact h3, h4, h5, fun i x hx => ?_⟩
      rw [List.getElem?_map] at hx
      obtain ⟨y, hy, rfl⟩ := Option.map_eq_some_iff.1 hx
      exact h6 i y hy
def exI (e : Ex) : Prop := I64 e.op ∧ I64 e.t ∧ I64 e.n ∧ I64 e.m
noncomputable def exR : Rep Ex := fun w C e => foldE (α := World → List Value → Prop) (fun e ps w C => ∃ v, C = [.int .i64 e.op, .int .i64 e.t, .int .i64 e.n, .int .i64 e.m, v] ∧ exI e ∧ RowR 5 (fun w C (p : World → List Value → Prop) => p w C) w v ps) e w C
theorem exR_eq {w : World} {C : List Value} {e : Ex} : exR w C e ↔ ∃ v, C = [.int .i64 e.op, .int .i64 e.t, .int .i64 e.n, .int .i64 e.m, v] ∧ exI e ∧ RowR 5 exR w v e.l := by
  unfold exR
  rw [foldE_eq]
  constructor
  · rintro ⟨v, h1, h2, h3⟩
    exact ⟨v, h1, h2, (rowR_map _ _).1 h3⟩
  · rintro ⟨v, h1, h2, h3⟩
    exact ⟨v, h1, h2, (rowR_map _ _).2 h3⟩
theorem rowR_below_of {α : Type} {q : Nat} {R : Rep α} {w w' : World} {v : Value} {L : List α} (h : RowR q R w v L) (hR : ∀ C x, x ∈ L → R w C x → R w' C x) (hb : Below w.heap.size w w') : RowR q R w' v L := by
  rcases h with h | ⟨b, off, cap, h1, h2, h3, h4, h5, h6⟩
  · exact Or.inl h
  · refine Or.inr ⟨b, off, cap, h1, h2, h3, h4, Nat.lt_of_lt_of_le h5 hb.size, fun i x hx => ?_⟩
    obtain ⟨C, g1, g2, g3⟩ := h6 i x hx
    exact ⟨C, g1, fun j u hu => (hb.cell (p := ⟨b, off + i * q + j, none⟩) h5).trans (g2 j u hu), hR C x (List.mem_of_getElem? hx) g3⟩
theorem exR_stable : Stable exR := by
  intro w w' C e
  revert C
  induction e using Ex.ind with
  | h op t n m l ih =>
    intro C h hb
    obtain ⟨v, h1, h2, h3⟩ := exR_eq.1 h
    exact exR_eq.2 ⟨v, h1, h2, rowR_below_of h3 (fun C x hx hr => ih x hx C hr hb) hb⟩
/-- an expression as a value -/
def ExV (w : World) (v : Value) (e : Ex) : Prop := ∃ s, v = .agg #[.int .i64 e.op, .int .i64 e.t, .int .i64 e.n, .int .i64 e.m, s] ∧ exI e ∧ RowR 5 exR w s e.l
theorem ExV.below {w w' : World} {v : Value} {e : Ex} (h : ExV w v e) (hb : Below w.heap.size w w') : ExV w' v e := by
  obtain ⟨s, h1, h2, h3⟩ := h
  exact ⟨s, h1, h2, h3.below exR_stable hb⟩
theorem exV_of {w : World} {C : List Value} {e : Ex} (h : exR w C e) : ExV w (.agg C.toArray) e := by
  obtain ⟨v, rfl, h2, h3⟩ := exR_eq.1 h
  exact ⟨v, rfl, h2, h3⟩
/-- the k-th expression within: its cells -/
theorem ex_at {w : World} {a : Option Addr} {n cap : Nat} {L : List Ex} (hv : RowR 5 exR w (.slice a n cap) L) {k : Nat} {x : Ex} (hx : L[k]? = some x) :
    ∃ b off s sn sc, a = some ⟨b, off, none⟩ ∧ b < w.heap.size ∧ n ≤ cap ∧ cap ≤ 9223372036854775807 ∧ w.cell? ⟨b, off + k * 5, none⟩ = some (.int .i64 x.op) ∧ w.cell? ⟨b, off + k * 5 + 1, none⟩ = some (.int .i64 x.t) ∧ w.cell? ⟨b, off + k * 5 + 2, none⟩ = some (.int .i64 x.n) ∧ w.cell? ⟨b, off + k * 5 + 3, none⟩ = some (.int .i64 x.m) ∧ w.cell? ⟨b, off + k * 5 + 4, none⟩ = some (.slice s sn sc) ∧ ExV w (.agg #[.int .i64 x.op, .int .i64 x.t, .int .i64 x.n, .int .i64 x.m, .slice s sn sc]) x := by
  rcases hv with ⟨_, _, _, rfl, _⟩ | ⟨b, off, cap, h1, h2, h3, h4, h5, h6⟩
  · simp at hx
  · injection h1 with h1 h1' h1''
    subst h1 h1' h1''
    obtain ⟨C, g1, g2, g3⟩ := h6 k x hx
    obtain ⟨v, rfl, i, r⟩ := exR_eq.1 g3
    obtain ⟨s, sc, rfl⟩ := row_get r
    exact ⟨b, off, s, _, sc, rfl, h5, h3, h4, g2 0 _ rfl, g2 1 _ rfl, g2 2 _ rfl, g2 3 _ rfl, g2 4 _ rfl, _, rfl, i, r⟩
/-- how many expressions there are in one -/
noncomputable def sizeE : Ex → Nat := foldE fun _ l => 1 + l.sum
theorem sizeE_mk (e : Ex) : sizeE e = 1 + (e.l.map sizeE).sum := foldE_eq _ e
theorem sum_mem {l : List Nat} {x : Nat} (h : x ∈ l) : x ≤ l.sum := by
  induction l with
  | nil => cases h
  | cons a t ih =>
    rw [List.sum_cons]
    rcases List.mem_cons.1 h with rfl | h
    · omega
    · have := ih h; omega
theorem len_sum {l : List Nat} (h : ∀ x ∈ l, 1 ≤ x) : l.length ≤ l.sum := by
  induction l with
  | nil => simp
  | cons a t ih =>
    rw [List.sum_cons, List.length_cons]
    have := h a (by simp)
    have := ih fun x hx => h x (by simp [hx])
    omega
theorem sizeE_pos (e : Ex) : 1 ≤ sizeE e := by rw [sizeE_mk]; omega
theorem sizeE_within {e x : Ex} (h : x ∈ e.l) : sizeE x < sizeE e := by
  rw [sizeE_mk e]
  have := sum_mem (List.mem_map_of_mem (f := sizeE) h)
  omega
theorem sizeE_len (e : Ex) : e.l.length < sizeE e := by
  rw [sizeE_mk e]
  have := len_sum (l := e.l.map sizeE) (fun x hx => by obtain ⟨y, _, rfl⟩ := List.mem_map.1 hx; exact sizeE_pos y)
  rw [List.length_map] at this
  omega
end Go.Proofs.YtknbomikiakpmaaDoor

/- Programs as plain lists. -/
namespace Go.Proofs.YtknbomikiakpmaaDoor
open Go.RowKit
set_option linter.unusedSimpArgs false
set_option linter.unusedVariables false
structure Vr where
  name : List UInt8
  t : Int
  n : Int
  area : Int
  init : Int
structure Bk where
  name : List UInt8
  kind : Int
structure Un where
  name : List UInt8
  params : List Int
  result : Int
  locals : List Int
  code : List Ins
structure Pr where
  consts : List (Int × Int)
  vars : List Vr
  blocks : List Bk
  units : List Un
def sz (s : List UInt8) : Prop := s.length ≤ 9223372036854775807
def constR : Rep (Int × Int) := fun _ cs x => cs = [.int .i64 x.1, .int .i64 x.2] ∧ I64 x.1 ∧ I64 x.2
theorem constR_stable : Stable constR := fun _ _ _ _ h _ => h
def varR : Rep Vr := fun _ cs x => cs = [.string ⟨x.name.toArray⟩, .int .i64 x.t, .int .i64 x.n, .int .i64 x.area, .int .i64 x.init] ∧ sz x.name ∧ I64 x.t ∧ I64 x.n ∧ I64 x.area ∧ I64 x.init
theorem varR_stable : Stable varR := fun _ _ _ _ h _ => h
def blkR : Rep Bk := fun _ cs x => cs = [.string ⟨x.name.toArray⟩, .int .i64 x.kind] ∧ sz x.name ∧ I64 x.kind
theorem blkR_stable : Stable blkR := fun _ _ _ _ h _ => h
/-- a unit, by its three slices -/
structure UnAt (w : World) (a b c : Value) (x : Un) : Prop where
  ps : RowR 1 intR w a x.params
  ls : RowR 1 intR w b x.locals
  cs : RowR 3 insR w c x.code
  ns : sz x.name
  r64 : I64 x.result
theorem UnAt.below {w w' : World} {a b c : Value} {x : Un} (h : UnAt w a b c x) (hb : Below w.heap.size w w') : UnAt w' a b c x :=
  ⟨h.ps.below intR_stable hb, h.ls.below intR_stable hb, h.cs.below insR_stable hb, h.ns, h.r64⟩
def unitR : Rep Un := fun w cs x => ∃ a b c, cs = [.string ⟨x.name.toArray⟩, a, .int .i64 x.result, b, c] ∧ UnAt w a b c x
theorem unitR_stable : Stable unitR := fun _ _ _ _ ⟨a, b, c, h1, h2⟩ hb => ⟨a, b, c, h1, h2.below hb⟩
/-- a program, by its four slices -/
structure PrAt (w : World) (c v b u : Value) (p : Pr) : Prop where
  cs : RowR 2 constR w c p.consts
  vs : RowR 5 varR w v p.vars
  bs : RowR 2 blkR w b p.blocks
  us : RowR 5 unitR w u p.units
theorem PrAt.below {w w' : World} {c v b u : Value} {p : Pr} (h : PrAt w c v b u p) (hb : Below w.heap.size w w') : PrAt w' c v b u p :=
  ⟨h.cs.below constR_stable hb, h.vs.below varR_stable hb, h.bs.below blkR_stable hb, h.us.below unitR_stable hb⟩
/-- the cells of a slice of variables -/
theorem var_at {w : World} {a : Option Addr} {n cap : Nat} {L : List Vr} (hv : RowR 5 varR w (.slice a n cap) L) {k : Nat} (hk : k < L.length) : ∃ b off, a = some ⟨b, off, none⟩ ∧ b < w.heap.size ∧ ∀ i x, L[i]? = some x →
    w.cell? ⟨b, off + i * 5, none⟩ = some (.string ⟨x.name.toArray⟩) ∧ w.cell? ⟨b, off + i * 5 + 1, none⟩ = some (.int .i64 x.t) ∧ w.cell? ⟨b, off + i * 5 + 2, none⟩ = some (.int .i64 x.n) ∧ w.cell? ⟨b, off + i * 5 + 3, none⟩ = some (.int .i64 x.area) ∧ w.cell? ⟨b, off + i * 5 + 4, none⟩ = some (.int .i64 x.init) ∧ sz x.name ∧ I64 x.t ∧ I64 x.n ∧ I64 x.area ∧ I64 x.init := by
  obtain ⟨b, off, e, hb, h⟩ := row_at hv hk
  refine ⟨b, off, e, hb, fun i x hx => ?_⟩
  obtain ⟨C, g1, g2, g3, g4⟩ := h i x hx
  subst g3
  exact ⟨g2 0 _ rfl, g2 1 _ rfl, g2 2 _ rfl, g2 3 _ rfl, g2 4 _ rfl, g4⟩
theorem blk_at {w : World} {a : Option Addr} {n cap : Nat} {L : List Bk} (hv : RowR 2 blkR w (.slice a n cap) L) {k : Nat} (hk : k < L.length) : ∃ b off, a = some ⟨b, off, none⟩ ∧ b < w.heap.size ∧ ∀ i x, L[i]? = some x →
    w.cell? ⟨b, off + i * 2, none⟩ = some (.string ⟨x.name.toArray⟩) ∧ w.cell? ⟨b, off + i * 2 + 1, none⟩ = some (.int .i64 x.kind) ∧ sz x.name ∧ I64 x.kind := by
  obtain ⟨b, off, e, hb, h⟩ := row_at hv hk
  refine ⟨b, off, e, hb, fun i x hx => ?_⟩
  obtain ⟨C, g1, g2, g3, g4⟩ := h i x hx
  subst g3
  exact ⟨g2 0 _ rfl, g2 1 _ rfl, g4⟩
theorem unit_at {w : World} {a : Option Addr} {n cap : Nat} {L : List Un} (hv : RowR 5 unitR w (.slice a n cap) L) {k : Nat} (hk : k < L.length) : ∃ b off, a = some ⟨b, off, none⟩ ∧ b < w.heap.size ∧ ∀ i x, L[i]? = some x → ∃ u1 u3 u4,
    w.cell? ⟨b, off + i * 5, none⟩ = some (.string ⟨x.name.toArray⟩) ∧ w.cell? ⟨b, off + i * 5 + 1, none⟩ = some u1 ∧ w.cell? ⟨b, off + i * 5 + 2, none⟩ = some (.int .i64 x.result) ∧ w.cell? ⟨b, off + i * 5 + 3, none⟩ = some u3 ∧ w.cell? ⟨b, off + i * 5 + 4, none⟩ = some u4 ∧ UnAt w u1 u3 u4 x := by
  obtain ⟨b, off, e, hb, h⟩ := row_at hv hk
  refine ⟨b, off, e, hb, fun i x hx => ?_⟩
  obtain ⟨C, g1, g2, u1, u3, u4, g3, g4⟩ := h i x hx
  subst g3
  exact ⟨u1, u3, u4, g2 0 _ rfl, g2 1 _ rfl, g2 2 _ rfl, g2 3 _ rfl, g2 4 _ rfl, g4⟩
def fewU (x : Un) : Bool := decide (x.name.length ≤ 300 ∧ x.params.length ≤ 20 ∧ x.locals.length ≤ 1100 ∧ x.code.length ≤ 300)
def fewP (p : Pr) : Bool := decide ((p.consts.length ≤ 60 ∧ p.vars.length ≤ 70 ∧ p.blocks.length ≤ 40 ∧ p.units.length ≤ 10) ∧ (∀ x ∈ p.vars, x.name.length ≤ 300) ∧ (∀ x ∈ p.blocks, x.name.length ≤ 300) ∧ ∀ x ∈ p.units, fewU x = true)
end Go.Proofs.YtknbomikiakpmaaDoor

/- Contracts of the functions of kind (layer 1) and of its answer. -/
namespace Go.Proofs.YtknbomikiakpmaaDoor
open Go.RowKit

def kRight (t : Int) : Bool := decide (1 ≤ t ∧ t ≤ 6)
theorem kRight_yes {t : Int} (h : 1 ≤ t ∧ t ≤ 6) : kRight t = true := by simp [kRight, h]
theorem kRight_no {t : Int} (h : ¬ (1 ≤ t ∧ t ≤ 6)) : kRight t = false := by unfold kRight; exact decide_eq_false h

theorem kind_Right (t : Int) (w : World) : Calls Tryd.prog 69 #[.int .i64 t] w fun e w' => e = .returned (.bool (kRight t)) ∧ w = w' := by
  by_cases h1 : 1 ≤ t
  · by_cases h2 : t ≤ 6
    · go_enter Tryd.func69, Tryd.ntmps69
      go_wp2
      go_ret
      exact ⟨by rw [kRight_yes ⟨h1, h2⟩]; rfl, rfl⟩
    · go_enter Tryd.func69, Tryd.ntmps69
      go_wp2
      go_ret
      exact ⟨by rw [kRight_no (by omega)]; rfl, rfl⟩
  · go_enter Tryd.func69, Tryd.ntmps69
    go_wp2
    go_ret
    exact ⟨by rw [kRight_no (by omega)]; rfl, rfl⟩
theorem ref01_Right (t : Int) (w : World) : Calls Tryd.prog 33 #[.int .i64 t] w fun e w' => e = .returned (.bool (kRight t)) ∧ w = w' := by
  by_cases h1 : 0 < t
  · by_cases h2 : t < 7
    · go_enter Tryd.func33, Tryd.ntmps33
      go_wp2
      go_ret
      exact ⟨by rw [kRight_yes (by omega)]; rfl, rfl⟩
    · go_enter Tryd.func33, Tryd.ntmps33
      go_wp2
      go_ret
      exact ⟨by rw [kRight_no (by omega)]; rfl, rfl⟩
  · go_enter Tryd.func33, Tryd.ntmps33
    go_wp2
    go_ret
    exact ⟨by rw [kRight_no (by omega)]; rfl, rfl⟩

/-- the names' bytes -/
def kName (t : Int) : ByteArray :=
  if t = 1 then ⟨#[66, 79, 79, 76]⟩ else if t = 2 then ⟨#[73, 78, 84]⟩ else if t = 3 then ⟨#[68, 73, 78, 84]⟩
  else if t = 4 then ⟨#[87, 79, 82, 68]⟩ else if t = 5 then ⟨#[68, 87, 79, 82, 68]⟩ else if t = 6 then ⟨#[84, 73, 77, 69]⟩ else ⟨#[]⟩
theorem kName_no {t : Int} (h : ¬ (1 ≤ t ∧ t ≤ 6)) : kName t = ⟨#[]⟩ := by
  unfold kName
  rw [if_neg (show ¬ t = 1 by omega), if_neg (show ¬ t = 2 by omega), if_neg (show ¬ t = 3 by omega), if_neg (show ¬ t = 4 by omega), if_neg (show ¬ t = 5 by omega), if_neg (show ¬ t = 6 by omega)]
def kSigned (t : Int) : Bool := t == 2 || t == 3 || t == 6
def kWrap (t v : Int) : Int :=
  if t = 1 then (if v = 0 then 0 else 1) else if t = 2 then IntKind.i16.wrap v else if t = 3 then IntKind.i32.wrap v
  else if t = 4 then IntKind.u16.wrap v else if t = 5 then IntKind.u32.wrap v else if t = 6 then v else 0
theorem kWrap_no {t v : Int} (h : ¬ (1 ≤ t ∧ t ≤ 6)) : kWrap t v = 0 := by
  unfold kWrap
  rw [if_neg (show ¬ t = 1 by omega), if_neg (show ¬ t = 2 by omega), if_neg (show ¬ t = 3 by omega), if_neg (show ¬ t = 4 by omega), if_neg (show ¬ t = 5 by omega), if_neg (show ¬ t = 6 by omega)]
theorem kw_i16 (v : Int) : IntKind.i16.wrap v = (v + 32768) % 65536 - 32768 := by
  unfold IntKind.wrap; simp [IntKind.signed, IntKind.bits]; split <;> omega
theorem kw_u16 (v : Int) : IntKind.u16.wrap v = v % 65536 := by
  unfold IntKind.wrap; simp [IntKind.signed, IntKind.bits]
theorem kw_u32 (v : Int) : IntKind.u32.wrap v = v % 4294967296 := IntKind.wrap_u32 v
theorem kWrap_1 (v : Int) : kWrap 1 v = if v = 0 then 0 else 1 := rfl
theorem kWrap_2 (v : Int) : kWrap 2 v = (v + 32768) % 65536 - 32768 := by rw [← kw_i16]; rfl
theorem kWrap_3 (v : Int) : kWrap 3 v = (v + 2147483648) % 4294967296 - 2147483648 := by show IntKind.i32.wrap v = _; rw [IntKind.wrap_i32]
theorem kWrap_4 (v : Int) : kWrap 4 v = v % 65536 := by rw [← kw_u16]; rfl
theorem kWrap_5 (v : Int) : kWrap 5 v = v % 4294967296 := by rw [← kw_u32]; rfl
theorem kWrap_6 (v : Int) : kWrap 6 v = v := rfl
theorem ret_i64 {a b : Int} (h : a = b) : Ending.returned (.int .i64 a) = .returned (.int .i64 b) := by rw [h]
theorem ret_b {a b : Bool} (h : a = b) : Ending.returned (.bool a) = .returned (.bool b) := by rw [h]
theorem ret_s {a b : ByteArray} (h : a = b) : Ending.returned (.string a) = .returned (.string b) := by rw [h]
theorem kind_Wrap (t v : Int) (w : World) : Calls Tryd.prog 73 #[.int .i64 t, .int .i64 v] w fun e w' => e = .returned (.int .i64 (kWrap t v)) ∧ w = w' := by
  by_cases h : 1 ≤ t ∧ t ≤ 6
  · obtain rfl | rfl | rfl | rfl | rfl | rfl : t = 1 ∨ t = 2 ∨ t = 3 ∨ t = 4 ∨ t = 5 ∨ t = 6 := by omega
    · by_cases hv : v = 0
      · subst hv
        go_enter Tryd.func73, Tryd.ntmps73; go_wp2; go_ret; exact ⟨ret_i64 rfl, rfl⟩
      · have hv' : ((v : Int) == 0) = false := by simpa using hv
        go_enter Tryd.func73, Tryd.ntmps73; go_wp2; go_ret; exact ⟨ret_i64 (by rw [kWrap_1, if_neg hv]), rfl⟩
    · go_enter Tryd.func73, Tryd.ntmps73; go_wp2; go_ret; exact ⟨ret_i64 (by rw [kWrap_2]; simp only [wrap64, kw_i16]; omega), rfl⟩
    · go_enter Tryd.func73, Tryd.ntmps73; go_wp2; go_ret; exact ⟨ret_i64 (by rw [kWrap_3]; simp only [wrap64, wrap32]; omega), rfl⟩
    · go_enter Tryd.func73, Tryd.ntmps73; go_wp2; go_ret; exact ⟨ret_i64 (by rw [kWrap_4]; simp only [wrap64, kw_u16]; omega), rfl⟩
    · go_enter Tryd.func73, Tryd.ntmps73; go_wp2; go_ret; exact ⟨ret_i64 (by rw [kWrap_5]), rfl⟩
    · go_enter Tryd.func73, Tryd.ntmps73; go_wp2; go_ret; exact ⟨ret_i64 rfl, rfl⟩
  · have e1 : ((t : Int) == 1) = false := by simp; omega
    have e2 : ((t : Int) == 2) = false := by simp; omega
    have e3 : ((t : Int) == 3) = false := by simp; omega
    have e4 : ((t : Int) == 4) = false := by simp; omega
    have e5 : ((t : Int) == 5) = false := by simp; omega
    have e6 : ((t : Int) == 6) = false := by simp; omega
    go_enter Tryd.func73, Tryd.ntmps73; go_wp2; go_ret; exact ⟨ret_i64 (by rw [kWrap_no h]), rfl⟩
def kIn (t v : Int) : Bool := kRight t && kWrap t v == v
theorem kIn_no {t v : Int} (h : ¬ (1 ≤ t ∧ t ≤ 6)) : kIn t v = false := by simp [kIn, kRight_no h]
theorem kIn_yes {t v : Int} (h : 1 ≤ t ∧ t ≤ 6) : kIn t v = (kWrap t v == v) := by simp [kIn, kRight_yes h]
theorem kind_In (t v : Int) (w : World) : Calls Tryd.prog 66 #[.int .i64 t, .int .i64 v] w fun e w' => e = .returned (.bool (kIn t v)) ∧ w = w' := by
  by_cases h : 1 ≤ t ∧ t ≤ 6
  · have hr := kRight_yes h
    go_enter Tryd.func66, Tryd.ntmps66
    go_wp2_with (first | (go_at_call 69; refine (kind_Right _ _).mono ?_; rintro e w' ⟨rfl, rfl⟩) | (go_at_call 73; refine (kind_Wrap _ _ _).mono ?_; rintro e w' ⟨rfl, rfl⟩))
    go_ret
    exact ⟨ret_b (by rw [kIn_yes h]), rfl⟩
  · have hr := kRight_no h
    go_enter Tryd.func66, Tryd.ntmps66
    go_wp2_with (first | (go_at_call 69; refine (kind_Right _ _).mono ?_; rintro e w' ⟨rfl, rfl⟩))
    go_ret
    exact ⟨ret_b (by rw [kIn_no h]), rfl⟩
def kLow (t : Int) : Int := if t = 2 then -32768 else if t = 3 then -2147483648 else 0
theorem ref01_Low (t : Int) (w : World) : Calls Tryd.prog 55 #[.int .i64 t] w fun e w' => e = .returned (.int .i64 (kLow t)) ∧ w = w' := by
  by_cases h1 : t = 2
  · subst h1; go_enter Tryd.func55, Tryd.ntmps55; go_wp2; go_ret; exact ⟨ret_i64 rfl, rfl⟩
  by_cases h2 : t = 3
  · subst h2; go_enter Tryd.func55, Tryd.ntmps55; go_wp2; go_ret; exact ⟨ret_i64 rfl, rfl⟩
  have e2 : ((t : Int) == 2) = false := by simpa using h1
  have e3 : ((t : Int) == 3) = false := by simpa using h2
  go_enter Tryd.func55, Tryd.ntmps55; go_wp2; go_ret; exact ⟨ret_i64 (by simp [kLow, h1, h2]), rfl⟩
def kHigh (t : Int) : Int := if t = 1 then 1 else if t = 2 then 32767 else if t = 3 then 2147483647 else if t = 4 then 65535 else 4294967295
theorem ref01_High (t : Int) (w : World) : Calls Tryd.prog 56 #[.int .i64 t] w fun e w' => e = .returned (.int .i64 (kHigh t)) ∧ w = w' := by
  by_cases h1 : t = 1
  · subst h1; go_enter Tryd.func56, Tryd.ntmps56; go_wp2; go_ret; exact ⟨ret_i64 rfl, rfl⟩
  by_cases h2 : t = 2
  · subst h2; go_enter Tryd.func56, Tryd.ntmps56; go_wp2; go_ret; exact ⟨ret_i64 rfl, rfl⟩
  by_cases h3 : t = 3
  · subst h3; go_enter Tryd.func56, Tryd.ntmps56; go_wp2; go_ret; exact ⟨ret_i64 rfl, rfl⟩
  by_cases h4 : t = 4
  · subst h4; go_enter Tryd.func56, Tryd.ntmps56; go_wp2; go_ret; exact ⟨ret_i64 rfl, rfl⟩
  have e1 : ((t : Int) == 1) = false := by simpa using h1
  have e2 : ((t : Int) == 2) = false := by simpa using h2
  have e3 : ((t : Int) == 3) = false := by simpa using h3
  have e4 : ((t : Int) == 4) = false := by simpa using h4
  go_enter Tryd.func56, Tryd.ntmps56; go_wp2; go_ret; exact ⟨ret_i64 (by simp [kHigh, h1, h2, h3, h4]), rfl⟩
def kFind (s : ByteArray) : Int :=
  if ([66, 79, 79, 76] == s.toList) = true then 1 else if ([73, 78, 84] == s.toList) = true then 2 else if ([68, 73, 78, 84] == s.toList) = true then 3
  else if ([87, 79, 82, 68] == s.toList) = true then 4 else if ([68, 87, 79, 82, 68] == s.toList) = true then 5 else if ([84, 73, 77, 69] == s.toList) = true then 6 else 0
def kBits (t : Int) : Int := if t = 1 then 1 else if t = 2 then 16 else if t = 3 then 32 else if t = 4 then 16 else if t = 5 then 32 else if t = 6 then 64 else 0
theorem kBits_no {t : Int} (h : ¬ (1 ≤ t ∧ t ≤ 6)) : kBits t = 0 := by
  unfold kBits
  rw [if_neg (show ¬ t = 1 by omega), if_neg (show ¬ t = 2 by omega), if_neg (show ¬ t = 3 by omega), if_neg (show ¬ t = 4 by omega), if_neg (show ¬ t = 5 by omega), if_neg (show ¬ t = 6 by omega)]
theorem kWrap_in {t v : Int} (h : 1 ≤ t ∧ t ≤ 5) : (kWrap t v == v) = decide (kLow t ≤ v ∧ v ≤ kHigh t) := by
  rw [Bool.eq_iff_iff]
  simp only [beq_iff_eq, decide_eq_true_eq]
  obtain rfl | rfl | rfl | rfl | rfl : t = 1 ∨ t = 2 ∨ t = 3 ∨ t = 4 ∨ t = 5 := by omega
  · rw [kWrap_1]; show _ ↔ (0 : Int) ≤ v ∧ v ≤ 1; by_cases h0 : v = 0 <;> simp [h0] <;> omega
  · rw [kWrap_2]; show _ ↔ (-32768 : Int) ≤ v ∧ v ≤ 32767; omega
  · rw [kWrap_3]; show _ ↔ (-2147483648 : Int) ≤ v ∧ v ≤ 2147483647; omega
  · rw [kWrap_4]; show _ ↔ (0 : Int) ≤ v ∧ v ≤ 65535; omega
  · rw [kWrap_5]; show _ ↔ (0 : Int) ≤ v ∧ v ≤ 4294967295; omega
theorem ref01_In (t v : Int) (w : World) : Calls Tryd.prog 34 #[.int .i64 t, .int .i64 v] w fun e w' => e = .returned (.bool (kIn t v)) ∧ w = w' := by
  by_cases h6 : t = 6
  · subst h6
    go_enter Tryd.func34, Tryd.ntmps34
    go_wp2
    go_ret
    exact ⟨ret_b (by rw [kIn_yes (by omega), kWrap_6]; simp), rfl⟩
  have e6 : ((t : Int) == 6) = false := by simpa using h6
  by_cases h : 1 ≤ t ∧ t ≤ 6
  · have hr := kRight_yes h
    have hk : kIn t v = decide (kLow t ≤ v ∧ v ≤ kHigh t) := by rw [kIn_yes h, kWrap_in (by omega)]
    have Hk := Lib.hid hk
    clear hk
    by_cases h1 : kLow t ≤ v
    · by_cases h2 : v ≤ kHigh t
      all_goals
        go_enter Tryd.func34, Tryd.ntmps34
        go_wp2_with (first | (go_at_call 33; refine (ref01_Right _ _).mono ?_; rintro e w' ⟨rfl, rfl⟩) | (go_at_call 55; refine (ref01_Low _ _).mono ?_; rintro e w' ⟨rfl, rfl⟩) | (go_at_call 56; refine (ref01_High _ _).mono ?_; rintro e w' ⟨rfl, rfl⟩))
        go_ret
        exact ⟨ret_b (by rw [Hk.out]; simp; omega), rfl⟩
    · go_enter Tryd.func34, Tryd.ntmps34
      go_wp2_with (first | (go_at_call 33; refine (ref01_Right _ _).mono ?_; rintro e w' ⟨rfl, rfl⟩) | (go_at_call 55; refine (ref01_Low _ _).mono ?_; rintro e w' ⟨rfl, rfl⟩) | (go_at_call 56; refine (ref01_High _ _).mono ?_; rintro e w' ⟨rfl, rfl⟩))
      go_ret
      exact ⟨ret_b (by rw [Hk.out]; simp; omega), rfl⟩
  · have hr := kRight_no h
    go_enter Tryd.func34, Tryd.ntmps34
    go_wp2_with (go_at_call 33; refine (ref01_Right _ _).mono ?_; rintro e w' ⟨rfl, rfl⟩)
    go_ret
    exact ⟨ret_b (by rw [kIn_no h]), rfl⟩
end Go.Proofs.YtknbomikiakpmaaDoor

/- Contracts of alu (layer 7) and of its answer: with which types operations go. -/
namespace Go.Proofs.YtknbomikiakpmaaDoor
open Go.RowKit
def aGoes (op t : Int) : Bool := decide (1 ≤ t ∧ t ≤ 6 ∧
  ((op = 8 ∨ op = 9 ∨ op = 13) ∧ (t = 2 ∨ t = 3 ∨ t = 6) ∨ (op = 10 ∨ op = 11 ∨ op = 12) ∧ (t = 2 ∨ t = 3) ∨ (op = 14 ∨ op = 15 ∨ op = 16 ∨ op = 17) ∧ (t = 1 ∨ t = 4 ∨ t = 5) ∨
   (op = 18 ∨ op = 19) ∧ (t = 4 ∨ t = 5) ∨ (op = 20 ∨ op = 21) ∨ (op = 22 ∨ op = 23 ∨ op = 24 ∨ op = 25) ∧ t ≠ 1))
theorem aGoes_op {op t : Int} (h : op < 8 ∨ 25 < op) : aGoes op t = false := by unfold aGoes; apply decide_eq_false; omega
theorem aGoes_t {op t : Int} (h : ¬ (1 ≤ t ∧ t ≤ 6)) : aGoes op t = false := by unfold aGoes; apply decide_eq_false; omega
theorem i64_and1 (n : Int) (h0 : 0 ≤ n) (h1 : n < 1000) : bits .and .i64 n 1 = n % 2 := by
  obtain ⟨k, rfl⟩ : ∃ k : Nat, n = k := ⟨n.toNat, by omega⟩
  have e : (BitVec.ofInt 64 (k : Int)).toNat = k := by rw [BitVec.ofInt_natCast, BitVec.toNat_ofNat]; exact Nat.mod_eq_of_lt (by omega)
  have e1 : (BitVec.ofInt 64 (1 : Int)).toNat = 1 := by decide
  show IntKind.i64.wrap ((BitVec.ofInt 64 (k : Int) &&& BitVec.ofInt 64 1).toNat : Int) = _
  rw [BitVec.toNat_and, e, e1, IntKind.wrap_i64, Nat.and_one_is_mod]
  omega
structure AGoes (w : World) : Prop where
  cell : ∀ i, i < 18 → w.cell? ⟨2, i, none⟩ = ([Value.int .i64 76, .int .i64 76, .int .i64 12, .int .i64 12, .int .i64 12, .int .i64 76, .int .i64 50, .int .i64 50, .int .i64 50, .int .i64 50, .int .i64 48, .int .i64 48, .int .i64 126, .int .i64 126, .int .i64 124, .int .i64 124, .int .i64 124, .int .i64 124] : List Value)[i]?
  big : 2 < w.heap.size
theorem AGoes.below {w w' : World} (h : AGoes w) (hb : Below w.heap.size w w') : AGoes w' :=
  ⟨fun i hi => (hb.cell (p := ⟨2, i, none⟩) h.big).trans (h.cell i hi), Nat.lt_of_lt_of_le h.big hb.size⟩
set_option maxHeartbeats 4000000 in
theorem alu_Goes (op t : Int) (w : World) (hg : AGoes w) : Calls Tryd.prog 76 #[.int .i64 op, .int .i64 t] w fun e w' => e = .returned (.bool (aGoes op t)) ∧ w = w' := by
  by_cases h1 : op < 8
  · have ha := Lib.hid (aGoes_op (t := t) (Or.inl h1))
    go_enter Tryd.func76, Tryd.ntmps76; go_wp2; go_ret; exact ⟨by rw [ha.out]; rfl, rfl⟩
  by_cases h2 : 25 < op
  · have ha := Lib.hid (aGoes_op (t := t) (Or.inr h2))
    go_enter Tryd.func76, Tryd.ntmps76; go_wp2; go_ret; exact ⟨by rw [ha.out]; rfl, rfl⟩
  by_cases h : 1 ≤ t ∧ t ≤ 6
  · have hr := kRight_yes h
    have hb := i64_and1
    have key : ∀ k : Nat, k < 18 → op = 8 + (k : Int) → Calls Tryd.prog 76 #[.int .i64 op, .int .i64 t] w fun e w' => e = .returned (.bool (aGoes op t)) ∧ w = w' := by
      intro k hk hop
      have hc := hg.cell k hk
      clear hg h1 h2
      subst hop
      obtain rfl | rfl | rfl | rfl | rfl | rfl | rfl | rfl | rfl | rfl | rfl | rfl | rfl | rfl | rfl | rfl | rfl | rfl : k = 0 ∨ k = 1 ∨ k = 2 ∨ k = 3 ∨ k = 4 ∨ k = 5 ∨ k = 6 ∨ k = 7 ∨ k = 8 ∨ k = 9 ∨ k = 10 ∨ k = 11 ∨ k = 12 ∨ k = 13 ∨ k = 14 ∨ k = 15 ∨ k = 16 ∨ k = 17 := by omega
      all_goals
        obtain rfl | rfl | rfl | rfl | rfl | rfl : t = 1 ∨ t = 2 ∨ t = 3 ∨ t = 4 ∨ t = 5 ∨ t = 6 := by omega
      all_goals
        simp only [List.getElem?_cons_zero, List.getElem?_cons_succ] at hc
        go_enter Tryd.func76, Tryd.ntmps76
        go_wp2_with (go_at_call 69; refine (kind_Right _ _).mono ?_; rintro e w' ⟨rfl, rfl⟩)
        go_ret
        exact ⟨rfl, rfl⟩
    exact key (op - 8).toNat (by omega) (by omega)
  · have hr := kRight_no h
    have ha := Lib.hid (aGoes_t (op := op) h)
    go_enter Tryd.func76, Tryd.ntmps76
    go_wp2_with (go_at_call 69; refine (kind_Right _ _).mono ?_; rintro e w' ⟨rfl, rfl⟩)
    go_ret
    exact ⟨by rw [ha.out]; rfl, rfl⟩
end Go.Proofs.YtknbomikiakpmaaDoor

/- Contracts of alu (layer 7) and of its answer: what operations make of values. -/
namespace Go.Proofs.YtknbomikiakpmaaDoor
open Go.RowKit
set_option maxHeartbeats 4000000 in
theorem ref07_Goes (op t : Int) (w : World) : Calls Tryd.prog 72 #[.int .i64 op, .int .i64 t] w fun e w' => e = .returned (.bool (aGoes op t)) ∧ w = w' := by
  by_cases ht1 : t < 1
  · have ha := Lib.hid (aGoes_t (op := op) (show ¬ (1 ≤ t ∧ t ≤ 6) by omega))
    go_enter Tryd.func72, Tryd.ntmps72; go_wp2; go_ret; exact ⟨by rw [ha.out]; rfl, rfl⟩
  by_cases ht2 : 6 < t
  · have ha := Lib.hid (aGoes_t (op := op) (show ¬ (1 ≤ t ∧ t ≤ 6) by omega))
    go_enter Tryd.func72, Tryd.ntmps72; go_wp2; go_ret; exact ⟨by rw [ha.out]; rfl, rfl⟩
  by_cases h : op < 8 ∨ 25 < op
  · have ha := Lib.hid (aGoes_op (t := t) h)
    have e8 : ((op : Int) == 8) = false := by simp; omega
    have e9 : ((op : Int) == 9) = false := by simp; omega
    have e10 : ((op : Int) == 10) = false := by simp; omega
    have e11 : ((op : Int) == 11) = false := by simp; omega
    have e12 : ((op : Int) == 12) = false := by simp; omega
    have e13 : ((op : Int) == 13) = false := by simp; omega
    have e14 : ((op : Int) == 14) = false := by simp; omega
    have e15 : ((op : Int) == 15) = false := by simp; omega
    have e16 : ((op : Int) == 16) = false := by simp; omega
    have e17 : ((op : Int) == 17) = false := by simp; omega
    have e18 : ((op : Int) == 18) = false := by simp; omega
    have e19 : ((op : Int) == 19) = false := by simp; omega
    have e20 : ((op : Int) == 20) = false := by simp; omega
    have e21 : ((op : Int) == 21) = false := by simp; omega
    have e22 : ((op : Int) == 22) = false := by simp; omega
    have e23 : ((op : Int) == 23) = false := by simp; omega
    have e24 : ((op : Int) == 24) = false := by simp; omega
    have e25 : ((op : Int) == 25) = false := by simp; omega
    clear h
    go_enter Tryd.func72, Tryd.ntmps72; go_wp2; go_ret; exact ⟨by rw [ha.out]; rfl, rfl⟩
  · obtain rfl | rfl | rfl | rfl | rfl | rfl : t = 1 ∨ t = 2 ∨ t = 3 ∨ t = 4 ∨ t = 5 ∨ t = 6 := by omega
    all_goals clear ht1 ht2
    all_goals
      obtain rfl | rfl | rfl | rfl | rfl | rfl | rfl | rfl | rfl | rfl | rfl | rfl | rfl | rfl | rfl | rfl | rfl | rfl : op = 8 ∨ op = 9 ∨ op = 10 ∨ op = 11 ∨ op = 12 ∨ op = 13 ∨ op = 14 ∨ op = 15 ∨ op = 16 ∨ op = 17 ∨ op = 18 ∨ op = 19 ∨ op = 20 ∨ op = 21 ∨ op = 22 ∨ op = 23 ∨ op = 24 ∨ op = 25 := by omega
    all_goals
      clear h
      go_enter Tryd.func72, Tryd.ntmps72; go_wp2; go_ret; exact ⟨rfl, rfl⟩
def aBinary (op : Int) : Bool := decide (8 ≤ op ∧ op ≤ 25 ∧ op ≠ 13 ∧ op ≠ 17)
theorem alu_Binary (op : Int) (w : World) : Calls Tryd.prog 71 #[.int .i64 op] w fun e w' => e = .returned (.bool (aBinary op)) ∧ w = w' := by
  by_cases h1 : op < 8
  · have ha := Lib.hid (show aBinary op = false by unfold aBinary; apply decide_eq_false; omega)
    go_enter Tryd.func71, Tryd.ntmps71; go_wp2; go_ret; exact ⟨by rw [ha.out]; rfl, rfl⟩
  by_cases h2 : 25 < op
  · have ha := Lib.hid (show aBinary op = false by unfold aBinary; apply decide_eq_false; omega)
    go_enter Tryd.func71, Tryd.ntmps71; go_wp2; go_ret; exact ⟨by rw [ha.out]; rfl, rfl⟩
  by_cases h3 : op = 13
  · subst h3; go_enter Tryd.func71, Tryd.ntmps71; go_wp2; go_ret; exact ⟨rfl, rfl⟩
  by_cases h4 : op = 17
  · subst h4; go_enter Tryd.func71, Tryd.ntmps71; go_wp2; go_ret; exact ⟨rfl, rfl⟩
  have ha := Lib.hid (show aBinary op = true by unfold aBinary; apply decide_eq_true; omega)
  have e13 : ((op : Int) != 13) = true := by simp; omega
  have e17 : ((op : Int) != 17) = true := by simp; omega
  go_enter Tryd.func71, Tryd.ntmps71; go_wp2; go_ret; exact ⟨by rw [ha.out]; rfl, rfl⟩
theorem ref07_Binary (op : Int) (w : World) : Calls Tryd.prog 64 #[.int .i64 op] w fun e w' => e = .returned (.bool (aBinary op)) ∧ w = w' := by
  by_cases h1 : op < 8
  · have ha := Lib.hid (show aBinary op = false by unfold aBinary; apply decide_eq_false; omega)
    go_enter Tryd.func64, Tryd.ntmps64; go_wp2; go_ret; exact ⟨by rw [ha.out]; rfl, rfl⟩
  by_cases h2 : 25 < op
  · have ha := Lib.hid (show aBinary op = false by unfold aBinary; apply decide_eq_false; omega)
    go_enter Tryd.func64, Tryd.ntmps64; go_wp2; go_ret; exact ⟨by rw [ha.out]; rfl, rfl⟩
  by_cases h3 : op = 13
  · subst h3; go_enter Tryd.func64, Tryd.ntmps64; go_wp2; go_ret; exact ⟨rfl, rfl⟩
  by_cases h4 : op = 17
  · subst h4; go_enter Tryd.func64, Tryd.ntmps64; go_wp2; go_ret; exact ⟨rfl, rfl⟩
  have ha := Lib.hid (show aBinary op = true by unfold aBinary; apply decide_eq_true; omega)
  have e13 : ((op : Int) != 13) = true := by simp; omega
  have e17 : ((op : Int) != 17) = true := by simp; omega
  go_enter Tryd.func64, Tryd.ntmps64; go_wp2; go_ret; exact ⟨by rw [ha.out]; rfl, rfl⟩
def aResult (op t : Int) : Int := if aGoes op t = true then (if 20 ≤ op then 1 else t) else 0
theorem alu_Result (op t : Int) (w : World) (hg : AGoes w) : Calls Tryd.prog 70 #[.int .i64 op, .int .i64 t] w fun e w' => e = .returned (.int .i64 (aResult op t)) ∧ w = w' := by
  cases h : aGoes op t with
  | false =>
    have Ha := Lib.hid (show aResult op t = 0 by unfold aResult; rw [h]; rfl)
    go_enter Tryd.func70, Tryd.ntmps70
    go_wp2_with (go_at_call 76; refine (alu_Goes _ _ _ hg).mono ?_; rintro e w' ⟨rfl, rfl⟩)
    go_ret; exact ⟨ret_i64 (by rw [Ha.out]), rfl⟩
  | true =>
    by_cases h2 : 20 ≤ op
    · have Ha := Lib.hid (show aResult op t = 1 by unfold aResult; rw [h, if_pos rfl, if_pos h2])
      go_enter Tryd.func70, Tryd.ntmps70
      go_wp2_with (go_at_call 76; refine (alu_Goes _ _ _ hg).mono ?_; rintro e w' ⟨rfl, rfl⟩)
      go_ret; exact ⟨ret_i64 (by rw [Ha.out]), rfl⟩
    · have Ha := Lib.hid (show aResult op t = t by unfold aResult; rw [h, if_pos rfl, if_neg h2])
      go_enter Tryd.func70, Tryd.ntmps70
      go_wp2_with (go_at_call 76; refine (alu_Goes _ _ _ hg).mono ?_; rintro e w' ⟨rfl, rfl⟩)
      go_ret; exact ⟨ret_i64 (by rw [Ha.out]), rfl⟩
theorem ref07_Result (op t : Int) (w : World) : Calls Tryd.prog 63 #[.int .i64 op, .int .i64 t] w fun e w' => e = .returned (.int .i64 (aResult op t)) ∧ w = w' := by
  cases h : aGoes op t with
  | false =>
    have Ha := Lib.hid (show aResult op t = 0 by unfold aResult; rw [h]; rfl)
    go_enter Tryd.func63, Tryd.ntmps63
    go_wp2_with (go_at_call 72; refine (ref07_Goes _ _ _).mono ?_; rintro e w' ⟨rfl, rfl⟩)
    go_ret; exact ⟨ret_i64 (by rw [Ha.out]), rfl⟩
  | true =>
    by_cases h2 : 20 ≤ op
    · have Ha := Lib.hid (show aResult op t = 1 by unfold aResult; rw [h, if_pos rfl, if_pos h2])
      go_enter Tryd.func63, Tryd.ntmps63
      go_wp2_with (go_at_call 72; refine (ref07_Goes _ _ _).mono ?_; rintro e w' ⟨rfl, rfl⟩)
      go_ret; exact ⟨ret_i64 (by rw [Ha.out]), rfl⟩
    · have Ha := Lib.hid (show aResult op t = t by unfold aResult; rw [h, if_pos rfl, if_neg h2])
      go_enter Tryd.func63, Tryd.ntmps63
      go_wp2_with (go_at_call 72; refine (ref07_Goes _ _ _).mono ?_; rintro e w' ⟨rfl, rfl⟩)
      go_ret; exact ⟨ret_i64 (by rw [Ha.out]), rfl⟩
def aHolds (op a b : Int) : Bool :=
  if op = 20 then a == b else if op = 21 then a != b else if op = 22 then decide (a < b) else if op = 23 then decide (a ≤ b) else if op = 24 then decide (b < a) else decide (b ≤ a)
def aNum (b : Bool) : Int := if b = true then 1 else 0
def aSh (b k : Int) : Nat := (min (max b 0) k).toNat
def aReck (op k a b : Int) : Int :=
  if op = 8 then wrap64 (a + b) else if op = 9 then wrap64 (a - b) else if op = 10 then wrap64 (a * b) else if op = 11 then wrap64 (a.tdiv b) else if op = 12 then a.tmod b
  else if op = 14 then bits .and .i64 a b else if op = 15 then bits .or .i64 a b else if op = 16 then bits .xor .i64 a b else if op = 18 then wrap64 (a * 2 ^ aSh b k) else a / 2 ^ aSh b k
end Go.Proofs.YtknbomikiakpmaaDoor

/- What a call that only makes memory leaves: the world ahead of it, with more blocks behind. Stores into older blocks move inside. -/
namespace Go.Proofs.YtknbomikiakpmaaDoor
open Go.RowKit
def wmore (w : World) (l : Array Obj) (d : Nat) : World := { w with heap := w.heap ++ l, drawn := d }
theorem more_of {w w1 : World} (h : Below w.heap.size w w1) : ∃ l d, w1 = wmore w l d := by
  refine ⟨w1.heap.extract w.heap.size w1.heap.size, w1.drawn, ?_⟩
  have hh : w1.heap = w.heap ++ w1.heap.extract w.heap.size w1.heap.size := by
    apply Array.ext_getElem?
    intro i
    by_cases hi : i < w.heap.size
    · rw [Array.getElem?_append_left hi]; exact h.block i hi
    · have h1 := h.size
      rw [Array.getElem?_append_right (by omega), Array.getElem?_extract]
      by_cases h2 : i < w1.heap.size
      · rw [if_pos (by omega)]; congr 1; omega
      · rw [if_neg (by omega), Array.getElem?_eq_none (by omega)]
  cases w1
  simp only [wmore] at *
  rw [← hh]
  cases h.os; cases h.tape; cases h.output
  rfl
theorem more_size (w : World) (l : Array Obj) (d : Nat) : (wmore w l d).heap.size = w.heap.size + l.size := by simp [wmore]
theorem more_get (w : World) (l : Array Obj) (d : Nat) {b : Nat} (h : b < w.heap.size) : (wmore w l d).heap[b]? = w.heap[b]? := by
  show (w.heap ++ l)[b]? = _; exact Array.getElem?_append_left h
theorem more_cell (w : World) (l : Array Obj) (d : Nat) {b o : Nat} (h : b < w.heap.size) : (wmore w l d).cell? ⟨b, o, none⟩ = w.cell? ⟨b, o, none⟩ := by
  unfold World.cell?; rw [show (⟨b, o, none⟩ : Addr).block = b from rfl, more_get w l d h]
theorem more_frozen (w : World) (l : Array Obj) (d : Nat) {b o : Nat} (h : b < w.heap.size) : (wmore w l d).frozen? ⟨b, o, none⟩ = w.frozen? ⟨b, o, none⟩ := by
  unfold World.frozen?; rw [show (⟨b, o, none⟩ : Addr).block = b from rfl, more_get w l d h]
theorem more_set (w : World) (l : Array Obj) (d : Nat) {b o : Nat} (v : Value) (h : b < w.heap.size) : (wmore w l d).setCell ⟨b, o, none⟩ v = wmore (w.setCell ⟨b, o, none⟩ v) l d := by
  have hm : ∀ f : Obj → Obj, (w.heap ++ l).modify b f = w.heap.modify b f ++ l := by
    intro f
    apply Array.ext_getElem?
    intro i
    by_cases hi : i < w.heap.size
    · rw [Array.getElem?_append_left (by simpa using hi), Array.getElem?_modify, Array.getElem?_modify, Array.getElem?_append_left hi]
    · rw [Array.getElem?_append_right (by simp; omega), Array.getElem?_modify, if_neg (by omega), Array.getElem?_append_right (by omega), Array.size_modify]
  unfold World.setCell wmore
  rw [show (⟨b, o, none⟩ : Addr).block = b from rfl]
  simp only [hm]
theorem more_below {B : Nat} {v w : World} (h : Below B v w) (hB : B ≤ w.heap.size) (l : Array Obj) (d : Nat) : Below B v (wmore w l d) :=
  h.trans ⟨rfl, rfl, rfl, by rw [more_size]; omega, fun k hk => more_get w l d (by omega)⟩
theorem set_size (w : World) (a : Addr) (v : Value) : (w.setCell a v).heap.size = w.heap.size := by
  simp [World.setCell]
theorem more_drewN (w : World) (l : Array Obj) (d n : Nat) : (wmore w l d).drewN n = wmore w l (d + n) := rfl
theorem more_drew (w : World) (l : Array Obj) (d : Nat) : (wmore w l d).drew = wmore w l (d + 1) := rfl
end Go.Proofs.YtknbomikiakpmaaDoor

/- Layer 11: kinds of blocks: the table of shapes, fields, how many, whether a number is one. -/
namespace Go.Proofs.YtknbomikiakpmaaDoor
open Go.RowKit
set_option linter.unusedSimpArgs false
set_option linter.unusedVariables false
def bShapesV : List Value := [.string ⟨#[84, 79, 78]⟩, .int .i64 4, .int .i64 2, .string ⟨#[84, 79, 70]⟩, .int .i64 4, .int .i64 2, .string ⟨#[84, 80]⟩, .int .i64 4, .int .i64 2, .string ⟨#[67, 84, 85]⟩, .int .i64 5, .int .i64 3, .string ⟨#[67, 84, 68]⟩, .int .i64 5, .int .i64 3, .string ⟨#[67, 84, 85, 68]⟩, .int .i64 8, .int .i64 5, .string ⟨#[82, 95, 84, 82, 73, 71]⟩, .int .i64 2, .int .i64 1, .string ⟨#[70, 95, 84, 82, 73, 71]⟩, .int .i64 2, .int .i64 1]
structure BSh (w : World) : Prop where
  sh : ∀ i : Nat, w.cell? ⟨1, i, none⟩ = bShapesV[i]?
  big0 : 1 < w.heap.size
theorem BSh.below {w w' : World} (h : BSh w) (hb : Below w.heap.size w w') : BSh w' :=
  ⟨fun i => (hb.cell h.big0).trans (h.sh i), Nat.lt_of_lt_of_le h.big0 hb.size⟩
def fTm : List (List UInt8 × Int) := [([73, 78], 1), ([80, 84], 6), ([81], 1), ([69, 84], 6)]
def fCtu : List (List UInt8 × Int) := [([67, 85], 1), ([82], 1), ([80, 86], 2), ([81], 1), ([67, 86], 2)]
def fCtd : List (List UInt8 × Int) := [([67, 68], 1), ([76, 68], 1), ([80, 86], 2), ([81], 1), ([67, 86], 2)]
def fCud : List (List UInt8 × Int) := [([67, 85], 1), ([67, 68], 1), ([82], 1), ([76, 68], 1), ([80, 86], 2), ([81, 85], 1), ([81, 68], 1), ([67, 86], 2)]
def fEdg : List (List UInt8 × Int) := [([67, 76, 75], 1), ([81], 1)]
/-- a kind's fields -/
def bF (k : Int) : List (List UInt8 × Int) := if k = 1 ∨ k = 2 ∨ k = 3 then fTm else if k = 4 then fCtu else if k = 5 then fCtd else if k = 6 then fCud else if k = 7 ∨ k = 8 then fEdg else []
def bI (k : Int) : Int := if k = 1 ∨ k = 2 ∨ k = 3 then 2 else if k = 4 ∨ k = 5 then 3 else if k = 6 then 5 else if k = 7 ∨ k = 8 then 1 else 0
def bN (k : Int) : ByteArray := if k = 1 then ⟨#[84, 79, 78]⟩ else if k = 2 then ⟨#[84, 79, 70]⟩ else if k = 3 then ⟨#[84, 80]⟩ else if k = 4 then ⟨#[67, 84, 85]⟩ else if k = 5 then ⟨#[67, 84, 68]⟩ else if k = 6 then ⟨#[67, 84, 85, 68]⟩ else if k = 7 then ⟨#[82, 95, 84, 82, 73, 71]⟩ else if k = 8 then ⟨#[70, 95, 84, 82, 73, 71]⟩ else ⟨#[]⟩
def bRight (k : Int) : Bool := decide (1 ≤ k ∧ k ≤ 8)
theorem bRight_no {k : Int} (h : ¬ (1 ≤ k ∧ k ≤ 8)) : bRight k = false := decide_eq_false h
theorem bRight_yes {k : Int} (h : 1 ≤ k ∧ k ≤ 8) : bRight k = true := decide_eq_true h
theorem k8 {k : Int} (h : 1 ≤ k ∧ k ≤ 8) : k = 1 ∨ k = 2 ∨ k = 3 ∨ k = 4 ∨ k = 5 ∨ k = 6 ∨ k = 7 ∨ k = 8 := by omega
theorem bF_no {k : Int} (h : ¬ (1 ≤ k ∧ k ≤ 8)) : bF k = [] := by
  unfold bF; rw [if_neg (by omega), if_neg (by omega), if_neg (by omega), if_neg (by omega), if_neg (by omega)]
theorem bI_no {k : Int} (h : ¬ (1 ≤ k ∧ k ≤ 8)) : bI k = 0 := by
  unfold bI; rw [if_neg (by omega), if_neg (by omega), if_neg (by omega), if_neg (by omega)]
theorem bN_no {k : Int} (h : ¬ (1 ≤ k ∧ k ≤ 8)) : bN k = ⟨#[]⟩ := by
  unfold bN; rw [if_neg (by omega), if_neg (by omega), if_neg (by omega), if_neg (by omega), if_neg (by omega), if_neg (by omega), if_neg (by omega), if_neg (by omega)]
def fldS (k i : Int) : ByteArray := if i < 0 then ⟨#[]⟩ else ⟨((bF k).getD i.toNat ([], 0)).1.toArray⟩
def fldT (k i : Int) : Int := if i < 0 then 0 else ((bF k).getD i.toNat ([], 0)).2
theorem fld_no {k i : Int} (h : ¬ (0 ≤ i ∧ i < (bF k).length)) : fldS k i = ⟨#[]⟩ ∧ fldT k i = 0 := by
  unfold fldS fldT
  by_cases hi : i < 0
  · rw [if_pos hi, if_pos hi]; exact ⟨rfl, rfl⟩
  · rw [if_neg hi, if_neg hi]
    have : (bF k).getD i.toNat ([], 0) = ([], 0) := by simp [List.getD]; rw [List.getElem?_eq_none (by omega)]; rfl
    rw [this]; exact ⟨rfl, rfl⟩
theorem block_Right (k : Int) (w : World) : Calls Tryd.prog 77 #[.int .i64 k] w fun e w' => e = .returned (.bool (bRight k)) ∧ w = w' := by
  by_cases h1 : 1 ≤ k
  · by_cases h2 : k ≤ 8
    · go_enter Tryd.func77, Tryd.ntmps77
      go_wp2
      go_ret
      exact ⟨by rw [bRight_yes ⟨h1, h2⟩]; rfl, rfl⟩
    · go_enter Tryd.func77, Tryd.ntmps77
      go_wp2
      go_ret
      exact ⟨by rw [bRight_no (by omega)]; rfl, rfl⟩
  · go_enter Tryd.func77, Tryd.ntmps77
    go_wp2
    go_ret
    exact ⟨by rw [bRight_no (by omega)]; rfl, rfl⟩
theorem block_FieldsS (k : Int) (w : World) (hT : BSh w) : Calls Tryd.prog 74 #[.int .i64 k] w fun e w' => e = .returned (.int .i64 ((bF k).length : Int)) ∧ w = w' := by
  by_cases h : 1 ≤ k ∧ k ≤ 8
  · have hr := bRight_yes h
    rcases k8 h with h | h | h | h | h | h | h | h
    · subst h
      have c : w.cell? ⟨1, 1, none⟩ = some (.int .i64 4) := hT.sh 1
      clear hT
      go_enter Tryd.func74, Tryd.ntmps74
      go_wp2_with fail
      refine (block_Right _ _).mono ?_; rintro e w' ⟨rfl, rfl⟩
      go_wp2_with fail
      go_ret
      exact ⟨rfl, rfl⟩
    · subst h
      have c : w.cell? ⟨1, 4, none⟩ = some (.int .i64 4) := hT.sh 4
      clear hT
      go_enter Tryd.func74, Tryd.ntmps74
      go_wp2_with fail
      refine (block_Right _ _).mono ?_; rintro e w' ⟨rfl, rfl⟩
      go_wp2_with fail
      go_ret
      exact ⟨rfl, rfl⟩
    · subst h
      have c : w.cell? ⟨1, 7, none⟩ = some (.int .i64 4) := hT.sh 7
      clear hT
      go_enter Tryd.func74, Tryd.ntmps74
      go_wp2_with fail
      refine (block_Right _ _).mono ?_; rintro e w' ⟨rfl, rfl⟩
      go_wp2_with fail
      go_ret
      exact ⟨rfl, rfl⟩
    · subst h
      have c : w.cell? ⟨1, 10, none⟩ = some (.int .i64 5) := hT.sh 10
      clear hT
      go_enter Tryd.func74, Tryd.ntmps74
      go_wp2_with fail
      refine (block_Right _ _).mono ?_; rintro e w' ⟨rfl, rfl⟩
      go_wp2_with fail
      go_ret
      exact ⟨rfl, rfl⟩
    · subst h
      have c : w.cell? ⟨1, 13, none⟩ = some (.int .i64 5) := hT.sh 13
      clear hT
      go_enter Tryd.func74, Tryd.ntmps74
      go_wp2_with fail
      refine (block_Right _ _).mono ?_; rintro e w' ⟨rfl, rfl⟩
      go_wp2_with fail
      go_ret
      exact ⟨rfl, rfl⟩
    · subst h
      have c : w.cell? ⟨1, 16, none⟩ = some (.int .i64 8) := hT.sh 16
      clear hT
      go_enter Tryd.func74, Tryd.ntmps74
      go_wp2_with fail
      refine (block_Right _ _).mono ?_; rintro e w' ⟨rfl, rfl⟩
      go_wp2_with fail
      go_ret
      exact ⟨rfl, rfl⟩
    · subst h
      have c : w.cell? ⟨1, 19, none⟩ = some (.int .i64 2) := hT.sh 19
      clear hT
      go_enter Tryd.func74, Tryd.ntmps74
      go_wp2_with fail
      refine (block_Right _ _).mono ?_; rintro e w' ⟨rfl, rfl⟩
      go_wp2_with fail
      go_ret
      exact ⟨rfl, rfl⟩
    · subst h
      have c : w.cell? ⟨1, 22, none⟩ = some (.int .i64 2) := hT.sh 22
      clear hT
      go_enter Tryd.func74, Tryd.ntmps74
      go_wp2_with fail
      refine (block_Right _ _).mono ?_; rintro e w' ⟨rfl, rfl⟩
      go_wp2_with fail
      go_ret
      exact ⟨rfl, rfl⟩
  · have hr := bRight_no h
    go_enter Tryd.func74, Tryd.ntmps74
    go_wp2_with fail
    refine (block_Right _ _).mono ?_; rintro e w' ⟨rfl, rfl⟩
    go_wp2_with fail
    go_ret
    exact ⟨by rw [bF_no h]; rfl, rfl⟩
def nmV (k : Int) : Array Value := ((bF k).map fun x => Value.string ⟨x.1.toArray⟩).toArray
def tyV (k : Int) : Array Value := ((bF k).map fun x => Value.int .i64 x.2).toArray
theorem ref11_Fields (k : Int) (h : 1 ≤ k ∧ k ≤ 8) (w : World) : Calls Tryd.prog 62 #[.int .i64 k] w fun e w' => e = .returned (.tuple #[.slice (some ⟨w.heap.size, 0, none⟩) (bF k).length (bF k).length, .slice (some ⟨w.heap.size + 1, 0, none⟩) (bF k).length (bF k).length, .int .i64 (bI k)]) ∧ w' = (w.alloc (.cells (nmV k) 9)).alloc (.cells (tyV k) 3) := by
  rcases k8 h with h | h | h | h | h | h | h | h
  all_goals
    subst h
    go_enter Tryd.func62, Tryd.ntmps62
    go_wp2
    go_returns
    exact ⟨rfl, rfl⟩
theorem ref11_Fields_no (k : Int) (h : ¬ (1 ≤ k ∧ k ≤ 8)) (w : World) : Calls Tryd.prog 62 #[.int .i64 k] w fun e w' => e = .returned (.tuple #[.slice none 0 0, .slice none 0 0, .int .i64 0]) ∧ w' = w := by
  have e4 : ((k : Int) == 4) = false := beq_eq_false_iff_ne.2 (by omega)
  have e5 : ((k : Int) == 5) = false := beq_eq_false_iff_ne.2 (by omega)
  have e6 : ((k : Int) == 6) = false := beq_eq_false_iff_ne.2 (by omega)
  have e7 : ((k : Int) == 7) = false := beq_eq_false_iff_ne.2 (by omega)
  have e8 : ((k : Int) == 8) = false := beq_eq_false_iff_ne.2 (by omega)
  by_cases h1 : 1 ≤ k
  · have h3 : 8 < k := by omega
    clear h
    go_enter Tryd.func62, Tryd.ntmps62
    go_wp2
    go_returns
    exact ⟨rfl, rfl⟩
  · clear h
    go_enter Tryd.func62, Tryd.ntmps62
    go_wp2
    go_returns
    exact ⟨rfl, rfl⟩
end Go.Proofs.YtknbomikiakpmaaDoor

/- The type of an expression: plain. -/
namespace Go.Proofs.YtknbomikiakpmaaDoor
open Go.RowKit
set_option linter.unusedSimpArgs false
set_option linter.unusedVariables false
/-- what expressions stand in -/
structure Sc where
  vars : List Vr
  blocks : List Bk
  slots : List Int
def inb (n : Int) (k : Nat) : Bool := decide (0 ≤ n ∧ n < (k : Int))
def vr0 : Vr := ⟨[], 0, 0, 0, 0⟩
def bk0 : Bk := ⟨[], 0⟩
def Sc.v (s : Sc) (n : Int) : Vr := s.vars.getD n.toNat vr0
def Sc.b (s : Sc) (n : Int) : Bk := s.blocks.getD n.toNat bk0
def Sc.s (s : Sc) (n : Int) : Int := s.slots.getD n.toNat 0
def keepR (t : Int) : Int := if kRight t then t else 0
def leafT (s : Sc) (e : Ex) : Int :=
  if e.op = 1 ∧ e.m = 0 then (if kIn e.t e.n then e.t else 0)
  else if ¬ e.t = 0 then 0
  else if e.op = 2 ∧ e.m = 0 ∧ inb e.n s.vars.length = true ∧ (s.v e.n).n < 2 then keepR (s.v e.n).t
  else if e.op = 3 ∧ e.m = 0 ∧ inb e.n s.slots.length = true then keepR (s.s e.n)
  else if e.op = 5 ∧ inb e.n s.blocks.length = true then keepR (fldT (s.b e.n).kind e.m)
  else 0
def singleT (s : Sc) (e : Ex) (t : Int) : Int :=
  if e.op = 8 ∧ e.n = 0 ∧ e.m = 0 ∧ kRight e.t = true then e.t
  else if ¬ e.t = 0 then 0
  else if e.op = 4 ∧ e.m = 0 ∧ t = 2 ∧ inb e.n s.vars.length = true then (if 2 ≤ (s.v e.n).n then keepR (s.v e.n).t else 0)
  else if e.op = 6 ∧ e.n = 0 ∧ (e.m = 13 ∨ e.m = 17) then aResult e.m t
  else 0
def doubleT (e : Ex) (a b : Int) : Int :=
  if ¬ e.op = 7 ∨ ¬ e.t = 0 ∨ ¬ e.n = 0 ∨ aBinary e.m = false ∨ ¬ b = (if e.m = 18 ∨ e.m = 19 then 2 else a) then 0 else aResult e.m a
def typeF (s : Sc) (e : Ex) (ts : List Int) : Int :=
  if ts.any (· == 0) then 0 else
  match ts with
  | [] => leafT s e
  | [a] => singleT s e a
  | [a, b] => doubleT e a b
  | _ => 0
noncomputable def typeE (s : Sc) : Ex → Int := foldE (typeF s)
theorem typeE_mk (s : Sc) (e : Ex) : typeE s e = typeF s e (e.l.map (typeE s)) := foldE_eq _ e
theorem keepR_le (t : Int) : 0 ≤ keepR t ∧ keepR t ≤ 6 := by
  unfold keepR kRight
  by_cases h : 1 ≤ t ∧ t ≤ 6
  · simp [h]; omega
  · simp [h]
theorem aResult_le (o t : Int) : 0 ≤ aResult o t ∧ aResult o t ≤ 6 := by
  unfold aResult
  split
  · rename_i h
    unfold aGoes at h
    have h := of_decide_eq_true h
    split <;> omega
  · omega
theorem kIn_right {t n : Int} (h : kIn t n = true) : kRight t = true := by unfold kIn at h; simp at h; exact h.1
theorem kRight_le {t : Int} (h : kRight t = true) : 1 ≤ t ∧ t ≤ 6 := of_decide_eq_true h
theorem leafT_le (s : Sc) (e : Ex) : 0 ≤ leafT s e ∧ leafT s e ≤ 6 := by
  unfold leafT
  split
  · split
    · rename_i h; have := kRight_le (kIn_right h); omega
    · omega
  · split
    · omega
    · split
      · exact keepR_le _
      · split
        · exact keepR_le _
        · split
          · exact keepR_le _
          · omega
theorem singleT_le (s : Sc) (e : Ex) (t : Int) : 0 ≤ singleT s e t ∧ singleT s e t ≤ 6 := by
  unfold singleT
  split
  · rename_i h; have := kRight_le h.2.2.2; omega
  · split
    · omega
    · split
      · split
        · exact keepR_le _
        · omega
      · split
        · exact aResult_le _ _
        · omega
theorem doubleT_le (e : Ex) (a b : Int) : 0 ≤ doubleT e a b ∧ doubleT e a b ≤ 6 := by
  unfold doubleT
  repeat' split
  all_goals first | omega | exact aResult_le _ _
theorem typeF_le (s : Sc) (e : Ex) (ts : List Int) : 0 ≤ typeF s e ts ∧ typeF s e ts ≤ 6 := by
  unfold typeF
  split
  · omega
  · split
    · exact leafT_le _ _
    · exact singleT_le _ _ _
    · exact doubleT_le _ _ _
    · omega
theorem typeE_le (s : Sc) (e : Ex) : 0 ≤ typeE s e ∧ typeE s e ≤ 6 := by rw [typeE_mk]; exact typeF_le _ _ _
/-- how it lies in memory -/
structure ScAt (w : World) (a b d : Value) (s : Sc) : Prop where
  vs : RowR 5 varR w a s.vars
  bs : RowR 2 blkR w b s.blocks
  ss : RowR 1 intR w d s.slots
theorem ScAt.below {w w' : World} {a b d : Value} {s : Sc} (h : ScAt w a b d s) (hb : Below w.heap.size w w') : ScAt w' a b d s :=
  ⟨h.vs.below varR_stable hb, h.bs.below blkR_stable hb, h.ss.below intR_stable hb⟩
end Go.Proofs.YtknbomikiakpmaaDoor

/- Layer 43, plain: leaves, truths, normal forms: the program's and the answer's; both tell the same. -/
namespace Go.Proofs.YtknbomikiakpmaaDoor
open Go.RowKit
namespace NN
set_option linter.unusedSimpArgs false
set_option linter.unusedVariables false
theorem ty_nil (s : Sc) (e : Ex) (h : e.l = []) : typeE s e = leafT s e := by rw [typeE_mk, h]; rfl
theorem ty_within {s : Sc} {e : Ex} (h : e.l ≠ []) (h1 : typeE s e ≠ 0) : e.op ≠ 1 ∧ e.op ≠ 2 ∧ e.op ≠ 3 ∧ e.op ≠ 5 := by
  rw [typeE_mk] at h1
  unfold typeF at h1
  split at h1
  · exact absurd rfl h1
  · split at h1
    · rename_i _ _ hts; exact absurd (List.map_eq_nil_iff.1 hts) h
    · unfold singleT at h1
      split at h1
      · rename_i h8; omega
      · split at h1
        · exact absurd rfl h1
        · split at h1
          · rename_i h4; omega
          · split at h1
            · rename_i h6; omega
            · exact absurd rfl h1
    · by_cases ho : e.op = 7
      · omega
      · unfold doubleT at h1
        rw [if_pos (Or.inl ho)] at h1
        exact absurd rfl h1
    · exact absurd rfl h1
theorem ty_leaf {s : Sc} {e : Ex} (h : e.l = []) (h1 : typeE s e ≠ 0) : e.op = 1 ∨ e.op = 2 ∨ e.op = 3 ∨ e.op = 5 := by
  rw [ty_nil s e h] at h1
  unfold leafT at h1
  split at h1
  · omega
  · split at h1
    · exact absurd rfl h1
    · split at h1
      · omega
      · split at h1
        · omega
        · split at h1
          · omega
          · exact absurd rfl h1
/-- the program's leaf -/
noncomputable def leafB (s : Sc) (e : Ex) : Bool := e.l.isEmpty && typeE s e == 1
/-- the answer's leaf -/
noncomputable def leafR (s : Sc) (e : Ex) : Bool := (e.op == 1 || e.op == 2 || e.op == 3 || e.op == 5) && typeE s e == 1
theorem leaf_same (s : Sc) (e : Ex) : leafB s e = leafR s e := by
  unfold leafB leafR
  by_cases ht : typeE s e = 1
  · have h0 : typeE s e ≠ 0 := by omega
    rw [ht]
    by_cases hl : e.l = []
    · rw [hl]
      have hop := ty_leaf hl h0
      have : (e.op == 1 || e.op == 2 || e.op == 3 || e.op == 5) = true := by
        simp only [Bool.or_eq_true, beq_iff_eq]
        omega
      rw [this]; rfl
    · obtain ⟨h1, h2, h3, h5⟩ := ty_within hl h0
      have : e.l.isEmpty = false := by cases hx : e.l with | nil => exact absurd hx hl | cons a t => rfl
      simp [this, h1, h2, h3, h5]
  · have h9 : (typeE s e == 1) = false := beq_eq_false_iff_ne.2 ht
    rw [h9]; simp
def notB (e : Ex) : Bool := e.op == 6 && e.m == 17 && e.t == 0 && e.n == 0 && e.l.length == 1
def bothB (e : Ex) : Bool := e.op == 7 && e.t == 0 && e.n == 0 && e.l.length == 2
def jun (m : Int) : Bool := m == 14 || m == 15
def par (m : Int) : Bool := m == 16 || m == 20 || m == 21
def ex0 : Ex := ⟨0, 0, 0, 0, []⟩
/-- is it a normal form? the program -/
noncomputable def isE (s : Sc) : Ex → Bool := foldE fun e l => if notB e = true then (e.l.getD 0 ex0).op != 1 && leafB s (e.l.getD 0 ex0) else if bothB e = true then jun e.m && l.getD 0 false && l.getD 1 false else leafB s e
theorem isE_mk (s : Sc) (e : Ex) : isE s e = if notB e = true then (e.l.getD 0 ex0).op != 1 && leafB s (e.l.getD 0 ex0) else if bothB e = true then jun e.m && (e.l.map (isE s)).getD 0 false && (e.l.map (isE s)).getD 1 false else leafB s e := foldE_eq _ e
def cntF (m a b : Int) : Int := if (if par m = true then (a + b) * 2 else a + b) < 25 then (if par m = true then (a + b) * 2 else a + b) else 25
/-- how many literals: the program -/
noncomputable def cntE (s : Sc) : Ex → Int := foldE fun e l => if notB e = true then l.getD 0 0 else if (bothB e && (jun e.m || par e.m)) = true then cntF e.m (l.getD 0 0) (l.getD 1 0) else if leafB s e = true then 1 else 25
theorem cntE_mk (s : Sc) (e : Ex) : cntE s e = if notB e = true then (e.l.map (cntE s)).getD 0 0 else if (bothB e && (jun e.m || par e.m)) = true then cntF e.m ((e.l.map (cntE s)).getD 0 0) ((e.l.map (cntE s)).getD 1 0) else if leafB s e = true then 1 else 25 := foldE_eq _ e
def binE (m : Int) (a b : Ex) : Ex := ⟨7, 0, 0, m, [a, b]⟩
def litE (e : Ex) (t : Bool) : Ex := if t = false then e else if e.op = 1 then ⟨1, 1, 1 - e.n, 0, []⟩ else ⟨6, 0, 0, 17, [e]⟩
def other (m : Int) : Int := if m = 14 then 15 else 14
/-- the normal form, or what it is turned: the program -/
noncomputable def formE : Ex → Bool → Ex := foldE (α := Bool → Ex) fun e l t => if notB e = true then (l.getD 0 fun _ => ex0) (!t) else if bothB e = false then litE e t else
  if jun e.m = true then binE (if t then other e.m else e.m) ((l.getD 0 fun _ => ex0) t) ((l.getD 1 fun _ => ex0) t)
  else binE 15 (binE 14 ((l.getD 0 fun _ => ex0) false) ((l.getD 1 fun _ => ex0) ((e.m == 20) == t))) (binE 14 ((l.getD 0 fun _ => ex0) true) ((l.getD 1 fun _ => ex0) (!((e.m == 20) == t))))
theorem formE_mk (e : Ex) (t : Bool) : formE e t = if notB e = true then ((e.l.map formE).getD 0 fun _ => ex0) (!t) else if bothB e = false then litE e t else
  if jun e.m = true then binE (if t then other e.m else e.m) (((e.l.map formE).getD 0 fun _ => ex0) t) (((e.l.map formE).getD 1 fun _ => ex0) t)
  else binE 15 (binE 14 (((e.l.map formE).getD 0 fun _ => ex0) false) (((e.l.map formE).getD 1 fun _ => ex0) ((e.m == 20) == t))) (binE 14 (((e.l.map formE).getD 0 fun _ => ex0) true) (((e.l.map formE).getD 1 fun _ => ex0) (!((e.m == 20) == t)))) := congrFun (foldE_eq _ e) t
-- the answer's
def badR (e : Ex) : Bool := !(e.t == 0) || !(e.n == 0) || (e.op == 6 && (!(e.m == 17) || !(e.l.length == 1))) || (e.op == 7 && (!(e.l.length == 2) || decide (e.m < 14) || e.m == 17 || e.m == 18 || e.m == 19 || decide (21 < e.m))) || (!(e.op == 6) && !(e.op == 7))
noncomputable def truE (s : Sc) : Ex → Bool := foldE fun e l => if leafR s e = true then true else if badR e = true then false else l.all id
theorem truE_mk (s : Sc) (e : Ex) : truE s e = if leafR s e = true then true else if badR e = true then false else (e.l.map (truE s)).all id := foldE_eq _ e
noncomputable def isR (s : Sc) : Ex → Bool := foldE fun e l => if leafR s e = true then true else if truE s e = false then false else if e.op = 6 then (e.l.getD 0 ex0).op != 1 && leafR s (e.l.getD 0 ex0) else jun e.m && l.getD 0 false && l.getD 1 false
theorem isR_mk (s : Sc) (e : Ex) : isR s e = if leafR s e = true then true else if truE s e = false then false else if e.op = 6 then (e.l.getD 0 ex0).op != 1 && leafR s (e.l.getD 0 ex0) else jun e.m && (e.l.map (isR s)).getD 0 false && (e.l.map (isR s)).getD 1 false := foldE_eq _ e
def manyF (e : Ex) (k : Int) : Int := if 1000 < (if e.op = 7 ∧ e.m ≠ 14 ∧ e.m ≠ 15 then 2 * k else k) then 1000 else (if e.op = 7 ∧ e.m ≠ 14 ∧ e.m ≠ 15 then 2 * k else k)
noncomputable def manyE : Ex → Int := foldE fun e l => manyF e (if e.l.length = 0 then 1 else l.sum)
theorem manyE_mk (e : Ex) : manyE e = manyF e (if e.l.length = 0 then 1 else (e.l.map manyE).sum) := foldE_eq _ e
noncomputable def cntR (s : Sc) (e : Ex) : Int := if truE s e = false ∨ 24 < manyE e then 25 else manyE e
/-- as it is, and turned: the answer -/
noncomputable def asE : Ex → Ex × Ex := foldE (α := Ex × Ex) fun e l =>
  if e.op = 6 then ((l.getD 0 (ex0, ex0)).2, (l.getD 0 (ex0, ex0)).1)
  else if e.op = 7 then
    (if e.m = 14 ∨ e.m = 15 then (binE e.m (l.getD 0 (ex0, ex0)).1 (l.getD 1 (ex0, ex0)).1, binE (29 - e.m) (l.getD 0 (ex0, ex0)).2 (l.getD 1 (ex0, ex0)).2)
     else if e.m = 20 then (binE 15 (binE 14 (l.getD 0 (ex0, ex0)).1 (l.getD 1 (ex0, ex0)).1) (binE 14 (l.getD 0 (ex0, ex0)).2 (l.getD 1 (ex0, ex0)).2), binE 15 (binE 14 (l.getD 0 (ex0, ex0)).1 (l.getD 1 (ex0, ex0)).2) (binE 14 (l.getD 0 (ex0, ex0)).2 (l.getD 1 (ex0, ex0)).1))
     else (binE 15 (binE 14 (l.getD 0 (ex0, ex0)).1 (l.getD 1 (ex0, ex0)).2) (binE 14 (l.getD 0 (ex0, ex0)).2 (l.getD 1 (ex0, ex0)).1), binE 15 (binE 14 (l.getD 0 (ex0, ex0)).1 (l.getD 1 (ex0, ex0)).1) (binE 14 (l.getD 0 (ex0, ex0)).2 (l.getD 1 (ex0, ex0)).2)))
  else (e, if e.op = 1 then ⟨1, e.t, 1 - e.n, 0, []⟩ else ⟨6, 0, 0, 17, [e]⟩)
theorem asE_mk (e : Ex) : asE e =
  if e.op = 6 then (((e.l.map asE).getD 0 (ex0, ex0)).2, ((e.l.map asE).getD 0 (ex0, ex0)).1)
  else if e.op = 7 then
    (if e.m = 14 ∨ e.m = 15 then (binE e.m ((e.l.map asE).getD 0 (ex0, ex0)).1 ((e.l.map asE).getD 1 (ex0, ex0)).1, binE (29 - e.m) ((e.l.map asE).getD 0 (ex0, ex0)).2 ((e.l.map asE).getD 1 (ex0, ex0)).2)
     else if e.m = 20 then (binE 15 (binE 14 ((e.l.map asE).getD 0 (ex0, ex0)).1 ((e.l.map asE).getD 1 (ex0, ex0)).1) (binE 14 ((e.l.map asE).getD 0 (ex0, ex0)).2 ((e.l.map asE).getD 1 (ex0, ex0)).2), binE 15 (binE 14 ((e.l.map asE).getD 0 (ex0, ex0)).1 ((e.l.map asE).getD 1 (ex0, ex0)).2) (binE 14 ((e.l.map asE).getD 0 (ex0, ex0)).2 ((e.l.map asE).getD 1 (ex0, ex0)).1))
     else (binE 15 (binE 14 ((e.l.map asE).getD 0 (ex0, ex0)).1 ((e.l.map asE).getD 1 (ex0, ex0)).2) (binE 14 ((e.l.map asE).getD 0 (ex0, ex0)).2 ((e.l.map asE).getD 1 (ex0, ex0)).1), binE 15 (binE 14 ((e.l.map asE).getD 0 (ex0, ex0)).1 ((e.l.map asE).getD 1 (ex0, ex0)).1) (binE 14 ((e.l.map asE).getD 0 (ex0, ex0)).2 ((e.l.map asE).getD 1 (ex0, ex0)).2)))
  else (e, if e.op = 1 then ⟨1, e.t, 1 - e.n, 0, []⟩ else ⟨6, 0, 0, 17, [e]⟩) := foldE_eq _ e
/-- the three kinds of truths -/
theorem tru_cases {s : Sc} {e : Ex} (h : truE s e = true) : leafR s e = true ∧ e.l = [] ∨
    (∃ x, e = ⟨6, 0, 0, 17, [x]⟩ ∧ truE s x = true) ∨ (∃ m x y, e = ⟨7, 0, 0, m, [x, y]⟩ ∧ truE s x = true ∧ truE s y = true ∧ (jun m = true ∨ par m = true)) := by
  rw [truE_mk] at h
  by_cases hl : leafR s e = true
  · have hb := (leaf_same s e).trans hl
    unfold leafB at hb
    simp only [Bool.and_eq_true, List.isEmpty_iff] at hb
    exact Or.inl ⟨hl, hb.1⟩
  · rw [if_neg hl] at h
    by_cases hb : badR e = true
    · rw [if_pos hb] at h; cases h
    · rw [if_neg hb] at h
      have hb : badR e = false := by simpa using hb
      obtain ⟨op, t, n, m, l⟩ := e
      unfold badR at hb
      simp only [Bool.or_eq_false_iff, Bool.and_eq_false_iff, Bool.not_eq_eq_eq_not, Bool.not_false, Bool.not_true, beq_iff_eq, beq_eq_false_iff_ne, ne_eq, decide_eq_false_iff_not] at hb
      obtain ⟨⟨⟨⟨ht, hn⟩, h6⟩, h7⟩, h67⟩ := hb
      subst ht hn
      rw [List.all_eq_true] at h
      by_cases o6 : op = 6
      · subst o6
        have h6 := h6.resolve_left (fun x => x rfl)
        obtain ⟨hm, hlen⟩ := h6
        subst hm
        match l, hlen, h with
        | [x], _, h => exact Or.inr (Or.inl ⟨x, rfl, h (truE s x) (by simp)⟩)
      · by_cases o7 : op = 7
        · subst o7
          have h7 := h7.resolve_left (fun x => x rfl)
          obtain ⟨⟨⟨⟨⟨hlen, a1⟩, a2⟩, a3⟩, a4⟩, a5⟩ := h7
          match l, hlen, h with
          | [x, y], _, h =>
            refine Or.inr (Or.inr ⟨m, x, y, rfl, h (truE s x) (by simp), h (truE s y) (by simp), ?_⟩)
            unfold jun par
            simp only [Bool.or_eq_true, beq_iff_eq]
            omega
        · rcases h67 with h67 | h67
          · exact absurd h67 o6
          · exact absurd h67 o7
theorem leaf_op {s : Sc} {e : Ex} (h : leafR s e = true) : e.op = 1 ∨ e.op = 2 ∨ e.op = 3 ∨ e.op = 5 := by
  unfold leafR at h
  simp only [Bool.and_eq_true, Bool.or_eq_true, beq_iff_eq] at h
  rcases h.1 with ((h | h) | h) | h <;> simp [h]
theorem leaf_not {s : Sc} {e : Ex} (h : leafR s e = true) : notB e = false ∧ bothB e = false := by
  have := leaf_op h
  unfold notB bothB
  rcases this with h | h | h | h <;> simp [h]
theorem leafR_un (s : Sc) (t n m : Int) (l : List Ex) : leafR s ⟨6, t, n, m, l⟩ = false := by unfold leafR; simp
theorem leafR_bin (s : Sc) (t n m : Int) (l : List Ex) : leafR s ⟨7, t, n, m, l⟩ = false := by unfold leafR; simp
end NN
end Go.Proofs.YtknbomikiakpmaaDoor

/- Layer 43, plain: the program and the answer tell the same of normal forms. -/
namespace Go.Proofs.YtknbomikiakpmaaDoor
open Go.RowKit
namespace NN
set_option linter.unusedSimpArgs false
set_option linter.unusedVariables false
theorem notB_is {e : Ex} (h : notB e = true) : ∃ x, e = ⟨6, 0, 0, 17, [x]⟩ := by
  obtain ⟨op, t, n, m, l⟩ := e
  unfold notB at h
  simp only [Bool.and_eq_true, beq_iff_eq] at h
  obtain ⟨⟨⟨⟨rfl, rfl⟩, rfl⟩, rfl⟩, hl⟩ := h
  match l, hl with
  | [x], _ => exact ⟨x, rfl⟩
theorem bothB_is {e : Ex} (h : bothB e = true) : ∃ m x y, e = ⟨7, 0, 0, m, [x, y]⟩ := by
  obtain ⟨op, t, n, m, l⟩ := e
  unfold bothB at h
  simp only [Bool.and_eq_true, beq_iff_eq] at h
  obtain ⟨⟨⟨rfl, rfl⟩, rfl⟩, hl⟩ := h
  match l, hl with
  | [x, y], _ => exact ⟨m, x, y, rfl⟩
theorem tru_un (s : Sc) (x : Ex) : truE s ⟨6, 0, 0, 17, [x]⟩ = truE s x := by
  rw [truE_mk, leafR_un]
  simp [badR]
theorem jp_iff (m : Int) : (jun m || par m) = true ↔ m = 14 ∨ m = 15 ∨ m = 16 ∨ m = 20 ∨ m = 21 := by
  unfold jun par
  simp only [Bool.or_eq_true, beq_iff_eq]
  omega
theorem tru_bin (s : Sc) (m : Int) (x y : Ex) (h : (jun m || par m) = true) : truE s ⟨7, 0, 0, m, [x, y]⟩ = (truE s x && truE s y) := by
  rw [truE_mk, leafR_bin]
  have hb : badR ⟨7, 0, 0, m, [x, y]⟩ = false := by
    unfold badR
    rw [jp_iff] at h
    rcases h with rfl | rfl | rfl | rfl | rfl <;> rfl
  rw [hb]
  simp
theorem tru_leaf {s : Sc} {e : Ex} (h : leafR s e = true) : truE s e = true := by rw [truE_mk, if_pos h]
theorem isR_tru {s : Sc} {e : Ex} (h : isR s e = true) : truE s e = true := by
  rw [isR_mk] at h
  by_cases hl : leafR s e = true
  · exact tru_leaf hl
  · rw [if_neg hl] at h
    cases ht : truE s e with
    | true => rfl
    | false => rw [ht] at h; simp at h
theorem notB_un (x : Ex) : notB ⟨6, 0, 0, 17, [x]⟩ = true := by simp [notB]
theorem notB_bin (m : Int) (x y : Ex) : notB ⟨7, 0, 0, m, [x, y]⟩ = false := by simp [notB]
theorem bothB_bin (m : Int) (x y : Ex) : bothB ⟨7, 0, 0, m, [x, y]⟩ = true := by simp [bothB]
theorem bothB_un (x : Ex) : bothB ⟨6, 0, 0, 17, [x]⟩ = false := by simp [bothB]
theorem isE_un (s : Sc) (x : Ex) : isE s ⟨6, 0, 0, 17, [x]⟩ = (x.op != 1 && leafB s x) := by rw [isE_mk, if_pos (notB_un x)]; rfl
theorem isE_bin (s : Sc) (m : Int) (x y : Ex) : isE s ⟨7, 0, 0, m, [x, y]⟩ = (jun m && isE s x && isE s y) := by
  rw [isE_mk, if_neg (by rw [notB_bin]; simp), if_pos (bothB_bin m x y)]; rfl
theorem isE_leaf (s : Sc) (e : Ex) (h1 : notB e = false) (h2 : bothB e = false) : isE s e = leafB s e := by
  rw [isE_mk, if_neg (by rw [h1]; simp), if_neg (by rw [h2]; simp)]
theorem is_same (s : Sc) (e : Ex) : isE s e = isR s e := by
  induction e using Ex.ind with
  | h op t n m l ih =>
    cases ht : truE s ⟨op, t, n, m, l⟩ with
    | true =>
      rcases tru_cases ht with ⟨h1, _⟩ | ⟨x, hx, hxt⟩ | ⟨m', x, y, hx, hxt, hyt, hj⟩
      · rw [isE_leaf s _ (leaf_not h1).1 (leaf_not h1).2, leaf_same, isR_mk, if_pos h1, h1]
      · rw [hx] at ht ⊢
        rw [isE_un, isR_mk, leafR_un, if_neg (by simp), if_neg (by rw [ht]; simp), if_pos rfl, leaf_same]
        rfl
      · have e1 := ih x (by injection hx with _ _ _ _ hl; rw [hl]; simp)
        have e2 := ih y (by injection hx with _ _ _ _ hl; rw [hl]; simp)
        rw [hx] at ht ⊢
        rw [isE_bin, isR_mk, leafR_bin, if_neg (by simp), if_neg (by rw [ht]; simp), if_neg (by simp), e1, e2]
        rfl
    | false =>
      have hl : leafR s ⟨op, t, n, m, l⟩ = false := by
        cases h : leafR s ⟨op, t, n, m, l⟩ with
        | false => rfl
        | true => rw [tru_leaf h] at ht; cases ht
      rw [isR_mk, hl, if_neg (by simp), if_pos ht]
      cases hn : notB ⟨op, t, n, m, l⟩ with
      | true =>
        obtain ⟨x, hx⟩ := notB_is hn
        rw [hx] at ht ⊢
        rw [tru_un] at ht
        rw [isE_un, leaf_same]
        cases h : leafR s x with
        | false => simp
        | true => rw [tru_leaf h] at ht; cases ht
      | false =>
        cases hb : bothB ⟨op, t, n, m, l⟩ with
        | true =>
          obtain ⟨m', x, y, hx⟩ := bothB_is hb
          have e1 := ih x (by injection hx with _ _ _ _ hl; rw [hl]; simp)
          have e2 := ih y (by injection hx with _ _ _ _ hl; rw [hl]; simp)
          rw [hx] at ht ⊢
          rw [isE_bin, e1, e2]
          cases hj : jun m' with
          | false => simp
          | true =>
            rw [tru_bin s m' x y (by rw [hj]; rfl)] at ht
            cases hx1 : isR s x with
            | false => simp
            | true =>
              cases hy1 : isR s y with
              | false => simp
              | true => rw [isR_tru hx1, isR_tru hy1] at ht; cases ht
        | false => rw [isE_leaf s _ hn hb, leaf_same, hl]
theorem cntE_un (s : Sc) (x : Ex) : cntE s ⟨6, 0, 0, 17, [x]⟩ = cntE s x := by rw [cntE_mk, if_pos (notB_un x)]; rfl
theorem cntE_bin (s : Sc) (m : Int) (x y : Ex) (h : (jun m || par m) = true) : cntE s ⟨7, 0, 0, m, [x, y]⟩ = cntF m (cntE s x) (cntE s y) := by
  rw [cntE_mk, if_neg (by rw [notB_bin]; simp), if_pos (by rw [bothB_bin]; simpa using h)]; rfl
theorem cntE_leaf (s : Sc) (e : Ex) (h1 : notB e = false) (h2 : (bothB e && (jun e.m || par e.m)) = false) : cntE s e = if leafB s e = true then 1 else 25 := by
  rw [cntE_mk, if_neg (by rw [h1]; simp), if_neg (by rw [h2]; simp)]
theorem many_un (x : Ex) : manyE ⟨6, 0, 0, 17, [x]⟩ = if 1000 < manyE x then 1000 else manyE x := by
  rw [manyE_mk]
  unfold manyF
  simp
theorem many_bin (m : Int) (x y : Ex) : manyE ⟨7, 0, 0, m, [x, y]⟩ = manyF ⟨7, 0, 0, m, [x, y]⟩ (manyE x + manyE y) := by
  rw [manyE_mk]
  simp
theorem cnt_told (s : Sc) (e : Ex) : (1 ≤ cntE s e ∧ cntE s e ≤ 25) ∧ (truE s e = false → cntE s e = 25) ∧ (truE s e = true → 1 ≤ manyE e ∧ manyE e ≤ 1000 ∧ cntE s e = if 25 < manyE e then 25 else manyE e) := by
  induction e using Ex.ind with
  | h op t n m l ih =>
    cases ht : truE s ⟨op, t, n, m, l⟩ with
    | true =>
      rcases tru_cases ht with ⟨h1, h0⟩ | ⟨x, hx, hxt⟩ | ⟨m', x, y, hx, hxt, hyt, hj⟩
      · have hc : cntE s ⟨op, t, n, m, l⟩ = 1 := by
          rw [cntE_leaf s _ (leaf_not h1).1 (by rw [(leaf_not h1).2]; rfl), if_pos (by rw [leaf_same]; exact h1)]
        have hm : manyE ⟨op, t, n, m, l⟩ = 1 := by
          have hop := leaf_op h1
          simp only at h0 hop
          rw [manyE_mk]
          subst h0
          unfold manyF
          have : op ≠ 7 := by omega
          simp [this]
        rw [hc, hm]
        exact ⟨by omega, fun h => absurd h (by simp), fun _ => by decide⟩
      · obtain ⟨i1, _, i3⟩ := ih x (by injection hx with _ _ _ _ hl; rw [hl]; simp)
        obtain ⟨j1, j2, j3⟩ := i3 hxt
        rw [hx, cntE_un, many_un]
        rw [if_neg (by omega)]
        exact ⟨i1, fun h => absurd h (by simp), fun _ => ⟨j1, j2, j3⟩⟩
      · obtain ⟨i1, _, i3⟩ := ih x (by injection hx with _ _ _ _ hl; rw [hl]; simp)
        obtain ⟨k1, _, k3⟩ := ih y (by injection hx with _ _ _ _ hl; rw [hl]; simp)
        obtain ⟨a1, a2, a3⟩ := i3 hxt
        obtain ⟨b1, b2, b3⟩ := k3 hyt
        have hjp : (jun m' || par m') = true := by rcases hj with h | h <;> simp [h]
        rw [hx, cntE_bin s m' x y hjp, many_bin, a3, b3]
        unfold cntF manyF
        have hp : par m' = true ↔ (m' ≠ 14 ∧ m' ≠ 15) := by
          rw [jp_iff] at hjp
          unfold par
          simp only [Bool.or_eq_true, beq_iff_eq]
          omega
        by_cases h14 : m' ≠ 14 ∧ m' ≠ 15
        · have hpp := hp.2 h14
          simp only [hpp, if_true, true_and, h14, and_self]
          refine ⟨?_, fun h => absurd h (by simp), fun _ => ?_⟩
          · split <;> split <;> split <;> omega
          · refine ⟨?_, ?_, ?_⟩
            · split <;> omega
            · split <;> omega
            · repeat' split
              all_goals omega
        · have hpp : par m' = false := by
            cases hpm : par m' with
            | false => rfl
            | true => exact absurd (hp.1 hpm) h14
          have hno : ¬ (True ∧ m' ≠ 14 ∧ m' ≠ 15) := fun q => h14 q.2
          simp only [hpp, Bool.false_eq_true, if_false, true_and, if_neg h14]
          refine ⟨?_, fun h => absurd h (by simp), fun _ => ?_⟩
          · repeat' split
            all_goals omega
          · refine ⟨?_, ?_, ?_⟩
            · split <;> omega
            · split <;> omega
            · repeat' split
              all_goals omega
    | false =>
      have hl : leafR s ⟨op, t, n, m, l⟩ = false := by
        cases h : leafR s ⟨op, t, n, m, l⟩ with
        | false => rfl
        | true => rw [tru_leaf h] at ht; cases ht
      have h25 : cntE s ⟨op, t, n, m, l⟩ = 25 := by
        cases hn : notB ⟨op, t, n, m, l⟩ with
        | true =>
          obtain ⟨x, hx⟩ := notB_is hn
          obtain ⟨_, i2, _⟩ := ih x (by injection hx with _ _ _ _ hl; rw [hl]; simp)
          rw [hx] at ht ⊢
          rw [tru_un] at ht
          rw [cntE_un]
          exact i2 ht
        | false =>
          cases hb : (bothB ⟨op, t, n, m, l⟩ && (jun m || par m)) with
          | true =>
            rw [Bool.and_eq_true] at hb
            obtain ⟨m', x, y, hx⟩ := bothB_is hb.1
            have hm' : m = m' := by injection hx
            have hjp := hb.2
            rw [hm'] at hjp
            obtain ⟨i1, i2, _⟩ := ih x (by injection hx with _ _ _ _ hl; rw [hl]; simp)
            obtain ⟨k1, k2, _⟩ := ih y (by injection hx with _ _ _ _ hl; rw [hl]; simp)
            rw [hx] at ht ⊢
            rw [tru_bin s m' x y hjp] at ht
            rw [cntE_bin s m' x y hjp]
            have hor : 26 ≤ cntE s x + cntE s y := by
              cases hxt : truE s x with
              | false => have := i2 hxt; omega
              | true =>
                cases hyt : truE s y with
                | false => have := k2 hyt; omega
                | true => rw [hxt, hyt] at ht; cases ht
            unfold cntF
            split <;> split <;> omega
          | false => rw [cntE_leaf s _ hn hb, leaf_same, hl]; rfl
      rw [h25]
      exact ⟨by omega, fun _ => rfl, fun h => absurd h (by simp)⟩
theorem cnt_same (s : Sc) (e : Ex) : cntE s e = cntR s e := by
  obtain ⟨_, h2, h3⟩ := cnt_told s e
  unfold cntR
  cases ht : truE s e with
  | false => rw [h2 ht, if_pos (Or.inl rfl)]
  | true =>
    obtain ⟨_, _, h⟩ := h3 ht
    rw [h]
    by_cases hm : 24 < manyE e
    · rw [if_pos (Or.inr hm)]
      split <;> omega
    · have hno : ¬ (true = false ∨ 24 < manyE e) := fun q => q.elim (fun q => absurd q (by simp)) hm
      rw [if_neg hno]
      split <;> omega
theorem form_un (x : Ex) (t : Bool) : formE ⟨6, 0, 0, 17, [x]⟩ t = formE x (!t) := by rw [formE_mk, if_pos (notB_un x)]; rfl
theorem form_bin (m : Int) (x y : Ex) (t : Bool) : formE ⟨7, 0, 0, m, [x, y]⟩ t = if jun m = true then binE (if t then other m else m) (formE x t) (formE y t) else binE 15 (binE 14 (formE x false) (formE y ((m == 20) == t))) (binE 14 (formE x true) (formE y (!((m == 20) == t)))) := by
  rw [formE_mk, if_neg (by rw [notB_bin]; simp), if_neg (by rw [bothB_bin]; simp)]; rfl
theorem form_leaf (e : Ex) (t : Bool) (h1 : notB e = false) (h2 : bothB e = false) : formE e t = litE e t := by
  rw [formE_mk, if_neg (by rw [h1]; simp), if_pos h2]
theorem leaf_const {s : Sc} {e : Ex} (h : leafR s e = true) (h1 : e.op = 1) : e.t = 1 := by
  have hb := (leaf_same s e).trans h
  unfold leafB at hb
  simp only [Bool.and_eq_true, List.isEmpty_iff, beq_iff_eq] at hb
  obtain ⟨h0, ht⟩ := hb
  rw [ty_nil s e h0] at ht
  unfold leafT at ht
  split at ht
  · split at ht
    · exact ht
    · omega
  · split at ht
    · omega
    · split at ht
      · omega
      · split at ht
        · omega
        · split at ht
          · omega
          · omega
theorem as_un (x : Ex) : asE ⟨6, 0, 0, 17, [x]⟩ = ((asE x).2, (asE x).1) := by rw [asE_mk, if_pos rfl]; rfl
theorem as_bin (m : Int) (x y : Ex) : asE ⟨7, 0, 0, m, [x, y]⟩ =
    (if m = 14 ∨ m = 15 then (binE m (asE x).1 (asE y).1, binE (29 - m) (asE x).2 (asE y).2)
     else if m = 20 then (binE 15 (binE 14 (asE x).1 (asE y).1) (binE 14 (asE x).2 (asE y).2), binE 15 (binE 14 (asE x).1 (asE y).2) (binE 14 (asE x).2 (asE y).1))
     else (binE 15 (binE 14 (asE x).1 (asE y).2) (binE 14 (asE x).2 (asE y).1), binE 15 (binE 14 (asE x).1 (asE y).1) (binE 14 (asE x).2 (asE y).2))) := by
  rw [asE_mk, if_neg (by simp), if_pos rfl]; rfl
theorem form_same (s : Sc) (e : Ex) : truE s e = true → formE e false = (asE e).1 ∧ formE e true = (asE e).2 := by
  induction e using Ex.ind with
  | h op t n m l ih =>
    intro ht
    rcases tru_cases ht with ⟨h1, h0⟩ | ⟨x, hx, hxt⟩ | ⟨m', x, y, hx, hxt, hyt, hj⟩
    · have hop := leaf_op h1
      simp only at hop
      rw [form_leaf _ _ (leaf_not h1).1 (leaf_not h1).2, form_leaf _ _ (leaf_not h1).1 (leaf_not h1).2, asE_mk, if_neg (by simp only; omega), if_neg (by simp only; omega)]
      refine ⟨rfl, ?_⟩
      unfold litE
      rw [if_neg (by simp)]
      by_cases h : op = 1
      · subst h
        have := leaf_const h1 rfl
        simp only at this
        subst this
        rfl
      · simp only [if_neg h]
    · have e1 := ih x (by injection hx with _ _ _ _ hl; rw [hl]; simp) hxt
      rw [hx, form_un, form_un, as_un]
      exact ⟨e1.2, e1.1⟩
    · have e1 := ih x (by injection hx with _ _ _ _ hl; rw [hl]; simp) hxt
      have e2 := ih y (by injection hx with _ _ _ _ hl; rw [hl]; simp) hyt
      have hjp : (jun m' || par m') = true := by rcases hj with h | h <;> simp [h]
      rw [hx, form_bin, form_bin, as_bin]
      rw [jp_iff] at hjp
      rcases hjp with rfl | rfl | rfl | rfl | rfl <;> simp [jun, other, e1.1, e1.2, e2.1, e2.2]
end NN
end Go.Proofs.YtknbomikiakpmaaDoor

/- What a slice of the call's own that grows leaves as it was. -/
namespace Go.Proofs.YtknbomikiakpmaaDoor
open Go.RowKit
theorem below_grown {B g : Nat} {w0 wa w2 : World} (hb : Below B w0 wa) (hBg : B ≤ g) (hs : B ≤ wa.heap.size) (hg : wa.grownBy w2 (some g)) : Below B w0 w2 :=
  hb.trans ⟨hg.os, hg.tape, hg.output, hg.size, fun k hk => hg.block k (by omega) (by simp; omega)⟩
theorem below_grownV {B : Nat} {w0 wa w2 : World} {v : Value} {e : TypeId} {n : Nat} {xs : List Value} (hb : Below B w0 wa) (hs : B ≤ wa.heap.size) (hO : wa.ownsRow B e 1 v n xs) (hg : wa.grownBy w2 v.ownBlock) : Below B w0 w2 :=
  hb.trans ⟨hg.os, hg.tape, hg.output, hg.size, fun k hk => hg.block k (by omega) (fun h => by have := (hO.lt k h.symm).1; omega)⟩
/-- append of a row that isn't empty, in a region that draws its order -/
theorem wp_append_row1 {P : Program} {w : World} {o : Oper} {a : Act} {K : Act → World → Prop} {Q : Exit → Act → World → Prop} (s x : Operand) (t : TypeId)
    (ho : o.op = .call { callee := .builtin .append, args := #[s, x], argTypes := #[t, t] })
    (base : Nat) (e : TypeId) (i : TypeInfo) (z : Value) (bytes : Nat) (ht : P.underlying t = some (.slice e)) (hi : P.info? e = some i) (hz : i.zero = some z)
    (hsize : i.size = 1) (hby : i.bytes = bytes) (hzs : z.cells.size = 1)
    (v : Value) (n : Nat) (xs : List Value) (hs : a.eval s = v) (hown : w.ownsRow base e 1 v n xs)
    (sv : Value) (m : Nat) (f : Nat → Value) (hx : a.eval x = sv) (hrow : RowAt w sv m f) (h0 : 0 < m) (h1 : ∀ j, j < m → (f j).oneCell' = true)
    (h63 : n + m ≤ maxLen) (hbytes : (n + m) * bytes ≤ 140737488355328) (hbase : base ≤ w.heap.size)
    (h : ∀ v' w', w'.ownsRow base e 1 v' (n + m) (xs ++ (List.range m).map f) → w.grownBy w' v.ownBlock → K (a.put o.dst v') w') : o.wp P a w K Q := by
  rcases hrow with ⟨ao, cap, rfl, rfl, hnc⟩ | ⟨b, off, cap, rfl, h2, h3, h4, h5, h6⟩
  · omega
  · refine wp_append_own w s x t ho base e i z 1 bytes ht hi hz hsize hby hzs (by omega) v n xs hs hown ⟨b, off, none⟩ m cap ((List.range m).map f) hx (by simp) ?_ ?_ h63 hbytes hbase (fun v' w' ho' hg _ => h v' w' ho' hg)
    · intro j u hu
      by_cases hj : j < m
      · have hu' : f j = u := by simpa [hj] using hu
        subst hu'
        have := h6 j hj
        unfold Addr.add
        by_cases h0 : j = 0
        · subst h0; simpa using this
        · simpa [h0] using this
      · simp [hj] at hu
    · intro u hu
      obtain ⟨j, hj, rfl⟩ := List.mem_map.1 hu
      exact h1 j (List.mem_range.1 hj)
theorem own_ne {wr : World} {v : Value} {B : Nat} {e : TypeId} {q n : Nat} {xs : List Value} (hO : wr.ownsRow B e q v n xs) {b : Nat} (hb : wr.heap.size ≤ b) : v.ownBlock ≠ some b := by
  intro h
  rcases hO.2 with ⟨h0, _⟩ | ⟨g, cap, cur, h0, _, h3, _⟩
  · rw [h0] at h; simp [Value.ownBlock] at h
  · rw [h0] at h
    have : g = b := by simpa [Value.ownBlock] using h
    subst this
    rw [Array.getElem?_eq_none hb] at h3; cases h3
/-- a block that isn't the row's own stays -/
theorem grown_cell {wa w2 : World} {ob : Option Nat} (hg : wa.grownBy w2 ob) {b o : Nat} (hne : ob ≠ some b) (hb2 : b < wa.heap.size) : w2.cell? ⟨b, o, none⟩ = wa.cell? ⟨b, o, none⟩ := by
  have h1 : w2.heap[b]? = wa.heap[b]? := hg.block b hb2 (fun h => hne h.symm)
  unfold World.cell?
  rw [show (⟨b, o, none⟩ : Addr).block = b from rfl, h1]
end Go.Proofs.YtknbomikiakpmaaDoor

/- A block that was just made, by its number. -/
namespace Go.Proofs.YtknbomikiakpmaaDoor
open Go.RowKit
theorem cell_at {W : World} {C : Array Value} {t : TypeId} {fr : Nat × Nat} {b i : Nat} (h : b = W.heap.size) : (W.alloc (.cells C t fr)).cell? ⟨b, i, none⟩ = C[i]? := by
  subst h
  have e : (W.alloc (.cells C t fr)).heap[W.heap.size]? = some (.cells C t fr) := by show (W.heap.push _)[W.heap.size]? = _; simp
  unfold World.cell?
  rw [e]
  simp
theorem frozen_at {W : World} {C : Array Value} {t : TypeId} {b i : Nat} (h : b = W.heap.size) : (W.alloc (.cells C t (0, 0))).frozen? ⟨b, i, none⟩ = false := by
  subst h
  have e : (W.alloc (.cells C t (0, 0))).heap[W.heap.size]? = some (.cells C t (0, 0)) := by show (W.heap.push _)[W.heap.size]? = _; simp
  unfold World.frozen?
  rw [e]
  simp
theorem cell_past {W : World} {o : Obj} {b i : Nat} (h : b < W.heap.size) : (W.alloc o).cell? ⟨b, i, none⟩ = W.cell? ⟨b, i, none⟩ := by
  have e : (W.alloc o).heap[b]? = W.heap[b]? := by show (W.heap.push _)[b]? = _; rw [Array.getElem?_push]; rw [if_neg (by omega)]
  unfold World.cell?
  rw [show (⟨b, i, none⟩ : Addr).block = b from rfl, e]
theorem frozen_past {W : World} {o : Obj} {b i : Nat} (h : b < W.heap.size) : (W.alloc o).frozen? ⟨b, i, none⟩ = W.frozen? ⟨b, i, none⟩ := by
  have e : (W.alloc o).heap[b]? = W.heap[b]? := by show (W.heap.push _)[b]? = _; rw [Array.getElem?_push]; rw [if_neg (by omega)]
  unfold World.frozen?
  rw [show (⟨b, i, none⟩ : Addr).block = b from rfl, e]
theorem blt {W w1 : World} (hb : Below W.heap.size W w1) : ∀ b, b < W.heap.size → b < w1.heap.size := fun _ h => Nat.lt_of_lt_of_le h hb.size
theorem bcell {W w1 : World} (hb : Below W.heap.size W w1) : (∀ b o, b < W.heap.size → w1.cell? ⟨b, o, none⟩ = W.cell? ⟨b, o, none⟩) ∧ (∀ b o, b < W.heap.size → w1.frozen? ⟨b, o, none⟩ = W.frozen? ⟨b, o, none⟩) :=
  ⟨fun b o h => hb.cell (p := ⟨b, o, none⟩) h, fun b o h => hb.frozen (p := ⟨b, o, none⟩) h⟩
end Go.Proofs.YtknbomikiakpmaaDoor

/- Slices whose elements have two cells. -/
namespace Go.Proofs.YtknbomikiakpmaaDoor
open Go.RowKit
/-- v is a slice of n elements of two cells each: f i and g i -/
def Row2At (w : World) (v : Value) (n : Nat) (f g : Nat → Value) : Prop :=
  (∃ a cap, v = .slice a 0 cap ∧ n = 0) ∨ ∃ b off cap, v = .slice (some ⟨b, off, none⟩) n cap ∧ 0 < n ∧ n ≤ cap ∧ cap ≤ maxLen ∧ b < w.heap.size ∧ ∀ i, i < n → w.cell? ⟨b, off + i * 2, none⟩ = some (f i) ∧ w.cell? ⟨b, off + i * 2 + 1, none⟩ = some (g i)
theorem more_more (w : World) (l l2 : Array Obj) (d d2 : Nat) : wmore (wmore w l d) l2 d2 = wmore w (l ++ l2) d2 := by simp [wmore, Array.append_assoc]
theorem more_start (w : World) : w = wmore w #[] w.drawn := by simp [wmore]
end Go.Proofs.YtknbomikiakpmaaDoor

/- A region that draws its order: the condition may be made stronger on the way. Rows of bytes as texts. -/
namespace Go.Proofs.YtknbomikiakpmaaDoor
open Go.RowKit
theorem wpAnyH_switch {P : Program} {md : Region.Mode} {ops : Array Oper} {Q : Exit → Act → World → Prop} {S S' : World → Prop} (hSS : ∀ w, S' w → S w) :
    ∀ (fuel : Nat) (listed : Array Bool) (a : Act) (w : World), wpAnyH P md ops Q S' fuel listed a w → wpAnyH P md ops Q S fuel listed a w
  | 0, _, _, _, h => h
  | fuel + 1, _, _, _, h => ⟨h.1, fun i hi => wpOp_mono (fun a' w' h' => ⟨hSS _ h'.1, wpAnyH_switch hSS fuel _ a' w' h'.2⟩) (h.2 i hi)⟩
theorem conv_row {P : Program} {w : World} {src dst e : TypeId} {v : Value} {l : List UInt8} (hs : P.underlying src = some (.slice e)) (he : P.underlying e = some (.int .u8)) (hd : P.underlying dst = some .string)
    (h : RowAt w v l.length (byteV l)) : (convert src dst v).run P w = .ok (.string ⟨l.toArray⟩) w := by
  rcases h with ⟨a, cap, rfl, h0, hc⟩ | ⟨b, off, cap, rfl, h1, h2, h3, h4, hcell⟩
  · obtain rfl : l = [] := List.length_eq_zero_iff.1 h0
    cases a with
    | none =>
      rw [run_convert_bytes_string w src dst e none 0 cap hs he hd]
      simp [Conv.bytesToString]
      rfl
    | some ad => exact run_convert_bytes_back w src dst e ad cap [] hs he hd (fun j hj => by simp at hj)
  · refine run_convert_bytes_back w src dst e _ cap l hs he hd fun j hj => ?_
    have := hcell j hj
    have e1 : byteV l j = .int .u8 (l[j].toNat : Int) := by simp [byteV, List.getD, hj]
    rw [e1] at this
    unfold Addr.add
    by_cases h0 : j = 0
    · subst h0; simpa using this
    · simpa [h0] using this
theorem conv_owns {P : Program} {w : World} {src dst e t : TypeId} {base n : Nat} {v : Value} {l : List UInt8} (hs : P.underlying src = some (.slice e)) (he : P.underlying e = some (.int .u8)) (hd : P.underlying dst = some .string)
    (h : w.ownsRow base t 1 v n (l.map fun c => Value.int .u8 (c.toNat : Int))) : (convert src dst v).run P w = .ok (.string ⟨l.toArray⟩) w := by
  have hn : l.length = n := by have := h.1; simpa using this
  exact conv_row hs he hd (hn ▸ RowAt.owns (f := byteV l) h (fun i hi => byteV_at (by omega)))
end Go.Proofs.YtknbomikiakpmaaDoor

/- Rows of the call's own, and what is appended to them. -/
namespace Go.Proofs.YtknbomikiakpmaaDoor
open Go.RowKit
set_option linter.unusedSimpArgs false
set_option linter.unusedVariables false
/-- the cells of a list of numbers -/
theorem ints_at {w : World} {a : Option Addr} {n cap : Nat} {L : List Int} (hv : RowR 1 intR w (.slice a n cap) L) {k : Nat} (hk : k < L.length) : ∃ b off, a = some ⟨b, off, none⟩ ∧ b < w.heap.size ∧ ∀ i z, L[i]? = some z → w.cell? ⟨b, off + i, none⟩ = some (.int .i64 z) ∧ I64 z := by
  rcases hv with ⟨a, cap, h, rfl, _⟩ | ⟨b, off, cap, h1, _, _, _, h5, h6⟩
  · simp at hk
  · have e : a = some ⟨b, off, none⟩ := by injection h1
    refine ⟨b, off, e, h5, fun i z hz => ?_⟩
    obtain ⟨C, g1, g2, g3, g4⟩ := h6 i z hz
    subst g3
    exact ⟨by simpa using g2 0 _ rfl, g4⟩
theorem owns_grown {w w' : World} {B : Nat} {e : TypeId} {q n : Nat} {v : Value} {xs : List Value} {ob : Option Nat} (h : w.ownsRow B e q v n xs) (hg : w.grownBy w' ob) (hne : ∀ g, v.ownBlock = some g → ob ≠ some g) : w'.ownsRow B e q v n xs := by
  obtain ⟨hl, h⟩ := h
  refine ⟨hl, ?_⟩
  rcases h with h | ⟨g, cap, cur, h0, h1, hh, h2⟩
  · exact Or.inl h
  · have hlt : g < w.heap.size := by
      by_cases hgl : g < w.heap.size
      · exact hgl
      · rw [Array.getElem?_eq_none (Nat.le_of_not_lt hgl)] at hh; cases hh
    refine Or.inr ⟨g, cap, cur, h0, h1, ?_, h2⟩
    rw [hg.block g hlt (fun h => hne g (by rw [h0]; rfl) h.symm)]
    exact hh
theorem owns_set {w : World} {B : Nat} {e : TypeId} {q n : Nat} {v : Value} {xs : List Value} {g o : Nat} {x : Value} (h : w.ownsRow B e q v n xs) (hne : v.ownBlock ≠ some g) : (w.setCell ⟨g, o, none⟩ x).ownsRow B e q v n xs := by
  obtain ⟨hl, h⟩ := h
  refine ⟨hl, ?_⟩
  rcases h with h | ⟨b, cap, cur, h0, h1, hh, h2⟩
  · exact Or.inl h
  · refine Or.inr ⟨b, cap, cur, h0, h1, ?_, h2⟩
    have : g ≠ b := fun he => hne (by rw [h0, he]; rfl)
    rw [← hh]
    unfold World.setCell
    show (w.heap.modify g _)[b]? = _
    rw [Array.getElem?_modify, if_neg this]
theorem owns_type {w : World} {B C : Nat} {e f : TypeId} {q p n m : Nat} {v u : Value} {xs ys : List Value} (h : w.ownsRow B e q v n xs) (k : w.ownsRow C f p u m ys) (hef : e ≠ f) {g : Nat} (hv : v.ownBlock = some g) : u.ownBlock ≠ some g := by
  intro hu
  rcases h.2 with ⟨h0, _⟩ | ⟨b, cap, cur, h0, _, h1, _⟩
  · rw [h0] at hv; simp [Value.ownBlock] at hv
  · rcases k.2 with ⟨k0, _⟩ | ⟨b2, cap2, cur2, k0, _, k1, _⟩
    · rw [k0] at hu; simp [Value.ownBlock] at hu
    · rw [h0] at hv; rw [k0] at hu
      have e1 : b = g := by simpa [Value.ownBlock] using hv
      have e2 : b2 = g := by simpa [Value.ownBlock] using hu
      rw [e1] at h1; rw [e2, h1] at k1
      simp at k1
      exact hef k1.2
def iV (l : List Int) : List Value := l.map (Value.int .i64)
theorem iV_len (l : List Int) : (iV l).length = l.length := by simp [iV]
/-- an owned row, as what it reads as -/
theorem row_of_owns {w : World} {B : Nat} {e : TypeId} {v : Value} {l : List Int} (h : w.ownsRow B e 1 v l.length (iV l)) (hl : ∀ z ∈ l, I64 z) : RowR 1 intR w v l := by
  obtain ⟨_, h⟩ := h
  rcases h with ⟨rfl, h0⟩ | ⟨g, cap, cur, rfl, hb, hg, h1, h2, h3, h4⟩
  · exact Or.inl ⟨none, 0, rfl, List.length_eq_zero_iff.1 h0, fun _ => rfl⟩
  · by_cases h0 : l.length = 0
    · exact Or.inl ⟨_, cap, by rw [h0], List.length_eq_zero_iff.1 h0, fun h => by cases h⟩
    · have hlt : g < w.heap.size := by
        by_cases hgl : g < w.heap.size
        · exact hgl
        · rw [Array.getElem?_eq_none (Nat.le_of_not_lt hgl)] at hg; cases hg
      refine Or.inr ⟨g, 0, cap, rfl, by omega, h1, h2, hlt, fun i x hx => ?_⟩
      refine ⟨[.int .i64 x], rfl, fun j u hu => ?_, rfl, hl x (List.mem_of_getElem? hx)⟩
      have hj : j = 0 := by
        by_cases hj : j = 0
        · exact hj
        · rw [List.getElem?_eq_none (by simp; omega)] at hu; cases hu
      subst hj
      obtain rfl : Value.int .i64 x = u := by simpa using hu
      have hi : i < l.length := by
        by_cases hi : i < l.length
        · exact hi
        · rw [List.getElem?_eq_none (by omega)] at hx; cases hx
      have h5 : (iV l)[i]? = some (.int .i64 x) := by simp [iV, hx]
      rw [← h4, List.getElem?_take, if_pos (by omega)] at h5
      unfold World.cell?
      rw [hg]
      simpa using h5
theorem row_ints {w : World} {v : Value} {l : List Int} (h : RowR 1 intR w v l) : ∀ z ∈ l, I64 z := by
  intro z hz
  obtain ⟨k, hk, rfl⟩ := List.getElem_of_mem hz
  obtain ⟨a, cap, rfl⟩ := row_get h
  obtain ⟨b, off, _, _, hc⟩ := ints_at h hk
  exact (hc k l[k] (by simp [hk])).2
theorem map_intV (l : List Int) : (List.range l.length).map (intV l) = iV l := by
  apply List.ext_getElem?
  intro i
  by_cases h : i < l.length
  · simp [h, intV, iV, List.getD]
  · simp [h, iV]
/-- rows that are the call's own, each in a block of its own -/
structure OwnRows (B : Nat) (e : TypeId) (w : World) (U : List Value) (L : List (List Int)) : Prop where
  len : U.length = L.length
  row : ∀ (i : Nat) (u : Value) (l : List Int), U[i]? = some u → L[i]? = some l → w.ownsRow B e 1 u l.length (iV l)
  apart : ∀ (i j : Nat) (u u' : Value) (g : Nat), i < j → U[i]? = some u → U[j]? = some u' → u.ownBlock = some g → u'.ownBlock ≠ some g
theorem OwnRows.nil (B : Nat) (e : TypeId) (w : World) : OwnRows B e w [] [] := ⟨rfl, fun i u l h => by simp at h, fun i j u u' g _ h => by simp at h⟩
theorem owns_lt {w : World} {B : Nat} {e : TypeId} {q n : Nat} {v : Value} {xs : List Value} (h : w.ownsRow B e q v n xs) {g : Nat} (hv : v.ownBlock = some g) : B ≤ g ∧ g < w.heap.size := by
  rcases h.2 with ⟨h0, _⟩ | ⟨b, cap, cur, h0, hb, h1, _⟩
  · rw [h0] at hv; simp [Value.ownBlock] at hv
  · rw [h0] at hv
    have e1 : b = g := by simpa [Value.ownBlock] using hv
    subst e1
    refine ⟨hb, ?_⟩
    by_cases hgl : b < w.heap.size
    · exact hgl
    · rw [Array.getElem?_eq_none (Nat.le_of_not_lt hgl)] at h1; cases h1
/-- one row more, that was made behind all others -/
theorem OwnRows.snoc {B : Nat} {e : TypeId} {w w' : World} {U : List Value} {L : List (List Int)} {u : Value} {l : List Int} (h : OwnRows B e w U L) (hb : Below w.heap.size w w') (hB : B ≤ w.heap.size) (hu : w'.ownsRow w.heap.size e 1 u l.length (iV l)) : OwnRows B e w' (U ++ [u]) (L ++ [l]) := by
  have hbase : w'.ownsRow B e 1 u l.length (iV l) := by
    refine ⟨hu.1, ?_⟩
    rcases hu.2 with h0 | ⟨g, cap, cur, h0, h1, h2⟩
    · exact Or.inl h0
    · exact Or.inr ⟨g, cap, cur, h0, by omega, h2⟩
  refine ⟨by simp [h.len], fun i x m hx hm => ?_, fun i j x y g hij hx hy hg => ?_⟩
  · by_cases hi : i < U.length
    · rw [List.getElem?_append_left hi] at hx
      rw [List.getElem?_append_left (by rw [← h.len]; exact hi)] at hm
      exact owns_below (h.row i x m hx hm) hb
    · have hin : i = U.length := by
        by_cases he : i = U.length
        · exact he
        · rw [List.getElem?_eq_none (by simp; omega)] at hx; cases hx
      subst hin
      have hx' : x = u := by simpa using hx.symm
      rw [h.len] at hm
      have hm' : m = l := by simpa using hm.symm
      rw [hx', hm']
      exact hbase
  · by_cases hj : j < U.length
    · rw [List.getElem?_append_left hj] at hy
      rw [List.getElem?_append_left (by omega)] at hx
      exact h.apart i j x y g hij hx hy hg
    · have hjn : j = U.length := by
        by_cases he : j = U.length
        · exact he
        · rw [List.getElem?_eq_none (by simp; omega)] at hy; cases hy
      subst hjn
      have hy' : y = u := by simpa using hy.symm
      rw [List.getElem?_append_left hij] at hx
      intro hyg
      rw [hy'] at hyg
      have h1 := (owns_lt hu hyg).1
      have h2 : i < L.length := by rw [← h.len]; exact hij
      have h3 := (owns_lt (h.row i x L[i] hx (by simp [h2])) hg).2
      omega
/-- what is appended: nothing, or cells that lie there -/
def Src (w : World) (sv : Value) (m : Nat) (news : List Value) : Prop :=
  (sv = .slice none 0 0 ∧ m = 0 ∧ news = []) ∨ ∃ (ad : Addr) (c : Nat), sv = .slice (some ad) m c ∧ ∀ j u, news[j]? = some u → w.cell? (ad.add j) = some u
theorem Src.below {w w' : World} {sv : Value} {m : Nat} {news : List Value} (h : Src w sv m news) (hb : Below w.heap.size w w') : Src w' sv m news := by
  rcases h with h | ⟨ad, c, h1, h2⟩
  · exact Or.inl h
  · exact Or.inr ⟨ad, c, h1, fun j u hu => (hb.cell (p := ad.add j) (World.block_lt_of_cell? w _ (h2 j u hu))).trans (h2 j u hu)⟩
theorem wp_append_src {P : Program} {w : World} {o : Oper} {a : Act} {K : Act → World → Prop} {Q : Exit → Act → World → Prop} (s x : Operand) (t : TypeId)
    (ho : o.op = .call { callee := .builtin .append, args := #[s, x], argTypes := #[t, t] })
    (base : Nat) (e : TypeId) (i : TypeInfo) (z : Value) (q bytes : Nat) (ht : P.underlying t = some (.slice e)) (hi : P.info? e = some i) (hz : i.zero = some z)
    (hsize : i.size = q) (hby : i.bytes = bytes) (hzs : z.cells.size = q) (hq : 0 < q)
    (v : Value) (n : Nat) (xs : List Value) (hs : a.eval s = v) (hown : w.ownsRow base e q v n xs)
    (sv : Value) (m : Nat) (news : List Value) (hx : a.eval x = sv) (hsrc : Src w sv m news) (hl : news.length = m * q) (h1 : ∀ u ∈ news, u.oneCell' = true)
    (h63 : n + m ≤ maxLen) (hbytes : (n + m) * bytes ≤ 140737488355328) (hbase : base ≤ w.heap.size)
    (h : ∀ v' w', w'.ownsRow base e q v' (n + m) (xs ++ news) → w.grownBy w' v.ownBlock → K (a.put o.dst v') w') : o.wp P a w K Q := by
  rcases hsrc with ⟨rfl, rfl, rfl⟩ | ⟨ad, c, rfl, hc⟩
  · have hrun := run_append_owned_none (P := P) (w := w) base t o.type e i q ht hi v n xs hown
    unfold Oper.wp
    simp [execOp, ho, resolve, invoke, builtin, hs, hx, hrun, Result.andThen]
    exact h v w (by simpa using hown) (World.grownBy.refl _ _)
  · exact wp_append_own w s x t ho base e i z q bytes ht hi hz hsize hby hzs hq v n xs hs hown ad m c news hx hl hc h1 h63 hbytes hbase (fun v' w' ho' hg _ => h v' w' ho' hg)
theorem wpList_append_src {P : Program} {w : World} {ops : Array Oper} {rest : List Oper} {o : Oper} {a : Act} {Q : Exit → Act → World → Prop} (hgd : o.guard = none) (s x : Operand) (t : TypeId)
    (ho : o.op = .call { callee := .builtin .append, args := #[s, x], argTypes := #[t, t] })
    (base : Nat) (e : TypeId) (i : TypeInfo) (z : Value) (q bytes : Nat) (ht : P.underlying t = some (.slice e)) (hi : P.info? e = some i) (hz : i.zero = some z)
    (hsize : i.size = q) (hby : i.bytes = bytes) (hzs : z.cells.size = q) (hq : 0 < q)
    (v : Value) (n : Nat) (xs : List Value) (hs : a.eval s = v) (hown : w.ownsRow base e q v n xs)
    (sv : Value) (m : Nat) (news : List Value) (hx : a.eval x = sv) (hsrc : Src w sv m news) (hl : news.length = m * q) (h1 : ∀ u ∈ news, u.oneCell' = true)
    (h63 : n + m ≤ maxLen) (hbytes : (n + m) * bytes ≤ 140737488355328) (hbase : base ≤ w.heap.size)
    (h : ∀ v' w', w'.ownsRow base e q v' (n + m) (xs ++ news) → w.grownBy w' v.ownBlock → wpList P ops Q rest (a.put o.dst v') w') : wpList P ops Q (o :: rest) a w :=
  wpList_plain hgd fun K hK => wp_append_src s x t ho base e i z q bytes ht hi hz hsize hby hzs hq v n xs hs hown sv m news hx hsrc hl h1 h63 hbytes hbase fun v' w' h2 h3 => hK _ _ (h v' w' h2 h3)
theorem add_at (b o j : Nat) : (⟨b, o, none⟩ : Addr).add j = ⟨b, o + j, none⟩ := by unfold Addr.add; by_cases h : j = 0 <;> simp [h]
theorem src_ints {w : World} {u : Value} {l : List Int} (h : RowR 1 intR w u l) : Src w u l.length (iV l) := by
  rcases h with ⟨a, cap, rfl, rfl, hc⟩ | ⟨b, off, cap, rfl, h2, h3, h4, h5, h6⟩
  · cases a with
    | none => rw [hc rfl]; exact Or.inl ⟨rfl, rfl, rfl⟩
    | some ad => exact Or.inr ⟨ad, cap, rfl, fun j u hu => by simp [iV] at hu⟩
  · refine Or.inr ⟨⟨b, off, none⟩, cap, rfl, fun j u hu => ?_⟩
    rw [add_at]
    have hj : j < l.length := by
      by_cases hj : j < l.length
      · exact hj
      · rw [List.getElem?_eq_none (by rw [iV_len]; omega)] at hu; cases hu
    obtain ⟨C, g1, g2, g3, _⟩ := h6 j l[j] (by simp [hj])
    subst g3
    have h7 := g2 0 _ rfl
    have h8 : u = .int .i64 l[j] := by simpa [iV, hj] using hu.symm
    rw [h8]
    simpa using h7
theorem iV_one (l : List Int) : ∀ u ∈ iV l, u.oneCell' = true := by
  intro u hu
  obtain ⟨z, _, rfl⟩ := List.mem_map.1 hu
  rfl
theorem owns_congr {w w' : World} {B : Nat} {e : TypeId} {q n : Nat} {v : Value} {xs : List Value} (h : w.ownsRow B e q v n xs) (hc : ∀ g, B ≤ g → w'.heap[g]? = w.heap[g]?) : w'.ownsRow B e q v n xs := by
  obtain ⟨hl, h⟩ := h
  refine ⟨hl, ?_⟩
  rcases h with h | ⟨g, cap, cur, h0, h1, hh, h2⟩
  · exact Or.inl h
  · exact Or.inr ⟨g, cap, cur, h0, h1, (hc g h1).trans hh, h2⟩
theorem OwnRows.congr {B : Nat} {e : TypeId} {w w' : World} {U : List Value} {L : List (List Int)} (h : OwnRows B e w U L) (hc : ∀ g, B ≤ g → w'.heap[g]? = w.heap[g]?) : OwnRows B e w' U L :=
  ⟨h.len, fun i u l hu hl => owns_congr (h.row i u l hu hl) hc, h.apart⟩
theorem OwnRows.below {B : Nat} {e : TypeId} {w w' : World} {U : List Value} {L : List (List Int)} (h : OwnRows B e w U L) (hb : Below w.heap.size w w') : OwnRows B e w' U L :=
  ⟨h.len, fun i u l hu hl => owns_below (h.row i u l hu hl) hb, h.apart⟩
theorem more_past (A : World) (l : Array Obj) (d : Nat) {g : Nat} (h : A.heap.size ≤ g) : (wmore A l d).heap[g]? = l[g - A.heap.size]? := by
  show (A.heap ++ l)[g]? = _
  rw [Array.getElem?_append_right h]
theorem more_congr {A A' : World} {l : Array Obj} {d d' : Nat} {B : Nat} (h : A.heap.size = A'.heap.size) (hB : A.heap.size ≤ B) : ∀ g, B ≤ g → (wmore A' l d').heap[g]? = (wmore A l d).heap[g]? := fun g hg => by
  rw [more_past A l d (by omega), more_past A' l d' (by omega), h]
theorem below_none {w w' : World} (hg : w.grownBy w' none) : Below w.heap.size w w' := ⟨hg.os, hg.tape, hg.output, hg.size, fun k hk => hg.block k hk (by simp)⟩
theorem owns_form {w : World} {B : Nat} {e : TypeId} {q n : Nat} {v : Value} {xs : List Value} (h : w.ownsRow B e q v n xs) : ∃ a cap, v = .slice a n cap := by
  rcases h.2 with ⟨h0, hn⟩ | ⟨g, cap, cur, h0, _⟩
  · exact ⟨none, 0, by rw [h0, hn]⟩
  · exact ⟨_, cap, h0⟩
theorem more_grow (A : World) (l l2 : Array Obj) (d d2 : Nat) : Below (wmore A l d).heap.size (wmore A l d) (wmore A (l ++ l2) d2) := by
  rw [← more_more A l l2 d d2]
  exact more_below (Below.refl _ _) (Nat.le_refl _) _ _
theorem alloc_get {W : World} {o : Obj} {g : Nat} (h : g = W.heap.size) : (W.alloc o).heap[g]? = some o := by
  subst h
  show (W.heap.push _)[W.heap.size]? = _
  simp
theorem own_eq2 {w : World} {B : Nat} {e : TypeId} {q : Nat} {r : Value} {n m : Nat} {xs ys : List Value} (h : w.ownsRow B e q r n xs) (h1 : n = m) (h2 : xs = ys) : w.ownsRow B e q r m ys := by
  subst h1; subst h2; exact h
theorem own_base {w : World} {B C : Nat} {e : TypeId} {q : Nat} {r : Value} {n : Nat} {xs : List Value} (h : w.ownsRow B e q r n xs) (h1 : B = C) : w.ownsRow C e q r n xs := by
  subst h1; exact h
theorem more_alloc (A : World) (l : Array Obj) (d : Nat) (o : Obj) : (wmore A l d).alloc o = wmore A (l.push o) d := by
  unfold World.alloc wmore
  simp
theorem OwnRows.grown {B C : Nat} {e f : TypeId} {w w' : World} {U : List Value} {L : List (List Int)} {o : Value} {p n : Nat} {xs : List Value} (h : OwnRows B e w U L) (hO : w.ownsRow C f p o n xs) (hef : e ≠ f) (hg : w.grownBy w' o.ownBlock) : OwnRows B e w' U L :=
  ⟨h.len, fun i u l hu hl => owns_grown (h.row i u l hu hl) hg (fun g hg' => owns_type (h.row i u l hu hl) hO hef hg'), h.apart⟩
theorem grown3 {B : Nat} {w0 wa w2 : World} {v : Value} {e : TypeId} {q n : Nat} {xs : List Value} (hb : Below B w0 wa) (hs : B ≤ wa.heap.size) (hO : wa.ownsRow B e q v n xs) (hg : wa.grownBy w2 v.ownBlock) : Below B w0 w2 :=
  hb.trans ⟨hg.os, hg.tape, hg.output, hg.size, fun k hk => hg.block k (by omega) (fun h => by
    rcases hO.2 with ⟨h0, _⟩ | ⟨g, cap, cur, h0, h1, _⟩
    · rw [h0] at h; simp [Value.ownBlock] at h
    · rw [h0] at h
      have : k = g := by simpa [Value.ownBlock] using h
      omega)⟩
theorem iV_app (a b : List Int) : iV (a ++ b) = iV a ++ iV b := by simp [iV]
theorem src_new (w : World) (C : List Value) (t : TypeId) : Src (w.alloc (.cells C.toArray t)) (.slice (some ⟨w.heap.size, 0, none⟩) 1 1) 1 C :=
  Or.inr ⟨⟨w.heap.size, 0, none⟩, 1, rfl, fun j u hu => by rw [add_at, Nat.zero_add]; exact cell_new w _ t (0, 0) j (by simpa using hu)⟩
theorem owns_lift {w w' : World} {base : Nat} {e : TypeId} {q : Nat} {v : Value} {n : Nat} {xs : List Value} (h : w.ownsRow base e q v n xs) {B : Nat} (hb : Below B w w') (hB : w.heap.size = B) : w'.ownsRow base e q v n xs := owns_below h (hB ▸ hb)
theorem owns_made (w : World) (Z : Array Value) (e : TypeId) (q m : Nat) (hZ : Z.size = m * q) (hm : m ≤ maxLen) : (w.alloc (.cells Z e)).ownsRow w.heap.size e q (.slice (some ⟨w.heap.size, 0, none⟩) 0 m) 0 [] := by
  refine ⟨by simp, Or.inr ⟨w.heap.size, m, Z, rfl, Nat.le_refl _, ?_, by omega, hm, hZ, by simp⟩⟩
  show (w.heap.push _)[w.heap.size]? = _
  simp
theorem row_none {α : Type} {q : Nat} {R : Rep α} {w : World} : RowR q R w (.slice none 0 0) ([] : List α) := Or.inl ⟨none, 0, rfl, rfl, fun _ => rfl⟩
theorem row_cells1 {w : World} {b : Nat} {z : Int} (h : w.cell? ⟨b, 0, none⟩ = some (.int .i64 z)) (hz : I64 z) : RowR 1 intR w (.slice (some ⟨b, 0, none⟩) 1 1) [z] :=
  Or.inr ⟨b, 0, 1, rfl, by simp, by simp, by unfold maxLen; omega, World.block_lt_of_cell? w _ h, fun i x hx => by
    have hi : i < 1 := lt_of_get hx
    obtain rfl : i = 0 := by omega
    obtain rfl : z = x := by simpa using hx
    refine ⟨[.int .i64 z], rfl, fun j u hu => ?_, rfl, hz⟩
    have hj : j < 1 := lt_of_get hu
    obtain rfl : j = 0 := by omega
    obtain rfl : Value.int .i64 z = u := by simpa using hu
    exact h⟩
theorem row_cells2 {w : World} {b : Nat} {z y : Int} (h : w.cell? ⟨b, 0, none⟩ = some (.int .i64 z)) (h' : w.cell? ⟨b, 1, none⟩ = some (.int .i64 y)) (hz : I64 z) (hy : I64 y) : RowR 1 intR w (.slice (some ⟨b, 0, none⟩) 2 2) [z, y] :=
  Or.inr ⟨b, 0, 2, rfl, by simp, by simp, by unfold maxLen; omega, World.block_lt_of_cell? w _ h, fun i x hx => by
    have hi : i < 2 := lt_of_get hx
    have hxi : I64 x := by
      rcases List.mem_cons.1 (List.mem_of_getElem? hx) with rfl | hx
      · exact hz
      · rw [List.mem_singleton.1 hx]; exact hy
    refine ⟨[.int .i64 x], rfl, fun j u hu => ?_, rfl, hxi⟩
    have hj : j < 1 := lt_of_get hu
    obtain rfl : j = 0 := by omega
    obtain rfl : Value.int .i64 x = u := by simpa using hu
    obtain rfl | rfl : i = 0 ∨ i = 1 := by omega
    · obtain rfl : z = x := by simpa using hx
      exact h
    · obtain rfl : y = x := by simpa using hx
      exact h'⟩
/-- a slice that was just made, without elements -/
theorem owns_empty (W : World) (e : TypeId) (q : Nat) {base : Nat} (hb : base ≤ W.heap.size) : (W.alloc (.cells #[] e)).ownsRow base e q (.slice (some ⟨W.heap.size, 0, none⟩) 0 0) 0 [] := World.ownsRow_lit W #[] 0 hb (by unfold maxLen; omega) (by simp)
theorem owns_empty1 (w : World) (o : Obj) (e : TypeId) (q : Nat) : ((w.alloc o).alloc (.cells #[] e)).ownsRow (w.heap.size + 1) e q (.slice (some ⟨w.heap.size + 1, 0, none⟩) 0 0) 0 [] := by
  have := owns_empty (w.alloc o) e q (base := w.heap.size + 1) (by simp)
  simpa using this
end Go.Proofs.YtknbomikiakpmaaDoor

/- Rows of the call's own: with a lower bound; as what is appended. -/
namespace Go.Proofs.YtknbomikiakpmaaDoor
open Go.RowKit
set_option linter.unusedSimpArgs false
set_option linter.unusedVariables false
theorem own_low {w : World} {B C : Nat} {e : TypeId} {q n : Nat} {v : Value} {xs : List Value} (h : w.ownsRow C e q v n xs) (hB : B ≤ C) : w.ownsRow B e q v n xs := by
  obtain ⟨hl, h⟩ := h
  refine ⟨hl, ?_⟩
  rcases h with h | ⟨g, cap, cur, h0, h1, h2⟩
  · exact Or.inl h
  · exact Or.inr ⟨g, cap, cur, h0, by omega, h2⟩
end Go.Proofs.YtknbomikiakpmaaDoor

/- Blocks of memory, by what lies in them; rows of the call's own that are written. -/
namespace Go.Proofs.YtknbomikiakpmaaDoor
open Go.RowKit
set_option linter.unusedSimpArgs false
set_option linter.unusedVariables false
theorem owns_arr (w : World) (Z : Array Value) (e : TypeId) (q m : Nat) (hZ : Z.size = m * q) (hm : m ≤ maxLen) : (w.alloc (.cells Z e)).ownsRow w.heap.size e q (.slice (some ⟨w.heap.size, 0, none⟩) m m) m Z.toList := by
  refine ⟨by simp [hZ], Or.inr ⟨w.heap.size, m, Z, rfl, Nat.le_refl _, ?_, Nat.le_refl _, hm, hZ, by rw [List.take_of_length_le (by simp [hZ])]⟩⟩
  show (w.heap.push _)[w.heap.size]? = _
  simp
theorem obj_cell {w : World} {p : Nat} {A : Array Value} {t : TypeId} (hp : w.heap[p]? = some (.cells A t)) {i : Nat} {u : Value} (hu : A[i]? = some u) : w.cell? ⟨p, i, none⟩ = some u := by
  unfold World.cell?
  rw [show (⟨p, i, none⟩ : Addr).block = p from rfl, hp]
  simpa using hu
theorem heap_push (w : World) (o : Obj) : (w.alloc o).heap = w.heap.push o := rfl
theorem get_last {w : World} {o : Obj} {g : Nat} (h : g = w.heap.size) : (w.alloc o).heap[g]? = some o := by
  subst h
  show (w.heap.push o)[w.heap.size]? = _
  simp
theorem get_past {w : World} {o : Obj} {g : Nat} (h : g < w.heap.size) : (w.alloc o).heap[g]? = w.heap[g]? := by
  show (w.heap.push o)[g]? = _
  rw [Array.getElem?_push, if_neg (by omega)]
theorem obj_below {B : Nat} {w w' : World} {p : Nat} {o : Obj} (hp : w.heap[p]? = some o) (hb : Below B w w') (h : p < B) : w'.heap[p]? = some o := (hb.block p h).trans hp
theorem obj_frozen {w : World} {p : Nat} {A : Array Value} {t : TypeId} (hp : w.heap[p]? = some (.cells A t)) (i : Nat) : w.frozen? ⟨p, i, none⟩ = false := by
  unfold World.frozen?
  rw [show (⟨p, i, none⟩ : Addr).block = p from rfl, hp]
  simp
theorem obj_self {w : World} {p i : Nat} {A : Array Value} {t : TypeId} {x : Value} (hp : w.heap[p]? = some (.cells A t)) : (w.setCell ⟨p, i, none⟩ x).heap[p]? = some (.cells (A.setIfInBounds i x) t) := by
  unfold World.setCell
  show (w.heap.modify p _)[p]? = _
  rw [Array.getElem?_modify, if_pos rfl, hp]
  rfl
theorem get_set {w : World} {a : Addr} {x : Value} {g : Nat} (h : a.block ≠ g) : (w.setCell a x).heap[g]? = w.heap[g]? := by
  unfold World.setCell
  show (w.heap.modify a.block _)[g]? = _
  rw [Array.getElem?_modify, if_neg h]
theorem drew_heap (w : World) : w.drew.heap = w.heap := rfl
end Go.Proofs.YtknbomikiakpmaaDoor

/- A block's number is below the heap's size. -/
namespace Go.Proofs.YtknbomikiakpmaaDoor
open Go.RowKit
theorem heap_lt {w : World} {g : Nat} {o : Obj} (h : w.heap[g]? = some o) : g < w.heap.size := by
  by_cases hl : g < w.heap.size
  · exact hl
  · rw [Array.getElem?_eq_none (Nat.le_of_not_lt hl)] at h; cases h
end Go.Proofs.YtknbomikiakpmaaDoor

/- Layer 43: expressions that hold no empty one, and what a write into a block of an empty one leaves. -/
namespace Go.Proofs.YtknbomikiakpmaaDoor
open Go.RowKit
namespace NN
set_option linter.unusedSimpArgs false
set_option linter.unusedVariables false
/-- no expression within is an empty one -/
noncomputable def noZ : Ex → Bool := foldE fun e l => e.l.all (fun x => x.op != 0) && l.all id
theorem noZ_mk (e : Ex) : noZ e = (e.l.all (fun x => x.op != 0) && (e.l.map noZ).all id) := foldE_eq _ e
theorem noZ_within {e x : Ex} (h : noZ e = true) (hx : x ∈ e.l) : x.op ≠ 0 ∧ noZ x = true := by
  rw [noZ_mk, Bool.and_eq_true, List.all_eq_true, List.all_eq_true] at h
  refine ⟨?_, h.2 _ (List.mem_map_of_mem hx)⟩
  have := h.1 x hx
  simpa using this
theorem noZ_nil {e : Ex} (h : e.l = []) : noZ e = true := by rw [noZ_mk, h]; rfl
theorem noZ_bin {m : Int} {x y : Ex} (h1 : x.op ≠ 0) (h2 : noZ x = true) (h3 : y.op ≠ 0) (h4 : noZ y = true) : noZ (binE m x y) = true := by
  rw [noZ_mk]
  simp [binE, h1, h2, h3, h4]
theorem noZ_un {m : Int} {x : Ex} (h1 : x.op ≠ 0) (h2 : noZ x = true) : noZ ⟨6, 0, 0, m, [x]⟩ = true := by
  rw [noZ_mk]
  simp [h1, h2]
theorem as_noZ {s : Sc} (e : Ex) : truE s e = true → (noZ (asE e).1 = true ∧ (asE e).1.op ≠ 0) ∧ noZ (asE e).2 = true ∧ (asE e).2.op ≠ 0 := by
  induction e using Ex.ind with
  | h op t n m l ih =>
    intro ht
    rcases tru_cases ht with ⟨h1, h0⟩ | ⟨x, hx, hxt⟩ | ⟨m', x, y, hx, hxt, hyt, hj⟩
    · have hop := leaf_op h1
      simp only at hop h0
      rw [asE_mk, if_neg (by simp only; omega), if_neg (by simp only; omega)]
      refine ⟨⟨noZ_nil h0, by simp only; omega⟩, ?_⟩
      show noZ (if op = 1 then _ else _) = true ∧ Ex.op (if op = 1 then _ else _) ≠ 0
      split
      · exact ⟨noZ_nil rfl, show (1 : Int) ≠ 0 by decide⟩
      · exact ⟨noZ_un (by simp only; omega) (noZ_nil h0), show (6 : Int) ≠ 0 by decide⟩
    · obtain ⟨i1, i2⟩ := ih x (by injection hx with _ _ _ _ hl; rw [hl]; simp) hxt
      rw [hx, asE_mk, if_pos rfl]
      exact ⟨i2, i1⟩
    · obtain ⟨⟨i1, i2⟩, i3, i4⟩ := ih x (by injection hx with _ _ _ _ hl; rw [hl]; simp) hxt
      obtain ⟨⟨k1, k2⟩, k3, k4⟩ := ih y (by injection hx with _ _ _ _ hl; rw [hl]; simp) hyt
      rw [hx, asE_mk, if_neg (by simp), if_pos rfl]
      show (noZ (if m' = 14 ∨ m' = 15 then _ else _ : Ex × Ex).1 = true ∧ (if m' = 14 ∨ m' = 15 then _ else _ : Ex × Ex).1.op ≠ 0) ∧ noZ (if m' = 14 ∨ m' = 15 then _ else _ : Ex × Ex).2 = true ∧ (if m' = 14 ∨ m' = 15 then _ else _ : Ex × Ex).2.op ≠ 0
      have b : ∀ a b : Ex, ∀ k : Int, (binE k a b).op ≠ 0 := fun a b k => by show (7 : Int) ≠ 0; decide
      split
      · exact ⟨⟨noZ_bin i2 i1 k2 k1, b _ _ _⟩, noZ_bin i4 i3 k4 k3, b _ _ _⟩
      · split
        · exact ⟨⟨noZ_bin (b _ _ _) (noZ_bin i2 i1 k2 k1) (b _ _ _) (noZ_bin i4 i3 k4 k3), b _ _ _⟩, noZ_bin (b _ _ _) (noZ_bin i2 i1 k4 k3) (b _ _ _) (noZ_bin i4 i3 k2 k1), b _ _ _⟩
        · exact ⟨⟨noZ_bin (b _ _ _) (noZ_bin i2 i1 k4 k3) (b _ _ _) (noZ_bin i4 i3 k2 k1), b _ _ _⟩, noZ_bin (b _ _ _) (noZ_bin i2 i1 k2 k1) (b _ _ _) (noZ_bin i4 i3 k4 k3), b _ _ _⟩
theorem leaf_num {s : Sc} {e : Ex} (h : leafR s e = true) (h1 : e.op = 1) : I64 (1 - e.n) := by
  have ht1 := leaf_const h h1
  have hb := (leaf_same s e).trans h
  unfold leafB at hb
  simp only [Bool.and_eq_true, List.isEmpty_iff, beq_iff_eq] at hb
  obtain ⟨h0, ht⟩ := hb
  rw [ty_nil s e h0] at ht
  unfold leafT at ht
  have hk : kIn 1 e.n = true := by
    split at ht
    · split at ht
      · rename_i hk; rw [ht1] at hk; exact hk
      · omega
    · split at ht
      · omega
      · split at ht
        · omega
        · split at ht
          · omega
          · split at ht
            · omega
            · omega
  have : 0 ≤ e.n ∧ e.n ≤ 1 := by
    have h9 : kWrap 1 e.n = e.n := by simpa [kIn, kRight] using hk
    unfold kWrap at h9
    rw [if_pos rfl] at h9
    split at h9 <;> omega
  unfold I64
  omega
end NN
/-- a world where one block, in which an empty expression lies, is another -/
structure Over (R : Nat) (w w' : World) : Prop where
  size : w.heap.size ≤ w'.heap.size
  cell : ∀ b o, b ≠ R → w'.cell? ⟨b, o, none⟩ = w.cell? ⟨b, o, none⟩
theorem cell_same {w w' : World} {b : Nat} (h : w'.heap[b]? = w.heap[b]?) (o : Nat) : w'.cell? ⟨b, o, none⟩ = w.cell? ⟨b, o, none⟩ := by
  unfold World.cell?
  rw [show (⟨b, o, none⟩ : Addr).block = b from rfl, h]
theorem exR_over {R : Nat} {ty : TypeId} {sv : Value} {w w' : World} (hR : w.heap[R]? = some (.cells #[.int .i64 0, .int .i64 0, .int .i64 0, .int .i64 0, sv] ty)) (ho : Over R w w') (e : Ex) : ∀ C, NN.noZ e = true → exR w C e → exR w' C e := by
  induction e using Ex.ind with
  | h op t n m l ih =>
    intro C hz h
    obtain ⟨v, h1, h2, h3⟩ := exR_eq.1 h
    refine exR_eq.2 ⟨v, h1, h2, ?_⟩
    simp only at h3 ⊢
    rcases h3 with h3 | ⟨b, off, cap, g1, g2, g3, g4, g5, g6⟩
    · exact Or.inl h3
    · refine Or.inr ⟨b, off, cap, g1, g2, g3, g4, Nat.lt_of_lt_of_le g5 ho.size, fun i x hx => ?_⟩
      obtain ⟨D, d1, d2, d3⟩ := g6 i x hx
      have hm := List.mem_of_getElem? hx
      obtain ⟨z1, z2⟩ := NN.noZ_within hz hm
      refine ⟨D, d1, fun j u hu => ?_, ih x hm D z2 d3⟩
      by_cases hb : b = R
      · subst hb
        exfalso
        obtain ⟨sv', e1, _, _⟩ := exR_eq.1 d3
        have a4 := d2 4 _ (by rw [e1]; rfl)
        have a0 := d2 0 _ (by rw [e1]; rfl)
        unfold World.cell? at a4 a0
        rw [show ∀ o, (⟨b, o, none⟩ : Addr).block = b from fun _ => rfl, hR] at a4 a0
        have hlt : off + i * 5 + 4 < 5 := by
          rcases Nat.lt_or_ge (off + i * 5 + 4) 5 with h9 | h9
          · exact h9
          · simp [Array.getElem?_eq_none (show (#[Value.int .i64 0, .int .i64 0, .int .i64 0, .int .i64 0, sv] : Array Value).size ≤ off + i * 5 + 4 from h9)] at a4
        have h00 : off + i * 5 + 0 = 0 := by omega
        simp [h00] at a0
        exact z1 a0.symm
      · rw [ho.cell _ _ hb]
        exact d2 j u hu
theorem exV_over {R : Nat} {ty : TypeId} {sv : Value} {w w' : World} {v : Value} {e : Ex} (hR : w.heap[R]? = some (.cells #[.int .i64 0, .int .i64 0, .int .i64 0, .int .i64 0, sv] ty)) (ho : Over R w w') (hz : NN.noZ e = true) (h : ExV w v e) : ExV w' v e := by
  obtain ⟨sl, rfl, h2, h3⟩ := h
  refine ⟨sl, rfl, h2, ?_⟩
  have := exR_over hR ho e [.int .i64 e.op, .int .i64 e.t, .int .i64 e.n, .int .i64 e.m, sl] hz (exR_eq.2 ⟨sl, rfl, h2, h3⟩)
  obtain ⟨v, h1, _, h4⟩ := exR_eq.1 this
  simp only [List.cons.injEq, and_true, true_and] at h1
  rw [h1]
  exact h4
theorem over_set {R o : Nat} {w w' : World} {x : Value} (h : Over R w w') : Over R w (w'.setCell ⟨R, o, none⟩ x) := by
  refine ⟨?_, fun b o2 hb => ?_⟩
  · rw [World.size_setCell]; exact h.size
  · rw [cell_same (get_set (a := ⟨R, o, none⟩) (Ne.symm hb))]
    exact h.cell b o2 hb
theorem set5 {w : World} {g : Nat} {t : TypeId} {x0 x1 x2 x3 x4 : Value} (a b c d e : Value) (h : w.heap[g]? = some (.cells #[x0, x1, x2, x3, x4] t)) :
    (((((w.setCell ⟨g, 0, none⟩ a).setCell ⟨g, 1, none⟩ b).setCell ⟨g, 2, none⟩ c).setCell ⟨g, 3, none⟩ d).setCell ⟨g, 4, none⟩ e).heap[g]? = some (.cells #[a, b, c, d, e] t) ∧
    Over g w (((((w.setCell ⟨g, 0, none⟩ a).setCell ⟨g, 1, none⟩ b).setCell ⟨g, 2, none⟩ c).setCell ⟨g, 3, none⟩ d).setCell ⟨g, 4, none⟩ e) := by
  have h1 : (w.setCell ⟨g, 0, none⟩ a).heap[g]? = some (.cells #[a, x1, x2, x3, x4] t) := obj_self h
  have h2 : ((w.setCell ⟨g, 0, none⟩ a).setCell ⟨g, 1, none⟩ b).heap[g]? = some (.cells #[a, b, x2, x3, x4] t) := obj_self h1
  have h3 : (((w.setCell ⟨g, 0, none⟩ a).setCell ⟨g, 1, none⟩ b).setCell ⟨g, 2, none⟩ c).heap[g]? = some (.cells #[a, b, c, x3, x4] t) := obj_self h2
  have h4 : ((((w.setCell ⟨g, 0, none⟩ a).setCell ⟨g, 1, none⟩ b).setCell ⟨g, 2, none⟩ c).setCell ⟨g, 3, none⟩ d).heap[g]? = some (.cells #[a, b, c, d, x4] t) := obj_self h3
  have h5 : (((((w.setCell ⟨g, 0, none⟩ a).setCell ⟨g, 1, none⟩ b).setCell ⟨g, 2, none⟩ c).setCell ⟨g, 3, none⟩ d).setCell ⟨g, 4, none⟩ e).heap[g]? = some (.cells #[a, b, c, d, e] t) := obj_self h4
  exact ⟨h5, over_set (over_set (over_set (over_set (over_set ⟨Nat.le_refl _, fun _ _ _ => rfl⟩))))⟩
theorem below_sets {B g : Nat} {w w' : World} (h : Below B w w') (hg : B ≤ g) (a b c d e : Value) : Below B w (((((w'.setCell ⟨g, 0, none⟩ a).setCell ⟨g, 1, none⟩ b).setCell ⟨g, 2, none⟩ c).setCell ⟨g, 3, none⟩ d).setCell ⟨g, 4, none⟩ e) :=
  ((((h.setCell hg _).setCell hg _).setCell hg _).setCell hg _).setCell hg _
/-- three blocks, as they are -/
structure ThreeAt (p q r : Nat) (E A B : Obj) (w : World) : Prop where
  e : w.heap[p]? = some E
  a : w.heap[q]? = some A
  b : w.heap[r]? = some B
theorem ThreeAt.below {p q r : Nat} {E A B : Obj} {w w' : World} (h : ThreeAt p q r E A B w) (hb : Below w.heap.size w w') : ThreeAt p q r E A B w' :=
  ⟨obj_below h.e hb (heap_lt h.e), obj_below h.a hb (heap_lt h.a), obj_below h.b hb (heap_lt h.b)⟩
theorem sets_get {g h : Nat} {w : World} (hne : g ≠ h) (a b c d e : Value) : (((((w.setCell ⟨g, 0, none⟩ a).setCell ⟨g, 1, none⟩ b).setCell ⟨g, 2, none⟩ c).setCell ⟨g, 3, none⟩ d).setCell ⟨g, 4, none⟩ e).heap[h]? = w.heap[h]? :=
  (get_set hne).trans ((get_set hne).trans ((get_set hne).trans ((get_set hne).trans (get_set hne))))
theorem ThreeAt.sets {p q r g : Nat} {E A B : Obj} {w : World} (h : ThreeAt p q r E A B w) (h1 : g ≠ p) (h2 : g ≠ q) (h3 : g ≠ r) (a b c d e : Value) : ThreeAt p q r E A B (((((w.setCell ⟨g, 0, none⟩ a).setCell ⟨g, 1, none⟩ b).setCell ⟨g, 2, none⟩ c).setCell ⟨g, 3, none⟩ d).setCell ⟨g, 4, none⟩ e) :=
  ⟨(sets_get h1 ..).trans h.e, (sets_get h2 ..).trans h.a, (sets_get h3 ..).trans h.b⟩
theorem boxed_ex5 {w : World} {o1 o2 o3 o4 : Int} {s : Value} {g : Nat} {t : TypeId} (h : w.heap[g]? = some (.cells #[.int .i64 o1, .int .i64 o2, .int .i64 o3, .int .i64 o4, s] t)) :
    w.cell? ⟨g, 0, none⟩ = some (.int .i64 o1) ∧ w.cell? ⟨g, 1, none⟩ = some (.int .i64 o2) ∧ w.cell? ⟨g, 2, none⟩ = some (.int .i64 o3) ∧ w.cell? ⟨g, 3, none⟩ = some (.int .i64 o4) ∧ w.cell? ⟨g, 4, none⟩ = some s :=
  ⟨obj_cell h (i := 0) rfl, obj_cell h (i := 1) rfl, obj_cell h (i := 2) rfl, obj_cell h (i := 3) rfl, obj_cell h (i := 4) rfl⟩
theorem frozen5 {w : World} {g : Nat} {A : Array Value} {t : TypeId} (h : w.heap[g]? = some (.cells A t)) : w.frozen? ⟨g, 0, none⟩ = false ∧ w.frozen? ⟨g, 1, none⟩ = false ∧ w.frozen? ⟨g, 2, none⟩ = false ∧ w.frozen? ⟨g, 3, none⟩ = false ∧ w.frozen? ⟨g, 4, none⟩ = false :=
  ⟨obj_frozen h 0, obj_frozen h 1, obj_frozen h 2, obj_frozen h 3, obj_frozen h 4⟩
theorem store_ex {B g : Nat} {w0 w : World} {ty : TypeId} {sv : Value} {e : Ex} {a : Option Addr} {k c : Nat} (hO : w.heap[g]? = some (.cells #[.int .i64 0, .int .i64 0, .int .i64 0, .int .i64 0, sv] ty))
    (hX : ExV w (.agg #[.int .i64 e.op, .int .i64 e.t, .int .i64 e.n, .int .i64 e.m, .slice a k c]) e) (hz : NN.noZ e = true) (hB : Below B w0 w) (hg : B ≤ g) :
    ∃ w5, w5 = (((((w.setCell ⟨g, 0, none⟩ (.int .i64 e.op)).setCell ⟨g, 1, none⟩ (.int .i64 e.t)).setCell ⟨g, 2, none⟩ (.int .i64 e.n)).setCell ⟨g, 3, none⟩ (.int .i64 e.m)).setCell ⟨g, 4, none⟩ (.slice a k c)) ∧
      w5.heap[g]? = some (.cells #[.int .i64 e.op, .int .i64 e.t, .int .i64 e.n, .int .i64 e.m, .slice a k c] ty) ∧ ExV w5 (.agg #[.int .i64 e.op, .int .i64 e.t, .int .i64 e.n, .int .i64 e.m, .slice a k c]) e ∧ Below B w0 w5 := by
  have so := set5 (.int .i64 e.op) (.int .i64 e.t) (.int .i64 e.n) (.int .i64 e.m) (.slice a k c) hO
  exact ⟨_, rfl, so.1, exV_over hO so.2 hz hX, below_sets hB hg ..⟩
theorem over_refl (R : Nat) (w : World) : Over R w w := ⟨Nat.le_refl _, fun _ _ _ => rfl⟩
end Go.Proofs.YtknbomikiakpmaaDoor

/- Rows of truths. -/
namespace Go.Proofs.YtknbomikiakpmaaDoor
open Go.RowKit
set_option linter.unusedSimpArgs false
set_option linter.unusedVariables false
def boolR : Rep Bool := fun _ cs z => cs = [.bool z]
theorem boolR_stable : Stable boolR := fun _ _ _ _ h _ => h
def bV1 (l : List Bool) : List Value := l.map Value.bool
theorem bV1_len (l : List Bool) : (bV1 l).length = l.length := by simp [bV1]
theorem bV1_one (l : List Bool) : ∀ u ∈ bV1 l, u.oneCell' = true := by
  intro u hu
  obtain ⟨z, _, rfl⟩ := List.mem_map.1 hu
  rfl
theorem bV1_set (l : List Bool) (k : Nat) (b : Bool) : (bV1 l).set k (.bool b) = bV1 (l.set k b) := by simp [bV1, List.map_set]
theorem made_false (m : Nat) : madeCells (Value.bool false).cells m = (bV1 (List.replicate m false)).toArray := by
  apply Array.ext_getElem?
  intro i
  by_cases h : i < m
  · simp [madeCells, Value.cells, h, Nat.mod_one, bV1, List.getElem?_replicate]
  · simp [madeCells, Value.cells, h, bV1, List.getElem?_replicate]
end Go.Proofs.YtknbomikiakpmaaDoor

/- expr.fold: one thing of an expression, by what was made of those within it. -/
namespace Go.Proofs.YtknbomikiakpmaaDoor
open Go.RowKit
set_option linter.unusedSimpArgs false
set_option linter.unusedVariables false
set_option maxHeartbeats 1000000 in
theorem fold_int (fn : Nat) (cap : Array Value) (F : Ex → List Int → Int) (G : Ex → Prop) (w0 : World)
    (he : ∀ (args : Array Value) (W : World), (callFunc fn args).run Tryd.prog W = .ok (.enter fn args) W)
    (hG : ∀ e, G e → ∀ x ∈ e.l, G x) (hI : ∀ e, G e → I64 (foldE F e)) (hS : ∀ e, G e → e.l.length ≤ 300)
    (hF : ∀ W, Below w0.heap.size w0 W → ∀ e v u, G e → ExV W v e → RowR 1 intR W u (e.l.map (foldE F)) → Calls Tryd.prog fn (#[v, u] ++ cap) W fun r W' => r = .returned (.int .i64 (F e (e.l.map (foldE F)))) ∧ Below W.heap.size W W') :
    ∀ e, G e → ∀ W v, Below w0.heap.size w0 W → ExV W v e → Calls Tryd.prog 57 #[v, .func (.func fn) #[] cap] W fun r W' => r = .returned (.int .i64 (foldE F e)) ∧ Below W.heap.size W W' := by
  obtain ⟨i, hi, hz, hsize, hby⟩ : ∃ i, Tryd.prog.info? 3 = some i ∧ i.zero = some (.int .i64 0) ∧ i.size = 1 ∧ i.bytes = 8 := ⟨(Tryd.prog.info? 3).get!, by kernel_rfl, by kernel_rfl, by kernel_rfl, by kernel_rfl⟩
  intro e
  induction e using Ex.ind with
  | h op t n m l ih =>
    intro hg w v hb0 hv
    have hgl := hG _ hg
    have hlen := hS _ hg
    rw [foldE_mk]
    have HFe := Lib.hid (fun W (h : Below w.heap.size w W) u (hu : RowR 1 intR W u (l.map (foldE F))) => hF W (hb0.trans (h.mono hb0.size)) ⟨op, t, n, m, l⟩ v u hg (hv.below h) hu)
    have HIH := Lib.hid (fun x (hx : x ∈ l) W u (h : Below w.heap.size w W) (hu : ExV W u x) => ih x hx (hgl x hx) W u (hb0.trans (h.mono hb0.size)) hu)
    have HI := Lib.hid (fun x (hx : x ∈ l) => hI x (hgl x hx))
    obtain ⟨s, rfl, hr, hrow⟩ := hv
    obtain ⟨sa, sc, rfl⟩ := row_get hrow
    have HX := Lib.hid hrow
    clear hF ih hG hS hI hgl hrow hr
    have hlen : l.length ≤ 300 := hlen
    obtain ⟨N, hN⟩ : ∃ N, l.length = N := ⟨_, rfl⟩
    have HN := Lib.hid hN
    simp only at HFe HX ⊢
    rw [hN] at HFe HX hlen ⊢
    clear hN
    obtain ⟨M, hM⟩ : ∃ M, l.map (foldE F) = M := ⟨_, rfl⟩
    have HM := Lib.hid hM
    rw [hM] at HFe ⊢
    clear hM
    go_enter Tryd.func57, Tryd.ntmps57
    go_wp2_with fail
    obtain ⟨W0, hW0⟩ : ∃ W0, W0 = w.alloc (.cells #[.int .i64 op, .int .i64 t, .int .i64 n, .int .i64 m, .slice sa N sc] 37) := ⟨_, rfl⟩
    rw [← hW0]
    have o0 : W0.heap[w.heap.size]? = some (.cells #[.int .i64 op, .int .i64 t, .int .i64 n, .int .i64 m, .slice sa N sc] 37) := by rw [hW0]; exact get_last rfl
    have hb : Below w.heap.size w W0 := by rw [hW0]; exact by (repeat' (first | (with_reducible exact Below.refl _ _) | (with_reducible assumption) | (with_reducible refine below_drewN ?_ _) | (with_reducible refine Below.alloc ?_ ?_ _) | (with_reducible refine Below.drew ?_) | (with_reducible refine Below.setCell ?_ ?_ _) | go_size))
    have hsz0 : W0.heap.size = w.heap.size + 1 := by rw [hW0]; simp
    have HO0 := Lib.hid o0
    have HB0 := Lib.hid hb
    have hml : M.length = N := by rw [← HM.out, List.length_map]; exact HN.out
    have HML := Lib.hid hml
    clear hW0 o0 hb hml
    go_loopw [5, 11] (fun o jj wr => ∃ k : Nat, k ≤ N ∧ jj = .int .i64 k ∧ Hid (wr.ownsRow W0.heap.size 3 1 o k (iV (M.take k))) ∧ Hid (Below W0.heap.size W0 wr)) (fun _ jj _ => N - (intOf jj).toNat)
    case atStart => exact ⟨0, by omega, rfl, Lib.hid (World.ownsRow_nil _ _ _ _), Lib.hid (Below.refl _ _)⟩
    case round =>
      obtain ⟨k, hk, rfl, hO, hB⟩ := hrel
      have hBw := HB0.out.trans (hB.out.mono (by omega))
      by_cases hlt : k < N
      · have qk : ((k : Int) < (N : Int)) = True := eq_true (by omega)
        have qk' : (k < N) = True := eq_true hlt
        obtain ⟨x, hx⟩ := get_some (L := l) (n := k) (by rw [HN.out]; exact hlt)
        obtain ⟨b, off, s1, sn1, sc1, rfl, hbw, hc1, hc2, d0, d1, d2, d3, d4, hxv⟩ := ex_at HX.out hx
        have hmem := List.mem_of_getElem? hx
        have d0 := (hBw.cell (p := ⟨b, off + k * 5, none⟩) hbw).trans d0
        have d1 := (hBw.cell (p := ⟨b, off + k * 5 + 1, none⟩) hbw).trans d1
        have d2 := (hBw.cell (p := ⟨b, off + k * 5 + 2, none⟩) hbw).trans d2
        have d3 := (hBw.cell (p := ⟨b, off + k * 5 + 3, none⟩) hbw).trans d3
        have d4 := (hBw.cell (p := ⟨b, off + k * 5 + 4, none⟩) hbw).trans d4
        have HC := Lib.hid (fun W u hB hv => HIH.out x hmem W u hB hv)
        have HXV := Lib.hid (hxv.below hBw)
        have HTK := Lib.hid (show M.take (k + 1) = M.take k ++ [foldE F x] from take_snoc (by rw [← HM.out, List.getElem?_map, hx]; rfl))
        have HLT := Lib.hid hlt
        have HBW := Lib.hid hBw
        have hsz := hB.out.size
        have hBr := Lib.hid hB.out
        have hOr := Lib.hid hO.out
        generalize foldE F x = z at *
        clear hx hmem hxv hlt hBw
        go_wp2_with fail
        refine (HC.out _ _ (HBW.out.alloc HBW.out.size _) (HXV.out.below ((Below.refl _ _).alloc (Nat.le_refl _) _))).mono ?_; rintro r w2 ⟨rfl, hb2⟩
        have hb2' : Below wr.heap.size wr w2 := Below.trans ((Below.refl _ _).alloc (Nat.le_refl _) _) (hb2.mono (by simp))
        have hO2 := owns_below hOr.out hb2'
        have hB2 := hBr.out.trans (hb2'.mono hsz)
        have hsz2 := hB2.size
        have HO2 := Lib.hid hO2
        have HB2 := Lib.hid hB2
        clear hb2 hb2' hO2 hB2 hO hB
        go_wp2_with (first | (at_builtin; go_loud (refine wpList_append_src rfl (.tmp 15) (.tmp 19) 32 rfl W0.heap.size 3 i (.int .i64 0) 1 8 Tryd.underlying32 hi hz hsize hby rfl (by omega) _ k _ rfl (owns_below HO2.out ((Below.refl _ _).alloc (Nat.le_refl _) _)) _ 1 [.int .i64 z] rfl (src_new _ _ _) rfl (by intro u hu; simp at hu; rw [hu]; rfl) (by unfold maxLen; omega) (by omega) (by simp; omega) ?_; intro v3 w3 hO3 hG3; have hB3 := Lib.hid (grown3 (HB2.out.alloc hsz2 _) (by simp; omega) (owns_below HO2.out ((Below.refl _ _).alloc (Nat.le_refl _) _)) hG3); have HO3 := Lib.hid hO3; clear hO3 hG3)) | fail)
        go_roundw
        case rel => exact ⟨k + 1, by have := HLT.out; omega, by simp, Lib.hid (by rw [HTK.out]; exact own_eq2 HO3.out rfl (by simp [iV])), hB3⟩
        case measure => have := HLT.out; first | (simp [intOf]; done) | (simp [intOf]; omega)
      · obtain rfl : k = N := by omega
        have qk : ((k : Int) < (k : Int)) = False := eq_false (by omega)
        have qk' : (k < k) = False := eq_false (by omega)
        have hfull : M.take k = M := List.take_of_length_le (by rw [HML.out]; exact Nat.le_refl _)
        have o1 := obj_below HO0.out hB.out (by omega)
        have c0 : wr.cell? ⟨w.heap.size, 0, none⟩ = some (.int .i64 op) := obj_cell o1 (i := 0) rfl
        have c1 : wr.cell? ⟨w.heap.size, 1, none⟩ = some (.int .i64 t) := obj_cell o1 (i := 1) rfl
        have c2 : wr.cell? ⟨w.heap.size, 2, none⟩ = some (.int .i64 n) := obj_cell o1 (i := 2) rfl
        have c3 : wr.cell? ⟨w.heap.size, 3, none⟩ = some (.int .i64 m) := obj_cell o1 (i := 3) rfl
        have c4 : wr.cell? ⟨w.heap.size, 4, none⟩ = some (.slice sa k sc) := obj_cell o1 (i := 4) rfl
        have hrow := row_of_owns (l := M) (own_eq2 hO.out HML.out.symm (by rw [hfull])) (fun z hz => by rw [← HM.out] at hz; obtain ⟨x, hx, rfl⟩ := List.mem_map.1 hz; exact HI.out x hx)
        have HR := Lib.hid (HFe.out wr hBw _ hrow)
        have HBW := Lib.hid hBw
        clear hO hB hrow hfull o1 hBw
        go_wp2_with fail
        refine HR.out.mono ?_; rintro r w2 ⟨rfl, hb2⟩
        go_wp2_with fail
        go_ret
        exact ⟨rfl, HBW.out.trans (hb2.mono HBW.out.size)⟩
end Go.Proofs.YtknbomikiakpmaaDoor

/- expr.Size, expr.Deep, expr.May. -/
namespace Go.Proofs.YtknbomikiakpmaaDoor
open Go.RowKit
set_option linter.unusedSimpArgs false
set_option linter.unusedVariables false
noncomputable def deepE : Ex → Nat := foldE fun _ l => l.foldl max 0 + 1
theorem deepE_mk (e : Ex) : deepE e = (e.l.map deepE).foldl max 0 + 1 := foldE_eq _ e
def mayO (e : Ex) : Bool := e.op == 4 || (e.op == 7 && (e.m == 11 || e.m == 12))
noncomputable def mayE : Ex → Bool := foldE fun e l => l.any id || mayO e
theorem mayE_mk (e : Ex) : mayE e = ((e.l.map mayE).any id || mayO e) := foldE_eq _ e
theorem foldl_max_le {l : List Nat} {b : Nat} : ∀ a, a ≤ b → (∀ x ∈ l, x ≤ b) → l.foldl max a ≤ b := by
  induction l with
  | nil => intro a h _; exact h
  | cons x t ih => intro a h hx; exact ih (max a x) (by have := hx x (by simp); omega) fun y hy => hx y (by simp [hy])
theorem deepE_le (e : Ex) : deepE e ≤ sizeE e := by
  induction e using Ex.ind with
  | h op t n m l ih =>
    rw [deepE_mk, sizeE_mk]
    have h : (l.map deepE).foldl max 0 ≤ (l.map sizeE).sum := foldl_max_le 0 (by omega) fun x hx => by
      obtain ⟨y, hy, rfl⟩ := List.mem_map.1 hx
      exact Nat.le_trans (ih y hy) (sum_mem (List.mem_map_of_mem (f := sizeE) hy))
    show (l.map deepE).foldl max 0 + 1 ≤ 1 + (l.map sizeE).sum
    omega
def natI (L : List Nat) : List Int := L.map fun (n : Nat) => (n : Int)
theorem natI_take (L : List Nat) (k : Nat) : (natI L).take k = natI (L.take k) := by simp [natI]
def sizeF (_ : Ex) (ts : List Int) : Int := 1 + ts.sum
def deepF (_ : Ex) (ts : List Int) : Int := ts.foldl max 0 + 1
theorem natI_sum (L : List Nat) : (natI L).sum = (L.sum : Int) := by
  induction L with
  | nil => rfl
  | cons a t ih => show (a : Int) + (natI t).sum = _; rw [ih, List.sum_cons]; omega
theorem natI_max (L : List Nat) : ∀ a : Nat, (natI L).foldl max (a : Int) = ((L.foldl max a : Nat) : Int) := by
  induction L with
  | nil => intro a; rfl
  | cons x t ih =>
    intro a
    show (natI t).foldl max (max (a : Int) (x : Int)) = _
    rw [show (max (a : Int) (x : Int)) = ((max a x : Nat) : Int) by omega, ih]
    rfl
theorem map_natI {f : Ex → Int} {g : Ex → Nat} {l : List Ex} (h : ∀ x ∈ l, f x = (g x : Int)) : l.map f = natI (l.map g) := by
  unfold natI
  rw [List.map_map]
  exact List.map_congr_left h
theorem sizeI (e : Ex) : foldE sizeF e = (sizeE e : Int) := by
  induction e using Ex.ind with
  | h op t n m l ih =>
    rw [foldE_eq, sizeE_mk]
    show sizeF _ (l.map (foldE sizeF)) = _
    rw [map_natI ih]
    unfold sizeF
    rw [natI_sum]
    show (1 : Int) + ((l.map sizeE).sum : Nat) = ((1 + (l.map sizeE).sum : Nat) : Int)
    omega
theorem deepI (e : Ex) : foldE deepF e = (deepE e : Int) := by
  induction e using Ex.ind with
  | h op t n m l ih =>
    rw [foldE_eq, deepE_mk]
    show deepF _ (l.map (foldE deepF)) = _
    rw [map_natI ih]
    unfold deepF
    have := natI_max (l.map deepE) 0
    show (natI (l.map deepE)).foldl max ((0 : Nat) : Int) + 1 = _
    rw [this]
    rfl
theorem nat_sum_take (L : List Nat) (k : Nat) : (L.take k).sum ≤ L.sum := by
  induction L generalizing k with
  | nil => simp
  | cons a t ih =>
    cases k with
    | zero => simp
    | succ k => rw [List.take_succ_cons, List.sum_cons, List.sum_cons]; have := ih k; omega
end Go.Proofs.YtknbomikiakpmaaDoor

/- expr.May; Size, Deep, May by fold. -/
namespace Go.Proofs.YtknbomikiakpmaaDoor
open Go.RowKit
set_option linter.unusedSimpArgs false
set_option linter.unusedVariables false
def mayF (e : Ex) (l : List Bool) : Bool := l.any id || mayO e
theorem mayB (e : Ex) : foldE mayF e = mayE e := rfl
def SmallE (n : Nat) (e : Ex) : Prop := sizeE e ≤ n
theorem SmallE.within {n : Nat} {e : Ex} (h : SmallE n e) : ∀ x ∈ e.l, SmallE n x := fun x hx => by have := sizeE_within hx; unfold SmallE at *; omega
theorem SmallE.len {n : Nat} {e : Ex} (h : SmallE n e) : e.l.length ≤ n := by have := sizeE_len e; unfold SmallE at h; omega
end Go.Proofs.YtknbomikiakpmaaDoor

/- Layer 11: the tables of block, and the contracts of its small functions. -/
namespace Go.Proofs.YtknbomikiakpmaaDoor
open Go.RowKit
set_option linter.unusedSimpArgs false
set_option linter.unusedVariables false
def rowsV : List Value := [.string ⟨#[73, 78]⟩, .int .i64 1, .string ⟨#[80, 84]⟩, .int .i64 6, .string ⟨#[81]⟩, .int .i64 1, .string ⟨#[69, 84]⟩, .int .i64 6, .string ⟨#[]⟩, .int .i64 0, .string ⟨#[]⟩, .int .i64 0, .string ⟨#[]⟩, .int .i64 0, .string ⟨#[]⟩, .int .i64 0, .string ⟨#[67, 85]⟩, .int .i64 1, .string ⟨#[82]⟩, .int .i64 1, .string ⟨#[80, 86]⟩, .int .i64 2, .string ⟨#[81]⟩, .int .i64 1, .string ⟨#[67, 86]⟩, .int .i64 2, .string ⟨#[]⟩, .int .i64 0, .string ⟨#[]⟩, .int .i64 0, .string ⟨#[]⟩, .int .i64 0, .string ⟨#[67, 68]⟩, .int .i64 1, .string ⟨#[76, 68]⟩, .int .i64 1, .string ⟨#[80, 86]⟩, .int .i64 2, .string ⟨#[81]⟩, .int .i64 1, .string ⟨#[67, 86]⟩, .int .i64 2, .string ⟨#[]⟩, .int .i64 0, .string ⟨#[]⟩, .int .i64 0, .string ⟨#[]⟩, .int .i64 0, .string ⟨#[67, 85]⟩, .int .i64 1, .string ⟨#[67, 68]⟩, .int .i64 1, .string ⟨#[82]⟩, .int .i64 1, .string ⟨#[76, 68]⟩, .int .i64 1, .string ⟨#[80, 86]⟩, .int .i64 2, .string ⟨#[81, 85]⟩, .int .i64 1, .string ⟨#[81, 68]⟩, .int .i64 1, .string ⟨#[67, 86]⟩, .int .i64 2, .string ⟨#[67, 76, 75]⟩, .int .i64 1, .string ⟨#[81]⟩, .int .i64 1, .string ⟨#[]⟩, .int .i64 0, .string ⟨#[]⟩, .int .i64 0, .string ⟨#[]⟩, .int .i64 0, .string ⟨#[]⟩, .int .i64 0, .string ⟨#[]⟩, .int .i64 0, .string ⟨#[]⟩, .int .i64 0]
structure BTab (w : World) : Prop where
  sh : ∀ i : Nat, w.cell? ⟨1, i, none⟩ = bShapesV[i]?
  rw : ∀ i : Nat, w.cell? ⟨0, i, none⟩ = rowsV[i]?
  big0 : 1 < w.heap.size
  big1 : 0 < w.heap.size
theorem BTab.below {w w' : World} (h : BTab w) (hb : Below w.heap.size w w') : BTab w' :=
  ⟨fun i => (hb.cell h.big0).trans (h.sh i), fun i => (hb.cell h.big1).trans (h.rw i), Nat.lt_of_lt_of_le h.big0 hb.size, Nat.lt_of_lt_of_le h.big1 hb.size⟩
theorem BTab.bs {w : World} (h : BTab w) : BSh w := ⟨h.sh, h.big0⟩
theorem block_Fields (k : Int) (w : World) (hT : BTab w) : Calls Tryd.prog 74 #[.int .i64 k] w fun e w' => e = .returned (.int .i64 ((bF k).length : Int)) ∧ w = w' := block_FieldsS k w hT.bs
def bR (k : Int) : Int := if k = 1 ∨ k = 2 ∨ k = 3 then 0 else if k = 4 then 1 else if k = 5 then 2 else if k = 6 then 3 else 4
theorem block_row (k : Int) (h : 1 ≤ k ∧ k ≤ 8) (w : World) : Calls Tryd.prog 75 #[.int .i64 k] w fun e w' => e = .returned (.int .i64 (bR k)) ∧ w = w' := by
  rcases k8 h with h | h | h | h | h | h | h | h
  all_goals
    subst h
    go_enter Tryd.func75, Tryd.ntmps75
    go_wp2
    go_ret
    exact ⟨rfl, rfl⟩
end Go.Proofs.YtknbomikiakpmaaDoor

/- Layer 11: Field, and the answer's Fields. -/
namespace Go.Proofs.YtknbomikiakpmaaDoor
open Go.RowKit
set_option linter.unusedSimpArgs false
set_option linter.unusedVariables false
set_option maxHeartbeats 4000000 in
theorem block_Field (k i : Int) (w : World) (hT : BTab w) : Calls Tryd.prog 68 #[.int .i64 k, .int .i64 i] w fun e w' => e = .returned (.tuple #[.string (fldS k i), .int .i64 (fldT k i)]) ∧ Below w.heap.size w w' := by
  by_cases hi : 0 ≤ i ∧ i < ((bF k).length : Int)
  · have hk : 1 ≤ k ∧ k ≤ 8 := by
      by_cases h : 1 ≤ k ∧ k ≤ 8
      · exact h
      · rw [bF_no h] at hi; simp at hi; omega
    have hR := block_row k hk
    rcases k8 hk with h | h | h | h | h | h | h | h
    · subst h
      have hlen : ((bF 1).length : Int) = 4 := rfl
      rw [hlen] at hi
      rcases (show i = 0 ∨ i = 1 ∨ i = 2 ∨ i = 3 by omega) with h | h | h | h
      · subst h
        have c0 : w.cell? ⟨0, 0, none⟩ = some (.string ⟨#[73, 78]⟩) := hT.rw 0
        have c1 : w.cell? ⟨0, 1, none⟩ = some (.int .i64 1) := hT.rw 1
        go_enter Tryd.func68, Tryd.ntmps68
        go_wp2_with fail
        refine (block_Fields _ _ hT).mono ?_; rintro e w' ⟨rfl, rfl⟩
        go_wp2_with fail
        refine (hR _).mono ?_; rintro e w' ⟨rfl, rfl⟩
        rw [show bR 1 = 0 from rfl]
        go_wp2_with fail
        go_quiet (fail)
        go_wp2_with fail
        go_returns
        exact ⟨rfl, by (repeat' (first | (with_reducible exact Below.refl _ _) | (with_reducible assumption) | (with_reducible refine below_drewN ?_ _) | (with_reducible refine Below.alloc ?_ ?_ _) | (with_reducible refine Below.drew ?_) | (with_reducible refine Below.setCell ?_ ?_ _) | go_size))⟩
      · subst h
        have c0 : w.cell? ⟨0, 2, none⟩ = some (.string ⟨#[80, 84]⟩) := hT.rw 2
        have c1 : w.cell? ⟨0, 3, none⟩ = some (.int .i64 6) := hT.rw 3
        go_enter Tryd.func68, Tryd.ntmps68
        go_wp2_with fail
        refine (block_Fields _ _ hT).mono ?_; rintro e w' ⟨rfl, rfl⟩
        go_wp2_with fail
        refine (hR _).mono ?_; rintro e w' ⟨rfl, rfl⟩
        rw [show bR 1 = 0 from rfl]
        go_wp2_with fail
        go_quiet (fail)
        go_wp2_with fail
        go_returns
        exact ⟨rfl, by (repeat' (first | (with_reducible exact Below.refl _ _) | (with_reducible assumption) | (with_reducible refine below_drewN ?_ _) | (with_reducible refine Below.alloc ?_ ?_ _) | (with_reducible refine Below.drew ?_) | (with_reducible refine Below.setCell ?_ ?_ _) | go_size))⟩
      · subst h
        have c0 : w.cell? ⟨0, 4, none⟩ = some (.string ⟨#[81]⟩) := hT.rw 4
        have c1 : w.cell? ⟨0, 5, none⟩ = some (.int .i64 1) := hT.rw 5
        go_enter Tryd.func68, Tryd.ntmps68
        go_wp2_with fail
        refine (block_Fields _ _ hT).mono ?_; rintro e w' ⟨rfl, rfl⟩
        go_wp2_with fail
        refine (hR _).mono ?_; rintro e w' ⟨rfl, rfl⟩
        rw [show bR 1 = 0 from rfl]
        go_wp2_with fail
        go_quiet (fail)
        go_wp2_with fail
        go_returns
        exact ⟨rfl, by (repeat' (first | (with_reducible exact Below.refl _ _) | (with_reducible assumption) | (with_reducible refine below_drewN ?_ _) | (with_reducible refine Below.alloc ?_ ?_ _) | (with_reducible refine Below.drew ?_) | (with_reducible refine Below.setCell ?_ ?_ _) | go_size))⟩
      · subst h
        have c0 : w.cell? ⟨0, 6, none⟩ = some (.string ⟨#[69, 84]⟩) := hT.rw 6
        have c1 : w.cell? ⟨0, 7, none⟩ = some (.int .i64 6) := hT.rw 7
        go_enter Tryd.func68, Tryd.ntmps68
        go_wp2_with fail
        refine (block_Fields _ _ hT).mono ?_; rintro e w' ⟨rfl, rfl⟩
        go_wp2_with fail
        refine (hR _).mono ?_; rintro e w' ⟨rfl, rfl⟩
        rw [show bR 1 = 0 from rfl]
        go_wp2_with fail
        go_quiet (fail)
        go_wp2_with fail
        go_returns
        exact ⟨rfl, by (repeat' (first | (with_reducible exact Below.refl _ _) | (with_reducible assumption) | (with_reducible refine below_drewN ?_ _) | (with_reducible refine Below.alloc ?_ ?_ _) | (with_reducible refine Below.drew ?_) | (with_reducible refine Below.setCell ?_ ?_ _) | go_size))⟩
    · subst h
      have hlen : ((bF 2).length : Int) = 4 := rfl
      rw [hlen] at hi
      rcases (show i = 0 ∨ i = 1 ∨ i = 2 ∨ i = 3 by omega) with h | h | h | h
      · subst h
        have c0 : w.cell? ⟨0, 0, none⟩ = some (.string ⟨#[73, 78]⟩) := hT.rw 0
        have c1 : w.cell? ⟨0, 1, none⟩ = some (.int .i64 1) := hT.rw 1
        go_enter Tryd.func68, Tryd.ntmps68
        go_wp2_with fail
        refine (block_Fields _ _ hT).mono ?_; rintro e w' ⟨rfl, rfl⟩
        go_wp2_with fail
        refine (hR _).mono ?_; rintro e w' ⟨rfl, rfl⟩
        rw [show bR 2 = 0 from rfl]
        go_wp2_with fail
        go_quiet (fail)
        go_wp2_with fail
        go_returns
        exact ⟨rfl, by (repeat' (first | (with_reducible exact Below.refl _ _) | (with_reducible assumption) | (with_reducible refine below_drewN ?_ _) | (with_reducible refine Below.alloc ?_ ?_ _) | (with_reducible refine Below.drew ?_) | (with_reducible refine Below.setCell ?_ ?_ _) | go_size))⟩
      · subst h
        have c0 : w.cell? ⟨0, 2, none⟩ = some (.string ⟨#[80, 84]⟩) := hT.rw 2
        have c1 : w.cell? ⟨0, 3, none⟩ = some (.int .i64 6) := hT.rw 3
        go_enter Tryd.func68, Tryd.ntmps68
        go_wp2_with fail
        refine (block_Fields _ _ hT).mono ?_; rintro e w' ⟨rfl, rfl⟩
        go_wp2_with fail
        refine (hR _).mono ?_; rintro e w' ⟨rfl, rfl⟩
        rw [show bR 2 = 0 from rfl]
        go_wp2_with fail
        go_quiet (fail)
        go_wp2_with fail
        go_returns
        exact ⟨rfl, by (repeat' (first | (with_reducible exact Below.refl _ _) | (with_reducible assumption) | (with_reducible refine below_drewN ?_ _) | (with_reducible refine Below.alloc ?_ ?_ _) | (with_reducible refine Below.drew ?_) | (with_reducible refine Below.setCell ?_ ?_ _) | go_size))⟩
      · subst h
        have c0 : w.cell? ⟨0, 4, none⟩ = some (.string ⟨#[81]⟩) := hT.rw 4
        have c1 : w.cell? ⟨0, 5, none⟩ = some (.int .i64 1) := hT.rw 5
        go_enter Tryd.func68, Tryd.ntmps68
        go_wp2_with fail
        refine (block_Fields _ _ hT).mono ?_; rintro e w' ⟨rfl, rfl⟩
        go_wp2_with fail
        refine (hR _).mono ?_; rintro e w' ⟨rfl, rfl⟩
        rw [show bR 2 = 0 from rfl]
        go_wp2_with fail
        go_quiet (fail)
        go_wp2_with fail
        go_returns
        exact ⟨rfl, by (repeat' (first | (with_reducible exact Below.refl _ _) | (with_reducible assumption) | (with_reducible refine below_drewN ?_ _) | (with_reducible refine Below.alloc ?_ ?_ _) | (with_reducible refine Below.drew ?_) | (with_reducible refine Below.setCell ?_ ?_ _) | go_size))⟩
      · subst h
        have c0 : w.cell? ⟨0, 6, none⟩ = some (.string ⟨#[69, 84]⟩) := hT.rw 6
        have c1 : w.cell? ⟨0, 7, none⟩ = some (.int .i64 6) := hT.rw 7
        go_enter Tryd.func68, Tryd.ntmps68
        go_wp2_with fail
        refine (block_Fields _ _ hT).mono ?_; rintro e w' ⟨rfl, rfl⟩
        go_wp2_with fail
        refine (hR _).mono ?_; rintro e w' ⟨rfl, rfl⟩
        rw [show bR 2 = 0 from rfl]
        go_wp2_with fail
        go_quiet (fail)
        go_wp2_with fail
        go_returns
        exact ⟨rfl, by (repeat' (first | (with_reducible exact Below.refl _ _) | (with_reducible assumption) | (with_reducible refine below_drewN ?_ _) | (with_reducible refine Below.alloc ?_ ?_ _) | (with_reducible refine Below.drew ?_) | (with_reducible refine Below.setCell ?_ ?_ _) | go_size))⟩
    · subst h
      have hlen : ((bF 3).length : Int) = 4 := rfl
      rw [hlen] at hi
      rcases (show i = 0 ∨ i = 1 ∨ i = 2 ∨ i = 3 by omega) with h | h | h | h
      · subst h
        have c0 : w.cell? ⟨0, 0, none⟩ = some (.string ⟨#[73, 78]⟩) := hT.rw 0
        have c1 : w.cell? ⟨0, 1, none⟩ = some (.int .i64 1) := hT.rw 1
        go_enter Tryd.func68, Tryd.ntmps68
        go_wp2_with fail
        refine (block_Fields _ _ hT).mono ?_; rintro e w' ⟨rfl, rfl⟩
        go_wp2_with fail
        refine (hR _).mono ?_; rintro e w' ⟨rfl, rfl⟩
        rw [show bR 3 = 0 from rfl]
        go_wp2_with fail
        go_quiet (fail)
        go_wp2_with fail
        go_returns
        exact ⟨rfl, by (repeat' (first | (with_reducible exact Below.refl _ _) | (with_reducible assumption) | (with_reducible refine below_drewN ?_ _) | (with_reducible refine Below.alloc ?_ ?_ _) | (with_reducible refine Below.drew ?_) | (with_reducible refine Below.setCell ?_ ?_ _) | go_size))⟩
      · subst h
        have c0 : w.cell? ⟨0, 2, none⟩ = some (.string ⟨#[80, 84]⟩) := hT.rw 2
        have c1 : w.cell? ⟨0, 3, none⟩ = some (.int .i64 6) := hT.rw 3
        go_enter Tryd.func68, Tryd.ntmps68
        go_wp2_with fail
        refine (block_Fields _ _ hT).mono ?_; rintro e w' ⟨rfl, rfl⟩
        go_wp2_with fail
        refine (hR _).mono ?_; rintro e w' ⟨rfl, rfl⟩
        rw [show bR 3 = 0 from rfl]
        go_wp2_with fail
        go_quiet (fail)
        go_wp2_with fail
        go_returns
        exact ⟨rfl, by (repeat' (first | (with_reducible exact Below.refl _ _) | (with_reducible assumption) | (with_reducible refine below_drewN ?_ _) | (with_reducible refine Below.alloc ?_ ?_ _) | (with_reducible refine Below.drew ?_) | (with_reducible refine Below.setCell ?_ ?_ _) | go_size))⟩
      · subst h
        have c0 : w.cell? ⟨0, 4, none⟩ = some (.string ⟨#[81]⟩) := hT.rw 4
        have c1 : w.cell? ⟨0, 5, none⟩ = some (.int .i64 1) := hT.rw 5
        go_enter Tryd.func68, Tryd.ntmps68
        go_wp2_with fail
        refine (block_Fields _ _ hT).mono ?_; rintro e w' ⟨rfl, rfl⟩
        go_wp2_with fail
        refine (hR _).mono ?_; rintro e w' ⟨rfl, rfl⟩
        rw [show bR 3 = 0 from rfl]
        go_wp2_with fail
        go_quiet (fail)
        go_wp2_with fail
        go_returns
        exact ⟨rfl, by (repeat' (first | (with_reducible exact Below.refl _ _) | (with_reducible assumption) | (with_reducible refine below_drewN ?_ _) | (with_reducible refine Below.alloc ?_ ?_ _) | (with_reducible refine Below.drew ?_) | (with_reducible refine Below.setCell ?_ ?_ _) | go_size))⟩
      · subst h
        have c0 : w.cell? ⟨0, 6, none⟩ = some (.string ⟨#[69, 84]⟩) := hT.rw 6
        have c1 : w.cell? ⟨0, 7, none⟩ = some (.int .i64 6) := hT.rw 7
        go_enter Tryd.func68, Tryd.ntmps68
        go_wp2_with fail
        refine (block_Fields _ _ hT).mono ?_; rintro e w' ⟨rfl, rfl⟩
        go_wp2_with fail
        refine (hR _).mono ?_; rintro e w' ⟨rfl, rfl⟩
        rw [show bR 3 = 0 from rfl]
        go_wp2_with fail
        go_quiet (fail)
        go_wp2_with fail
        go_returns
        exact ⟨rfl, by (repeat' (first | (with_reducible exact Below.refl _ _) | (with_reducible assumption) | (with_reducible refine below_drewN ?_ _) | (with_reducible refine Below.alloc ?_ ?_ _) | (with_reducible refine Below.drew ?_) | (with_reducible refine Below.setCell ?_ ?_ _) | go_size))⟩
    · subst h
      have hlen : ((bF 4).length : Int) = 5 := rfl
      rw [hlen] at hi
      rcases (show i = 0 ∨ i = 1 ∨ i = 2 ∨ i = 3 ∨ i = 4 by omega) with h | h | h | h | h
      · subst h
        have c0 : w.cell? ⟨0, 16, none⟩ = some (.string ⟨#[67, 85]⟩) := hT.rw 16
        have c1 : w.cell? ⟨0, 17, none⟩ = some (.int .i64 1) := hT.rw 17
        go_enter Tryd.func68, Tryd.ntmps68
        go_wp2_with fail
        refine (block_Fields _ _ hT).mono ?_; rintro e w' ⟨rfl, rfl⟩
        go_wp2_with fail
        refine (hR _).mono ?_; rintro e w' ⟨rfl, rfl⟩
        rw [show bR 4 = 1 from rfl]
        go_wp2_with fail
        go_quiet (fail)
        go_wp2_with fail
        go_returns
        exact ⟨rfl, by (repeat' (first | (with_reducible exact Below.refl _ _) | (with_reducible assumption) | (with_reducible refine below_drewN ?_ _) | (with_reducible refine Below.alloc ?_ ?_ _) | (with_reducible refine Below.drew ?_) | (with_reducible refine Below.setCell ?_ ?_ _) | go_size))⟩
      · subst h
        have c0 : w.cell? ⟨0, 18, none⟩ = some (.string ⟨#[82]⟩) := hT.rw 18
        have c1 : w.cell? ⟨0, 19, none⟩ = some (.int .i64 1) := hT.rw 19
        go_enter Tryd.func68, Tryd.ntmps68
        go_wp2_with fail
        refine (block_Fields _ _ hT).mono ?_; rintro e w' ⟨rfl, rfl⟩
        go_wp2_with fail
        refine (hR _).mono ?_; rintro e w' ⟨rfl, rfl⟩
        rw [show bR 4 = 1 from rfl]
        go_wp2_with fail
        go_quiet (fail)
        go_wp2_with fail
        go_returns
        exact ⟨rfl, by (repeat' (first | (with_reducible exact Below.refl _ _) | (with_reducible assumption) | (with_reducible refine below_drewN ?_ _) | (with_reducible refine Below.alloc ?_ ?_ _) | (with_reducible refine Below.drew ?_) | (with_reducible refine Below.setCell ?_ ?_ _) | go_size))⟩
      · subst h
        have c0 : w.cell? ⟨0, 20, none⟩ = some (.string ⟨#[80, 86]⟩) := hT.rw 20
        have c1 : w.cell? ⟨0, 21, none⟩ = some (.int .i64 2) := hT.rw 21
        go_enter Tryd.func68, Tryd.ntmps68
        go_wp2_with fail
        refine (block_Fields _ _ hT).mono ?_; rintro e w' ⟨rfl, rfl⟩
        go_wp2_with fail
        refine (hR _).mono ?_; rintro e w' ⟨rfl, rfl⟩
        rw [show bR 4 = 1 from rfl]
        go_wp2_with fail
        go_quiet (fail)
        go_wp2_with fail
        go_returns
        exact ⟨rfl, by (repeat' (first | (with_reducible exact Below.refl _ _) | (with_reducible assumption) | (with_reducible refine below_drewN ?_ _) | (with_reducible refine Below.alloc ?_ ?_ _) | (with_reducible refine Below.drew ?_) | (with_reducible refine Below.setCell ?_ ?_ _) | go_size))⟩
      · subst h
        have c0 : w.cell? ⟨0, 22, none⟩ = some (.string ⟨#[81]⟩) := hT.rw 22
        have c1 : w.cell? ⟨0, 23, none⟩ = some (.int .i64 1) := hT.rw 23
        go_enter Tryd.func68, Tryd.ntmps68
        go_wp2_with fail
        refine (block_Fields _ _ hT).mono ?_; rintro e w' ⟨rfl, rfl⟩
        go_wp2_with fail
        refine (hR _).mono ?_; rintro e w' ⟨rfl, rfl⟩
        rw [show bR 4 = 1 from rfl]
        go_wp2_with fail
        go_quiet (fail)
        go_wp2_with fail
        go_returns
        exact ⟨rfl, by (repeat' (first | (with_reducible exact Below.refl _ _) | (with_reducible assumption) | (with_reducible refine below_drewN ?_ _) | (with_reducible refine Below.alloc ?_ ?_ _) | (with_reducible refine Below.drew ?_) | (with_reducible refine Below.setCell ?_ ?_ _) | go_size))⟩
      · subst h
        have c0 : w.cell? ⟨0, 24, none⟩ = some (.string ⟨#[67, 86]⟩) := hT.rw 24
        have c1 : w.cell? ⟨0, 25, none⟩ = some (.int .i64 2) := hT.rw 25
        go_enter Tryd.func68, Tryd.ntmps68
        go_wp2_with fail
        refine (block_Fields _ _ hT).mono ?_; rintro e w' ⟨rfl, rfl⟩
        go_wp2_with fail
        refine (hR _).mono ?_; rintro e w' ⟨rfl, rfl⟩
        rw [show bR 4 = 1 from rfl]
        go_wp2_with fail
        go_quiet (fail)
        go_wp2_with fail
        go_returns
        exact ⟨rfl, by (repeat' (first | (with_reducible exact Below.refl _ _) | (with_reducible assumption) | (with_reducible refine below_drewN ?_ _) | (with_reducible refine Below.alloc ?_ ?_ _) | (with_reducible refine Below.drew ?_) | (with_reducible refine Below.setCell ?_ ?_ _) | go_size))⟩
    · subst h
      have hlen : ((bF 5).length : Int) = 5 := rfl
      rw [hlen] at hi
      rcases (show i = 0 ∨ i = 1 ∨ i = 2 ∨ i = 3 ∨ i = 4 by omega) with h | h | h | h | h
      · subst h
        have c0 : w.cell? ⟨0, 32, none⟩ = some (.string ⟨#[67, 68]⟩) := hT.rw 32
        have c1 : w.cell? ⟨0, 33, none⟩ = some (.int .i64 1) := hT.rw 33
        go_enter Tryd.func68, Tryd.ntmps68
        go_wp2_with fail
        refine (block_Fields _ _ hT).mono ?_; rintro e w' ⟨rfl, rfl⟩
        go_wp2_with fail
        refine (hR _).mono ?_; rintro e w' ⟨rfl, rfl⟩
        rw [show bR 5 = 2 from rfl]
        go_wp2_with fail
        go_quiet (fail)
        go_wp2_with fail
        go_returns
        exact ⟨rfl, by (repeat' (first | (with_reducible exact Below.refl _ _) | (with_reducible assumption) | (with_reducible refine below_drewN ?_ _) | (with_reducible refine Below.alloc ?_ ?_ _) | (with_reducible refine Below.drew ?_) | (with_reducible refine Below.setCell ?_ ?_ _) | go_size))⟩
      · subst h
        have c0 : w.cell? ⟨0, 34, none⟩ = some (.string ⟨#[76, 68]⟩) := hT.rw 34
        have c1 : w.cell? ⟨0, 35, none⟩ = some (.int .i64 1) := hT.rw 35
        go_enter Tryd.func68, Tryd.ntmps68
        go_wp2_with fail
        refine (block_Fields _ _ hT).mono ?_; rintro e w' ⟨rfl, rfl⟩
        go_wp2_with fail
        refine (hR _).mono ?_; rintro e w' ⟨rfl, rfl⟩
        rw [show bR 5 = 2 from rfl]
        go_wp2_with fail
        go_quiet (fail)
        go_wp2_with fail
        go_returns
        exact ⟨rfl, by (repeat' (first | (with_reducible exact Below.refl _ _) | (with_reducible assumption) | (with_reducible refine below_drewN ?_ _) | (with_reducible refine Below.alloc ?_ ?_ _) | (with_reducible refine Below.drew ?_) | (with_reducible refine Below.setCell ?_ ?_ _) | go_size))⟩
      · subst h
        have c0 : w.cell? ⟨0, 36, none⟩ = some (.string ⟨#[80, 86]⟩) := hT.rw 36
        have c1 : w.cell? ⟨0, 37, none⟩ = some (.int .i64 2) := hT.rw 37
        go_enter Tryd.func68, Tryd.ntmps68
        go_wp2_with fail
        refine (block_Fields _ _ hT).mono ?_; rintro e w' ⟨rfl, rfl⟩
        go_wp2_with fail
        refine (hR _).mono ?_; rintro e w' ⟨rfl, rfl⟩
        rw [show bR 5 = 2 from rfl]
        go_wp2_with fail
        go_quiet (fail)
        go_wp2_with fail
        go_returns
        exact ⟨rfl, by (repeat' (first | (with_reducible exact Below.refl _ _) | (with_reducible assumption) | (with_reducible refine below_drewN ?_ _) | (with_reducible refine Below.alloc ?_ ?_ _) | (with_reducible refine Below.drew ?_) | (with_reducible refine Below.setCell ?_ ?_ _) | go_size))⟩
      · subst h
        have c0 : w.cell? ⟨0, 38, none⟩ = some (.string ⟨#[81]⟩) := hT.rw 38
        have c1 : w.cell? ⟨0, 39, none⟩ = some (.int .i64 1) := hT.rw 39
        go_enter Tryd.func68, Tryd.ntmps68
        go_wp2_with fail
        refine (block_Fields _ _ hT).mono ?_; rintro e w' ⟨rfl, rfl⟩
        go_wp2_with fail
        refine (hR _).mono ?_; rintro e w' ⟨rfl, rfl⟩
        rw [show bR 5 = 2 from rfl]
        go_wp2_with fail
        go_quiet (fail)
        go_wp2_with fail
        go_returns
        exact ⟨rfl, by (repeat' (first | (with_reducible exact Below.refl _ _) | (with_reducible assumption) | (with_reducible refine below_drewN ?_ _) | (with_reducible refine Below.alloc ?_ ?_ _) | (with_reducible refine Below.drew ?_) | (with_reducible refine Below.setCell ?_ ?_ _) | go_size))⟩
      · subst h
        have c0 : w.cell? ⟨0, 40, none⟩ = some (.string ⟨#[67, 86]⟩) := hT.rw 40
        have c1 : w.cell? ⟨0, 41, none⟩ = some (.int .i64 2) := hT.rw 41
        go_enter Tryd.func68, Tryd.ntmps68
        go_wp2_with fail
        refine (block_Fields _ _ hT).mono ?_; rintro e w' ⟨rfl, rfl⟩
        go_wp2_with fail
        refine (hR _).mono ?_; rintro e w' ⟨rfl, rfl⟩
        rw [show bR 5 = 2 from rfl]
        go_wp2_with fail
        go_quiet (fail)
        go_wp2_with fail
        go_returns
        exact ⟨rfl, by (repeat' (first | (with_reducible exact Below.refl _ _) | (with_reducible assumption) | (with_reducible refine below_drewN ?_ _) | (with_reducible refine Below.alloc ?_ ?_ _) | (with_reducible refine Below.drew ?_) | (with_reducible refine Below.setCell ?_ ?_ _) | go_size))⟩
    · subst h
      have hlen : ((bF 6).length : Int) = 8 := rfl
      rw [hlen] at hi
      rcases (show i = 0 ∨ i = 1 ∨ i = 2 ∨ i = 3 ∨ i = 4 ∨ i = 5 ∨ i = 6 ∨ i = 7 by omega) with h | h | h | h | h | h | h | h
      · subst h
        have c0 : w.cell? ⟨0, 48, none⟩ = some (.string ⟨#[67, 85]⟩) := hT.rw 48
        have c1 : w.cell? ⟨0, 49, none⟩ = some (.int .i64 1) := hT.rw 49
        go_enter Tryd.func68, Tryd.ntmps68
        go_wp2_with fail
        refine (block_Fields _ _ hT).mono ?_; rintro e w' ⟨rfl, rfl⟩
        go_wp2_with fail
        refine (hR _).mono ?_; rintro e w' ⟨rfl, rfl⟩
        rw [show bR 6 = 3 from rfl]
        go_wp2_with fail
        go_quiet (fail)
        go_wp2_with fail
        go_returns
        exact ⟨rfl, by (repeat' (first | (with_reducible exact Below.refl _ _) | (with_reducible assumption) | (with_reducible refine below_drewN ?_ _) | (with_reducible refine Below.alloc ?_ ?_ _) | (with_reducible refine Below.drew ?_) | (with_reducible refine Below.setCell ?_ ?_ _) | go_size))⟩
      · subst h
        have c0 : w.cell? ⟨0, 50, none⟩ = some (.string ⟨#[67, 68]⟩) := hT.rw 50
        have c1 : w.cell? ⟨0, 51, none⟩ = some (.int .i64 1) := hT.rw 51
        go_enter Tryd.func68, Tryd.ntmps68
        go_wp2_with fail
        refine (block_Fields _ _ hT).mono ?_; rintro e w' ⟨rfl, rfl⟩
        go_wp2_with fail
        refine (hR _).mono ?_; rintro e w' ⟨rfl, rfl⟩
        rw [show bR 6 = 3 from rfl]
        go_wp2_with fail
        go_quiet (fail)
        go_wp2_with fail
        go_returns
        exact ⟨rfl, by (repeat' (first | (with_reducible exact Below.refl _ _) | (with_reducible assumption) | (with_reducible refine below_drewN ?_ _) | (with_reducible refine Below.alloc ?_ ?_ _) | (with_reducible refine Below.drew ?_) | (with_reducible refine Below.setCell ?_ ?_ _) | go_size))⟩
      · subst h
        have c0 : w.cell? ⟨0, 52, none⟩ = some (.string ⟨#[82]⟩) := hT.rw 52
        have c1 : w.cell? ⟨0, 53, none⟩ = some (.int .i64 1) := hT.rw 53
        go_enter Tryd.func68, Tryd.ntmps68
        go_wp2_with fail
        refine (block_Fields _ _ hT).mono ?_; rintro e w' ⟨rfl, rfl⟩
        go_wp2_with fail
        refine (hR _).mono ?_; rintro e w' ⟨rfl, rfl⟩
        rw [show bR 6 = 3 from rfl]
        go_wp2_with fail
        go_quiet (fail)
        go_wp2_with fail
        go_returns
        exact ⟨rfl, by (repeat' (first | (with_reducible exact Below.refl _ _) | (with_reducible assumption) | (with_reducible refine below_drewN ?_ _) | (with_reducible refine Below.alloc ?_ ?_ _) | (with_reducible refine Below.drew ?_) | (with_reducible refine Below.setCell ?_ ?_ _) | go_size))⟩
      · subst h
        have c0 : w.cell? ⟨0, 54, none⟩ = some (.string ⟨#[76, 68]⟩) := hT.rw 54
        have c1 : w.cell? ⟨0, 55, none⟩ = some (.int .i64 1) := hT.rw 55
        go_enter Tryd.func68, Tryd.ntmps68
        go_wp2_with fail
        refine (block_Fields _ _ hT).mono ?_; rintro e w' ⟨rfl, rfl⟩
        go_wp2_with fail
        refine (hR _).mono ?_; rintro e w' ⟨rfl, rfl⟩
        rw [show bR 6 = 3 from rfl]
        go_wp2_with fail
        go_quiet (fail)
        go_wp2_with fail
        go_returns
        exact ⟨rfl, by (repeat' (first | (with_reducible exact Below.refl _ _) | (with_reducible assumption) | (with_reducible refine below_drewN ?_ _) | (with_reducible refine Below.alloc ?_ ?_ _) | (with_reducible refine Below.drew ?_) | (with_reducible refine Below.setCell ?_ ?_ _) | go_size))⟩
      · subst h
        have c0 : w.cell? ⟨0, 56, none⟩ = some (.string ⟨#[80, 86]⟩) := hT.rw 56
        have c1 : w.cell? ⟨0, 57, none⟩ = some (.int .i64 2) := hT.rw 57
        go_enter Tryd.func68, Tryd.ntmps68
        go_wp2_with fail
        refine (block_Fields _ _ hT).mono ?_; rintro e w' ⟨rfl, rfl⟩
        go_wp2_with fail
        refine (hR _).mono ?_; rintro e w' ⟨rfl, rfl⟩
        rw [show bR 6 = 3 from rfl]
        go_wp2_with fail
        go_quiet (fail)
        go_wp2_with fail
        go_returns
        exact ⟨rfl, by (repeat' (first | (with_reducible exact Below.refl _ _) | (with_reducible assumption) | (with_reducible refine below_drewN ?_ _) | (with_reducible refine Below.alloc ?_ ?_ _) | (with_reducible refine Below.drew ?_) | (with_reducible refine Below.setCell ?_ ?_ _) | go_size))⟩
      · subst h
        have c0 : w.cell? ⟨0, 58, none⟩ = some (.string ⟨#[81, 85]⟩) := hT.rw 58
        have c1 : w.cell? ⟨0, 59, none⟩ = some (.int .i64 1) := hT.rw 59
        go_enter Tryd.func68, Tryd.ntmps68
        go_wp2_with fail
        refine (block_Fields _ _ hT).mono ?_; rintro e w' ⟨rfl, rfl⟩
        go_wp2_with fail
        refine (hR _).mono ?_; rintro e w' ⟨rfl, rfl⟩
        rw [show bR 6 = 3 from rfl]
        go_wp2_with fail
        go_quiet (fail)
        go_wp2_with fail
        go_returns
        exact ⟨rfl, by (repeat' (first | (with_reducible exact Below.refl _ _) | (with_reducible assumption) | (with_reducible refine below_drewN ?_ _) | (with_reducible refine Below.alloc ?_ ?_ _) | (with_reducible refine Below.drew ?_) | (with_reducible refine Below.setCell ?_ ?_ _) | go_size))⟩
      · subst h
        have c0 : w.cell? ⟨0, 60, none⟩ = some (.string ⟨#[81, 68]⟩) := hT.rw 60
        have c1 : w.cell? ⟨0, 61, none⟩ = some (.int .i64 1) := hT.rw 61
        go_enter Tryd.func68, Tryd.ntmps68
        go_wp2_with fail
        refine (block_Fields _ _ hT).mono ?_; rintro e w' ⟨rfl, rfl⟩
        go_wp2_with fail
        refine (hR _).mono ?_; rintro e w' ⟨rfl, rfl⟩
        rw [show bR 6 = 3 from rfl]
        go_wp2_with fail
        go_quiet (fail)
        go_wp2_with fail
        go_returns
        exact ⟨rfl, by (repeat' (first | (with_reducible exact Below.refl _ _) | (with_reducible assumption) | (with_reducible refine below_drewN ?_ _) | (with_reducible refine Below.alloc ?_ ?_ _) | (with_reducible refine Below.drew ?_) | (with_reducible refine Below.setCell ?_ ?_ _) | go_size))⟩
      · subst h
        have c0 : w.cell? ⟨0, 62, none⟩ = some (.string ⟨#[67, 86]⟩) := hT.rw 62
        have c1 : w.cell? ⟨0, 63, none⟩ = some (.int .i64 2) := hT.rw 63
        go_enter Tryd.func68, Tryd.ntmps68
        go_wp2_with fail
        refine (block_Fields _ _ hT).mono ?_; rintro e w' ⟨rfl, rfl⟩
        go_wp2_with fail
        refine (hR _).mono ?_; rintro e w' ⟨rfl, rfl⟩
        rw [show bR 6 = 3 from rfl]
        go_wp2_with fail
        go_quiet (fail)
        go_wp2_with fail
        go_returns
        exact ⟨rfl, by (repeat' (first | (with_reducible exact Below.refl _ _) | (with_reducible assumption) | (with_reducible refine below_drewN ?_ _) | (with_reducible refine Below.alloc ?_ ?_ _) | (with_reducible refine Below.drew ?_) | (with_reducible refine Below.setCell ?_ ?_ _) | go_size))⟩
    · subst h
      have hlen : ((bF 7).length : Int) = 2 := rfl
      rw [hlen] at hi
      rcases (show i = 0 ∨ i = 1 by omega) with h | h
      · subst h
        have c0 : w.cell? ⟨0, 64, none⟩ = some (.string ⟨#[67, 76, 75]⟩) := hT.rw 64
        have c1 : w.cell? ⟨0, 65, none⟩ = some (.int .i64 1) := hT.rw 65
        go_enter Tryd.func68, Tryd.ntmps68
        go_wp2_with fail
        refine (block_Fields _ _ hT).mono ?_; rintro e w' ⟨rfl, rfl⟩
        go_wp2_with fail
        refine (hR _).mono ?_; rintro e w' ⟨rfl, rfl⟩
        rw [show bR 7 = 4 from rfl]
        go_wp2_with fail
        go_quiet (fail)
        go_wp2_with fail
        go_returns
        exact ⟨rfl, by (repeat' (first | (with_reducible exact Below.refl _ _) | (with_reducible assumption) | (with_reducible refine below_drewN ?_ _) | (with_reducible refine Below.alloc ?_ ?_ _) | (with_reducible refine Below.drew ?_) | (with_reducible refine Below.setCell ?_ ?_ _) | go_size))⟩
      · subst h
        have c0 : w.cell? ⟨0, 66, none⟩ = some (.string ⟨#[81]⟩) := hT.rw 66
        have c1 : w.cell? ⟨0, 67, none⟩ = some (.int .i64 1) := hT.rw 67
        go_enter Tryd.func68, Tryd.ntmps68
        go_wp2_with fail
        refine (block_Fields _ _ hT).mono ?_; rintro e w' ⟨rfl, rfl⟩
        go_wp2_with fail
        refine (hR _).mono ?_; rintro e w' ⟨rfl, rfl⟩
        rw [show bR 7 = 4 from rfl]
        go_wp2_with fail
        go_quiet (fail)
        go_wp2_with fail
        go_returns
        exact ⟨rfl, by (repeat' (first | (with_reducible exact Below.refl _ _) | (with_reducible assumption) | (with_reducible refine below_drewN ?_ _) | (with_reducible refine Below.alloc ?_ ?_ _) | (with_reducible refine Below.drew ?_) | (with_reducible refine Below.setCell ?_ ?_ _) | go_size))⟩
    · subst h
      have hlen : ((bF 8).length : Int) = 2 := rfl
      rw [hlen] at hi
      rcases (show i = 0 ∨ i = 1 by omega) with h | h
      · subst h
        have c0 : w.cell? ⟨0, 64, none⟩ = some (.string ⟨#[67, 76, 75]⟩) := hT.rw 64
        have c1 : w.cell? ⟨0, 65, none⟩ = some (.int .i64 1) := hT.rw 65
        go_enter Tryd.func68, Tryd.ntmps68
        go_wp2_with fail
        refine (block_Fields _ _ hT).mono ?_; rintro e w' ⟨rfl, rfl⟩
        go_wp2_with fail
        refine (hR _).mono ?_; rintro e w' ⟨rfl, rfl⟩
        rw [show bR 8 = 4 from rfl]
        go_wp2_with fail
        go_quiet (fail)
        go_wp2_with fail
        go_returns
        exact ⟨rfl, by (repeat' (first | (with_reducible exact Below.refl _ _) | (with_reducible assumption) | (with_reducible refine below_drewN ?_ _) | (with_reducible refine Below.alloc ?_ ?_ _) | (with_reducible refine Below.drew ?_) | (with_reducible refine Below.setCell ?_ ?_ _) | go_size))⟩
      · subst h
        have c0 : w.cell? ⟨0, 66, none⟩ = some (.string ⟨#[81]⟩) := hT.rw 66
        have c1 : w.cell? ⟨0, 67, none⟩ = some (.int .i64 1) := hT.rw 67
        go_enter Tryd.func68, Tryd.ntmps68
        go_wp2_with fail
        refine (block_Fields _ _ hT).mono ?_; rintro e w' ⟨rfl, rfl⟩
        go_wp2_with fail
        refine (hR _).mono ?_; rintro e w' ⟨rfl, rfl⟩
        rw [show bR 8 = 4 from rfl]
        go_wp2_with fail
        go_quiet (fail)
        go_wp2_with fail
        go_returns
        exact ⟨rfl, by (repeat' (first | (with_reducible exact Below.refl _ _) | (with_reducible assumption) | (with_reducible refine below_drewN ?_ _) | (with_reducible refine Below.alloc ?_ ?_ _) | (with_reducible refine Below.drew ?_) | (with_reducible refine Below.setCell ?_ ?_ _) | go_size))⟩
  · obtain ⟨q1, q2⟩ := fld_no hi
    have Q1 := Lib.hid q1
    have Q2 := Lib.hid q2
    clear q1 q2
    by_cases h0 : i < 0
    · go_enter Tryd.func68, Tryd.ntmps68
      go_wp2_with fail
      go_returns
      exact ⟨by rw [Q1.out, Q2.out]; rfl, Below.refl _ _⟩
    · have hB := block_Fields k w hT
      generalize ((bF k).length : Int) = n at *
      have hge : n ≤ i := by omega
      go_enter Tryd.func68, Tryd.ntmps68
      go_wp2_with fail
      refine hB.mono ?_; rintro e w' ⟨rfl, rfl⟩
      go_wp2_with fail
      go_returns
      exact ⟨by rw [Q1.out, Q2.out]; rfl, Below.refl _ _⟩
end Go.Proofs.YtknbomikiakpmaaDoor

/- Cells of older blocks, in later worlds. -/
namespace Go.Proofs.YtknbomikiakpmaaDoor
open Go.RowKit
theorem cellB {a b : World} (k : Below a.heap.size a b) {g o : Nat} {v : Value} (hc : a.cell? ⟨g, o, none⟩ = some v) (hp : g < a.heap.size) : b.cell? ⟨g, o, none⟩ = some v := (k.cell (p := ⟨g, o, none⟩) hp).trans hc
end Go.Proofs.YtknbomikiakpmaaDoor

/- Layer 26: the document's Size, Deep, May, Room, Few. -/
namespace Go.Proofs.YtknbomikiakpmaaDoor
open Go.RowKit
set_option linter.unusedSimpArgs false
set_option linter.unusedVariables false
/-- what a loop over the expressions within needs -/
theorem box_expr (w : World) (o1 o2 o3 o4 : Int) (s : Value) : ∃ W0, W0 = w.alloc (.cells #[.int .i64 o1, .int .i64 o2, .int .i64 o3, .int .i64 o4, s] 37) ∧ W0.heap[w.heap.size]? = some (.cells #[.int .i64 o1, .int .i64 o2, .int .i64 o3, .int .i64 o4, s] 37) ∧ Below w.heap.size w W0 ∧ W0.heap.size = w.heap.size + 1 :=
  ⟨_, rfl, get_last rfl, by (repeat' (first | (with_reducible exact Below.refl _ _) | (with_reducible assumption) | (with_reducible refine below_drewN ?_ _) | (with_reducible refine Below.alloc ?_ ?_ _) | (with_reducible refine Below.drew ?_) | (with_reducible refine Below.setCell ?_ ?_ _) | go_size)), by simp⟩
noncomputable def roomL : List (Int → Int → Int) → Int → Int → Int
  | [], m, _ => m
  | f :: t, m, d => if f m d < 0 then -1 else roomL t (f m d) d
noncomputable def roomE : Ex → Int → Int → Int := foldE fun _ fs m d => if m < 1 ∨ d < 1 then -1 else roomL fs (m - 1) (d - 1)
theorem roomE_mk (e : Ex) (m d : Int) : roomE e m d = if m < 1 ∨ d < 1 then -1 else roomL (e.l.map roomE) (m - 1) (d - 1) := by
  have h := congrFun (congrFun (foldE_eq (α := Int → Int → Int) (fun _ fs m d => if m < 1 ∨ d < 1 then -1 else roomL fs (m - 1) (d - 1)) e) m) d
  exact h
theorem roomL_ok {l : List Ex} (h : ∀ x ∈ l, ∀ m d, (roomE x m d = -1 ∨ 0 ≤ roomE x m d ∧ roomE x m d = m - sizeE x)) : ∀ m d, 0 ≤ m → roomL (l.map roomE) m d = -1 ∨ 0 ≤ roomL (l.map roomE) m d ∧ roomL (l.map roomE) m d = m - ((l.map sizeE).sum : Nat) := by
  induction l with
  | nil => intro m d hm; exact Or.inr ⟨hm, by simp [roomL]⟩
  | cons x t ih =>
    intro m d hm
    rw [List.map_cons, roomL, List.map_cons, List.sum_cons]
    by_cases hn : roomE x m d < 0
    · rw [if_pos hn]; exact Or.inl rfl
    · rw [if_neg hn]
      rcases h x (by simp) m d with h1 | ⟨h1, h2⟩
      · omega
      · rcases ih (fun y hy => h y (by simp [hy])) (roomE x m d) d h1 with h3 | ⟨h3, h4⟩
        · exact Or.inl h3
        · exact Or.inr ⟨h3, by rw [h4, h2]; omega⟩
theorem roomE_ok (e : Ex) : ∀ m d, roomE e m d = -1 ∨ 0 ≤ roomE e m d ∧ roomE e m d = m - sizeE e := by
  induction e using Ex.ind with
  | h op t n m l ih =>
    intro M d
    rw [roomE_mk]
    split
    · exact Or.inl rfl
    · rename_i hc
      rcases roomL_ok ih (M - 1) (d - 1) (by omega) with h | ⟨h1, h2⟩
      · exact Or.inl h
      · refine Or.inr ⟨h1, ?_⟩
        show roomL (l.map roomE) _ _ = _
        rw [h2, sizeE_mk]
        show M - 1 - ((l.map sizeE).sum : Nat) = M - ((1 + (l.map sizeE).sum : Nat) : Int)
        omega
def fewE (e : Ex) (m : Int) : Prop := 0 ≤ roomE e m 40
theorem fewE_small {e : Ex} {m : Nat} (h : 0 ≤ roomE e m 40) : SmallE m e := by
  rcases roomE_ok e m 40 with h1 | ⟨h1, h2⟩
  · omega
  · unfold SmallE; omega
set_option maxHeartbeats 1000000 in
theorem ref26_Room : ∀ e, ∀ (M D : Int), M ≤ 100000 → D ≤ 100000 → -100000 ≤ M → -100000 ≤ D → ∀ w v, ExV w v e → Calls Tryd.prog 35 #[v, .int .i64 M, .int .i64 D] w fun r w' => r = .returned (.int .i64 (roomE e M D)) ∧ Below w.heap.size w w' := by
  intro e
  induction e using Ex.ind with
  | h op t n m l ih =>
    intro M D hM hD hM0 hD0 w v hv
    have HIH := Lib.hid (fun x (hx : x ∈ l) M D h1 h2 h3 h4 W u (hu : ExV W u x) => ih x hx M D h1 h2 h3 h4 W u hu)
    have HZ := Lib.hid (show roomE ⟨op, t, n, m, l⟩ M D = if M < 1 ∨ D < 1 then -1 else roomL (l.map roomE) (M - 1) (D - 1) from roomE_mk _ _ _)
    obtain ⟨s, rfl, hr, hrow⟩ := hv
    obtain ⟨sa, sc, rfl⟩ := row_get hrow
    have HX := Lib.hid hrow
    have hlen := hrow.len
    obtain ⟨N, hN⟩ : ∃ N, l.length = N := ⟨_, rfl⟩
    have HN := Lib.hid hN
    simp only at HX hlen ⊢
    rw [hN] at HX hlen ⊢
    clear hN ih hrow hr
    obtain ⟨W0, hW0, o0, hb0, hsz0⟩ := box_expr w op t n m (.slice sa N sc)
    have HW0 := Lib.hid hW0
    have HO0 := Lib.hid o0
    have HB0 := Lib.hid hb0
    clear hW0 o0 hb0
    by_cases h1 : M < 1
    · rw [if_pos (Or.inl h1)] at HZ
      rw [HZ.out]
      have p1 : (M < 1) = True := eq_true h1
      clear h1
      go_enter Tryd.func35, Tryd.ntmps35
      go_wp2_with fail
      go_ret
      exact ⟨rfl, by (repeat' (first | (with_reducible exact Below.refl _ _) | (with_reducible assumption) | (with_reducible refine below_drewN ?_ _) | (with_reducible refine Below.alloc ?_ ?_ _) | (with_reducible refine Below.drew ?_) | (with_reducible refine Below.setCell ?_ ?_ _) | go_size))⟩
    have p1 : (M < 1) = False := eq_false h1
    by_cases h2 : D < 1
    · rw [if_pos (Or.inr h2)] at HZ
      rw [HZ.out]
      have p2 : (D < 1) = True := eq_true h2
      clear h1 h2
      go_enter Tryd.func35, Tryd.ntmps35
      go_wp2_with fail
      go_ret
      exact ⟨rfl, by (repeat' (first | (with_reducible exact Below.refl _ _) | (with_reducible assumption) | (with_reducible refine below_drewN ?_ _) | (with_reducible refine Below.alloc ?_ ?_ _) | (with_reducible refine Below.drew ?_) | (with_reducible refine Below.setCell ?_ ?_ _) | go_size))⟩
    have p2 : (D < 1) = False := eq_false h2
    rw [if_neg (by omega)] at HZ
    obtain ⟨R, hR⟩ : ∃ R, roomE ⟨op, t, n, m, l⟩ M D = R := ⟨_, rfl⟩
    rw [hR] at HZ ⊢
    clear hR
    have HM := Lib.hid (show 0 ≤ M - 1 ∧ M - 1 ≤ 100000 by omega)
    go_enter Tryd.func35, Tryd.ntmps35
    go_wp2_with fail
    rw [← HW0.out]
    go_loopw [1, 7] (fun o jj wr => ∃ (k : Nat) (c : Int), k ≤ N ∧ jj = .int .i64 k ∧ o = .int .i64 c ∧ 0 ≤ c ∧ c ≤ 100000 ∧ Hid (R = roomL ((l.map roomE).drop k) c (D - 1)) ∧ Hid (Below W0.heap.size W0 wr)) (fun _ jj _ => N - (intOf jj).toNat)
    case atStart => exact ⟨0, M - 1, by omega, rfl, rfl, HM.out.1, HM.out.2, Lib.hid HZ.out, Lib.hid (Below.refl _ _)⟩
    case round =>
      obtain ⟨k, c, hk, rfl, rfl, hc0, hc9, hRL, hB⟩ := hrel
      clear HZ HM p1 h1

      have hBw := HB0.out.trans (hB.out.mono (by omega))
      have o1 := obj_below HO0.out hB.out (by omega)
      have c4 : wr.cell? ⟨w.heap.size, 4, none⟩ = some (.slice sa N sc) := obj_cell o1 (i := 4) rfl
      have hbl := heap_lt o1
      by_cases hlt : k < N
      · have qk : ((k : Int) < (N : Int)) = True := eq_true (by omega)
        have qk' : (k < N) = True := eq_true hlt
        obtain ⟨x, hx⟩ := get_some (L := l) (n := k) (by rw [HN.out]; exact hlt)
        obtain ⟨b, off, s1, sn1, sc1, rfl, hbw, hc1, hc2, d0, d1, d2, d3, d4, hxv⟩ := ex_at HX.out hx
        have hmem := List.mem_of_getElem? hx
        have d0 := (hBw.cell (p := ⟨b, off + k * 5, none⟩) hbw).trans d0
        have d1 := (hBw.cell (p := ⟨b, off + k * 5 + 1, none⟩) hbw).trans d1
        have d2 := (hBw.cell (p := ⟨b, off + k * 5 + 2, none⟩) hbw).trans d2
        have d3 := (hBw.cell (p := ⟨b, off + k * 5 + 3, none⟩) hbw).trans d3
        have d4 := (hBw.cell (p := ⟨b, off + k * 5 + 4, none⟩) hbw).trans d4
        have HC := Lib.hid (HIH.out x hmem c (D - 1) hc9 (by omega) (by omega) (by omega) wr _ (hxv.below hBw))
        have HLT := Lib.hid hlt
        have HBr := Lib.hid hB.out
        have hsz := hB.out.size
        have hk63 : k ≤ 9223372036854775806 := by omega
        have hdr : (l.map roomE).drop k = roomE x :: (l.map roomE).drop (k + 1) := by
          have hkl : k < (l.map roomE).length := by rw [List.length_map, HN.out]; exact hlt
          rw [List.drop_eq_getElem_cons hkl]
          congr 1
          rw [List.getElem_map]
          congr 1
          have := hx
          rw [List.getElem?_eq_getElem (by rw [HN.out]; exact hlt)] at this
          exact Option.some.inj this
        rw [hdr] at hRL
        have hRL := Lib.hid (show R = if roomE x c (D - 1) < 0 then -1 else roomL ((l.map roomE).drop (k + 1)) (roomE x c (D - 1)) (D - 1) from hRL.out)
        have hok := roomE_ok x c (D - 1)
        have hsp := sizeE_pos x
        obtain ⟨z, hz⟩ : ∃ z, roomE x c (D - 1) = z := ⟨_, rfl⟩
        rw [hz] at HC hRL hok
        have hz9 : z ≤ 100000 := by omega
        clear hz hx hmem hxv hlt hBw o1 hdr
        by_cases hn : z < 0
        · have q1 : (z < 0) = True := eq_true hn
          rw [if_pos hn] at hRL
          have HBW := Lib.hid (HB0.out.trans (HBr.out.mono (by omega)))
          clear hok
          go_wp2_with fail
          refine HC.out.mono ?_; rintro r w2 ⟨rfl, hb2⟩
          go_wp2_with fail
          go_ret
          exact ⟨by rw [hRL.out]; rfl, HBW.out.trans (hb2.mono HBW.out.size)⟩
        · have q1 : (z < 0) = False := eq_false hn
          rw [if_neg hn] at hRL
          have HZ0 := Lib.hid (show 0 ≤ z by omega)
          clear hok hn
          go_wp2_with fail
          refine HC.out.mono ?_; rintro r w2 ⟨rfl, hb2⟩
          have HB2 := Lib.hid (HBr.out.trans (hb2.mono hsz))
          clear hb2
          go_wp2_with fail
          go_roundw
          case rel => exact ⟨k + 1, z, by have := HLT.out; omega, by simp, rfl, HZ0.out, hz9, hRL, HB2⟩
          case measure => have := HLT.out; first | (simp [intOf]; done) | (simp [intOf]; omega)
      · obtain rfl : k = N := by omega
        have qk : ((k : Int) < (k : Int)) = False := eq_false (by omega)
        have qk' : (k < k) = False := eq_false (by omega)
        have hRc := Lib.hid (show R = c from by
          have := hRL.out
          rw [List.drop_of_length_le (by rw [List.length_map, HN.out]; exact Nat.le_refl _)] at this
          exact this)
        have HBW := Lib.hid hBw
        clear hBw o1 hRL
        go_wp2_with fail
        go_ret
        exact ⟨by rw [hRc.out]; rfl, HBW.out⟩
theorem ref26_Few (e : Ex) (M : Nat) (hM : M ≤ 1000) (w : World) (v : Value) (hv : ExV w v e) : Calls Tryd.prog 7 #[v, .int .i64 M] w fun r w' => r = .returned (.bool (decide (0 ≤ roomE e M 40))) ∧ Below w.heap.size w w' := by
  have HR := Lib.hid (fun W u (hu : ExV W u e) => ref26_Room e M 40 (by omega) (by omega) (by omega) (by omega) W u hu)
  obtain ⟨s, rfl, hi, hr⟩ := id hv
  have HV := Lib.hid (fun W (h : Below w.heap.size w W) => hv.below h)
  clear hv hi hr
  generalize roomE e M 40 = R at *
  generalize e.op = o1 at *
  generalize e.t = o2 at *
  generalize e.n = o3 at *
  generalize e.m = o4 at *
  go_enter Tryd.func7, Tryd.ntmps7
  go_wp2_with fail
  refine (HR.out _ _ (HV.out _ (by (repeat' (first | (with_reducible exact Below.refl _ _) | (with_reducible assumption) | (with_reducible refine below_drewN ?_ _) | (with_reducible refine Below.alloc ?_ ?_ _) | (with_reducible refine Below.drew ?_) | (with_reducible refine Below.setCell ?_ ?_ _) | go_size))))).mono ?_; rintro r w2 ⟨rfl, hb⟩
  go_wp2_with fail
  go_ret
  exact ⟨rfl, Below.trans (by (repeat' (first | (with_reducible exact Below.refl _ _) | (with_reducible assumption) | (with_reducible refine below_drewN ?_ _) | (with_reducible refine Below.alloc ?_ ?_ _) | (with_reducible refine Below.drew ?_) | (with_reducible refine Below.setCell ?_ ?_ _) | go_size))) (hb.mono (by simp))⟩
end Go.Proofs.YtknbomikiakpmaaDoor

/- What a block that was made for a value holds. -/
namespace Go.Proofs.YtknbomikiakpmaaDoor
open Go.RowKit
def Boxed (W : World) (g : Nat) (L : List Value) : Prop := ∀ i u, L[i]? = some u → W.cell? ⟨g, i, none⟩ = some u
theorem Boxed.new (W : World) (L : List Value) (t : TypeId) {W' : World} (h : Below (W.heap.size + 1) (W.alloc (.cells L.toArray t)) W') : Boxed W' W.heap.size L := fun i u hu =>
  (h.cell (p := ⟨W.heap.size, i, none⟩) (by show W.heap.size < _; omega)).trans (by rw [cell_at rfl]; simpa using hu)
theorem Boxed.keep {W W' : World} {g : Nat} {L : List Value} (c : Boxed W g L) (hb : g < W.heap.size) (h : Below W.heap.size W W') : Boxed W' g L := fun i u hu => (h.cell (p := ⟨g, i, none⟩) hb).trans (c i u hu)
/-- two boxes, one behind the other -/
theorem boxed2 (w : World) (L M : List Value) (t u : TypeId) {W' : World} (h : Below (w.heap.size + 2) ((w.alloc (.cells L.toArray t)).alloc (.cells M.toArray u)) W') : Boxed W' w.heap.size L ∧ Boxed W' (w.heap.size + 1) M ∧ w.heap.size + 1 < W'.heap.size ∧ Below w.heap.size w W' := by
  have e : (w.alloc (.cells L.toArray t)).heap.size = w.heap.size + 1 := by simp
  have hb : Below w.heap.size w ((w.alloc (.cells L.toArray t)).alloc (.cells M.toArray u)) := Below.alloc (Below.alloc (Below.refl _ _) (by omega) _) (by simp) _
  refine ⟨?_, ?_, by have := h.size; simp at this; omega, hb.trans (h.mono (by omega))⟩
  · exact Boxed.new w L t (Below.trans (Below.alloc (Below.refl _ _) (by simp) _) (h.mono (by omega)))
  · have := Boxed.new (w.alloc (.cells L.toArray t)) M u (W' := W') (by rw [e]; exact h)
    rw [e] at this; exact this
end Go.Proofs.YtknbomikiakpmaaDoor

/- Slices of slices of integers, read. -/
namespace Go.Proofs.YtknbomikiakpmaaDoor
open Go.RowKit
set_option linter.unusedSimpArgs false
set_option linter.unusedVariables false
abbrev gridR : Rep (List Int) := sliceR 1 intR
theorem gridR_stable : Stable gridR := sliceR_stable intR_stable
/-- the k-th number -/
theorem int_at {w : World} {a : Option Addr} {n cap : Nat} {L : List Int} (hv : RowR 1 intR w (.slice a n cap) L) {k : Nat} (hk : k < L.length) :
    ∃ b off, a = some ⟨b, off, none⟩ ∧ b < w.heap.size ∧ n ≤ cap ∧ cap ≤ 9223372036854775807 ∧ w.cell? ⟨b, off + k, none⟩ = some (.int .i64 (L.getD k 0)) ∧ I64 (L.getD k 0) := by
  rcases hv with ⟨_, _, _, rfl, _⟩ | ⟨b, off, cap, h1, h2, h3, h4, h5, h6⟩
  · simp at hk
  · injection h1 with h1 h1' h1''
    subst h1 h1' h1''
    obtain ⟨C, g1, g2, g3, g4⟩ := h6 k L[k] (by simp [hk])
    subst g3
    have e : L.getD k 0 = L[k] := by simp [List.getD, hk]
    rw [e]
    exact ⟨b, off, rfl, h5, h3, h4, by simpa using g2 0 _ rfl, g4⟩
/-- numbers that are places -/
def nI (l : List Nat) : List Int := l.map Int.ofNat
theorem nI_len (l : List Nat) : (nI l).length = l.length := by simp [nI]
theorem nI_app (a b : List Nat) : nI (a ++ b) = nI a ++ nI b := by simp [nI]
theorem nI_rev (a : List Nat) : nI a.reverse = (nI a).reverse := by simp [nI]
/-- a row of truths of the call's own, read -/
theorem owns_bool_at {w : World} {B g n cap : Nat} {e : TypeId} {L : List Bool} (h : w.ownsRow B e 1 (.slice (some ⟨g, 0, none⟩) n cap) n (bV1 L)) {j : Nat} (hj : j < n) (d : Bool) : w.cell? ⟨g, j, none⟩ = some (.bool (L.getD j d)) := by
  have hl := h.1
  rw [bV1_len, Nat.mul_one] at hl
  rw [h.cellAt j (by omega), List.getD_eq_getElem?_getD]
  unfold bV1
  rw [List.getElem?_map, List.getElem?_eq_getElem (by omega)]; rfl
theorem owns_ne {w : World} {B C : Nat} {e f : TypeId} {q p n m : Nat} {v : Value} {g c : Nat} {xs ys : List Value} (h : w.ownsRow B e q v n xs) (k : w.ownsRow C f p (.slice (some ⟨g, 0, none⟩) m c) m ys) (hef : e ≠ f) : v.ownBlock ≠ some g := fun hv => owns_type h k hef hv rfl
end Go.Proofs.YtknbomikiakpmaaDoor
