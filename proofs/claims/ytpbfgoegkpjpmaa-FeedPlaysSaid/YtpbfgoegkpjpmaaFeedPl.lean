/- Layer 51: what waits, on both sides, and what keeps it. -/
import Derived.Test.YtpbfgoegkpjpmaaFeedRefN
namespace Go.Proofs.Ytpbfgoegkpjpmaa
open Go.RowKit
set_option linter.unusedSimpArgs false
set_option linter.unusedVariables false
structure Sm where
  kind : Int
  L : List Int
  dt : Int
def stepR : Rep Sm := fun w cs s => ∃ a, cs = [.int .u64 s.kind, a, .int .i64 s.dt] ∧ RowR 1 intR w a s.L ∧ 0 ≤ s.kind ∧ s.kind ≤ 18446744073709551615 ∧ I64 s.dt
theorem stepR_stable : Stable stepR := fun _ _ _ _ ⟨a, h1, h2, h3⟩ hb => ⟨a, h1, h2.below intR_stable hb, h3⟩
def iN (X : List Nat) : List Value := X.map fun n : Nat => Value.int .i64 (n : Int)
theorem iN_one (X : List Nat) : ∀ u ∈ iN X, u.oneCell' = true := by
  intro u hu
  obtain ⟨z, _, rfl⟩ := List.mem_map.1 hu
  rfl
theorem iN_snoc (X : List Nat) (k : Nat) : iN (X ++ [k]) = iN X ++ [.int .i64 (k : Int)] := by simp [iN]
/-- a sample that waits: its numbers are a row of its own -/
def Waits (w : World) (B : Nat) (lv v : Value) (s : Sm) : Prop := ∃ r, v = .agg #[r, .int .i64 s.dt] ∧ w.ownsRow B 3 1 r s.L.length (iV s.L) ∧ (∀ z ∈ s.L, I64 z) ∧ s.L.length ≤ 50 ∧ ∀ g, r.ownBlock = some g → lv.ownBlock ≠ some g
theorem owns_obj {w : World} {B : Nat} {e : TypeId} {q n : Nat} {v : Value} {xs : List Value} (h : w.ownsRow B e q v n xs) {g : Nat} (hv : v.ownBlock = some g) : ∃ cur, w.heap[g]? = some (.cells cur e (0, 0)) := by
  rcases h.2 with ⟨h0, _⟩ | ⟨b, cap, cur, h0, hb, h1, _⟩
  · rw [h0] at hv; simp [Value.ownBlock] at hv
  · rw [h0] at hv
    have e1 : b = g := by simpa [Value.ownBlock] using hv
    subst e1
    exact ⟨cur, h1⟩
theorem owns_cong {w w' : World} {B : Nat} {e : TypeId} {q n : Nat} {v : Value} {xs : List Value} (h : w.ownsRow B e q v n xs) (hc : ∀ g, v.ownBlock = some g → w'.heap[g]? = w.heap[g]?) : w'.ownsRow B e q v n xs := by
  obtain ⟨hl, h⟩ := h
  refine ⟨hl, ?_⟩
  rcases h with h | ⟨g, cap, cur, h0, h1, hh, h2⟩
  · exact Or.inl h
  · exact Or.inr ⟨g, cap, cur, h0, h1, (hc g (by rw [h0]; rfl)).trans hh, h2⟩
structure Plays (S : List Sm) (B : Nat) (w : World) (p c q cap : Nat) (buf : Array Value) (lv : Value) (X : List Nat) (sh : Bool) : Prop where
  feed : FeedAt w p c cap buf (if sh then 1 else 0)
  ref : w.heap[q]? = some (.cells #[.int .i64 (cap : Int), lv, .bool sh] 41)
  own : w.ownsRow B 3 1 lv X.length (iN X)
  len : buf.size = X.length
  wait : ∀ (i j : Nat), X[i]? = some j → ∃ s v, S[j]? = some s ∧ buf[i]? = some v ∧ Waits w B lv v s
  base : B ≤ p ∧ B ≤ c ∧ B ≤ q
theorem obj_lt {w : World} {p : Nat} {o : Obj} (h : w.heap[p]? = some o) : p < w.heap.size := by
  by_cases hl : p < w.heap.size
  · exact hl
  · rw [Array.getElem?_eq_none (Nat.le_of_not_lt hl)] at h; cases h
/-- rows of numbers lie in none of the feeds' blocks -/
theorem Plays.row_ne {S : List Sm} {B : Nat} {w : World} {p c q cap : Nat} {buf : Array Value} {lv : Value} {X : List Nat} {sh : Bool} (h : Plays S B w p c q cap buf lv X sh) {C : Nat} {r : Value} {n : Nat} {xs : List Value} (hr : w.ownsRow C 3 1 r n xs) {g : Nat} (hg : r.ownBlock = some g) : g < w.heap.size ∧ g ≠ p ∧ g ≠ c ∧ g ≠ q := by
  obtain ⟨cur, hc⟩ := owns_obj hr hg
  refine ⟨obj_lt hc, ?_, ?_, ?_⟩
  · rintro rfl; have := h.feed.obj; rw [hc] at this; injection this with this; injection this with _ this; exact absurd this (by decide)
  · rintro rfl; obtain ⟨s, r, this⟩ := h.feed.chan; rw [hc] at this; injection this with this; cases this
  · rintro rfl; have := h.ref; rw [hc] at this; injection this with this; injection this with _ this; exact absurd this (by decide)
theorem Plays.ne {S : List Sm} {B : Nat} {w : World} {p c q cap : Nat} {buf : Array Value} {lv : Value} {X : List Nat} {sh : Bool} (h : Plays S B w p c q cap buf lv X sh) : p < w.heap.size ∧ c < w.heap.size ∧ q < w.heap.size ∧ p ≠ c ∧ p ≠ q ∧ c ≠ q := by
  obtain ⟨s, r, hc⟩ := h.feed.chan
  refine ⟨obj_lt h.feed.obj, obj_lt hc, obj_lt h.ref, ?_, ?_, ?_⟩
  · rintro rfl; have := h.feed.obj; rw [hc] at this; injection this with this; cases this
  · rintro rfl; have := h.feed.obj; rw [h.ref] at this; injection this with this; injection this with _ this; exact absurd this (by decide)
  · rintro rfl; have := h.ref; rw [hc] at this; injection this with this; cases this
theorem Plays.waits {S : List Sm} {B : Nat} {w w' : World} {p c q cap : Nat} {buf : Array Value} {lv lv' : Value} {X : List Nat} {sh : Bool} (h : Plays S B w p c q cap buf lv X sh)
    (hf : ∀ g, g < w.heap.size → g ≠ p → g ≠ c → g ≠ q → lv.ownBlock ≠ some g → w'.heap[g]? = w.heap[g]?) (hl : ∀ g, lv'.ownBlock = some g → lv.ownBlock = some g ∨ w.heap.size ≤ g) :
    ∀ (i j : Nat), X[i]? = some j → ∃ s v, S[j]? = some s ∧ buf[i]? = some v ∧ Waits w' B lv' v s := by
  intro i j hij
  obtain ⟨s, v, h1, h2, r, h3, h4, h5, h6, h7⟩ := h.wait i j hij
  refine ⟨s, v, h1, h2, r, h3, owns_cong h4 (fun g hg => ?_), h5, h6, fun g hg hlg => ?_⟩
  · obtain ⟨a1, a2, a3, a4⟩ := h.row_ne h4 hg
    exact hf g a1 a2 a3 a4 (h7 g hg)
  · obtain ⟨a1, _⟩ := h.row_ne h4 hg
    rcases hl g hlg with e | e
    · exact h7 g hg e
    · omega
theorem Plays.keep {S : List Sm} {B : Nat} {w w' : World} {p c q cap : Nat} {buf : Array Value} {lv : Value} {X : List Nat} {sh : Bool} (h : Plays S B w p c q cap buf lv X sh) (hb : Below w.heap.size w w') : Plays S B w' p c q cap buf lv X sh :=
  ⟨h.feed.keep hb, obj_below h.ref hb h.ne.2.2.1, owns_below h.own hb, h.len, h.waits (fun g hg _ _ _ _ => hb.block g hg) (fun g hg => Or.inl hg), h.base⟩
/-- a sample more: first in the feed .. -/
theorem Plays.sent {S : List Sm} {B : Nat} {w w' : World} {p c q cap : Nat} {buf : Array Value} {lv : Value} {X : List Nat} {sh : Bool} (h : Plays S B w p c q cap buf lv X sh) (hg : w.grownBy w' (some c)) :
    w'.heap[q]? = some (.cells #[.int .i64 (cap : Int), lv, .bool sh] 41) ∧ w'.ownsRow B 3 1 lv X.length (iN X) := by
  obtain ⟨n1, n2, n3, n4, n5, n6⟩ := h.ne
  refine ⟨(hg.block q n3 (fun e => by injection e with e; exact n6 e.symm)).trans h.ref, owns_grown h.own hg (fun g hg' e => ?_)⟩
  injection e with e
  exact (h.row_ne h.own hg').2.2.1 e.symm
/-- .. then in the plain one -/
theorem Plays.more {S : List Sm} {B : Nat} {w w' w2 : World} {p c q cap : Nat} {buf : Array Value} {lv lv' r : Value} {X : List Nat} {k : Nat} {s : Sm} (h : Plays S B w p c q cap buf lv X false)
    (hg : w.grownBy w' (some c)) (hF : FeedAt w' p c cap (buf.push (.agg #[r, .int .i64 s.dt])) 0) (hr : w'.ownsRow w.heap.size 3 1 r s.L.length (iV s.L)) (hs : S[k]? = some s) (hi : ∀ z ∈ s.L, I64 z) (h50 : s.L.length ≤ 50)
    (hB : B ≤ w.heap.size)
    (hO : w2.ownsRow B 3 1 lv' (X.length + 1) (iN X ++ [.int .i64 (k : Int)])) (hR : w2.heap[q]? = some (.cells #[.int .i64 (cap : Int), lv', .bool false] 41))
    (hat : lv'.ownBlock = lv.ownBlock ∨ ∃ b, lv'.ownBlock = some b ∧ w'.heap.size ≤ b) (hf : ∀ g, g < w'.heap.size → g ≠ q → lv.ownBlock ≠ some g → w2.heap[g]? = w'.heap[g]?) :
    Plays S B w2 p c q cap (buf.push (.agg #[r, .int .i64 s.dt])) lv' (X ++ [k]) false := by
  obtain ⟨n1, n2, n3, n4, n5, n6⟩ := h.ne
  have hsz := hg.size
  have lne : ∀ g, lv.ownBlock = some g → g < w.heap.size ∧ g ≠ p ∧ g ≠ c ∧ g ≠ q := fun g hg => h.row_ne h.own hg
  have hl : ∀ g, lv'.ownBlock = some g → lv.ownBlock = some g ∨ w.heap.size ≤ g := by
    intro g hg'
    rcases hat with e | ⟨b, e, hb⟩
    · exact Or.inl (e ▸ hg')
    · rw [e] at hg'
      have : b = g := by injection hg'
      exact Or.inr (by omega)
  obtain ⟨cs, cr, hch⟩ := hF.chan
  refine ⟨⟨(hf p (by omega) n5 (fun e => (lne p e).2.1 rfl)).trans hF.obj, cs, cr, (hf c (by omega) n6 (fun e => (lne c e).2.2.1 rfl)).trans hch⟩, hR, by rw [iN_snoc, List.length_append]; exact hO, by simp [h.len], ?_, h.base⟩
  intro i j hij
  by_cases hi' : i < X.length
  · rw [List.getElem?_append_left hi'] at hij
    obtain ⟨s', v', a1, a2, a3⟩ := h.waits (w' := w2) (lv' := lv') (fun g g1 g2 g3 g4 g5 => (hf g (by omega) g4 g5).trans (hg.block g g1 (fun e => by injection e with e; exact g3 e))) hl i j hij
    refine ⟨s', v', a1, ?_, a3⟩
    rw [Array.getElem?_push, if_neg (by rw [h.len]; omega)]
    exact a2
  · have hin : i = X.length := by
      have := lt_of_get hij
      simp at this
      omega
    subst hin
    have hjk : k = j := by simpa using hij
    subst hjk
    refine ⟨s, _, hs, by rw [Array.getElem?_push, if_pos h.len.symm], r, rfl, ?_, hi, h50, ?_⟩
    · refine owns_cong (own_low hr hB) (fun g hg' => ?_)
      obtain ⟨g1, g2⟩ := owns_lt hr hg'
      exact hf g g2 (by omega) (fun e => by have := (lne g e).1; omega)
    · intro g hg' e
      obtain ⟨g1, g2⟩ := owns_lt hr hg'
      rcases hat with e' | ⟨b, e', hb⟩
      · rw [e'] at e; have := (lne g e).1; omega
      · rw [e'] at e
        have : b = g := by injection e
        omega
/-- a sample less -/
theorem Plays.less {S : List Sm} {B : Nat} {w w' w2 : World} {p c q cap : Nat} {buf : Array Value} {lv lv' : Value} {X : List Nat} {k : Nat} {sh : Bool} (h : Plays S B w p c q cap buf lv (k :: X) sh)
    (hg : w.grownBy w' (some c)) (hF : FeedAt w' p c cap (buf.extract 1 buf.size) (if sh then 1 else 0)) (hB : B ≤ w.heap.size)
    (hO : w2.ownsRow w'.heap.size 3 1 lv' X.length (iN X)) (hR : w2.heap[q]? = some (.cells #[.int .i64 (cap : Int), lv', .bool sh] 41))
    (hf : ∀ g, g < w'.heap.size → g ≠ q → w2.heap[g]? = w'.heap[g]?) :
    Plays S B w2 p c q cap (buf.extract 1 buf.size) lv' X sh := by
  obtain ⟨n1, n2, n3, n4, n5, n6⟩ := h.ne
  have hsz := hg.size
  obtain ⟨cs, cr, hch⟩ := hF.chan
  refine ⟨⟨(hf p (by omega) n5).trans hF.obj, cs, cr, (hf c (by omega) n6).trans hch⟩, hR, own_low hO (by omega), by simp [h.len], ?_, h.base⟩
  intro i j hij
  obtain ⟨s', v', a1, a2, a3⟩ := h.waits (w' := w2) (lv' := lv') (fun g g1 g2 g3 g4 g5 => (hf g (by omega) g4).trans (hg.block g g1 (fun e => by injection e with e; exact g3 e))) (fun g hg' => Or.inr (by have := (owns_lt hO hg').1; omega)) (i + 1) j (by simpa using hij)
  refine ⟨s', v', a1, ?_, a3⟩
  have hil : i + 1 < buf.size := by rw [h.len]; have := lt_of_get hij; simp; omega
  rw [Array.getElem?_extract]
  rw [if_pos (by simp; omega)]
  rw [Nat.add_comm]
  exact a2
theorem Plays.first {S : List Sm} {B : Nat} {w : World} {p c q cap : Nat} {buf : Array Value} {lv : Value} {X : List Nat} {k : Nat} {sh : Bool} (h : Plays S B w p c q cap buf lv (k :: X) sh) :
    ∃ s v, S[k]? = some s ∧ 0 < buf.size ∧ buf.getD 0 undef = .agg #[v, .int .i64 s.dt] ∧ RowR 1 intR w v s.L ∧ s.L.length ≤ 50 := by
  obtain ⟨s, v, h1, h2, r, h3, h4, h5, h6, _⟩ := h.wait 0 k rfl
  have h0 : 0 < buf.size := by rw [h.len]; simp
  subst h3
  refine ⟨s, r, h1, h0, ?_, row_of_owns h4 h5, h6⟩
  rw [Array.getElem?_eq_getElem h0] at h2
  simp [Array.getD, h0]
  injection h2
theorem Plays.shut {S : List Sm} {B : Nat} {w w2 : World} {p c q cap : Nat} {buf : Array Value} {lv : Value} {X : List Nat} {sh : Bool} (h : Plays S B w p c q cap buf lv X sh)
    (hF : FeedAt w2 p c cap buf 1) (hf : ∀ g, g ≠ p → w2.heap[g]? = (w.setCell ⟨q, 2, none⟩ (.bool true)).heap[g]?) : Plays S B w2 p c q cap buf lv X true := by
  obtain ⟨n1, n2, n3, n4, n5, n6⟩ := h.ne
  have hfr : ∀ g, g ≠ p → g ≠ q → w2.heap[g]? = w.heap[g]? := fun g h1 h2 => (hf g h1).trans (get_set (by simpa using fun e => h2 e.symm))
  refine ⟨hF, (hf q (fun e => n5 e.symm)).trans (obj_self (A := #[.int .i64 (cap : Int), lv, .bool sh]) h.ref), owns_cong h.own (fun g hg => ?_), h.len, h.waits (fun g g1 g2 g3 g4 g5 => hfr g g2 g4) (fun g hg => Or.inl hg), h.base⟩
  obtain ⟨a1, a2, a3, a4⟩ := h.row_ne h.own hg
  exact hfr g a2 a4
end Go.Proofs.Ytpbfgoegkpjpmaa
