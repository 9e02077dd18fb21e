/- Expressions: plain trees, and how they lie in memory. -/
import Derived.Test.YtpecpeedefeokaaDoorSeq
namespace Go.Proofs.YtpecpeedefeokaaDoor
open Go.RowKit
set_option linter.unusedSimpArgs false
set_option linter.unusedVariables false
structure Ex where
  op : Int
  t : Int
  n : Int
  m : Int
  l : List Ex
/-- one thing of an expression, by what was made of those within it -/
noncomputable def foldE {α : Type} (f : Ex → List α → α) (e : Ex) : α :=
  Ex.rec (motive_1 := fun _ => α) (motive_2 := fun _ => List α) (fun op t n m l ih => f (.mk op t n m l) ih) [] (fun _ _ h t => h :: t) e
theorem foldE_mk {α : Type} (f : Ex → List α → α) (op t n m : Int) (l : List Ex) : foldE f (.mk op t n m l) = f (.mk op t n m l) (l.map (foldE f)) := by
  have h : ∀ l : List Ex, (Ex.rec_1 (motive_1 := fun _ => α) (motive_2 := fun _ => List α) (fun op t n m l ih => f (.mk op t n m l) ih) [] (fun _ _ h t => h :: t) l : List α) = l.map (foldE f) := by
    intro l
    induction l with
    | nil => rfl
    | cons a t ih =>
      rw [List.map_cons, ← ih]
      rfl
  rw [← h l]
  rfl
theorem foldE_eq {α : Type} (f : Ex → List α → α) (e : Ex) : foldE f e = f e (e.l.map (foldE f)) := by
  cases e; exact foldE_mk f _ _ _ _ _
theorem Ex.ind {P : Ex → Prop} (h : ∀ op t n m l, (∀ x ∈ l, P x) → P (.mk op t n m l)) (e : Ex) : P e :=
  Ex.rec (motive_1 := P) (motive_2 := fun l => ∀ x ∈ l, P x) (fun op t n m l ih => h op t n m l ih) (fun x hx => by cases hx) (fun a t ha ht x hx => by
    rcases List.mem_cons.1 hx with rfl | hx
    · exact ha
    · exact ht x hx) e
theorem rowR_map {α β : Type} {q : Nat} {w : World} {v : Value} {l : List α} (g : α → β) (R : Rep β) : RowR q R w v (l.map g) ↔ RowR q (fun w C x => R w C (g x)) w v l := by
  unfold RowR
  constructor
  · rintro (⟨a, cap, h1, h2, h3⟩ | ⟨b, off, cap, h1, h2, h3, h4, h5, h6⟩)
    · exact Or.inl ⟨a, cap, h1, by simpa using h2, h3⟩
    · rw [List.length_map] at h1 h2 h3
      exact Or.inr ⟨b, off, cap, h1, h2, h3, h4, h5, fun i x hx => h6 i (g x) (by simp [hx])⟩
  · rintro (⟨a, cap, h1, h2, h3⟩ | ⟨b, off, cap, h1, h2, h3, h4, h5, h6⟩)
    · exact Or.inl ⟨a, cap, h1, by simp [h2], h3⟩
    · refine Or.inr ⟨b, off, cap, by rw [List.length_map]; exact h1, by rw [List.length_map]; exact h2, by rw [List.length_map]; exact h3, h4, h5, fun i x hx => ?_⟩
      rw [List.getElem?_map] at hx
      obtain ⟨y, hy, rfl⟩ := Option.map_eq_some_iff.1 hx
      exact h6 i y hy
def exI (e : Ex) : Prop := I64 e.op ∧ I64 e.t ∧ I64 e.n ∧ I64 e.m
noncomputable def exR : Rep Ex := fun w C e => foldE (α := World → List Value → Prop) (fun e ps w C => ∃ v, C = [.int .i64 e.op, .int .i64 e.t, .int .i64 e.n, .int .i64 e.m, v] ∧ exI e ∧ RowR 5 (fun w C (p : World → List Value → Prop) => p w C) w v ps) e w C
theorem exR_eq {w : World} {C : List Value} {e : Ex} : exR w C e ↔ ∃ v, C = [.int .i64 e.op, .int .i64 e.t, .int .i64 e.n, .int .i64 e.m, v] ∧ exI e ∧ RowR 5 exR w v e.l := by
  unfold exR
  rw [foldE_eq]
  constructor
  · rintro ⟨v, h1, h2, h3⟩
    exact ⟨v, h1, h2, (rowR_map _ _).1 h3⟩
  · rintro ⟨v, h1, h2, h3⟩
    exact ⟨v, h1, h2, (rowR_map _ _).2 h3⟩
theorem rowR_below_of {α : Type} {q : Nat} {R : Rep α} {w w' : World} {v : Value} {L : List α} (h : RowR q R w v L) (hR : ∀ C x, x ∈ L → R w C x → R w' C x) (hb : Below w.heap.size w w') : RowR q R w' v L := by
  rcases h with h | ⟨b, off, cap, h1, h2, h3, h4, h5, h6⟩
  · exact Or.inl h
  · refine Or.inr ⟨b, off, cap, h1, h2, h3, h4, Nat.lt_of_lt_of_le h5 hb.size, fun i x hx => ?_⟩
    obtain ⟨C, g1, g2, g3⟩ := h6 i x hx
    exact ⟨C, g1, fun j u hu => (hb.cell (p := ⟨b, off + i * q + j, none⟩) h5).trans (g2 j u hu), hR C x (List.mem_of_getElem? hx) g3⟩
theorem exR_stable : Stable exR := by
  intro w w' C e
  revert C
  induction e using Ex.ind with
  | h op t n m l ih =>
    intro C h hb
    obtain ⟨v, h1, h2, h3⟩ := exR_eq.1 h
    exact exR_eq.2 ⟨v, h1, h2, rowR_below_of h3 (fun C x hx hr => ih x hx C hr hb) hb⟩
/-- an expression as a value -/
def ExV (w : World) (v : Value) (e : Ex) : Prop := ∃ s, v = .agg #[.int .i64 e.op, .int .i64 e.t, .int .i64 e.n, .int .i64 e.m, s] ∧ exI e ∧ RowR 5 exR w s e.l
theorem ExV.below {w w' : World} {v : Value} {e : Ex} (h : ExV w v e) (hb : Below w.heap.size w w') : ExV w' v e := by
  obtain ⟨s, h1, h2, h3⟩ := h
  exact ⟨s, h1, h2, h3.below exR_stable hb⟩
theorem exV_of {w : World} {C : List Value} {e : Ex} (h : exR w C e) : ExV w (.agg C.toArray) e := by
  obtain ⟨v, rfl, h2, h3⟩ := exR_eq.1 h
  exact ⟨v, rfl, h2, h3⟩
/-- the k-th expression within: its cells -/
theorem ex_at {w : World} {a : Option Addr} {n cap : Nat} {L : List Ex} (hv : RowR 5 exR w (.slice a n cap) L) {k : Nat} {x : Ex} (hx : L[k]? = some x) :
    ∃ b off s sn sc, a = some ⟨b, off, none⟩ ∧ b < w.heap.size ∧ n ≤ cap ∧ cap ≤ 9223372036854775807 ∧ w.cell? ⟨b, off + k * 5, none⟩ = some (.int .i64 x.op) ∧ w.cell? ⟨b, off + k * 5 + 1, none⟩ = some (.int .i64 x.t) ∧ w.cell? ⟨b, off + k * 5 + 2, none⟩ = some (.int .i64 x.n) ∧ w.cell? ⟨b, off + k * 5 + 3, none⟩ = some (.int .i64 x.m) ∧ w.cell? ⟨b, off + k * 5 + 4, none⟩ = some (.slice s sn sc) ∧ ExV w (.agg #[.int .i64 x.op, .int .i64 x.t, .int .i64 x.n, .int .i64 x.m, .slice s sn sc]) x := by
  rcases hv with ⟨_, _, _, rfl, _⟩ | ⟨b, off, cap, h1, h2, h3, h4, h5, h6⟩
  · simp at hx
  · injection h1 with h1 h1' h1''
    subst h1 h1' h1''
    obtain ⟨C, g1, g2, g3⟩ := h6 k x hx
    obtain ⟨v, rfl, i, r⟩ := exR_eq.1 g3
    obtain ⟨s, sc, rfl⟩ := row_get r
    exact ⟨b, off, s, _, sc, rfl, h5, h3, h4, g2 0 _ rfl, g2 1 _ rfl, g2 2 _ rfl, g2 3 _ rfl, g2 4 _ rfl, _, rfl, i, r⟩
/-- how many expressions there are in one -/
noncomputable def sizeE : Ex → Nat := foldE fun _ l => 1 + l.sum
theorem sizeE_mk (e : Ex) : sizeE e = 1 + (e.l.map sizeE).sum := foldE_eq _ e
theorem sum_mem {l : List Nat} {x : Nat} (h : x ∈ l) : x ≤ l.sum := by
  induction l with
  | nil => cases h
  | cons a t ih =>
    rw [List.sum_cons]
    rcases List.mem_cons.1 h with rfl | h
    · omega
    · have := ih h; omega
theorem len_sum {l : List Nat} (h : ∀ x ∈ l, 1 ≤ x) : l.length ≤ l.sum := by
  induction l with
  | nil => simp
  | cons a t ih =>
    rw [List.sum_cons, List.length_cons]
    have := h a (by simp)
    have := ih fun x hx => h x (by simp [hx])
    omega
theorem sizeE_pos (e : Ex) : 1 ≤ sizeE e := by rw [sizeE_mk]; omega
theorem sizeE_within {e x : Ex} (h : x ∈ e.l) : sizeE x < sizeE e := by
  rw [sizeE_mk e]
  have := sum_mem (List.mem_map_of_mem (f := sizeE) h)
  omega
theorem sizeE_len (e : Ex) : e.l.length < sizeE e := by
  rw [sizeE_mk e]
  have := len_sum (l := e.l.map sizeE) (fun x hx => by obtain ⟨y, _, rfl⟩ := List.mem_map.1 hx; exact sizeE_pos y)
  rw [List.length_map] at this
  omega
end Go.Proofs.YtpecpeedefeokaaDoor
