/- Layer 23: a state apart. -/
import Derived.Test.YthanmbfelihkfaaStRead
import Derived.Test.YthanmbfelihkfaaGrow
import Derived.Test.YthanmbfelihkfaaHeldMore
namespace Go.Proofs.Ythanmbfelihkfaa
open Go.RowKit
set_option linter.unusedSimpArgs false
set_option linter.unusedVariables false
def bV (L : List (List Int)) : List Value := L.flatMap iV
theorem bV_len {L : List (List Int)} (h : ∀ l ∈ L, l.length = 10) : (bV L).length = L.length * 10 := by
  induction L with
  | nil => rfl
  | cons x t ih =>
    show (iV x ++ bV t).length = _
    rw [List.length_append, iV_len, ih (fun l hl => h l (by simp [hl])), h x (by simp)]
    simp; omega
theorem bV_get {L : List (List Int)} (h : ∀ l ∈ L, l.length = 10) : ∀ (i j : Nat) (x : List Int), L[i]? = some x → j < 10 → (bV L)[i * 10 + j]? = (iV x)[j]? := by
  induction L with
  | nil => intro i j x hx; simp at hx
  | cons y t ih =>
    intro i j x hx hj
    have e : bV (y :: t) = iV y ++ bV t := rfl
    have hy : (iV y).length = 10 := by rw [iV_len]; exact h y (by simp)
    rw [e]
    cases i with
    | zero =>
      obtain rfl : y = x := by simpa using hx
      rw [Nat.zero_mul, Nat.zero_add, List.getElem?_append_left (by omega)]
    | succ i =>
      rw [List.getElem?_append_right (by omega), hy]
      have := ih (fun l hl => h l (by simp [hl])) i j x (by simpa using hx) hj
      rw [← this]
      congr 1
      omega
theorem inst_lens {w : World} {v : Value} {L : List (List Int)} (h : RowR 10 instR w v L) : ∀ l ∈ L, l.length = 10 ∧ ∀ z ∈ l, I64 z := by
  intro l hl
  obtain ⟨k, hk, rfl⟩ := List.getElem_of_mem hl
  rcases h with ⟨a, cap, rfl, rfl, hc⟩ | ⟨b, off, cap, h1, h2, h3, h4, h5, h6⟩
  · simp at hk
  · obtain ⟨C, g1, g2, g3, g4, g5⟩ := h6 k L[k] (by simp [hk])
    exact ⟨g4, g5⟩
theorem src_insts {w : World} {u : Value} {L : List (List Int)} (h : RowR 10 instR w u L) : Src w u L.length (bV L) := by
  have hlens := fun l hl => (inst_lens h l hl).1
  rcases h with ⟨a, cap, rfl, rfl, hc⟩ | ⟨b, off, cap, rfl, h2, h3, h4, h5, h6⟩
  · cases a with
    | none => rw [hc rfl]; exact Or.inl ⟨rfl, rfl, rfl⟩
    | some ad => exact Or.inr ⟨ad, cap, rfl, fun j u hu => by simp [bV] at hu⟩
  · refine Or.inr ⟨⟨b, off, none⟩, cap, rfl, fun j u hu => ?_⟩
    rw [add_at]
    have hj : j < L.length * 10 := by
      by_cases hj : j < L.length * 10
      · exact hj
      · rw [List.getElem?_eq_none (by rw [bV_len hlens]; omega)] at hu; cases hu
    have hi : j / 10 < L.length := by omega
    obtain ⟨C, g1, g2, g3, _⟩ := h6 (j / 10) L[j / 10] (by simp [hi])
    have h7 := bV_get hlens (j / 10) (j % 10) L[j / 10] (by simp [hi]) (by omega)
    rw [show j / 10 * 10 + j % 10 = j by omega, hu] at h7
    subst g3
    have h8 := g2 (j % 10) u h7.symm
    rw [show off + j / 10 * 10 + j % 10 = off + j by omega] at h8
    exact h8
theorem insts_of_owns {w : World} {B : Nat} {e : TypeId} {v : Value} {L : List (List Int)} (h : w.ownsRow B e 10 v L.length (bV L)) (hL : ∀ l ∈ L, l.length = 10 ∧ ∀ z ∈ l, I64 z) : RowR 10 instR w v L := by
  obtain ⟨hl, h⟩ := h
  rcases h with ⟨rfl, h0⟩ | ⟨g, cap, cur, rfl, hb, hg, h1, h2, h3, h4⟩
  · exact Or.inl ⟨none, 0, rfl, List.length_eq_zero_iff.1 h0, fun _ => rfl⟩
  · by_cases h0 : L.length = 0
    · exact Or.inl ⟨_, cap, by rw [h0], List.length_eq_zero_iff.1 h0, fun h => by cases h⟩
    · have hlt : g < w.heap.size := by
        by_cases hgl : g < w.heap.size
        · exact hgl
        · rw [Array.getElem?_eq_none (Nat.le_of_not_lt hgl)] at hg; cases hg
      refine Or.inr ⟨g, 0, cap, rfl, by omega, h1, h2, hlt, fun i x hx => ?_⟩
      have hx10 := hL x (List.mem_of_getElem? hx)
      refine ⟨iV x, by rw [iV_len]; exact hx10.1, fun j u hu => ?_, rfl, hx10⟩
      have hj : j < 10 := by
        by_cases hj : j < 10
        · exact hj
        · rw [List.getElem?_eq_none (by rw [iV_len]; omega)] at hu; cases hu
      have hi : i < L.length := by
        by_cases hi : i < L.length
        · exact hi
        · rw [List.getElem?_eq_none (by omega)] at hx; cases hx
      have h5 := bV_get (fun l hl => (hL l hl).1) i j x hx hj
      rw [hu, ← h4, List.getElem?_take, if_pos (by omega)] at h5
      unfold World.cell?
      rw [hg]
      simp only [Nat.zero_add]
      simpa using h5
theorem bV_one (L : List (List Int)) : ∀ u ∈ bV L, u.oneCell' = true := by
  intro u hu
  obtain ⟨l, _, hl⟩ := List.mem_flatMap.1 hu
  exact iV_one l u hl
/-- a state of the call's own -/
structure OwnSt (B : Nat) (w : World) (v b : Value) (s : St) (g : Nat) (U : Array Value) (C : Nat) : Prop where
  form : v = .slice (some ⟨g, 0, none⟩) s.vars.length s.vars.length
  base : B ≤ g
  cb : B ≤ C
  obj : w.heap[g]? = some (.cells U 45 (0, 0))
  size : U.size = s.vars.length
  rows : OwnRows (g + 1) 3 w U.toList s.vars
  inst : w.ownsRow C 62 10 b s.blocks.length (bV s.blocks)
  ints : ∀ l ∈ s.vars, ∀ z ∈ l, I64 z
  lens : ∀ l ∈ s.blocks, l.length = 10 ∧ ∀ z ∈ l, I64 z
  n64 : I64 s.now
  f64 : I64 s.fault
  few : s.vars.length ≤ 100
theorem OwnSt.st {B : Nat} {w : World} {v b : Value} {s : St} {g : Nat} {U : Array Value} {C : Nat} (h : OwnSt B w v b s g U C) : StAt w v b s := by
  refine ⟨?_, insts_of_owns h.inst h.lens, h.n64, h.f64⟩
  by_cases h0 : s.vars.length = 0
  · exact Or.inl ⟨_, _, by rw [h.form, h0], List.length_eq_zero_iff.1 h0, fun h => by cases h⟩
  · have hlt : g < w.heap.size := by
      by_cases hgl : g < w.heap.size
      · exact hgl
      · have := h.obj
        rw [Array.getElem?_eq_none (Nat.le_of_not_lt hgl)] at this; cases this
    refine Or.inr ⟨g, 0, s.vars.length, h.form, by omega, Nat.le_refl _, by have := h.few; unfold maxLen; omega, hlt, fun i l hl => ?_⟩
    have hi : i < s.vars.length := by
      by_cases hi : i < s.vars.length
      · exact hi
      · rw [List.getElem?_eq_none (by omega)] at hl; cases hl
    have hu : U.toList[i]? = some (U[i]'(by rw [h.size]; exact hi)) := by simp [h.size, hi]
    refine ⟨[U[i]'(by rw [h.size]; exact hi)], rfl, fun j u hj => ?_, _, rfl, row_of_owns (h.rows.row i _ l hu hl) (h.ints l (List.mem_of_getElem? hl))⟩
    have hj0 : j = 0 := by
      by_cases hj0 : j = 0
      · exact hj0
      · rw [List.getElem?_eq_none (by simp; omega)] at hj; cases hj
    subst hj0
    have hju : U[i]'(by rw [h.size]; exact hi) = u := by simpa using hj
    unfold World.cell?
    rw [show (⟨g, 0 + i * 1 + 0, none⟩ : Addr).block = g from rfl, h.obj]
    simp only [Nat.zero_add, Nat.mul_one, Nat.add_zero]
    simp [h.size, hi, hju]
theorem OwnSt.congr {B : Nat} {w w' : World} {v b : Value} {s : St} {g : Nat} {U : Array Value} {C : Nat} (h : OwnSt B w v b s g U C) (hc : ∀ g, B ≤ g → w'.heap[g]? = w.heap[g]?) : OwnSt B w' v b s g U C :=
  ⟨h.form, h.base, h.cb, (hc g h.base).trans h.obj, h.size, h.rows.congr (fun q hq => hc q (by have := h.base; omega)), owns_congr h.inst (fun q hq => hc q (by have := h.cb; omega)), h.ints, h.lens, h.n64, h.f64, h.few⟩
end Go.Proofs.Ythanmbfelihkfaa
