/- flow.Nodes: the rows that it makes. -/
import Derived.Test.YtckcgaggdeaagaaFlEnd
import Derived.Test.YtckcgaggdeaagaaHeldTill
import Derived.Test.YtckcgaggdeaagaaAppBlk
namespace Go.Proofs.Ytckcgaggdeaagaa
open Go.RowKit
set_option linter.unusedSimpArgs false
set_option linter.unusedVariables false
open FL (opA aA goesP endF blks)
abbrev ND := Nat × Nat × Value
def ndV (N : List ND) : List Value := N.flatMap fun x => [.int .i64 (x.1 : Int), .int .i64 (x.2.1 : Int), x.2.2]
theorem ndV_len (N : List ND) : (ndV N).length = N.length * 3 := by
  induction N with
  | nil => rfl
  | cons x t ih =>
    show (_ ++ ndV t).length = _
    rw [List.length_append, ih]; simp; omega
theorem ndV_snoc (N : List ND) (x : ND) : ndV (N ++ [x]) = ndV N ++ [.int .i64 (x.1 : Int), .int .i64 (x.2.1 : Int), x.2.2] := by simp [ndV]
theorem ndV_get : ∀ (N : List ND) (i j : Nat) (x : ND), N[i]? = some x → j < 3 → (ndV N)[i * 3 + j]? = [Value.int .i64 (x.1 : Int), .int .i64 (x.2.1 : Int), x.2.2][j]?
  | [], i, j, x, h, _ => by simp at h
  | y :: t, i, j, x, h, hj => by
    have e : ndV (y :: t) = [Value.int .i64 (y.1 : Int), .int .i64 (y.2.1 : Int), y.2.2] ++ ndV t := rfl
    rw [e]
    cases i with
    | zero =>
      obtain rfl : y = x := by simpa using h
      rw [Nat.zero_mul, Nat.zero_add, List.getElem?_append_left (by simpa using hj)]
    | succ i =>
      rw [List.getElem?_append_right (by simp; omega)]
      have := ndV_get t i j x (by simpa using h) hj
      rw [← this]
      congr 1
      simp; omega
theorem ndV_set : ∀ (N : List ND) (i : Nat) (f t : Nat) (u v : Value), N[i]? = some (f, t, u) → (ndV N).set (i * 3 + 2) v = ndV (N.set i (f, t, v))
  | [], i, f, t, u, v, h => by simp at h
  | y :: l, i, f, t, u, v, h => by
    have e : ∀ y : ND, ∀ l, ndV (y :: l) = [Value.int .i64 (y.1 : Int), .int .i64 (y.2.1 : Int), y.2.2] ++ ndV l := fun _ _ => rfl
    cases i with
    | zero =>
      obtain rfl : y = (f, t, u) := by simpa using h
      rfl
    | succ i =>
      have := ndV_set l i f t u v (by simpa using h)
      rw [List.set_cons_succ, e, e, ← this, List.set_append_right _ _ (by simp; omega)]
      congr 2
      simp; omega
structure NSt (B nb fb n : Nat) (w wr : World) (F : Nat → Bool) (Num : List Nat) (o : Value) (N : List ND) : Prop where
  hb : Below B w wr
  hf : wr.ownsRow B 4 1 (.slice (some ⟨fb, 0, none⟩) n n) n (bV1 (rowF n F))
  hn : wr.ownsRow B 3 1 (.slice (some ⟨nb, 0, none⟩) n n) n (iV (nI Num))
  ho : wr.ownsRow B 30 3 o N.length (ndV N)
  nl : Num.length = n
  hs : B ≤ nb ∧ nb + 1 ≤ wr.heap.size
theorem NSt.below {B nb fb n : Nat} {w wr w2 : World} {F : Nat → Bool} {Num : List Nat} {o : Value} {N : List ND} (h : NSt B nb fb n w wr F Num o N) (hB : Below wr.heap.size wr w2) : NSt B nb fb n w w2 F Num o N :=
  ⟨h.hb.trans (hB.mono (by have := h.hs; omega)), owns_below h.hf hB, owns_below h.hn hB, owns_below h.ho hB, h.nl, ⟨h.hs.1, Nat.le_trans h.hs.2 hB.size⟩⟩
/-- a number is written -/
theorem NSt.num {B nb fb n : Nat} {w wr : World} {F : Nat → Bool} {Num : List Nat} {o : Value} {N : List ND} (h : NSt B nb fb n w wr F Num o N) (k x : Nat) : NSt B nb fb n w (wr.setCell ⟨nb, k, none⟩ (.int .i64 (x : Int))) F (Num.set k x) o N := by
  refine ⟨h.hb.setCell (p := ⟨nb, k, none⟩) h.hs.1 _, owns_set h.hf (owns_ne h.hf h.hn (by decide)), ?_, owns_set h.ho (owns_ne h.ho h.hn (by decide)), by rw [List.length_set]; exact h.nl, by simpa using h.hs⟩
  have h2 := (h.hn.stored k (.int .i64 (x : Int))).1
  have e : (iV (nI Num)).set k (.int .i64 (x : Int)) = iV (nI (Num.set k x)) := by simp [iV, nI, List.map_set]
  rw [e] at h2
  exact h2
/-- a block more -/
theorem NSt.app {B nb fb n : Nat} {w wr w6 : World} {F : Nat → Bool} {Num : List Nat} {o v6 : Value} {N : List ND} {ob : Obj} {x : ND} (h : NSt B nb fb n w wr F Num o N)
    (hO : w6.ownsRow B 30 3 v6 (N.length + 1) (ndV N ++ [.int .i64 (x.1 : Int), .int .i64 (x.2.1 : Int), x.2.2])) (hG : (wr.alloc ob).grownBy w6 o.ownBlock) : NSt B nb fb n w w6 F Num v6 (N ++ [x]) := by
  have hba := (Below.refl wr.heap.size wr).alloc (Nat.le_refl _) ob
  have ho := owns_below h.ho hba
  have hf := owns_below h.hf hba
  have hn := owns_below h.hn hba
  have hs := h.hs
  exact ⟨grown3 (h.hb.trans (hba.mono (by omega))) (by simp; omega) ho hG, owns_grown hf hG (fun g hv => owns_type hf ho (by decide) hv), owns_grown hn hG (fun g hv => owns_type hn ho (by decide) hv), own_eq2 hO (by simp) (by rw [ndV_snoc]), h.nl, ⟨hs.1, Nat.le_trans hs.2 (Nat.le_trans (by simp) hG.size)⟩⟩
/-- a block's cells -/
theorem NSt.node {B nb fb n : Nat} {w wr : World} {F : Nat → Bool} {Num : List Nat} {a : Option Addr} {m c : Nat} {N : List ND} (h : NSt B nb fb n w wr F Num (.slice a m c) N) (hm : N.length = m) {k : Nat} {x : ND} (hx : N[k]? = some x) :
    ∃ g, a = some ⟨g, 0, none⟩ ∧ B ≤ g ∧ g < wr.heap.size ∧ m ≤ c ∧ c ≤ 9223372036854775807 ∧ wr.cell? ⟨g, k * 3, none⟩ = some (.int .i64 (x.1 : Int)) ∧ wr.cell? ⟨g, k * 3 + 1, none⟩ = some (.int .i64 (x.2.1 : Int)) ∧ wr.cell? ⟨g, k * 3 + 2, none⟩ = some x.2.2 ∧ wr.frozen? ⟨g, k * 3 + 2, none⟩ = false ∧ g ≠ nb ∧ g ≠ fb := by
  have hk := lt_of_get hx
  have ho := h.ho
  rw [hm] at ho
  rcases ho.2 with ⟨h1, h0⟩ | ⟨g, cap, cur, h1, hBg, hg, h2, h3, _⟩
  · omega
  · cases h1
    have c0 := ho.cellAt (k * 3 + 0) (by omega)
    have c1 := ho.cellAt (k * 3 + 1) (by omega)
    have c2 := ho.cellAt (k * 3 + 2) (by omega)
    rw [ndV_get N k 0 x hx (by omega)] at c0
    rw [ndV_get N k 1 x hx (by omega)] at c1
    rw [ndV_get N k 2 x hx (by omega)] at c2
    refine ⟨g, rfl, hBg, heap_lt hg, h2, h3, by simpa using c0, c1, c2, ho.frozenAt _, ?_, ?_⟩
    · rintro rfl; exact owns_ne ho h.hn (by decide) rfl
    · rintro rfl; exact owns_ne ho h.hf (by decide) rfl
/-- one place more behind a block -/
theorem NSt.link {B nb fb n : Nat} {w wr w6 : World} {F : Nat → Bool} {Num : List Nat} {g m c : Nat} {N : List ND} {k f t : Nat} {U v6 : Value} {lst : List Int} {ob : Obj} (h : NSt B nb fb n w wr F Num (.slice (some ⟨g, 0, none⟩) m c) N) (hm : N.length = m) (hx : N[k]? = some (f, t, U))
    (hU : wr.ownsRow (nb + 1) 3 1 U lst.length (iV lst)) (hG : (wr.alloc ob).grownBy w6 U.ownBlock) :
    NSt B nb fb n w (w6.setCell ⟨g, k * 3 + 2, none⟩ v6) F Num (.slice (some ⟨g, 0, none⟩) m c) (N.set k (f, t, v6)) ∧ NSt B nb fb n w w6 F Num (.slice (some ⟨g, 0, none⟩) m c) N := by
  have hba := (Below.refl wr.heap.size wr).alloc (Nat.le_refl _) ob
  have hU2 := owns_below hU hba
  have ho := owns_below h.ho hba
  have hf := owns_below h.hf hba
  have hn := owns_below h.hn hba
  have hs := h.hs
  obtain ⟨g2, hg2, hBg, _⟩ := h.node hm hx
  cases hg2
  have hb6 := grown3 (h.hb.trans (hba.mono (by omega))) (by simp; omega : B ≤ (wr.alloc ob).heap.size) (own_low hU2 (by omega)) hG
  have hf6 := owns_grown hf hG (fun g hv => owns_type hf hU2 (by decide) hv)
  have ho6 := owns_grown ho hG (fun g hv => owns_type ho hU2 (by decide) hv)
  have hn6 := owns_grown hn hG (fun x hv he => by have h1 := (owns_lt hU2 he).1; have h2 : nb = x := Option.some.inj hv; omega)
  have hs6 : B ≤ nb ∧ nb + 1 ≤ w6.heap.size := ⟨hs.1, Nat.le_trans hs.2 (Nat.le_trans (by simp) hG.size)⟩
  have h6 : NSt B nb fb n w w6 F Num (.slice (some ⟨g, 0, none⟩) m c) N := ⟨hb6, hf6, hn6, ho6, h.nl, hs6⟩
  rw [hm] at ho6
  refine ⟨⟨hb6.setCell (p := ⟨g, k * 3 + 2, none⟩) hBg _, owns_set hf6 (owns_ne hf6 ho6 (by decide)), owns_set hn6 (owns_ne hn6 ho6 (by decide)), ?_, h.nl, by simpa using hs6⟩, h6⟩
  have h2 := (ho6.stored (k * 3 + 2) v6).1
  rw [ndV_set N k f t U v6 hx] at h2
  rw [List.length_set, hm]
  exact h2
/-- the blocks' numbers -/
def NumsR (Num : List Nat) (F : Nat → Bool) (E : Nat → Nat) (n : Nat) : Prop := ∀ q, q < n → F q = true → Num[q]? = some (blks q F E).length
def numL (L : List Ins) (Num : List Nat) (t : Nat) : List Int := (goesP L (t - 1)).map fun z => ((Num[z.toNat]?.getD 0 : Nat) : Int)
/-- the first k blocks have their lists of what comes next -/
def DoneX (L : List Ins) (Num : List Nat) (C : Nat) (w : World) (k : Nat) (N : List ND) (U : Value) : Prop :=
  ∀ i x, i < k → N[i]? = some x → (∃ lst, lst = numL L Num x.2.1 ∧ w.ownsRow C 3 1 x.2.2 lst.length (iV lst)) ∧ ∀ g, x.2.2.ownBlock = some g → U.ownBlock ≠ some g
theorem DoneX.free {L : List Ins} {Num : List Nat} {C : Nat} {w : World} {k : Nat} {N : List ND} {U : Value} (h : DoneX L Num C w k N U) : DoneX L Num C w k N (.slice none 0 0) :=
  fun i x hi hx => ⟨(h i x hi hx).1, fun g _ h => by simp [Value.ownBlock] at h⟩
theorem DoneX.low {L : List Ins} {Num : List Nat} {C B : Nat} {w : World} {k : Nat} {N : List ND} {U : Value} (h : DoneX L Num C w k N U) (hB : B ≤ C) : DoneX L Num B w k N U :=
  fun i x hi hx => ⟨by obtain ⟨l, h1, h2⟩ := (h i x hi hx).1; exact ⟨l, h1, own_low h2 hB⟩, (h i x hi hx).2⟩
theorem DoneX.below {L : List Ins} {Num : List Nat} {C : Nat} {w w2 : World} {k : Nat} {N : List ND} {U : Value} (h : DoneX L Num C w k N U) (hB : Below w.heap.size w w2) : DoneX L Num C w2 k N U :=
  fun i x hi hx => ⟨by obtain ⟨l, h1, h2⟩ := (h i x hi hx).1; exact ⟨l, h1, owns_below h2 hB⟩, (h i x hi hx).2⟩
theorem DoneX.done {L : List Ins} {Num : List Nat} {C : Nat} {w : World} {k f t : Nat} {N : List ND} {U : Value} {lst : List Int} (h : DoneX L Num C w k N U) (hx : N[k]? = some (f, t, U)) (hl : lst = numL L Num t)
    (hU : w.ownsRow C 3 1 U lst.length (iV lst)) : DoneX L Num C w (k + 1) N (.slice none 0 0) := by
  intro i x hi hy
  by_cases e : i = k
  · subst e
    rw [hx] at hy
    obtain rfl : (f, t, U) = x := by injection hy
    exact ⟨⟨lst, hl, hU⟩, fun g _ h => by simp [Value.ownBlock] at h⟩
  · exact h.free i x (by omega) hy
theorem DoneX.link {L : List Ins} {Num : List Nat} {C B : Nat} {w w6 : World} {k g m c : Nat} {N : List ND} {U v6 : Value} {y : ND} {ob : Obj} {ys : List Value} (h : DoneX L Num C w k N U) (hB : B ≤ C)
    (hG : (w.alloc ob).grownBy w6 U.ownBlock) (hN : Near (w.alloc ob) U v6) (hn : w6.ownsRow B 30 3 (.slice (some ⟨g, 0, none⟩) m c) m ys) : DoneX L Num C (w6.setCell ⟨g, k * 3 + 2, none⟩ v6) k (N.set k y) v6 := by
  intro i x hi hx
  rw [List.getElem?_set, if_neg (by omega)] at hx
  obtain ⟨⟨lst, h1, h2⟩, h3⟩ := h i x hi hx
  have hq6 := owns_grown (owns_below h2 ((Below.refl _ _).alloc (Nat.le_refl _) ob)) hG h3
  refine ⟨⟨lst, h1, owns_set hq6 (owns_ne (own_low hq6 hB) hn (by decide))⟩, fun g' hg he => ?_⟩
  rcases hN with hN | ⟨g2, hN, hge⟩
  · rw [hN] at he; exact h3 g' hg he
  · rw [hN] at he; cases he; have h1 := (owns_lt h2 hg).2; simp at hge; omega
def NodesQ (L : List Ins) (w : World) (r : Ending) (w' : World) : Prop :=
  Below w.heap.size w w' ∧ ((seenB L = false ∧ r = .returned (.slice none 0 0)) ∨ (seenB L = true ∧ ∃ (F : Nat → Bool) (u : Value) (N : List ND), r = .returned u ∧ FL.Lead L (FL.rcB L) F ∧ FL.Met L (FL.rcB L) ∧ N.map (fun x => (x.1, x.2.1)) = blks L.length F (endF L F) ∧ w'.ownsRow w.heap.size 30 3 u N.length (ndV N) ∧ ∃ Num : List Nat, NumsR Num F (endF L F) L.length ∧ DoneX L Num w.heap.size w' N.length N (.slice none 0 0)))
theorem seen_parts {L : List Ins} (h : seenB L = true) : 0 < L.length ∧ jumpsB L = true ∧ FL.Whole L := @of_decide_eq_true _ (Classical.propDecidable _) h
theorem rc_met {L : List Ins} (h : FL.Whole L) (h0 : 0 < L.length) : FL.Met L (FL.rcB L) := by
  have hr : ∀ t, FL.Rc L t → FL.rcB L t = true := fun t h => @decide_eq_true _ (Classical.propDecidable _) h
  have hb : ∀ t, FL.rcB L t = true → FL.Rc L t := fun t h => @of_decide_eq_true _ (Classical.propDecidable _) h
  refine ⟨hr 0 .zero, fun pc hp hm z hz => ?_, fun t ht hm => ?_⟩
  · have h1 := h pc hp (hb pc hm) z hz
    refine ⟨z.toNat, by omega, by omega, hr _ (.on (hb pc hm) hp (by omega) (by rw [show ((z.toNat : Nat) : Int) = z by omega]; exact hz))⟩
  · have hrc := hb t hm
    cases hrc with
    | zero => exact Or.inl rfl
    | on r hq ht hg => exact Or.inr ⟨_, hq, hr _ r, hg⟩
end Go.Proofs.Ytckcgaggdeaagaa
