/- Rows of the call's own, and what is appended to them. -/
import Derived.Test.YtefejcofmopjfaaGreatDoorSeq
import Derived.Test.YtefejcofmopjfaaGreatDoorGrow
import Derived.Test.YtefejcofmopjfaaGreatDoorRowTwo
import Derived.Test.YtefejcofmopjfaaGreatDoorHeldMore
import Derived.OwnWalk
namespace Go.Proofs.YtefejcofmopjfaaGreatDoor
open Go.RowKit
set_option linter.unusedSimpArgs false
set_option linter.unusedVariables false
/-- the cells of a list of numbers -/
theorem ints_at {w : World} {a : Option Addr} {n cap : Nat} {L : List Int} (hv : RowR 1 intR w (.slice a n cap) L) {k : Nat} (hk : k < L.length) : ∃ b off, a = some ⟨b, off, none⟩ ∧ b < w.heap.size ∧ ∀ i z, L[i]? = some z → w.cell? ⟨b, off + i, none⟩ = some (.int .i64 z) ∧ I64 z := by
  rcases hv with ⟨a, cap, h, rfl, _⟩ | ⟨b, off, cap, h1, _, _, _, h5, h6⟩
  · simp at hk
  · have e : a = some ⟨b, off, none⟩ := by injection h1
    refine ⟨b, off, e, h5, fun i z hz => ?_⟩
    obtain ⟨C, g1, g2, g3, g4⟩ := h6 i z hz
    subst g3
    exact ⟨by simpa using g2 0 _ rfl, g4⟩
theorem owns_grown {w w' : World} {B : Nat} {e : TypeId} {q n : Nat} {v : Value} {xs : List Value} {ob : Option Nat} (h : w.ownsRow B e q v n xs) (hg : w.grownBy w' ob) (hne : ∀ g, v.ownBlock = some g → ob ≠ some g) : w'.ownsRow B e q v n xs := by
  obtain ⟨hl, h⟩ := h
  refine ⟨hl, ?_⟩
  rcases h with h | ⟨g, cap, cur, h0, h1, hh, h2⟩
  · exact Or.inl h
  · have hlt : g < w.heap.size := by
      by_cases hgl : g < w.heap.size
      · exact hgl
      · rw [Array.getElem?_eq_none (Nat.le_of_not_lt hgl)] at hh; cases hh
    refine Or.inr ⟨g, cap, cur, h0, h1, ?_, h2⟩
    rw [hg.block g hlt (fun h => hne g (by rw [h0]; rfl) h.symm)]
    exact hh
theorem owns_set {w : World} {B : Nat} {e : TypeId} {q n : Nat} {v : Value} {xs : List Value} {g o : Nat} {x : Value} (h : w.ownsRow B e q v n xs) (hne : v.ownBlock ≠ some g) : (w.setCell ⟨g, o, none⟩ x).ownsRow B e q v n xs := by
  obtain ⟨hl, h⟩ := h
  refine ⟨hl, ?_⟩
  rcases h with h | ⟨b, cap, cur, h0, h1, hh, h2⟩
  · exact Or.inl h
  · refine Or.inr ⟨b, cap, cur, h0, h1, ?_, h2⟩
    have : g ≠ b := fun he => hne (by rw [h0, he]; rfl)
    rw [← hh]
    unfold World.setCell
    show (w.heap.modify g _)[b]? = _
    rw [Array.getElem?_modify, if_neg this]
theorem owns_type {w : World} {B C : Nat} {e f : TypeId} {q p n m : Nat} {v u : Value} {xs ys : List Value} (h : w.ownsRow B e q v n xs) (k : w.ownsRow C f p u m ys) (hef : e ≠ f) {g : Nat} (hv : v.ownBlock = some g) : u.ownBlock ≠ some g := by
  intro hu
  rcases h.2 with ⟨h0, _⟩ | ⟨b, cap, cur, h0, _, h1, _⟩
  · rw [h0] at hv; simp [Value.ownBlock] at hv
  · rcases k.2 with ⟨k0, _⟩ | ⟨b2, cap2, cur2, k0, _, k1, _⟩
    · rw [k0] at hu; simp [Value.ownBlock] at hu
    · rw [h0] at hv; rw [k0] at hu
      have e1 : b = g := by simpa [Value.ownBlock] using hv
      have e2 : b2 = g := by simpa [Value.ownBlock] using hu
      rw [e1] at h1; rw [e2, h1] at k1
      simp at k1
      exact hef k1.2
def iV (l : List Int) : List Value := l.map (Value.int .i64)
theorem iV_len (l : List Int) : (iV l).length = l.length := by simp [iV]
/-- an owned row, as what it reads as -/
theorem row_of_owns {w : World} {B : Nat} {e : TypeId} {v : Value} {l : List Int} (h : w.ownsRow B e 1 v l.length (iV l)) (hl : ∀ z ∈ l, I64 z) : RowR 1 intR w v l := by
  obtain ⟨_, h⟩ := h
  rcases h with ⟨rfl, h0⟩ | ⟨g, cap, cur, rfl, hb, hg, h1, h2, h3, h4⟩
  · exact Or.inl ⟨none, 0, rfl, List.length_eq_zero_iff.1 h0, fun _ => rfl⟩
  · by_cases h0 : l.length = 0
    · exact Or.inl ⟨_, cap, by rw [h0], List.length_eq_zero_iff.1 h0, fun h => by cases h⟩
    · have hlt : g < w.heap.size := by
        by_cases hgl : g < w.heap.size
        · exact hgl
        · rw [Array.getElem?_eq_none (Nat.le_of_not_lt hgl)] at hg; cases hg
      refine Or.inr ⟨g, 0, cap, rfl, by omega, h1, h2, hlt, fun i x hx => ?_⟩
      refine ⟨[.int .i64 x], rfl, fun j u hu => ?_, rfl, hl x (List.mem_of_getElem? hx)⟩
      have hj : j = 0 := by
        by_cases hj : j = 0
        · exact hj
        · rw [List.getElem?_eq_none (by simp; omega)] at hu; cases hu
      subst hj
      obtain rfl : Value.int .i64 x = u := by simpa using hu
      have hi : i < l.length := by
        by_cases hi : i < l.length
        · exact hi
        · rw [List.getElem?_eq_none (by omega)] at hx; cases hx
      have h5 : (iV l)[i]? = some (.int .i64 x) := by simp [iV, hx]
      rw [← h4, List.getElem?_take, if_pos (by omega)] at h5
      unfold World.cell?
      rw [hg]
      simpa using h5
theorem row_ints {w : World} {v : Value} {l : List Int} (h : RowR 1 intR w v l) : ∀ z ∈ l, I64 z := by
  intro z hz
  obtain ⟨k, hk, rfl⟩ := List.getElem_of_mem hz
  obtain ⟨a, cap, rfl⟩ := row_get h
  obtain ⟨b, off, _, _, hc⟩ := ints_at h hk
  exact (hc k l[k] (by simp [hk])).2
theorem map_intV (l : List Int) : (List.range l.length).map (intV l) = iV l := by
  apply List.ext_getElem?
  intro i
  by_cases h : i < l.length
  · simp [h, intV, iV, List.getD]
  · simp [h, iV]
/-- rows that are the call's own, each in a block of its own -/
structure OwnRows (B : Nat) (e : TypeId) (w : World) (U : List Value) (L : List (List Int)) : Prop where
  len : U.length = L.length
  row : ∀ (i : Nat) (u : Value) (l : List Int), U[i]? = some u → L[i]? = some l → w.ownsRow B e 1 u l.length (iV l)
  apart : ∀ (i j : Nat) (u u' : Value) (g : Nat), i < j → U[i]? = some u → U[j]? = some u' → u.ownBlock = some g → u'.ownBlock ≠ some g
theorem OwnRows.nil (B : Nat) (e : TypeId) (w : World) : OwnRows B e w [] [] := ⟨rfl, fun i u l h => by simp at h, fun i j u u' g _ h => by simp at h⟩
theorem owns_lt {w : World} {B : Nat} {e : TypeId} {q n : Nat} {v : Value} {xs : List Value} (h : w.ownsRow B e q v n xs) {g : Nat} (hv : v.ownBlock = some g) : B ≤ g ∧ g < w.heap.size := by
  rcases h.2 with ⟨h0, _⟩ | ⟨b, cap, cur, h0, hb, h1, _⟩
  · rw [h0] at hv; simp [Value.ownBlock] at hv
  · rw [h0] at hv
    have e1 : b = g := by simpa [Value.ownBlock] using hv
    subst e1
    refine ⟨hb, ?_⟩
    by_cases hgl : b < w.heap.size
    · exact hgl
    · rw [Array.getElem?_eq_none (Nat.le_of_not_lt hgl)] at h1; cases h1
/-- one row more, that was made behind all others -/
theorem OwnRows.snoc {B : Nat} {e : TypeId} {w w' : World} {U : List Value} {L : List (List Int)} {u : Value} {l : List Int} (h : OwnRows B e w U L) (hb : Below w.heap.size w w') (hB : B ≤ w.heap.size) (hu : w'.ownsRow w.heap.size e 1 u l.length (iV l)) : OwnRows B e w' (U ++ [u]) (L ++ [l]) := by
  have hbase : w'.ownsRow B e 1 u l.length (iV l) := by
    refine ⟨hu.1, ?_⟩
    rcases hu.2 with h0 | ⟨g, cap, cur, h0, h1, h2⟩
    · exact Or.inl h0
    · exact Or.inr ⟨g, cap, cur, h0, by omega, h2⟩
  refine ⟨by simp [h.len], fun i x m hx hm => ?_, fun i j x y g hij hx hy hg => ?_⟩
  · by_cases hi : i < U.length
    · rw [List.getElem?_append_left hi] at hx
      rw [List.getElem?_append_left (by rw [← h.len]; exact hi)] at hm
      exact owns_below (h.row i x m hx hm) hb
    · have hin : i = U.length := by
        by_cases he : i = U.length
        · exact he
        · rw [List.getElem?_eq_none (by simp; omega)] at hx; cases hx
      subst hin
      have hx' : x = u := by simpa using hx.symm
      rw [h.len] at hm
      have hm' : m = l := by simpa using hm.symm
      rw [hx', hm']
      exact hbase
  · by_cases hj : j < U.length
    · rw [List.getElem?_append_left hj] at hy
      rw [List.getElem?_append_left (by omega)] at hx
      exact h.apart i j x y g hij hx hy hg
    · have hjn : j = U.length := by
        by_cases he : j = U.length
        · exact he
        · rw [List.getElem?_eq_none (by simp; omega)] at hy; cases hy
      subst hjn
      have hy' : y = u := by simpa using hy.symm
      rw [List.getElem?_append_left hij] at hx
      intro hyg
      rw [hy'] at hyg
      have h1 := (owns_lt hu hyg).1
      have h2 : i < L.length := by rw [← h.len]; exact hij
      have h3 := (owns_lt (h.row i x L[i] hx (by simp [h2])) hg).2
      omega
/-- what is appended: nothing, or cells that lie there -/
def Src (w : World) (sv : Value) (m : Nat) (news : List Value) : Prop :=
  (sv = .slice none 0 0 ∧ m = 0 ∧ news = []) ∨ ∃ (ad : Addr) (c : Nat), sv = .slice (some ad) m c ∧ ∀ j u, news[j]? = some u → w.cell? (ad.add j) = some u
theorem Src.below {w w' : World} {sv : Value} {m : Nat} {news : List Value} (h : Src w sv m news) (hb : Below w.heap.size w w') : Src w' sv m news := by
  rcases h with h | ⟨ad, c, h1, h2⟩
  · exact Or.inl h
  · exact Or.inr ⟨ad, c, h1, fun j u hu => (hb.cell (p := ad.add j) (World.block_lt_of_cell? w _ (h2 j u hu))).trans (h2 j u hu)⟩
theorem wp_append_src {P : Program} {w : World} {o : Oper} {a : Act} {K : Act → World → Prop} {Q : Exit → Act → World → Prop} (s x : Operand) (t : TypeId)
    (ho : o.op = .call { callee := .builtin .append, args := #[s, x], argTypes := #[t, t] })
    (base : Nat) (e : TypeId) (i : TypeInfo) (z : Value) (q bytes : Nat) (ht : P.underlying t = some (.slice e)) (hi : P.info? e = some i) (hz : i.zero = some z)
    (hsize : i.size = q) (hby : i.bytes = bytes) (hzs : z.cells.size = q) (hq : 0 < q)
    (v : Value) (n : Nat) (xs : List Value) (hs : a.eval s = v) (hown : w.ownsRow base e q v n xs)
    (sv : Value) (m : Nat) (news : List Value) (hx : a.eval x = sv) (hsrc : Src w sv m news) (hl : news.length = m * q) (h1 : ∀ u ∈ news, u.oneCell' = true)
    (h63 : n + m ≤ maxLen) (hbytes : (n + m) * bytes ≤ 140737488355328) (hbase : base ≤ w.heap.size)
    (h : ∀ v' w', w'.ownsRow base e q v' (n + m) (xs ++ news) → w.grownBy w' v.ownBlock → K (a.put o.dst v') w') : o.wp P a w K Q := by
  rcases hsrc with ⟨rfl, rfl, rfl⟩ | ⟨ad, c, rfl, hc⟩
  · have hrun := run_append_owned_none (P := P) (w := w) base t o.type e i q ht hi v n xs hown
    unfold Oper.wp
    simp [execOp, ho, resolve, invoke, builtin, hs, hx, hrun, Result.andThen]
    exact h v w (by simpa using hown) (World.grownBy.refl _ _)
  · exact wp_append_own w s x t ho base e i z q bytes ht hi hz hsize hby hzs hq v n xs hs hown ad m c news hx hl hc h1 h63 hbytes hbase (fun v' w' ho' hg _ => h v' w' ho' hg)
theorem wpList_append_src {P : Program} {w : World} {ops : Array Oper} {rest : List Oper} {o : Oper} {a : Act} {Q : Exit → Act → World → Prop} (hgd : o.guard = none) (s x : Operand) (t : TypeId)
    (ho : o.op = .call { callee := .builtin .append, args := #[s, x], argTypes := #[t, t] })
    (base : Nat) (e : TypeId) (i : TypeInfo) (z : Value) (q bytes : Nat) (ht : P.underlying t = some (.slice e)) (hi : P.info? e = some i) (hz : i.zero = some z)
    (hsize : i.size = q) (hby : i.bytes = bytes) (hzs : z.cells.size = q) (hq : 0 < q)
    (v : Value) (n : Nat) (xs : List Value) (hs : a.eval s = v) (hown : w.ownsRow base e q v n xs)
    (sv : Value) (m : Nat) (news : List Value) (hx : a.eval x = sv) (hsrc : Src w sv m news) (hl : news.length = m * q) (h1 : ∀ u ∈ news, u.oneCell' = true)
    (h63 : n + m ≤ maxLen) (hbytes : (n + m) * bytes ≤ 140737488355328) (hbase : base ≤ w.heap.size)
    (h : ∀ v' w', w'.ownsRow base e q v' (n + m) (xs ++ news) → w.grownBy w' v.ownBlock → wpList P ops Q rest (a.put o.dst v') w') : wpList P ops Q (o :: rest) a w :=
  wpList_plain hgd fun K hK => wp_append_src s x t ho base e i z q bytes ht hi hz hsize hby hzs hq v n xs hs hown sv m news hx hsrc hl h1 h63 hbytes hbase fun v' w' h2 h3 => hK _ _ (h v' w' h2 h3)
theorem add_at (b o j : Nat) : (⟨b, o, none⟩ : Addr).add j = ⟨b, o + j, none⟩ := by unfold Addr.add; by_cases h : j = 0 <;> simp [h]
theorem src_ints {w : World} {u : Value} {l : List Int} (h : RowR 1 intR w u l) : Src w u l.length (iV l) := by
  rcases h with ⟨a, cap, rfl, rfl, hc⟩ | ⟨b, off, cap, rfl, h2, h3, h4, h5, h6⟩
  · cases a with
    | none => rw [hc rfl]; exact Or.inl ⟨rfl, rfl, rfl⟩
    | some ad => exact Or.inr ⟨ad, cap, rfl, fun j u hu => by simp [iV] at hu⟩
  · refine Or.inr ⟨⟨b, off, none⟩, cap, rfl, fun j u hu => ?_⟩
    rw [add_at]
    have hj : j < l.length := by
      by_cases hj : j < l.length
      · exact hj
      · rw [List.getElem?_eq_none (by rw [iV_len]; omega)] at hu; cases hu
    obtain ⟨C, g1, g2, g3, _⟩ := h6 j l[j] (by simp [hj])
    subst g3
    have h7 := g2 0 _ rfl
    have h8 : u = .int .i64 l[j] := by simpa [iV, hj] using hu.symm
    rw [h8]
    simpa using h7
theorem iV_one (l : List Int) : ∀ u ∈ iV l, u.oneCell' = true := by
  intro u hu
  obtain ⟨z, _, rfl⟩ := List.mem_map.1 hu
  rfl
theorem owns_congr {w w' : World} {B : Nat} {e : TypeId} {q n : Nat} {v : Value} {xs : List Value} (h : w.ownsRow B e q v n xs) (hc : ∀ g, B ≤ g → w'.heap[g]? = w.heap[g]?) : w'.ownsRow B e q v n xs := by
  obtain ⟨hl, h⟩ := h
  refine ⟨hl, ?_⟩
  rcases h with h | ⟨g, cap, cur, h0, h1, hh, h2⟩
  · exact Or.inl h
  · exact Or.inr ⟨g, cap, cur, h0, h1, (hc g h1).trans hh, h2⟩
theorem OwnRows.congr {B : Nat} {e : TypeId} {w w' : World} {U : List Value} {L : List (List Int)} (h : OwnRows B e w U L) (hc : ∀ g, B ≤ g → w'.heap[g]? = w.heap[g]?) : OwnRows B e w' U L :=
  ⟨h.len, fun i u l hu hl => owns_congr (h.row i u l hu hl) hc, h.apart⟩
theorem OwnRows.below {B : Nat} {e : TypeId} {w w' : World} {U : List Value} {L : List (List Int)} (h : OwnRows B e w U L) (hb : Below w.heap.size w w') : OwnRows B e w' U L :=
  ⟨h.len, fun i u l hu hl => owns_below (h.row i u l hu hl) hb, h.apart⟩
theorem more_past (A : World) (l : Array Obj) (d : Nat) {g : Nat} (h : A.heap.size ≤ g) : (wmore A l d).heap[g]? = l[g - A.heap.size]? := by
  show (A.heap ++ l)[g]? = _
  rw [Array.getElem?_append_right h]
theorem more_congr {A A' : World} {l : Array Obj} {d d' : Nat} {B : Nat} (h : A.heap.size = A'.heap.size) (hB : A.heap.size ≤ B) : ∀ g, B ≤ g → (wmore A' l d').heap[g]? = (wmore A l d).heap[g]? := fun g hg => by
  rw [more_past A l d (by omega), more_past A' l d' (by omega), h]
theorem below_none {w w' : World} (hg : w.grownBy w' none) : Below w.heap.size w w' := ⟨hg.os, hg.tape, hg.output, hg.size, fun k hk => hg.block k hk (by simp)⟩
theorem take_set {U : Array Value} {k : Nat} {x : Value} (hk : k < U.size) : (U.setIfInBounds k x).toList.take (k + 1) = U.toList.take k ++ [x] := by
  apply List.ext_getElem?
  intro i
  rw [List.getElem?_take]
  by_cases hi : i < k
  · rw [if_pos (by omega), List.getElem?_append_left (by simp; omega), List.getElem?_take, if_pos hi]
    simp [Array.getElem?_setIfInBounds, show ¬ k = i by omega]
  · by_cases hik : i = k
    · subst hik
      rw [if_pos (by omega), List.getElem?_append_right (by simp; omega)]
      have : i - (List.take i U.toList).length = 0 := by simp; omega
      rw [this]
      simp [Array.getElem?_setIfInBounds, hk]
    · rw [if_neg (by omega), List.getElem?_eq_none (by simp; omega)]
theorem owns_form {w : World} {B : Nat} {e : TypeId} {q n : Nat} {v : Value} {xs : List Value} (h : w.ownsRow B e q v n xs) : ∃ a cap, v = .slice a n cap := by
  rcases h.2 with ⟨h0, hn⟩ | ⟨g, cap, cur, h0, _⟩
  · exact ⟨none, 0, by rw [h0, hn]⟩
  · exact ⟨_, cap, h0⟩
theorem more_grow (A : World) (l l2 : Array Obj) (d d2 : Nat) : Below (wmore A l d).heap.size (wmore A l d) (wmore A (l ++ l2) d2) := by
  rw [← more_more A l l2 d d2]
  exact more_below (Below.refl _ _) (Nat.le_refl _) _ _
theorem alloc_get {W : World} {o : Obj} {g : Nat} (h : g = W.heap.size) : (W.alloc o).heap[g]? = some o := by
  subst h
  show (W.heap.push _)[W.heap.size]? = _
  simp
theorem own_eq2 {w : World} {B : Nat} {e : TypeId} {q : Nat} {r : Value} {n m : Nat} {xs ys : List Value} (h : w.ownsRow B e q r n xs) (h1 : n = m) (h2 : xs = ys) : w.ownsRow B e q r m ys := by
  subst h1; subst h2; exact h
theorem own_base {w : World} {B C : Nat} {e : TypeId} {q : Nat} {r : Value} {n : Nat} {xs : List Value} (h : w.ownsRow B e q r n xs) (h1 : B = C) : w.ownsRow C e q r n xs := by
  subst h1; exact h
theorem more_alloc (A : World) (l : Array Obj) (d : Nat) (o : Obj) : (wmore A l d).alloc o = wmore A (l.push o) d := by
  unfold World.alloc wmore
  simp
theorem OwnRows.grown {B C : Nat} {e f : TypeId} {w w' : World} {U : List Value} {L : List (List Int)} {o : Value} {p n : Nat} {xs : List Value} (h : OwnRows B e w U L) (hO : w.ownsRow C f p o n xs) (hef : e ≠ f) (hg : w.grownBy w' o.ownBlock) : OwnRows B e w' U L :=
  ⟨h.len, fun i u l hu hl => owns_grown (h.row i u l hu hl) hg (fun g hg' => owns_type (h.row i u l hu hl) hO hef hg'), h.apart⟩
theorem grown3 {B : Nat} {w0 wa w2 : World} {v : Value} {e : TypeId} {q n : Nat} {xs : List Value} (hb : Below B w0 wa) (hs : B ≤ wa.heap.size) (hO : wa.ownsRow B e q v n xs) (hg : wa.grownBy w2 v.ownBlock) : Below B w0 w2 :=
  hb.trans ⟨hg.os, hg.tape, hg.output, hg.size, fun k hk => hg.block k (by omega) (fun h => by
    rcases hO.2 with ⟨h0, _⟩ | ⟨g, cap, cur, h0, h1, _⟩
    · rw [h0] at h; simp [Value.ownBlock] at h
    · rw [h0] at h
      have : k = g := by simpa [Value.ownBlock] using h
      omega)⟩
theorem iV_app (a b : List Int) : iV (a ++ b) = iV a ++ iV b := by simp [iV]
theorem src_new (w : World) (C : List Value) (t : TypeId) : Src (w.alloc (.cells C.toArray t)) (.slice (some ⟨w.heap.size, 0, none⟩) 1 1) 1 C :=
  Or.inr ⟨⟨w.heap.size, 0, none⟩, 1, rfl, fun j u hu => by rw [add_at, Nat.zero_add]; exact cell_new w _ t (0, 0) j (by simpa using hu)⟩
theorem owns_lift {w w' : World} {base : Nat} {e : TypeId} {q : Nat} {v : Value} {n : Nat} {xs : List Value} (h : w.ownsRow base e q v n xs) {B : Nat} (hb : Below B w w') (hB : w.heap.size = B) : w'.ownsRow base e q v n xs := owns_below h (hB ▸ hb)
theorem owns_made (w : World) (Z : Array Value) (e : TypeId) (q m : Nat) (hZ : Z.size = m * q) (hm : m ≤ maxLen) : (w.alloc (.cells Z e)).ownsRow w.heap.size e q (.slice (some ⟨w.heap.size, 0, none⟩) 0 m) 0 [] := by
  refine ⟨by simp, Or.inr ⟨w.heap.size, m, Z, rfl, Nat.le_refl _, ?_, by omega, hm, hZ, by simp⟩⟩
  show (w.heap.push _)[w.heap.size]? = _
  simp
theorem row_none {α : Type} {q : Nat} {R : Rep α} {w : World} : RowR q R w (.slice none 0 0) ([] : List α) := Or.inl ⟨none, 0, rfl, rfl, fun _ => rfl⟩
theorem row_cells1 {w : World} {b : Nat} {z : Int} (h : w.cell? ⟨b, 0, none⟩ = some (.int .i64 z)) (hz : I64 z) : RowR 1 intR w (.slice (some ⟨b, 0, none⟩) 1 1) [z] :=
  Or.inr ⟨b, 0, 1, rfl, by simp, by simp, by unfold maxLen; omega, World.block_lt_of_cell? w _ h, fun i x hx => by
    have hi : i < 1 := lt_of_get hx
    obtain rfl : i = 0 := by omega
    obtain rfl : z = x := by simpa using hx
    refine ⟨[.int .i64 z], rfl, fun j u hu => ?_, rfl, hz⟩
    have hj : j < 1 := lt_of_get hu
    obtain rfl : j = 0 := by omega
    obtain rfl : Value.int .i64 z = u := by simpa using hu
    exact h⟩
theorem row_cells2 {w : World} {b : Nat} {z y : Int} (h : w.cell? ⟨b, 0, none⟩ = some (.int .i64 z)) (h' : w.cell? ⟨b, 1, none⟩ = some (.int .i64 y)) (hz : I64 z) (hy : I64 y) : RowR 1 intR w (.slice (some ⟨b, 0, none⟩) 2 2) [z, y] :=
  Or.inr ⟨b, 0, 2, rfl, by simp, by simp, by unfold maxLen; omega, World.block_lt_of_cell? w _ h, fun i x hx => by
    have hi : i < 2 := lt_of_get hx
    have hxi : I64 x := by
      rcases List.mem_cons.1 (List.mem_of_getElem? hx) with rfl | hx
      · exact hz
      · rw [List.mem_singleton.1 hx]; exact hy
    refine ⟨[.int .i64 x], rfl, fun j u hu => ?_, rfl, hxi⟩
    have hj : j < 1 := lt_of_get hu
    obtain rfl : j = 0 := by omega
    obtain rfl : Value.int .i64 x = u := by simpa using hu
    obtain rfl | rfl : i = 0 ∨ i = 1 := by omega
    · obtain rfl : z = x := by simpa using hx
      exact h
    · obtain rfl : y = x := by simpa using hx
      exact h'⟩
/-- a slice that was just made, without elements -/
theorem owns_empty (W : World) (e : TypeId) (q : Nat) {base : Nat} (hb : base ≤ W.heap.size) : (W.alloc (.cells #[] e)).ownsRow base e q (.slice (some ⟨W.heap.size, 0, none⟩) 0 0) 0 [] := World.ownsRow_lit W #[] 0 hb (by unfold maxLen; omega) (by simp)
theorem owns_empty1 (w : World) (o : Obj) (e : TypeId) (q : Nat) : ((w.alloc o).alloc (.cells #[] e)).ownsRow (w.heap.size + 1) e q (.slice (some ⟨w.heap.size + 1, 0, none⟩) 0 0) 0 [] := by
  have := owns_empty (w.alloc o) e q (base := w.heap.size + 1) (by simp)
  simpa using this
end Go.Proofs.YtefejcofmopjfaaGreatDoor
