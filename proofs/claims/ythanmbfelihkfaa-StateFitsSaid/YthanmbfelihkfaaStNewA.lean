/- Layer 23: the first state of declarations: rows that are made in place. -/
import Derived.Test.YthanmbfelihkfaaCyOwn
import Derived.Test.YthanmbfelihkfaaPgm
namespace Go.Proofs.Ythanmbfelihkfaa
open Go.RowKit
set_option linter.unusedSimpArgs false
set_option linter.unusedVariables false
theorem owns_put {w : World} {B : Nat} {e : TypeId} {n : Nat} {v : Value} {xs : List Value} (h : w.ownsRow B e 1 v n xs) {k : Nat} (hk : k < n) {x : Value} :
    ∃ g cap, v = .slice (some ⟨g, 0, none⟩) n cap ∧ B ≤ g ∧ g < w.heap.size ∧ (∃ u, xs[k]? = some u ∧ w.cell? ⟨g, k, none⟩ = some u) ∧ w.frozen? ⟨g, k, none⟩ = false ∧ (w.setCell ⟨g, k, none⟩ x).ownsRow B e 1 v n (xs.set k x) := by
  obtain ⟨hl, h⟩ := h
  rcases h with ⟨rfl, h0⟩ | ⟨g, cap, cur, rfl, hb, hg, h1, h2, h3, h4⟩
  · subst h0; simp at hl; omega
  · have hlt : g < w.heap.size := by
      by_cases hgl : g < w.heap.size
      · exact hgl
      · rw [Array.getElem?_eq_none (Nat.le_of_not_lt hgl)] at hg; cases hg
    obtain ⟨u, hu⟩ : ∃ u, xs[k]? = some u := get_some (by omega)
    have hcell : cur[k]? = some u := by
      have h5 := hu
      rw [← h4, List.getElem?_take, if_pos (by omega)] at h5
      simpa using h5
    refine ⟨g, cap, rfl, hb, hlt, ⟨u, hu, ?_⟩, ?_, ?_⟩
    · unfold World.cell?
      rw [show (⟨g, k, none⟩ : Addr).block = g from rfl, hg]
      simpa using hcell
    · unfold World.frozen?
      rw [show (⟨g, k, none⟩ : Addr).block = g from rfl, hg]
      simp
    · refine ⟨by simpa using hl, Or.inr ⟨g, cap, cur.setIfInBounds k x, rfl, hb, ?_, h1, h2, by simpa using h3, ?_⟩⟩
      · unfold World.setCell
        show (w.heap.modify g _)[g]? = _
        rw [Array.getElem?_modify, if_pos rfl, hg]
        rfl
      · rw [← h4]
        apply List.ext_getElem?
        intro i
        rw [List.getElem?_take, List.getElem?_set, List.getElem?_take]
        by_cases hi : i < n * 1
        · rw [if_pos hi]
          by_cases hki : k = i
          · subst hki
            have : k < cur.size := by omega
            have h0 : k < (cur.setIfInBounds k x).toList.length := by simp; omega
            simp [this, hk]; try omega
          · simp only [Array.toList_setIfInBounds, List.getElem?_set, if_neg hki]
            rw [if_pos hi]
        · rw [if_neg hi, if_neg (by omega : ¬ k = i), if_neg hi]
theorem owns_arr (w : World) (Z : Array Value) (e : TypeId) (q m : Nat) (hZ : Z.size = m * q) (hm : m ≤ maxLen) : (w.alloc (.cells Z e)).ownsRow w.heap.size e q (.slice (some ⟨w.heap.size, 0, none⟩) m m) m Z.toList := by
  refine ⟨by simp [hZ], Or.inr ⟨w.heap.size, m, Z, rfl, Nat.le_refl _, ?_, Nat.le_refl _, hm, hZ, by rw [List.take_of_length_le (by simp [hZ])]⟩⟩
  show (w.heap.push _)[w.heap.size]? = _
  simp
theorem OwnS.put {B : Nat} {w : World} {v b : Value} {s : St} {U : List Value} (h : OwnS B w v b s U) {k : Nat} (hk : k < s.vars.length) {l : List Int} {Z : Array Value} (hZ : Z.toList = iV l) (hl : ∀ z ∈ l, I64 z) (hB : B ≤ w.heap.size) (hm : l.length ≤ 100) :
    ∃ g cap, v = .slice (some ⟨g, 0, none⟩) s.vars.length cap ∧ B ≤ g ∧ g < w.heap.size ∧ (∃ u, w.cell? ⟨g, k, none⟩ = some u) ∧ w.frozen? ⟨g, k, none⟩ = false ∧
      OwnS B ((w.alloc (.cells Z 3)).setCell ⟨g, k, none⟩ (.slice (some ⟨w.heap.size, 0, none⟩) l.length l.length)) v b { s with vars := s.vars.set k l } (U.set k (.slice (some ⟨w.heap.size, 0, none⟩) l.length l.length)) := by
  have hZs : Z.size = l.length * 1 := by
    have := congrArg List.length hZ
    rw [iV_len] at this
    simpa using this
  have hnew := owns_arr w Z 3 1 l.length hZs (by unfold maxLen; omega)
  rw [hZ] at hnew
  obtain ⟨u0, hu0⟩ := get_some (L := U) (n := k) (by rw [h.rows.len]; exact hk)
  obtain ⟨g, cap, f1, f2, f3, ⟨u, _, f5⟩, f6, _⟩ := owns_put h.own hk (x := u0)
  have hb : Below w.heap.size w (w.alloc (.cells Z 3)) := by (repeat' (first | (with_reducible exact Below.refl _ _) | (with_reducible assumption) | (with_reducible refine below_drewN ?_ _) | (with_reducible refine Below.alloc ?_ ?_ _) | (with_reducible refine Below.drew ?_) | (with_reducible refine Below.setCell ?_ ?_ _) | go_size))
  have h' := h.below hb
  obtain ⟨g', cap', e1, _, _, _, _, e8⟩ := owns_put h'.own hk (x := .slice (some ⟨w.heap.size, 0, none⟩) l.length l.length)
  have hgg : g' = g := by rw [f1] at e1; injection e1 with e1; injection e1 with e1; injection e1 with e1; exact e1.symm
  subst hgg
  have hob : v.ownBlock = some g' := by rw [f1]; rfl
  refine ⟨g', cap, f1, f2, f3, ⟨u, f5⟩, f6, ?_⟩
  refine ⟨by rw [List.length_set]; exact e8, ?_, owns_set h'.inst (owns_type h'.own h'.inst (by decide) hob), ?_, h.lens, h.n64, h.f64, by rw [List.length_set]; exact h.few⟩
  · refine ⟨by rw [List.length_set, List.length_set]; exact h.rows.len, fun i y r hi hr => ?_, fun i j y y' q hij hi hj hq => ?_⟩
    · by_cases hki : k = i
      · subst hki
        have hy : Value.slice (some ⟨w.heap.size, 0, none⟩) l.length l.length = y := by simpa [lt_of_get hu0] using hi
        have hr' : l = r := by simpa [hk] using hr
        subst hr'
        rw [← hy]
        exact owns_set (own_low hnew hB) (by simp [Value.ownBlock]; omega)
      · rw [List.getElem?_set, if_neg hki] at hi hr
        exact owns_set (h'.rows.row i y r hi hr) (owns_type h'.own (h'.rows.row i y r hi hr) (by decide) hob)
    · have old : ∀ (j : Nat) (y : Value) (q : Nat), U[j]? = some y → y.ownBlock = some q → q < w.heap.size := by
        intro j y q hy hq
        obtain ⟨r, hr⟩ := get_some (L := s.vars) (n := j) (by rw [← h.rows.len]; exact lt_of_get hy)
        exact (owns_lt (h.rows.row j y r hy hr) hq).2
      rw [List.getElem?_set] at hi hj
      by_cases hki : k = i
      · rw [if_neg (by omega)] at hj
        rw [if_pos hki] at hi
        have hy : Value.slice (some ⟨w.heap.size, 0, none⟩) l.length l.length = y := by simpa [lt_of_get hu0, ← hki] using hi
        rw [← hy] at hq
        have hqe : w.heap.size = q := by simpa [Value.ownBlock] using hq
        intro hc
        have := old j y' q hj hc
        omega
      · rw [if_neg hki] at hi
        by_cases hkj : k = j
        · rw [if_pos hkj] at hj
          have hy : Value.slice (some ⟨w.heap.size, 0, none⟩) l.length l.length = y' := by simpa [lt_of_get hu0, ← hkj] using hj
          rw [← hy]
          have := old i y q hi hq
          simp [Value.ownBlock]; omega
        · rw [if_neg hkj] at hj
          exact h.rows.apart i j y y' q hij hi hj hq
  · intro r hr z hz
    rcases List.mem_or_eq_of_mem_set hr with hr | rfl
    · exact h.ints r hr z hz
    · exact hl z hz
/-- a block of another type stays as it is, whatever is written into a row of the call's own -/
theorem obj_set {w : World} {B : Nat} {e t : TypeId} {q n p : Nat} {v : Value} {xs A : _} {g o : Nat} {x : Value} (hp : w.heap[p]? = some (.cells A t)) (h : w.ownsRow B e q v n xs) (hg : v.ownBlock = some g) (he : t ≠ e) : (w.setCell ⟨g, o, none⟩ x).heap[p]? = some (.cells A t) := by
  have hne : g ≠ p := by
    intro hgp
    subst hgp
    rcases h.2 with ⟨h0, _⟩ | ⟨b, cap, cur, h0, _, h1, _⟩
    · rw [h0] at hg; simp [Value.ownBlock] at hg
    · rw [h0] at hg
      have e1 : b = g := by simpa [Value.ownBlock] using hg
      subst e1
      rw [hp] at h1
      simp at h1
      exact he h1.2
  rw [← hp]
  unfold World.setCell
  show (w.heap.modify g _)[p]? = _
  rw [Array.getElem?_modify, if_neg hne]
theorem obj_cell {w : World} {p : Nat} {A : Array Value} {t : TypeId} (hp : w.heap[p]? = some (.cells A t)) {i : Nat} {u : Value} (hu : A[i]? = some u) : w.cell? ⟨p, i, none⟩ = some u := by
  unfold World.cell?
  rw [show (⟨p, i, none⟩ : Addr).block = p from rfl, hp]
  simpa using hu
def zeroI : List Int := List.replicate 10 0
def rowN (x : Vr) : Nat := (min (max x.n 0) 16).toNat
def newRow (x : Vr) : List Int := List.replicate (rowN x) x.init
def newAt (V : List Vr) (nb k : Nat) : St := ⟨(V.map newRow).take k ++ List.replicate (V.length - k) [], List.replicate nb zeroI, 0, 0⟩
def newS (V : List Vr) (nb : Nat) : St := ⟨V.map newRow, List.replicate nb zeroI, 0, 0⟩
theorem newAt_end (V : List Vr) (nb : Nat) : newAt V nb V.length = newS V nb := by
  unfold newAt newS
  rw [List.take_of_length_le (by simp), Nat.sub_self]
  simp
theorem newAt_len (V : List Vr) (nb k : Nat) (hk : k ≤ V.length) : (newAt V nb k).vars.length = V.length := by
  unfold newAt; simp; omega
theorem newAt_put {V : List Vr} {nb k : Nat} {x : Vr} (hx : V[k]? = some x) : { newAt V nb k with vars := (newAt V nb k).vars.set k (newRow x) } = newAt V nb (k + 1) := by
  have hk := lt_of_get hx
  suffices h : (newAt V nb k).vars.set k (newRow x) = (newAt V nb (k + 1)).vars by rw [h]; rfl
  unfold newAt
  dsimp only
  apply List.ext_getElem?
  intro i
  have hkx : V[k] = x := by rw [List.getElem?_eq_getElem hk] at hx; exact Option.some.inj hx
  rw [List.getElem?_set]
  by_cases hki : k = i
  · subst hki
    rw [if_pos rfl, if_pos (by simp; omega), List.getElem?_append_left (by simp; omega), List.getElem?_take, if_pos (by omega)]
    simp [hx]
  · rw [if_neg hki]
    by_cases hi : i < k
    · rw [List.getElem?_append_left (by simp; omega), List.getElem?_append_left (by simp; omega), List.getElem?_take, List.getElem?_take, if_pos hi, if_pos (by omega)]
    · rw [List.getElem?_append_right (by simp; omega), List.getElem?_append_right (by simp; omega)]
      simp only [List.length_take, List.length_map, List.getElem?_replicate]
      by_cases h2 : i < V.length
      · rw [if_pos (by omega), if_pos (by omega)]
      · rw [if_neg (by omega), if_neg (by omega)]
def fillR (s : St) (k m q : Nat) (x : Int) : St := { s with vars := s.vars.set k (List.replicate q x ++ List.replicate (m - q) 0) }
theorem fillR_row {s : St} {k m q : Nat} {x : Int} (hk : k < s.vars.length) : (fillR s k m q x).vars[k]? = some (List.replicate q x ++ List.replicate (m - q) 0) := by
  unfold fillR; simp [hk]
theorem fillR_set {s : St} {k m q : Nat} {x : Int} (hk : k < s.vars.length) (hq : q < m) : setS (fillR s k m q x) k q x = fillR s k m (q + 1) x := by
  have h := fillR_row (m := m) (q := q) (x := x) hk
  unfold setS
  rw [show (fillR s k m q x).vars.getD k [] = List.replicate q x ++ List.replicate (m - q) 0 by simp [List.getD, h]]
  unfold fillR
  simp only [List.set_set]
  congr 2
  apply List.ext_getElem?
  intro i
  rw [List.getElem?_set]
  by_cases hqi : q = i
  · subst hqi
    rw [if_pos rfl, if_pos (by simp; omega), List.getElem?_append_left (by simp)]
    simp
  · rw [if_neg hqi]
    by_cases hi : i < q
    · rw [List.getElem?_append_left (by simp; omega), List.getElem?_append_left (by simp; omega), List.getElem?_replicate, List.getElem?_replicate, if_pos hi, if_pos (by omega)]
    · rw [List.getElem?_append_right (by simp; omega), List.getElem?_append_right (by simp; omega)]
      simp only [List.length_replicate, List.getElem?_replicate]
      by_cases h2 : i < m
      · rw [if_pos (by omega), if_pos (by omega)]
      · rw [if_neg (by omega), if_neg (by omega)]
theorem fillR_zero (s : St) (k m : Nat) (x : Int) : fillR s k m 0 x = { s with vars := s.vars.set k (List.replicate m 0) } := by unfold fillR; simp
theorem fillR_full (s : St) (k m : Nat) (x : Int) : fillR s k m m x = { s with vars := s.vars.set k (List.replicate m x) } := by unfold fillR; simp
theorem fillR_len (s : St) (k m q : Nat) (x : Int) : (fillR s k m q x).vars.length = s.vars.length := by unfold fillR; simp
theorem made_ints (m : Nat) : (madeCells (Value.int .i64 0).cells m).toList = iV (List.replicate m 0) := by
  unfold iV madeCells
  simp [Value.cells, Nat.mod_one]
  exact (List.eq_replicate_iff).2 ⟨by simp, fun b hb => by simp at hb; exact hb.2.symm⟩
theorem made_nils (m : Nat) : (madeCells (Value.slice none 0 0).cells m).toList = List.replicate m (Value.slice none 0 0) := by
  unfold madeCells
  simp [Value.cells, Nat.mod_one]
  exact (List.eq_replicate_iff).2 ⟨by simp, fun b hb => by simp at hb; exact hb.2.symm⟩
theorem bV_zeros : ∀ n, bV (List.replicate n zeroI) = List.replicate (n * 10) (Value.int .i64 0)
  | 0 => rfl
  | n + 1 => by
    rw [List.replicate_succ]
    show iV zeroI ++ bV (List.replicate n zeroI) = _
    rw [bV_zeros n, show iV zeroI = List.replicate 10 (Value.int .i64 0) from rfl, List.replicate_append_replicate]
    congr 1
    omega
theorem made_insts (n : Nat) : (madeCells (Value.agg #[.int .i64 0, .int .i64 0, .int .i64 0, .int .i64 0, .int .i64 0, .int .i64 0, .int .i64 0, .int .i64 0, .int .i64 0, .int .i64 0]).cells (n * 10)).toList = bV (List.replicate n zeroI) := by
  rw [bV_zeros]
  have hz : ∀ j, j < 10 → (Value.agg #[.int .i64 0, .int .i64 0, .int .i64 0, .int .i64 0, .int .i64 0, .int .i64 0, .int .i64 0, .int .i64 0, .int .i64 0, .int .i64 0]).cells[j]! = .int .i64 0 := by
    rw [show (Value.agg #[.int .i64 0, .int .i64 0, .int .i64 0, .int .i64 0, .int .i64 0, .int .i64 0, .int .i64 0, .int .i64 0, .int .i64 0, .int .i64 0]).cells = #[.int .i64 0, .int .i64 0, .int .i64 0, .int .i64 0, .int .i64 0, .int .i64 0, .int .i64 0, .int .i64 0, .int .i64 0, .int .i64 0] by first | rfl | kernel_rfl | simp [Value.cells]]
    intro j hj
    obtain rfl | rfl | rfl | rfl | rfl | rfl | rfl | rfl | rfl | rfl : j = 0 ∨ j = 1 ∨ j = 2 ∨ j = 3 ∨ j = 4 ∨ j = 5 ∨ j = 6 ∨ j = 7 ∨ j = 8 ∨ j = 9 := by omega
    all_goals rfl
  have hs : (Value.agg #[.int .i64 0, .int .i64 0, .int .i64 0, .int .i64 0, .int .i64 0, .int .i64 0, .int .i64 0, .int .i64 0, .int .i64 0, .int .i64 0]).cells.size = 10 := by first | rfl | kernel_rfl | simp [Value.cells]
  refine (List.eq_replicate_iff).2 ⟨by simp [madeCells], fun u hu => ?_⟩
  unfold madeCells at hu
  simp only [Array.toList_map, List.mem_map] at hu
  obtain ⟨j, _, rfl⟩ := hu
  rw [hs]
  exact hz _ (Nat.mod_lt _ (by omega))
/-- the rows of no length that there are at first -/
theorem rows_nils (B : Nat) (w : World) (e : TypeId) (n : Nat) : OwnRows B e w (List.replicate n (Value.slice none 0 0)) (List.replicate n []) := by
  refine ⟨by simp, fun i u l hu hl => ?_, fun i j u u' g _ hu _ hg => ?_⟩
  · rw [List.getElem?_replicate] at hu hl
    split at hu
    · rename_i hi
      rw [if_pos hi] at hl
      obtain rfl := Option.some.inj hu
      obtain rfl := Option.some.inj hl
      exact World.ownsRow_nil _ _ _ _
    · cases hu
  · rw [List.getElem?_replicate] at hu
    split at hu
    · obtain rfl := Option.some.inj hu
      simp [Value.ownBlock] at hg
    · cases hu
theorem heap_push (w : World) (o : Obj) : (w.alloc o).heap = w.heap.push o := rfl
theorem get_last {w : World} {o : Obj} {g : Nat} (h : g = w.heap.size) : (w.alloc o).heap[g]? = some o := by
  subst h
  show (w.heap.push o)[w.heap.size]? = _
  simp
theorem get_past {w : World} {o : Obj} {g : Nat} (h : g < w.heap.size) : (w.alloc o).heap[g]? = w.heap[g]? := by
  show (w.heap.push o)[g]? = _
  rw [Array.getElem?_push, if_neg (by omega)]
theorem OwnS.rowAt {B : Nat} {w : World} {g1 M c : Nat} {b : Value} {s : St} {U : List Value} (h : OwnS B w (.slice (some ⟨g1, 0, none⟩) M c) b s U) {k : Nat} {l : List Int} (hk : s.vars[k]? = some l) :
    g1 < w.heap.size ∧ ∃ ar cap, w.cell? ⟨g1, k, none⟩ = some (.slice ar l.length cap) := by
  have hkl : k < s.vars.length := lt_of_get hk
  obtain ⟨u, hu⟩ := get_some (L := U) (n := k) (by rw [h.rows.len]; exact hkl)
  obtain ⟨gv, cv, f1, f2, f3, f4⟩ := own_cell h.own hu
  obtain ⟨ar, cap, rfl⟩ := owns_form (h.rows.row k _ l hu hk)
  obtain rfl : g1 = gv := by injection f1 with e1; injection e1 with e1; injection e1
  exact ⟨f3, ar, cap, f4⟩
theorem obj_below {B : Nat} {w w' : World} {p : Nat} {o : Obj} (hp : w.heap[p]? = some o) (hb : Below B w w') (h : p < B) : w'.heap[p]? = some o := (hb.block p h).trans hp
theorem OwnS.low {B C : Nat} {w : World} {v b : Value} {s : St} {U : List Value} (h : OwnS C w v b s U) (hB : B ≤ C) : OwnS B w v b s U :=
  ⟨own_low h.own hB, rows_low h.rows hB, own_low h.inst hB, h.ints, h.lens, h.n64, h.f64, h.few⟩
/-- a number is written into a row; blocks of other types stay -/
theorem OwnS.set' {B : Nat} {w : World} {g1 M c : Nat} {b : Value} {s : St} {U : List Value} (h : OwnS B w (.slice (some ⟨g1, 0, none⟩) M c) b s U) {n m : Nat} {l : List Int} (hn : s.vars[n]? = some l) (hm : m < l.length) {x : Int} (hx : I64 x) :
    ∃ bi cap, g1 < w.heap.size ∧ w.cell? ⟨g1, n, none⟩ = some (.slice (some ⟨bi, 0, none⟩) l.length cap) ∧ B ≤ bi ∧ bi < w.heap.size ∧ w.cell? ⟨bi, m, none⟩ = some (.int .i64 (l.getD m 0)) ∧ w.frozen? ⟨bi, m, none⟩ = false ∧ OwnS B (w.setCell ⟨bi, m, none⟩ (.int .i64 x)) (.slice (some ⟨g1, 0, none⟩) M c) b (setS s n m x) U ∧
      ∀ (p : Nat) (A : Array Value) (t : TypeId), w.heap[p]? = some (.cells A t) → t ≠ 3 → (w.setCell ⟨bi, m, none⟩ (.int .i64 x)).heap[p]? = some (.cells A t) := by
  have hkl : n < s.vars.length := lt_of_get hn
  obtain ⟨u, hu⟩ := get_some (L := U) (n := n) (by rw [h.rows.len]; exact hkl)
  obtain ⟨gv, cv, bi, cap, f1, f2, f3, f4, f5, f6, f7, f8, f9⟩ := h.set hn hm hx
  obtain ⟨gv', cv', q1, q2, q3, q4⟩ := own_cell h.own hu
  obtain rfl : g1 = gv := by injection f1 with e1; injection e1 with e1; injection e1
  obtain rfl : g1 = gv' := by injection q1 with e1; injection e1 with e1; injection e1
  obtain rfl : u = .slice (some ⟨bi, 0, none⟩) l.length cap := by rw [q4] at f4; exact Option.some.inj f4
  exact ⟨bi, cap, f3, f4, f5, f6, f7, f8, f9, fun p A t hp ht => obj_set hp (h.rows.row n _ l hu hn) rfl ht⟩
theorem obj_frozen {w : World} {p : Nat} {A : Array Value} {t : TypeId} (hp : w.heap[p]? = some (.cells A t)) (i : Nat) : w.frozen? ⟨p, i, none⟩ = false := by
  unfold World.frozen?
  rw [show (⟨p, i, none⟩ : Addr).block = p from rfl, hp]
  simp
theorem obj_self {w : World} {p i : Nat} {A : Array Value} {t : TypeId} {x : Value} (hp : w.heap[p]? = some (.cells A t)) : (w.setCell ⟨p, i, none⟩ x).heap[p]? = some (.cells (A.setIfInBounds i x) t) := by
  unfold World.setCell
  show (w.heap.modify p _)[p]? = _
  rw [Array.getElem?_modify, if_pos rfl, hp]
  rfl
theorem get_set {w : World} {a : Addr} {x : Value} {g : Nat} (h : a.block ≠ g) : (w.setCell a x).heap[g]? = w.heap[g]? := by
  unfold World.setCell
  show (w.heap.modify a.block _)[g]? = _
  rw [Array.getElem?_modify, if_neg h]
theorem drew_heap (w : World) : w.drew.heap = w.heap := rfl
theorem new_startV {w : World} {B g1 g2 nb : Nat} {V : List Vr} {Z1 Z2 : Array Value} (h1 : w.heap[g1]? = some (.cells Z1 45)) (h2 : w.heap[g2]? = some (.cells Z2 62)) (b1 : B ≤ g1) (b2 : B ≤ g2) (e1 : Z1.toList = List.replicate V.length (Value.slice none 0 0)) (e2 : Z2.toList = bV (List.replicate nb zeroI)) (hV : V.length ≤ 70) (hnb : nb ≤ 40) :
    OwnS B w (.slice (some ⟨g1, 0, none⟩) V.length V.length) (.slice (some ⟨g2, 0, none⟩) nb nb) (newAt V nb 0) (List.replicate V.length (Value.slice none 0 0)) := by
  have hv : (newAt V nb 0).vars = List.replicate V.length [] := by unfold newAt; simp
  have hb : (newAt V nb 0).blocks = List.replicate nb zeroI := rfl
  have z1 : Z1.size = V.length := by have := congrArg List.length e1; simpa using this
  have z2 : Z2.size = nb * 10 := by have := congrArg List.length e2; rw [bV_zeros] at this; simpa using this
  refine ⟨?_, ?_, ?_, ?_, ?_, by unfold I64 newAt; dsimp only; omega, by unfold I64 newAt; dsimp only; omega, by rw [hv]; simp; omega⟩
  · rw [hv, List.length_replicate]
    exact ⟨by simp, Or.inr ⟨g1, V.length, Z1, rfl, b1, h1, Nat.le_refl _, by unfold maxLen; omega, by omega, by rw [e1]; exact List.take_of_length_le (by simp)⟩⟩
  · rw [hv]; exact rows_nils _ _ _ _
  · rw [hb, List.length_replicate]
    exact ⟨by rw [bV_zeros]; simp, Or.inr ⟨g2, nb, Z2, rfl, b2, h2, Nat.le_refl _, by unfold maxLen; omega, z2, by rw [e2]; exact List.take_of_length_le (by rw [bV_zeros]; simp)⟩⟩
  · rw [hv]; intro l hl z hz
    obtain rfl := (List.mem_replicate.1 hl).2
    cases hz
  · rw [hb]; intro l hl
    obtain rfl := (List.mem_replicate.1 hl).2
    refine ⟨rfl, fun z hz => ?_⟩
    obtain rfl := (List.mem_replicate.1 hz).2
    unfold I64; omega
theorem new_start {w : World} {B g1 g2 nb N : Nat} {V : List Vr} {Z1 Z2 : Array Value} (hN : V.length = N) (e1 : Z1.toList = List.replicate N (Value.slice none 0 0)) (e2 : Z2.toList = bV (List.replicate nb zeroI)) (hV : N ≤ 70) (hnb : nb ≤ 40) (h1 : w.heap[g1]? = some (.cells Z1 45)) (h2 : w.heap[g2]? = some (.cells Z2 62)) (b1 : B ≤ g1) (b2 : B ≤ g2) :
    OwnS B w (.slice (some ⟨g1, 0, none⟩) N N) (.slice (some ⟨g2, 0, none⟩) nb nb) (newAt V nb 0) (List.replicate N (Value.slice none 0 0)) := by
  subst hN
  exact new_startV h1 h2 b1 b2 e1 e2 hV hnb
end Go.Proofs.Ythanmbfelihkfaa
