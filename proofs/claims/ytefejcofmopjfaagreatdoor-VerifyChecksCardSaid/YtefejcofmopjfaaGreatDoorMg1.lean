/- Merged texts: QuIns, AppBlk, QuInsW, QuInsG, QuPos, Bools, QuPut, Grid, QuMore, HeldTill, QuWalk, TyA, Ints, GridOwn, QuReach. -/
import Derived.Test.YtefejcofmopjfaaGreatDoorOwn
import Derived.Test.YtefejcofmopjfaaGreatDoorSeq
import Derived.Test.YtefejcofmopjfaaGreatDoorMg0
import Derived.Lib.SliceRun
import Derived.Lib.JoinLaws
import Derived.Lib.AppendZeros
import Derived.Lib.AppendZerosOnto
import Derived.Lib.Overlaps
import Derived.Laws.Externs
import Derived.Laws.IdiomCopy
import Derived.Laws.NewBlocks
import Derived.Shelf.RegionOpenPlain
import Derived.Test.YtefejcofmopjfaaGreatDoorKeep
import Derived.Laws.EntriesVeiled
import Derived.Laws.Cover3
import Derived.Test.YtefejcofmopjfaaGreatDoorRow
import Derived.Deep.RegionHeld3
import Derived.Test.YtefejcofmopjfaaGreatDoorMoreB
import Derived.LoopTactic
import Derived.OwnWalk
import Derived.WalkKit
import Derived.WalkSpells
import Derived.WalkLawsBesides
import Derived.Deep.QuietTactic
import Derived.BigQuiet
import Derived.WalkSmall
import Derived.IntWalk
/- slices.Insert of one number into a queue of the call's own. -/
namespace Go.Proofs.YtefejcofmopjfaaGreatDoor
open Go.RowKit
set_option linter.unusedSimpArgs false
set_option linter.unusedVariables false
/-- the second argument's type counts for no more than being a slice -/
theorem append_types {P : Program} {t u e : TypeId} (ht : P.underlying t = some (.slice e)) (hu : P.underlying u = some (.slice e)) (ty : TypeId) (v x : Value) (w : World) :
    (Builtin.append_ #[t, u] ty #[v, x]).run P w = (Builtin.append_ #[t, t] ty #[v, x]).run P w := by
  simp only [Builtin.append_, List.getElem?_toArray, List.getElem?_cons_zero, List.getElem?_cons_succ]
  cases v <;> simp [Sem.run_bind, run_underlying ht, run_underlying hu, Result.andThen]
/-- cells from o on are these -/
def setsL : List Value → Nat → List Value → List Value
  | xs, _, [] => xs
  | xs, o, v :: r => setsL (xs.set o v) (o + 1) r
theorem setsL_len : ∀ (vs xs : List Value) (o : Nat), (setsL xs o vs).length = xs.length
  | [], _, _ => rfl
  | v :: r, xs, o => by unfold setsL; rw [setsL_len r]; simp
theorem setsL_get : ∀ (vs xs : List Value) (o k : Nat), o + vs.length ≤ xs.length → (setsL xs o vs)[k]? = if o ≤ k ∧ k < o + vs.length then vs[k - o]? else xs[k]?
  | [], xs, o, k, _ => by
    unfold setsL
    rw [if_neg (by simp)]
  | v :: r, xs, o, k, h => by
    unfold setsL
    rw [setsL_get r _ _ _ (by simp at h ⊢; omega)]
    by_cases h1 : k = o
    · subst h1
      rw [if_neg (by omega), if_pos (by simp), Nat.sub_self, List.getElem?_set, if_pos rfl, if_pos (by simp at h; omega)]
      rfl
    · by_cases h2 : o + 1 ≤ k ∧ k < o + 1 + r.length
      · rw [if_pos h2, if_pos (by simp; omega), show k - o = (k - (o + 1)) + 1 by omega, List.getElem?_cons_succ]
      · rw [if_neg h2, if_neg (by simp; omega), List.getElem?_set, if_neg (by omega)]
theorem setCells_owns {B : Nat} {e : TypeId} {g n cap : Nat} : ∀ (vs xs : List Value) (o : Nat) (w : World), w.ownsRow B e 1 (.slice (some ⟨g, 0, none⟩) n cap) n xs →
    (w.setCells g o vs).ownsRow B e 1 (.slice (some ⟨g, 0, none⟩) n cap) n (setsL xs o vs) ∧ w.grownBy (w.setCells g o vs) (some g)
  | [], xs, o, w, h => ⟨h, World.grownBy.refl _ _⟩
  | v :: r, xs, o, w, h => by
    obtain ⟨h1, h2⟩ := h.stored o v
    obtain ⟨h3, h4⟩ := setCells_owns r _ (o + 1) _ h1
    exact ⟨h3, h2.trans h4⟩
/-- one spare cell more -/
theorem owns_more {B : Nat} {e : TypeId} {g n cap : Nat} {xs : List Value} {w : World} (h : w.ownsRow B e 1 (.slice (some ⟨g, 0, none⟩) n cap) n xs) (hc : n < cap) : ∃ y, w.ownsRow B e 1 (.slice (some ⟨g, 0, none⟩) (n + 1) cap) (n + 1) (xs ++ [y]) := by
  rcases h.2 with ⟨h1, _⟩ | ⟨g', cap', cur, h1, hB, hg, hnc, hcm, hcs, htake⟩
  · cases h1
  · injection h1 with e1 e2 e3
    injection e1 with e1
    injection e1 with e1
    subst e1 e3
    have hn : n < cur.toList.length := by simp; omega
    refine ⟨cur.toList[n], by simp [h.1], Or.inr ⟨g, cap, cur, rfl, hB, hg, by omega, hcm, hcs, ?_⟩⟩
    rw [Nat.mul_one, List.take_add_one, List.getElem?_eq_getElem hn]
    rw [Nat.mul_one] at htake
    rw [htake]
    rfl
theorem ins_a (xs : List Value) (y x : Value) (i : Nat) (hi : i ≤ xs.length) : setsL (setsL (xs ++ [y]) (i + 1) (xs.drop i)) i [x] = xs.take i ++ x :: xs.drop i := by
  apply List.ext_getElem?
  intro k
  rw [setsL_get _ _ _ _ (by rw [setsL_len]; simp; omega), setsL_get _ _ _ _ (by simp; omega)]
  by_cases h1 : k < i
  · rw [if_neg (by omega), if_neg (by omega), List.getElem?_append_left (by omega), List.getElem?_append_left (by simp; omega), List.getElem?_take, if_pos h1]
  · rw [List.getElem?_append_right (l₁ := xs.take i) (l₂ := x :: xs.drop i) (by rw [List.length_take]; omega), List.length_take, Nat.min_eq_left hi]
    by_cases h2 : k = i
    · subst h2
      rw [if_pos (by simp), Nat.sub_self]
      rfl
    · rw [if_neg (by simp; omega), show k - i = (k - (i + 1)) + 1 by omega, List.getElem?_cons_succ]
      by_cases h3 : k < i + 1 + (xs.drop i).length
      · rw [if_pos ⟨by omega, h3⟩]
      · rw [if_neg (by omega), List.getElem?_eq_none (by simp at h3 ⊢; omega), List.getElem?_eq_none (by simp at h3 ⊢; omega)]
theorem ins_b (xs zs : List Value) (x : Value) (i : Nat) (hi : i ≤ xs.length) (hz : zs.length = xs.length + 1 - i) : setsL (setsL (xs.take i ++ zs) i [x]) (i + 1) (xs.drop i) = xs.take i ++ x :: xs.drop i := by
  have hl : (xs.take i ++ zs).length = xs.length + 1 := by rw [List.length_append, List.length_take, hz]; omega
  apply List.ext_getElem?
  intro k
  rw [setsL_get _ _ _ _ (by rw [setsL_len, hl]; simp; omega), setsL_get _ _ _ _ (by rw [hl]; simp; omega)]
  by_cases h1 : k < i
  · rw [if_neg (by omega), if_neg (by omega), List.getElem?_append_left (by simp; omega), List.getElem?_append_left (by simp; omega)]
  · rw [List.getElem?_append_right (l₁ := xs.take i) (l₂ := x :: xs.drop i) (by rw [List.length_take]; omega), List.length_take, Nat.min_eq_left hi]
    by_cases h2 : k = i
    · subst h2
      rw [if_neg (by omega), if_pos (by simp), Nat.sub_self]
      rfl
    · by_cases h3 : k < i + 1 + (xs.drop i).length
      · rw [if_pos ⟨by omega, h3⟩, show k - i = (k - (i + 1)) + 1 by omega, List.getElem?_cons_succ]
      · rw [if_neg (by omega), if_neg (by simp; omega), List.getElem?_eq_none (l := xs.take i ++ zs) (by rw [hl]; simp at h3; omega), List.getElem?_eq_none (by simp at h3 ⊢; omega)]
end Go.Proofs.YtefejcofmopjfaaGreatDoor

/- Appending to a row of the call's own: where the answer lies. -/
namespace Go.Proofs.YtefejcofmopjfaaGreatDoor
open Go.RowKit
set_option linter.unusedSimpArgs false
set_option linter.unusedVariables false
/-- the answer lies where the row lay, or in a new block -/
def Near (w : World) (v v' : Value) : Prop := v'.ownBlock = v.ownBlock ∨ ∃ g, v'.ownBlock = some g ∧ w.heap.size ≤ g
theorem run_append_near {P : Program} (w : World) (base : Nat) (t ty e : TypeId) (i : TypeInfo) (z : Value) (size bytes : Nat) (ht : P.underlying t = some (.slice e)) (hi : P.info? e = some i) (hz : i.zero = some z)
    (hsize : i.size = size) (hby : i.bytes = bytes)
    (v : Value) (n : Nat) (xs : List Value) (hown : w.ownsRow base e size v n xs)
    (a : Addr) (m c : Nat) (news : List Value) (hl : news.length = m * size) (hnews : ∀ j u, news[j]? = some u → w.cell? (a.add j) = some u) (h1 : ∀ u ∈ news, u.oneCell' = true)
    (h63 : n + m ≤ maxLen) (hbytes : (n + m) * bytes ≤ 140737488355328) (v' : Value) (w' : World) (hr : (Builtin.append_ #[t, t] ty #[v, .slice (some a) m c]).run P w = .ok v' w') : Near w v v' := by
  subst hsize
  subst hby
  have hsmall : n + m ≤ 9223372036854775807 := by simp only [maxLen] at h63; omega
  rcases hown.2 with ⟨rfl, rfl⟩ | ⟨g, cap, cur, rfl, hbg, hg, hnc, hcm, hcs, htake⟩
  · by_cases hm : m = 0
    · subst hm
      have hn : news = [] := List.eq_nil_of_length_eq_zero (by simpa using hl)
      subst hn
      simp [Builtin.append_, run_underlying ht, sizeOf, typeInfo, hi, Builtin.lenOf, Builtin.firstCells, loadCells, loadCellsFrom] at hr
      exact .inl (by rw [← hr.1])
    · have h2 := run_append_nil (P := P) w t ty e i z ht hi hz a m c news hl hnews (by omega) (by omega) (by have hb := hbytes; simp only [Nat.zero_add] at hb; omega)
      rw [h2] at hr
      injection hr with e1 e2
      exact .inr ⟨w.heap.size, by rw [← e1]; rfl, Nat.le_refl _⟩
  · by_cases hroom : n + m ≤ cap
    · have hfit : n * i.size + news.length ≤ cur.size := by rw [hl, hcs, ← Nat.add_mul]; exact Nat.mul_le_mul_right _ hroom
      have h2 := run_append_room (P := P) w t ty e i ht hi g n cap cur hg a m c news hl hnews h1 hroom hfit
      rw [h2] at hr
      injection hr with e1 e2
      exact .inl (by rw [← e1]; rfl)
    · have holds : ∀ j u, xs[j]? = some u → w.cell? ((⟨g, 0, none⟩ : Addr).add j) = some u := hown.cells (g := g) rfl
      have h2 := run_append_grow (P := P) w t ty e i z ht hi hz ⟨g, 0, none⟩ n cap xs hown.1 holds a m c news hl hnews (by omega) (by omega) (growslice_fits (by omega) hbytes)
      rw [h2] at hr
      injection hr with e1 e2
      exact .inr ⟨w.heap.size, by rw [← e1]; rfl, Nat.le_refl _⟩
theorem wp_append_near {P : Program} {w : World} {o : Oper} {a : Act} {K : Act → World → Prop} {Q : Exit → Act → World → Prop} (s x : Operand) (t : TypeId)
    (ho : o.op = .call { callee := .builtin .append, args := #[s, x], argTypes := #[t, t] })
    (base : Nat) (e : TypeId) (i : TypeInfo) (z : Value) (size bytes : Nat) (ht : P.underlying t = some (.slice e)) (hi : P.info? e = some i) (hz : i.zero = some z)
    (hsize : i.size = size) (hby : i.bytes = bytes) (hzs : z.cells.size = size) (hsz : 0 < size)
    (v : Value) (n : Nat) (xs : List Value) (hs : a.eval s = v) (hown : w.ownsRow base e size v n xs)
    (ad : Addr) (m c : Nat) (news : List Value) (hx : a.eval x = .slice (some ad) m c) (hl : news.length = m * size) (hnews : ∀ j u, news[j]? = some u → w.cell? (ad.add j) = some u) (h1 : ∀ u ∈ news, u.oneCell' = true)
    (h63 : n + m ≤ maxLen) (hbytes : (n + m) * bytes ≤ 140737488355328) (hbase : base ≤ w.heap.size)
    (h : ∀ v' w', w'.ownsRow base e size v' (n + m) (xs ++ news) → w.grownBy w' v.ownBlock → Near w v v' → K (a.put o.dst v') w') : o.wp P a w K Q := by
  obtain ⟨v', w', hr, h2, h3, _⟩ := run_append_own (P := P) w base t o.type e i z size bytes ht hi hz hsize hby hzs hsz v n xs hown ad m c news hl hnews h1 h63 hbytes hbase
  have h4 := run_append_near (P := P) w base t o.type e i z size bytes ht hi hz hsize hby v n xs hown ad m c news hl hnews h1 h63 hbytes v' w' hr
  unfold Oper.wp execOp
  simp only [ho, resolve, invoke, builtin, Sem.run_bind, Sem.run_pure, Result.andThen_ok, List.map_toArray, List.map_cons, List.map_nil, hs, hx, hr]
  exact h v' w' h2 h3 h4
theorem wpList_append_near {P : Program} {w : World} {ops : Array Oper} {rest : List Oper} {o : Oper} {a : Act} {Q : Exit → Act → World → Prop} (hgd : o.guard = none) (s x : Operand) (t : TypeId)
    (ho : o.op = .call { callee := .builtin .append, args := #[s, x], argTypes := #[t, t] })
    (base : Nat) (e : TypeId) (i : TypeInfo) (z : Value) (size bytes : Nat) (ht : P.underlying t = some (.slice e)) (hi : P.info? e = some i) (hz : i.zero = some z)
    (hsize : i.size = size) (hby : i.bytes = bytes) (hzs : z.cells.size = size) (hsz : 0 < size)
    (v : Value) (n : Nat) (xs : List Value) (hs : a.eval s = v) (hown : w.ownsRow base e size v n xs)
    (ad : Addr) (m c : Nat) (news : List Value) (hx : a.eval x = .slice (some ad) m c) (hl : news.length = m * size) (hnews : ∀ j u, news[j]? = some u → w.cell? (ad.add j) = some u) (h1 : ∀ u ∈ news, u.oneCell' = true)
    (h63 : n + m ≤ maxLen) (hbytes : (n + m) * bytes ≤ 140737488355328) (hbase : base ≤ w.heap.size)
    (h : ∀ v' w', w'.ownsRow base e size v' (n + m) (xs ++ news) → w.grownBy w' v.ownBlock → Near w v v' → wpList P ops Q rest (a.put o.dst v') w') : wpList P ops Q (o :: rest) a w :=
  wpList_plain hgd fun _ hK => wp_append_near s x t ho base e i z size bytes ht hi hz hsize hby hzs hsz v n xs hs hown ad m c news hx hl hnews h1 h63 hbytes hbase fun v' w' h2 h3 h4 => hK _ _ (h v' w' h2 h3 h4)
/-- one row of many is another one -/
theorem OwnRows.put {B : Nat} {e : TypeId} {w w2 : World} {U : List Value} {L : List (List Int)} {k : Nat} {u v : Value} {l : List Int} (h : OwnRows B e w U L) (hu : U[k]? = some u) (hO : w2.ownsRow B e 1 v l.length (iV l)) (hG : w.grownBy w2 u.ownBlock) (hN : Near w u v) :
    OwnRows B e w2 (U.set k v) (L.set k l) := by
  have hk := lt_of_get hu
  have hne : ∀ (i : Nat) (x : Value), i ≠ k → U[i]? = some x → ∀ g, x.ownBlock = some g → u.ownBlock ≠ some g := by
    intro i x hik hx g hg
    rcases Nat.lt_or_ge i k with h1 | h1
    · exact h.apart i k x u g h1 hx hu hg
    · intro hug
      exact h.apart k i u x g (by omega) hu hx hug hg
  have hsz : ∀ (i : Nat) (x : Value), U[i]? = some x → ∀ g, x.ownBlock = some g → g < w.heap.size := by
    intro i x hx g hg
    obtain ⟨m, hm⟩ := get_some (L := L) (n := i) (by rw [← h.len]; exact lt_of_get hx)
    exact (owns_lt (h.row i x m hx hm) hg).2
  have hvn : ∀ (i : Nat) (x : Value), i ≠ k → U[i]? = some x → ∀ g, x.ownBlock = some g → v.ownBlock ≠ some g := by
    intro i x hik hx g hg
    rcases hN with hN | ⟨g', hN, hge⟩
    · rw [hN]; exact hne i x hik hx g hg
    · rw [hN]; intro he; cases he; have := hsz i x hx g hg; omega
  refine ⟨by rw [List.length_set, List.length_set]; exact h.len, fun i x m hx hm => ?_, fun i j x y g hij hx hy hg => ?_⟩
  · rw [List.getElem?_set] at hx hm
    by_cases hik : k = i
    · subst hik
      rw [if_pos rfl, if_pos hk] at hx
      rw [if_pos rfl, if_pos (by rw [← h.len]; exact hk)] at hm
      cases hx; cases hm; exact hO
    · rw [if_neg hik] at hx hm
      exact owns_grown (h.row i x m hx hm) hG (hne i x (fun hh => hik hh.symm) hx)
  · rw [List.getElem?_set] at hx hy
    by_cases hik : k = i
    · subst hik
      rw [if_pos rfl, if_pos hk] at hx
      rw [if_neg (by omega)] at hy
      cases hx
      intro hyg
      exact hvn j y (by omega) hy g hyg hg
    · rw [if_neg hik] at hx
      by_cases hjk : k = j
      · subst hjk
        rw [if_pos rfl, if_pos hk] at hy
        cases hy
        exact hvn i x (fun hh => hik hh.symm) hx g hg
      · rw [if_neg hjk] at hy
        exact h.apart i j x y g hij hx hy hg
/-- no row yet -/
theorem OwnRows.blank (B : Nat) (e : TypeId) (w : World) (n : Nat) : OwnRows B e w (List.replicate n (.slice none 0 0)) (List.replicate n []) := by
  refine ⟨by simp, fun i u l hu hl => ?_, fun i j u u' g _ hu _ hg => ?_⟩
  · rw [List.getElem?_replicate] at hu hl
    split at hu
    · rename_i hh
      rw [if_pos hh] at hl
      cases hu; cases hl
      exact World.ownsRow_nil _ _ _ _
    · cases hu
  · rw [List.getElem?_replicate] at hu
    split at hu
    · cases hu; cases hg
    · cases hu
theorem OwnRows.store {B C : Nat} {e f : TypeId} {w : World} {U : List Value} {L : List (List Int)} {g n c o q : Nat} {xs : List Value} {x : Value} (h : OwnRows B e w U L) (k : w.ownsRow C f q (.slice (some ⟨g, 0, none⟩) n c) n xs) (hef : e ≠ f) : OwnRows B e (w.setCell ⟨g, o, none⟩ x) U L :=
  ⟨h.len, fun i u l hu hl => owns_set (h.row i u l hu hl) (fun hg => owns_type (h.row i u l hu hl) k hef hg rfl), h.apart⟩
end Go.Proofs.YtefejcofmopjfaaGreatDoor

/- slices.Insert of one number into a queue of the call's own: the walk. -/
namespace Go.Proofs.YtefejcofmopjfaaGreatDoor
open Go.RowKit
set_option linter.unusedSimpArgs false
set_option linter.unusedVariables false
/-- one number more, at a place -/
def InsQ (B : Nat) (v : Value) (n : Nat) (ys : List Value) (w : World) (e : Ending) (w' : World) : Prop := ∃ v', e = .returned v' ∧ w'.ownsRow B 3 1 v' (n + 1) ys ∧ w.grownBy w' v.ownBlock ∧ Near w v v'
theorem wpList_run {P : Program} (w : World) {ops : Array Oper} {rest : List Oper} {o : Oper} {a : Act} {Q : Exit → Act → World → Prop} (hgd : o.guard = none) (s x : Operand) (t tn : TypeId)
    (ho : o.op = .call { callee := .builtin .append, args := #[s, x], argTypes := #[t, tn] }) (vs vx : Value) (hs : a.eval s = vs) (hx : a.eval x = vx)
    {v' : Value} {w' : World} (hr : (Builtin.append_ #[t, tn] o.type #[vs, vx]).run P w = .ok v' w') (h : wpList P ops Q rest (a.put o.dst v') w') : wpList P ops Q (o :: rest) a w :=
  Lib.wpList_append_run w hgd s x t tn ho vs vx hs hx v' w' hr h
set_option maxRecDepth 100000 in
set_option maxHeartbeats 4000000 in
theorem insert_end (B : Nat) (v : Value) (n : Nat) (xs : List Value) (x : Int) (vb : Nat) (tb : TypeId) (w : World) (hown : w.ownsRow B 3 1 v n xs) (hn : n ≤ 100000) (hb : w.heap[vb]? = some (.cells #[.int .i64 x] tb (0, 0))) (hB : B ≤ w.heap.size) :
    Calls Tryz.prog 103 #[v, .int .i64 (n : Int), .slice (some ⟨vb, 0, none⟩) 1 1] w (InsQ B v n (xs ++ [.int .i64 x]) w) := by
  obtain ⟨i0, hi, hz0, hz1, hz2⟩ : ∃ i, Tryz.prog.info? 3 = some i ∧ i.zero = some (.int .i64 0) ∧ i.size = 1 ∧ i.bytes = 8 := ⟨(Tryz.prog.info? 3).get!, by kernel_rfl, by kernel_rfl, by kernel_rfl, by kernel_rfl⟩
  have hnew : ∀ j u, [Value.int .i64 x][j]? = some u → w.cell? ((⟨vb, 0, none⟩ : Addr).add j) = some u := fun j u hj => by
    match j, hj with
    | 0, hj => simp at hj; subst hj; exact obj_cell hb rfl
  have h1 : ∀ u ∈ [Value.int .i64 x], u.oneCell' = true := by intro u hu; simp at hu; subst hu; rfl
  have hra := fun ty => run_append_own (P := Tryz.prog) w B 110 ty 3 i0 (.int .i64 0) 1 8 Tryz.underlying110 hi hz0 hz1 hz2 rfl (by decide) v n xs hown ⟨vb, 0, none⟩ 1 1 [.int .i64 x] rfl hnew h1 (by unfold maxLen; omega) (by omega) hB
  obtain ⟨v', w', hr, hO, hG, _⟩ := hra 110
  have hN := run_append_near (P := Tryz.prog) w B 110 110 3 i0 (.int .i64 0) 1 8 Tryz.underlying110 hi hz0 hz1 hz2 v n xs hown ⟨vb, 0, none⟩ 1 1 [.int .i64 x] rfl hnew h1 (by unfold maxLen; omega) (by omega) v' w' hr
  rw [← append_types Tryz.underlying110 Tryz.underlying35] at hr
  have HQ := Lib.hid (show InsQ B v n (xs ++ [.int .i64 x]) w (.returned v') w' from ⟨v', rfl, hO, hG, hN⟩)
  obtain ⟨a, c, rfl⟩ := owns_form hown
  clear hra hO hG hN hnew h1 hown hb
  have q1 : ((n : Int) == (n : Int)) = true := by simp
  by_cases hc : c = n
  · subst hc
    go_enter Tryz.func103, Tryz.ntmps103
    go_wp2_with (first | (at_builtin; refine wpList_run _ rfl _ _ _ _ rfl _ _ rfl rfl hr ?_) | fail)
    go_ret
    exact HQ.out
  · have q2 : (c = n) = False := eq_false hc
    go_enter Tryz.func103, Tryz.ntmps103
    go_wp2_with (first | (at_builtin; refine wpList_run _ rfl _ _ _ _ rfl _ _ rfl rfl hr ?_) | fail)
    go_ret
    exact HQ.out
/-- a copy, by what its run is -/
theorem wp_copied {P : Program} {w : World} {o : Oper} {a : Act} {K : Act → World → Prop} {Q : Exit → Act → World → Prop} (d s : Operand) (t u : TypeId)
    (ho : o.op = .call { callee := .builtin .copy, args := #[d, s], argTypes := #[t, u] }) (dv sv : Value) (hd : a.eval d = dv) (hs : a.eval s = sv) {v' : Value} {w' : World}
    (hr : (Builtin.copy_ #[t, u] o.type #[dv, sv]).run P w = .ok v' w') (h : K (a.put o.dst v') w') : o.wp P a w K Q := by
  unfold Oper.wp execOp
  simp only [ho, resolve, invoke, builtin, Sem.run_bind, Sem.run_pure, Result.andThen_ok, List.map_toArray, List.map_cons, List.map_nil, hd, hs, hr]
  exact h
theorem wpList_copied {P : Program} {w : World} {ops : Array Oper} {rest : List Oper} {o : Oper} {a : Act} {Q : Exit → Act → World → Prop} (hg : o.guard = none) (d s : Operand) (t u : TypeId)
    (ho : o.op = .call { callee := .builtin .copy, args := #[d, s], argTypes := #[t, u] }) (dv sv : Value) (hd : a.eval d = dv) (hs : a.eval s = sv) {v' : Value} {w' : World}
    (hr : (Builtin.copy_ #[t, u] o.type #[dv, sv]).run P w = .ok v' w') (h : wpList P ops Q rest (a.put o.dst v') w') : wpList P ops Q (o :: rest) a w :=
  wpList_plain hg fun _ hK => wp_copied d s t u ho dv sv hd hs hr (hK _ _ h)
theorem drawn_copied {P : Program} {ops : Array Oper} {o : Oper} {a : Act} {w : World} {K : Act → World → Prop} {Q : Exit → Act → World → Prop} {E : Prop} (hg : o.guard = none) (d s : Operand) (t u : TypeId)
    (ho : o.op = .call { callee := .builtin .copy, args := #[d, s], argTypes := #[t, u] }) (dv sv : Value) (hd : a.eval d = dv) (hs : a.eval s = sv) {v' : Value} {w' : World}
    (hr : (Builtin.copy_ #[t, u] o.type #[dv, sv]).run P w = .ok v' w') (h : K (a.put o.dst v') w') : if Region.wanted o (yielded ops a.tmps) = true then Oper.wp P o a w K Q else E := by
  rw [if_pos (by simp [Region.wanted, hg])]
  exact wp_copied d s t u ho dv sv hd hs hr h
/-- cells of a row of the call's own -/
theorem own_cells {B : Nat} {e : TypeId} {g n c : Nat} {xs : List Value} {w : World} (h : w.ownsRow B e 1 (.slice (some ⟨g, 0, none⟩) n c) n xs) : (∀ j v, xs[j]? = some v → w.cell? ⟨g, j, none⟩ = some v) ∧ (∀ j, w.frozen? ⟨g, j, none⟩ = false) ∧ (∃ k, w.shape? g = some (e, k) ∧ n ≤ k) := by
  refine ⟨fun j v hj => (h.cellAt j (by have := lt_of_get hj; rw [h.1] at this; exact this)).trans hj, fun j => h.frozenAt j, ?_⟩
  rcases h.2 with ⟨h1, _⟩ | ⟨g', cap', cur, h1, hB, hg, hnc, hcm, hcs, htake⟩
  · cases h1
  · injection h1 with e1 e2 e3
    injection e1 with e1
    injection e1 with e1
    subst e1
    exact ⟨cur.size, by simp [World.shape?, hg], by omega⟩
set_option maxRecDepth 100000 in
set_option maxHeartbeats 400000 in
theorem insert_room (B g c : Nat) (n : Nat) (xs : List Value) (x : Int) (i vb : Nat) (tb : TypeId) (w : World) (hown : w.ownsRow B 3 1 (.slice (some ⟨g, 0, none⟩) n c) n xs) (hi : i < n) (hn : n ≤ 100000) (hc : n < c) (hc2 : c ≤ 9223372036854775807) (hb : w.heap[vb]? = some (.cells #[.int .i64 x] tb (0, 0))) (hvb : vb ≠ g) (h1 : ∀ u ∈ xs, u.oneCell' = true) :
    Calls Tryz.prog 103 #[.slice (some ⟨g, 0, none⟩) n c, .int .i64 (i : Int), .slice (some ⟨vb, 0, none⟩) 1 1] w (InsQ B (.slice (some ⟨g, 0, none⟩) n c) n (xs.take i ++ .int .i64 x :: xs.drop i) w) := by
  have hlen := hown.1
  rw [Nat.mul_one] at hlen
  obtain ⟨y, hO2⟩ := owns_more hown hc
  obtain ⟨hc1, hf1, k1, hk1, hk2⟩ := own_cells hO2
  have hsz : (Tryz.prog.info? 3).map (·.size) = some 1 := by kernel_rfl
  have hov : ∀ lb cb, (callFunc 117 #[.slice (some ⟨vb, 0, none⟩) 1 1, .slice (some ⟨g, i + 1, none⟩) lb cb]).run Tryz.prog w = .ok (.value (.bool false)) w := fun lb cb => by
    rw [run_callFunc_extern (P := Tryz.prog) Tryz.func117 (by kernel_rfl) (by kernel_rfl) (by kernel_rfl) (e := Extern.SlicesOverlaps.overlaps #[35, 35] #[4]) (by kernel_rfl),
      Lib.run_overlaps_apart w 35 4 3 Tryz.underlying35 1 Tryz.sizeOf3 ⟨vb, 0, none⟩ ⟨g, i + 1, none⟩ 1 1 lb cb hvb tb 3 1 k1 (by simp [World.shape?, hb]) hk1 (by omega) (obj_frozen hb 0) (obj_frozen hb 1)]
    rfl
  have hsp : ∀ j, j < n + 1 → (w.cell? ⟨g, j, none⟩).isSome = true := fun j hj => by
    rw [hO2.cellAt j (by omega)]
    rw [List.getElem?_eq_getElem (by simp; omega)]; rfl
  have hdl : (xs.drop i).length = n - i := by rw [List.length_drop]; omega
  have hcp1 : ∀ ty dc sc, (Builtin.copy_ #[110, 110] ty #[.slice (some ⟨g, i + 1, none⟩) (n - i) dc, .slice (some ⟨g, i, none⟩) (n + 1 - i) sc]).run Tryz.prog w.drew = .ok (goInt (xs.drop i).length) (w.drew.setCells g (i + 1) (xs.drop i)) := fun ty dc sc =>
    run_copy_cells w.drew _ _ ty 3 g (i + 1) (n - i) dc ⟨g, i, none⟩ (n + 1 - i) sc (xs.drop i) Tryz.underlying110 hsz (by rw [hdl]; simp only [Nat.min_def]; split <;> omega)
      (fun j v hj => by rw [add_at]; exact hc1 (i + j) v (by rw [List.getElem?_drop] at hj; rw [List.getElem?_append_left (lt_of_get hj)]; exact hj))
      (fun j hj => hsp _ (by omega)) (fun j hj => hf1 _) (fun v hv => h1 v (List.mem_of_mem_drop hv))
  obtain ⟨hO3, hG3⟩ := setCells_owns (xs.drop i) (xs ++ [y]) (i + 1) w.drew hO2
  obtain ⟨W1, hW1⟩ : ∃ W1, W1 = w.drew.setCells g (i + 1) (xs.drop i) := ⟨_, rfl⟩
  rw [← hW1] at hcp1 hO3 hG3
  obtain ⟨hc3, hf3, _⟩ := own_cells hO3
  have hvl : vb < w.heap.size := heap_lt hb
  have hb3 : W1.heap[vb]? = some (.cells #[.int .i64 x] tb (0, 0)) := (hG3.block vb hvl (by simpa using hvb)).trans hb
  have hcp2 : ∀ ty dc, (Builtin.copy_ #[110, 35] ty #[.slice (some ⟨g, i, none⟩) (n + 1 - i) dc, .slice (some ⟨vb, 0, none⟩) 1 1]).run Tryz.prog W1 = .ok (goInt 1) (W1.setCells g i [.int .i64 x]) := fun ty dc =>
    run_copy_cells W1 _ _ ty 3 g i (n + 1 - i) dc ⟨vb, 0, none⟩ 1 1 [.int .i64 x] Tryz.underlying110 hsz (by simp only [Nat.min_def]; split <;> simp <;> omega)
      (fun j v hj => by
        match j, hj with
        | 0, hj => simp at hj; subst hj; exact obj_cell hb3 rfl)
      (fun j hj => by
        rw [hO3.cellAt (i + j) (by simp at hj; omega), List.getElem?_eq_getElem (by rw [setsL_len]; simp at hj ⊢; omega)]; rfl) (fun j hj => hf3 _) (by intro u hu; simp at hu; subst hu; rfl)
  obtain ⟨hO4, hG4⟩ := setCells_owns [.int .i64 x] _ i W1 hO3
  rw [ins_a xs y (.int .i64 x) i (by omega)] at hO4
  have HQ := Lib.hid (show InsQ B (.slice (some ⟨g, 0, none⟩) n c) n (xs.take i ++ .int .i64 x :: xs.drop i) w (.returned (.slice (some ⟨g, 0, none⟩) (n + 1) c)) (W1.setCells g i [.int .i64 x]) from ⟨_, rfl, hO4, (show w.grownBy (W1.setCells g i [.int .i64 x]) (some g) from World.grownBy.trans (a := w) ⟨hG3.os, hG3.tape, hG3.output, hG3.size, hG3.block⟩ hG4), Or.inl rfl⟩)
  have Hov := Lib.hid hov
  have HC1 := Lib.hid hcp1
  have HC2 := Lib.hid hcp2
  clear hO2 hO3 hG3 hO4 hG4 hc1 hc3 hf1 hf3 hsp hb hb3 hown hk1 hov hcp1 hcp2 hsz h1 hlen hdl hk2 hvl hW1
  have q1 : ((i : Int) == (n : Int)) = false := by simp; omega
  have q2 : (c = i) = False := eq_false (by omega)
  have q3 : (c = i + 1) = False := eq_false (by omega)
  have q4 : ((c : Int) < (n : Int) + 1) = False := eq_false (by omega)
  have q5 : (0 ≤ (n : Int) + 1) = True := eq_true (by omega)
  have q6 : ((n : Int) + 1 ≤ (c : Int)) = True := eq_true (by omega)
  have q7 : (0 ≤ (i : Int) + 1) = True := eq_true (by omega)
  have q8 : ((i : Int) + 1 ≤ (n : Int) + 1) = True := eq_true (by omega)
  have q10 : ((i : Int) ≤ (n : Int)) = True := eq_true (by omega)
  have q11 : (i ≤ n) = True := eq_true (by omega)
  have q12 : ((n : Int) ≤ (c : Int)) = True := eq_true (by omega)
  have q13 : ((i : Int) ≤ (n : Int) + 1) = True := eq_true (by omega)
  have q9 : (c = 0) = False := eq_false (by omega)
  have hw1 : IntKind.i64.wrap ((i : Int) + 1) = (i : Int) + 1 := by rw [IntKind.wrap_i64]; omega
  have hw2 : wrap64 ((i : Int) + 1) = (i : Int) + 1 := by unfold wrap64; omega
  have hw3 : wrap64 ((n : Int) + 1) = (n : Int) + 1 := by unfold wrap64; omega
  have mixed : Tryz.prog.follows .mixedOrders = true := by kernel_rfl
  go_enter Tryz.func103, Tryz.ntmps103
  go_wp2_with fail
  rw [Hov.out]
  rw [Oper.upon_value]
  go_wp2_with fail
  go_region_law_o (rw [if_pos (by simp [Region.wanted])]; have e := HC1.out 3 (c - (i + 1)) (c - i); refine wp_copied (.tmp 73) (.tmp 76) 110 110 rfl _ _ ?h1 ?h2 e ?h4; (case h1 => simp [Act.eval, Act.put]); (case h2 => simp [Act.eval, Act.put]))
  go_wp2_with fail
  rw [HC2.out]
  simp only [Result.andThen]
  rw [Oper.upon_value]
  go_wp2_with fail
  go_ret
  exact HQ.out
end Go.Proofs.YtefejcofmopjfaaGreatDoor

/- slices.Insert of one number into a queue of the call's own, with no room left: the walk. -/
namespace Go.Proofs.YtefejcofmopjfaaGreatDoor
open Go.RowKit
set_option linter.unusedSimpArgs false
set_option linter.unusedVariables false
theorem zero_len (k : Nat) : (Builtin.zeroCells (Value.int .i64 0).cells k).size = k := by simp [Builtin.zeroCells, Value.cells]
set_option maxHeartbeats 1000000 in
theorem grow_facts (B g c : Nat) (n : Nat) (xs : List Value) (x : Int) (i vb : Nat) (tb : TypeId) (w : World) (hown : w.ownsRow B 3 1 (.slice (some ⟨g, 0, none⟩) n c) n xs) (hi : i < n) (hn : n ≤ 100000) (hc : ¬ n < c) (hb : w.heap[vb]? = some (.cells #[.int .i64 x] tb (0, 0))) (hB : B ≤ w.heap.size) (h1 : ∀ u ∈ xs, u.oneCell' = true) :
    c = n ∧ ∃ (M G : Nat) (W1 W2 W3 : World), c + 1 ≤ G ∧ G ≤ 9223372036854775807 ∧ w.heap.size = M ∧
      (∀ ty, (Builtin.append_ #[110, 3] ty #[.slice (some ⟨g, 0, none⟩) i c, .int .i64 ((c : Int) + 1 - (i : Int))]).run Tryz.prog w = .ok (.slice (some ⟨M, 0, none⟩) (c + 1) G) W1) ∧
      (∀ ty, (Builtin.copy_ #[110, 35] ty #[.slice (some ⟨M, i, none⟩) (c + 1 - i) (G - i), .slice (some ⟨vb, 0, none⟩) 1 1]).run Tryz.prog W1 = .ok (goInt 1) W2) ∧
      (∀ ty, (Builtin.copy_ #[110, 110] ty #[.slice (some ⟨M, i + 1, none⟩) (c - i) (G - (i + 1)), .slice (some ⟨g, i, none⟩) (c - i) (c - i)]).run Tryz.prog W2.drew = .ok (goInt (xs.drop i).length) W3) ∧
      InsQ B (.slice (some ⟨g, 0, none⟩) c c) c (xs.take i ++ .int .i64 x :: xs.drop i) w (.returned (.slice (some ⟨M, 0, none⟩) (c + 1) G)) W3 := by
  obtain ⟨i0, hi0, hz0, hzs, hzb⟩ : ∃ i, Tryz.prog.info? 3 = some i ∧ i.zero = some (.int .i64 0) ∧ i.size = 1 ∧ i.bytes = 8 := ⟨(Tryz.prog.info? 3).get!, by kernel_rfl, by kernel_rfl, by kernel_rfl, by kernel_rfl⟩
  have hsz : (Tryz.prog.info? 3).map (·.size) = some 1 := by kernel_rfl
  have hlen := hown.1
  rw [Nat.mul_one] at hlen
  obtain ⟨hc1, hf1, k1, hk1, hk2⟩ := own_cells hown
  have hnc : n ≤ c := by
    rcases hown.2 with ⟨h1, _⟩ | ⟨g', cap', cur, h1, _, _, h2, _⟩
    · cases h1
    · injection h1 with e1 e2 e3
      omega
  obtain rfl : c = n := by omega
  have hgl : g < w.heap.size := by
    have := hc1 0 _ (List.getElem?_eq_getElem (by omega))
    by_cases h : g < w.heap.size
    · exact h
    · simp [World.cell?, Array.getElem?_eq_none (Nat.le_of_not_lt h)] at this
  have hvl : vb < w.heap.size := heap_lt hb
  have hold : (Builtin.firstCells i0.size i (.slice (some ⟨g, 0, none⟩) i c)).run Tryz.prog w.drew = .ok (xs.take i).toArray w.drew := by
    rw [hzs]
    exact run_firstCells_some w.drew 1 i ⟨g, 0, none⟩ i c (xs.take i) (by rw [List.length_take]; omega) (fun j v hj => by
      rw [add_at, Nat.zero_add]
      rw [List.getElem?_take] at hj
      split at hj
      · exact hc1 j v hj
      · cases hj)
  obtain ⟨G, hG⟩ : ∃ G, grownCap w (c + 1) c 3 = G := ⟨_, rfl⟩
  have hGn : c + 1 ≤ G := by rw [← hG]; exact grownCap_ge w _ _ _
  have hG63 : G ≤ maxLen := by
    have := grownCap_le_maxLen w (c + 1) c 3 (by unfold maxLen; omega)
    rwa [hG] at this
  have hrz : ∀ ty, (Builtin.append_ #[110, 3] ty #[.slice (some ⟨g, 0, none⟩) i c, .int .i64 ((c : Int) + 1 - (i : Int))]).run Tryz.prog w =
      .ok (.slice (some ⟨w.heap.size, 0, none⟩) (c + 1) G) (w.drew.alloc (.cells ((xs.take i).toArray ++ Builtin.zeroCells (Value.int .i64 0).cells (c + 1 - i) ++ Builtin.zeroCells (Value.int .i64 0).cells (G - (c + 1))) 3)) := fun ty => by
    have h := Lib.run_append_grow_zeros (P := Tryz.prog) w 110 3 ty 3 i0 _ .i64 .i64 Tryz.underlying110 Tryz.underlying3 hi0 hz0 (some ⟨g, 0, none⟩) i c (xs.take i) hold (c + 1 - i) (by omega) (by omega) (by omega) (by omega) (by rw [hzb]; omega) (by rw [hzb, show i + (c + 1 - i) = c + 1 by omega]; exact growslice_fits (by omega) (by omega))
    rw [show i + (c + 1 - i) = c + 1 by omega, hG] at h
    rw [show (c : Int) + 1 - (i : Int) = ((c + 1 - i : Nat) : Int) by omega]
    exact h
  obtain ⟨zs, hzs2⟩ : ∃ zs, (Builtin.zeroCells (Value.int .i64 0).cells (c + 1 - i)).toList = zs := ⟨_, rfl⟩
  have hzl : zs.length = xs.length + 1 - i := by rw [← hzs2, Array.length_toList, zero_len]; omega
  obtain ⟨ROW, hROW⟩ : ∃ ROW : Array Value, (xs.take i).toArray ++ Builtin.zeroCells (Value.int .i64 0).cells (c + 1 - i) ++ Builtin.zeroCells (Value.int .i64 0).cells (G - (c + 1)) = ROW := ⟨_, rfl⟩
  have hRs : ROW.size = G := by rw [← hROW]; simp only [Array.size_append, zero_len, List.size_toArray, List.length_take]; omega
  have hRt : ROW.toList.take (c + 1) = xs.take i ++ zs := by
    rw [← hROW, Array.toList_append, Array.toList_append, hzs2]
    exact List.take_left' (by rw [List.length_append, hzl, List.length_take]; omega)
  rw [hROW] at hrz
  obtain ⟨W1, hW1⟩ : ∃ W1, w.drew.alloc (.cells ROW 3) = W1 := ⟨_, rfl⟩
  rw [hW1] at hrz
  obtain ⟨M, hM⟩ : ∃ M, w.heap.size = M := ⟨_, rfl⟩
  have hM1 : W1.heap[M]? = some (.cells ROW 3 (0, 0)) := by rw [← hW1, ← hM]; exact get_last rfl
  have hpast : ∀ k, k < M → W1.heap[k]? = w.heap[k]? := fun k hk => by rw [← hW1]; exact get_past (w := w.drew) (by show k < w.heap.size; rw [hM]; exact hk)
  have hO1 : W1.ownsRow B 3 1 (.slice (some ⟨M, 0, none⟩) (c + 1) G) (c + 1) (xs.take i ++ zs) :=
    ⟨by rw [List.length_append, hzl, List.length_take]; omega, Or.inr ⟨M, G, ROW, rfl, by omega, hM1, hGn, hG63, by omega, by rw [Nat.mul_one]; exact hRt⟩⟩
  have hgr : w.grownBy W1 none := by
    rw [← hW1]
    have h := World.grownBy_alloc w.drew (.cells ROW 3) none
    exact ⟨h.os, h.tape, h.output, h.size, h.block⟩
  have hx1 : ∀ u ∈ [Value.int .i64 x], u.oneCell' = true := by intro u hu; simp at hu; subst hu; rfl
  obtain ⟨hc2, hf2, k2, hk3, hk4⟩ := own_cells hO1
  have hb1 : W1.heap[vb]? = some (.cells #[.int .i64 x] tb (0, 0)) := (hpast vb (by omega)).trans hb
  have hcpA : ∀ ty, (Builtin.copy_ #[110, 35] ty #[.slice (some ⟨M, i, none⟩) (c + 1 - i) (G - i), .slice (some ⟨vb, 0, none⟩) 1 1]).run Tryz.prog W1 = .ok (goInt 1) (W1.setCells M i [.int .i64 x]) := fun ty =>
    run_copy_cells W1 _ _ ty 3 M i (c + 1 - i) (G - i) ⟨vb, 0, none⟩ 1 1 [.int .i64 x] Tryz.underlying110 hsz (by simp only [Nat.min_def]; split <;> simp <;> omega)
      (fun j v hj => by
        match j, hj with
        | 0, hj => simp at hj; subst hj; exact obj_cell hb1 rfl)
      (fun j hj => by rw [hO1.cellAt (i + j) (by simp at hj; omega), List.getElem?_eq_getElem (by rw [List.length_append, hzl, List.length_take]; simp at hj; omega)]; rfl) (fun j hj => hf2 _) hx1
  obtain ⟨hO2, hG2⟩ := setCells_owns [.int .i64 x] _ i W1 hO1
  obtain ⟨W2, hW2⟩ : ∃ W2, W1.setCells M i [.int .i64 x] = W2 := ⟨_, rfl⟩
  rw [hW2] at hcpA hO2 hG2
  have hdl : (xs.drop i).length = c - i := by rw [List.length_drop]; omega
  have hg2 : ∀ j, W2.cell? ⟨g, j, none⟩ = w.cell? ⟨g, j, none⟩ := fun j => by
    have e1 := hG2.block g (by have := hgr.size; omega) (by simp; omega)
    have e2 := hpast g (by omega)
    exact World.cell?_of_block (e1.trans e2)
  obtain ⟨_, hf3, _⟩ := own_cells hO2
  have hcpB : ∀ ty, (Builtin.copy_ #[110, 110] ty #[.slice (some ⟨M, i + 1, none⟩) (c - i) (G - (i + 1)), .slice (some ⟨g, i, none⟩) (c - i) (c - i)]).run Tryz.prog W2.drew = .ok (goInt (xs.drop i).length) (W2.drew.setCells M (i + 1) (xs.drop i)) := fun ty =>
    run_copy_cells W2.drew _ _ ty 3 M (i + 1) (c - i) (G - (i + 1)) ⟨g, i, none⟩ (c - i) (c - i) (xs.drop i) Tryz.underlying110 hsz (by rw [hdl]; simp only [Nat.min_def]; split <;> omega)
      (fun j v hj => by rw [add_at]; exact (hg2 (i + j)).trans (hc1 (i + j) v (by rw [List.getElem?_drop] at hj; exact hj)))
      (fun j hj => by
        show (W2.cell? _).isSome = true
        rw [hO2.cellAt (i + 1 + j) (by omega), List.getElem?_eq_getElem (by rw [setsL_len, List.length_append, hzl, List.length_take]; omega)]; rfl) (fun j hj => hf3 _) (fun v hv => h1 v (List.mem_of_mem_drop hv))
  obtain ⟨hO3, hG3⟩ := setCells_owns (xs.drop i) _ (i + 1) W2.drew hO2
  rw [ins_b xs zs (.int .i64 x) i (by omega) hzl] at hO3
  obtain ⟨W3, hW3⟩ : ∃ W3, W2.drew.setCells M (i + 1) (xs.drop i) = W3 := ⟨_, rfl⟩
  rw [hW3] at hcpB hO3 hG3
  have HQ := Lib.hid (show InsQ B (.slice (some ⟨g, 0, none⟩) c c) c (xs.take i ++ .int .i64 x :: xs.drop i) w (.returned (.slice (some ⟨M, 0, none⟩) (c + 1) G)) W3 from ⟨_, rfl, hO3,
    ⟨hG3.os.trans (hG2.os.trans hgr.os), hG3.tape.trans (hG2.tape.trans hgr.tape), hG3.output.trans (hG2.output.trans hgr.output), Nat.le_trans hgr.size (Nat.le_trans hG2.size hG3.size), fun k hk _ => (hG3.block k (Nat.lt_of_lt_of_le hk (Nat.le_trans hgr.size hG2.size)) (by simp; omega)).trans ((hG2.block k (Nat.lt_of_lt_of_le hk hgr.size) (by simp; omega)).trans (hgr.block k hk (by simp)))⟩,
    Or.inr ⟨M, rfl, by omega⟩⟩)
  rw [hM] at hrz
  exact ⟨rfl, M, G, W1, W2, W3, hGn, by unfold maxLen at hG63; omega, hM, hrz, hcpA, hcpB, HQ.out⟩
set_option maxRecDepth 100000 in
set_option maxHeartbeats 400000 in
theorem insert_grow (B g c : Nat) (n : Nat) (xs : List Value) (x : Int) (i vb : Nat) (tb : TypeId) (w : World) (hown : w.ownsRow B 3 1 (.slice (some ⟨g, 0, none⟩) n c) n xs) (hi : i < n) (hn : n ≤ 100000) (hc : ¬ n < c) (hb : w.heap[vb]? = some (.cells #[.int .i64 x] tb (0, 0))) (hB : B ≤ w.heap.size) (h1 : ∀ u ∈ xs, u.oneCell' = true) :
    Calls Tryz.prog 103 #[.slice (some ⟨g, 0, none⟩) n c, .int .i64 (i : Int), .slice (some ⟨vb, 0, none⟩) 1 1] w (InsQ B (.slice (some ⟨g, 0, none⟩) n c) n (xs.take i ++ .int .i64 x :: xs.drop i) w) := by
  obtain ⟨rfl, M, G, W1, W2, W3, hGn, hG9, hM, hrz, hcpA, hcpB, hQ⟩ := grow_facts B g c n xs x i vb tb w hown hi hn hc hb hB h1
  have HQ := Lib.hid hQ
  have HRz := Lib.hid hrz
  have HCA := Lib.hid hcpA
  have HCB := Lib.hid hcpB
  clear hQ hrz hcpA hcpB hb hown h1 hB hc
  have q1 : ((i : Int) == (c : Int)) = false := by simp; omega
  have q2 : (c = i) = False := eq_false (by omega)
  have q3 : (G = i + 1) = False := eq_false (by omega)
  have q3' : (G = i) = False := eq_false (by omega)
  have q4 : ((c : Int) < (c : Int) + 1) = True := eq_true (by omega)
  have q10 : ((i : Int) ≤ (c : Int)) = True := eq_true (by omega)
  have q11 : (i ≤ c) = True := eq_true (by omega)
  have q7 : (0 ≤ (i : Int) + 1) = True := eq_true (by omega)
  have q8 : ((i : Int) + 1 ≤ (c : Int) + 1) = True := eq_true (by omega)
  have q13 : ((i : Int) ≤ (c : Int) + 1) = True := eq_true (by omega)
  have q14 : ((c : Int) + 1 ≤ (G : Int)) = True := eq_true (by omega)
  have q9 : (c = 0) = False := eq_false (by omega)
  have hw1 : IntKind.i64.wrap ((i : Int) + 1) = (i : Int) + 1 := by rw [IntKind.wrap_i64]; omega
  have hw2 : wrap64 ((i : Int) + 1) = (i : Int) + 1 := by unfold wrap64; omega
  have hw3 : wrap64 ((c : Int) + 1) = (c : Int) + 1 := by unfold wrap64; omega
  have hw4 : wrap64 ((c : Int) + 1 - (i : Int)) = (c : Int) + 1 - (i : Int) := by unfold wrap64; omega
  have mixed : Tryz.prog.follows .mixedOrders = true := by kernel_rfl
  go_enter Tryz.func103, Tryz.ntmps103
  have e1 := HRz.out 110
  go_wp2_with (first | (at_builtin; refine wpList_run _ rfl (.tmp 34) (.tmp 39) _ _ rfl _ _ rfl rfl e1 ?_) | fail)
  rw [HCA.out]
  simp only [Result.andThen]
  rw [Oper.upon_value]
  go_wp2_with fail
  go_region_law_o (rw [if_pos (by simp [Region.wanted])]; have e := HCB.out 3; refine wp_copied (.tmp 50) (.tmp 53) 110 110 rfl _ _ ?h1 ?h2 e ?h4; (case h1 => simp [Act.eval, Act.put]); (case h2 => simp [Act.eval, Act.put]))
  go_wp2_with fail
  go_ret
  exact HQ.out
theorem slices_InsertQ (B : Nat) (v : Value) (n : Nat) (xs : List Value) (x : Int) (i vb : Nat) (tb : TypeId) (w : World) (hown : w.ownsRow B 3 1 v n xs) (hi : i ≤ n) (hn : n ≤ 100000) (hb : w.heap[vb]? = some (.cells #[.int .i64 x] tb (0, 0))) (hvb : v.ownBlock ≠ some vb) (hB : B ≤ w.heap.size) (h1 : ∀ u ∈ xs, u.oneCell' = true) :
    Calls Tryz.prog 103 #[v, .int .i64 (i : Int), .slice (some ⟨vb, 0, none⟩) 1 1] w (InsQ B v n (xs.take i ++ .int .i64 x :: xs.drop i) w) := by
  have hlen := hown.1
  rw [Nat.mul_one] at hlen
  by_cases h : i = n
  · subst h
    rw [List.take_of_length_le (by omega), List.drop_eq_nil_iff.2 (by omega)]
    exact insert_end B v i xs x vb tb w hown hn hb hB
  · rcases hown.2 with ⟨_, h0⟩ | ⟨g, cap, cur, rfl, hBg, hg, hnc, hcm, _⟩
    · omega
    · by_cases hc : n < cap
      · exact insert_room B g cap n xs x i vb tb w hown (by omega) hn hc (by unfold maxLen at hcm; omega) hb (by simpa [Value.ownBlock, eq_comm] using hvb) h1
      · exact insert_grow B g cap n xs x i vb tb w hown (by omega) hn hc hb hB h1
end Go.Proofs.YtefejcofmopjfaaGreatDoor

/- The place in a queue: the library's search, with the closure that turns the order about. -/
namespace Go.Proofs.YtefejcofmopjfaaGreatDoor
open Go.RowKit
set_option linter.unusedSimpArgs false
set_option linter.unusedVariables false
/-- the first place whose number isn't greater -/
def bsF (q : List Nat) (pc : Nat) : Nat → Nat → Nat → Nat
  | 0, i, _ => i
  | f + 1, i, j => if i < j then (if pc < q.getD ((i + j) / 2) 0 then bsF q pc f ((i + j) / 2 + 1) j else bsF q pc f i ((i + j) / 2)) else i
def posF (q : List Nat) (pc : Nat) : Nat := bsF q pc q.length 0 q.length
theorem bsF_le (q : List Nat) (pc : Nat) : ∀ (f i j : Nat), i ≤ j → bsF q pc f i j ≤ j
  | 0, i, j, h => h
  | f + 1, i, j, h => by
    unfold bsF
    split
    · split
      · exact bsF_le q pc f _ _ (by omega)
      · exact Nat.le_trans (bsF_le q pc f _ _ (by omega)) (by omega)
    · exact h
theorem posF_le (q : List Nat) (pc : Nat) : posF q pc ≤ q.length := bsF_le q pc _ _ _ (Nat.zero_le _)
def nV (q : List Nat) : List Value := q.map fun (x : Nat) => Value.int .i64 (x : Int)
theorem nV_len (q : List Nat) : (nV q).length = q.length := by simp [nV]
theorem nV_get {q : List Nat} {k z : Nat} (h : q[k]? = some z) : (nV q)[k]? = some (.int .i64 (z : Int)) := by unfold nV; rw [List.getElem?_map, h]; rfl
theorem nV_one (q : List Nat) : ∀ u ∈ nV q, u.oneCell' = true := by
  intro u hu
  obtain ⟨x, _, rfl⟩ := List.mem_map.1 hu
  rfl
theorem own_num {w : World} {B : Nat} {a : Option Addr} {n c : Nat} {q : List Nat} (h : w.ownsRow B 3 1 (.slice a n c) n (nV q)) {k z : Nat} (hz : q[k]? = some z) : ∃ g, a = some ⟨g, 0, none⟩ ∧ w.cell? ⟨g, k, none⟩ = some (.int .i64 (z : Int)) := by
  have hk := lt_of_get hz
  have hl := h.1
  rw [nV_len, Nat.mul_one] at hl
  rcases h.2 with ⟨h1, h0⟩ | ⟨g, cap, cur, h1, _, hg, _⟩
  · omega
  · injection h1 with e1 e2 e3
    subst e1 e3
    exact ⟨g, rfl, (h.cellAt k (by omega)).trans (nV_get hz)⟩
set_option maxRecDepth 100000 in
theorem put_less (a b : Nat) (w : World) (ha : a ≤ 1000000) (hb : b ≤ 1000000) : Calls Tryz.prog 102 #[.int .i64 (a : Int), .int .i64 (b : Int)] w fun e w' => e = .returned (.int .i64 ((b : Int) - (a : Int))) ∧ w' = w := by
  have hw : wrap64 ((b : Int) - (a : Int)) = (b : Int) - (a : Int) := by unfold wrap64; omega
  go_enter Tryz.func102, Tryz.ntmps102
  go_wp2_with fail
  go_ret
  exact ⟨rfl, rfl⟩
set_option maxRecDepth 100000 in
set_option maxHeartbeats 1000000 in
theorem queue_search (B : Nat) (v : Value) (q : List Nat) (pc : Nat) (w : World) (hown : w.ownsRow B 3 1 v q.length (nV q)) (hq : q.length ≤ 100000) (hz : ∀ x ∈ q, x ≤ 1000000) (hpc : pc ≤ 1000000) :
    Calls Tryz.prog 101 #[v, .int .i64 (pc : Int), .func (.func 102) #[] #[]] w fun e w' => (∃ b, e = .returned (.tuple #[.int .i64 (posF q pc : Int), .bool b])) ∧ w' = w := by
  have HO := Lib.hid hown
  have HZ := Lib.hid hz
  have HL := Lib.hid (fun a (ha : a ≤ 1000000) W => put_less a pc W ha hpc)
  obtain ⟨ad, c, rfl⟩ := owns_form hown
  obtain ⟨n, hn⟩ : ∃ n, q.length = n := ⟨_, rfl⟩
  have HN := Lib.hid hn
  have HP := Lib.hid (show bsF q pc n 0 n = posF q pc by unfold posF; rw [hn])
  obtain ⟨Z, hZ⟩ : ∃ Z, posF q pc = Z := ⟨_, rfl⟩
  rw [hZ] at HP ⊢
  rw [hn] at hq HO ⊢
  clear hown hn hz hZ
  go_enter Tryz.func101, Tryz.ntmps101
  go_wp2_with fail
  go_loopw [9, 10, 11] (fun ii jj _ wr => ∃ i j f : Nat, ii = .int .i64 i ∧ jj = .int .i64 j ∧ i ≤ j ∧ j ≤ n ∧ Hid (j - i ≤ f ∧ bsF q pc f i j = Z) ∧ wr = w) (fun ii jj _ _ => (intOf jj).toNat - (intOf ii).toNat)
  case atStart => exact ⟨0, n, n, rfl, rfl, Nat.zero_le _, Nat.le_refl _, Lib.hid ⟨by omega, HP.out⟩, rfl⟩
  case round =>
    obtain ⟨i, j, f, rfl, rfl, hij, hjn, hF, rfl⟩ := hrel
    by_cases hlt : i < j
    case neg =>
      obtain rfl : i = j := by omega
      have q1 : ((i : Int) < (i : Int)) = False := eq_false (by omega)
      have q1' : (i < i) = False := eq_false (by omega)
      have HI := Lib.hid (show i = Z by rw [← hF.out.2]; cases f with | zero => rfl | succ f => unfold bsF; rw [if_neg (by omega)])
      clear hF hlt hij
      by_cases hin : i < n
      · obtain ⟨z, hz⟩ := get_some (L := q) (n := i) (by rw [HN.out]; exact hin)
        obtain ⟨g, rfl, hcg⟩ := own_num HO.out hz
        have hz6 := HZ.out z (List.mem_of_getElem? hz)
        have HF := Lib.hid (HL.out z hz6)
        have q2 : ((i : Int) < (n : Int)) = True := eq_true (by omega)
        have q2' : (i < n) = True := eq_true hin
        clear hin hz
        go_wp2_with fail
        refine (HF.out _).mono ?_; rintro e w1 ⟨rfl, rfl⟩
        go_wp2_with fail
        go_ret2
        exact ⟨⟨_, by rw [← HI.out]; rfl⟩, rfl⟩
      · have q2 : ((i : Int) < (n : Int)) = False := eq_false (by omega)
        have q2' : (i < n) = False := eq_false hin
        clear hin
        go_wp2_with fail
        go_ret2
        exact ⟨⟨_, by rw [← HI.out]; rfl⟩, rfl⟩
    have q1 : ((i : Int) < (j : Int)) = True := eq_true (by omega)
    have q1' : (i < j) = True := eq_true hlt
    obtain ⟨h, hh⟩ : ∃ h, (i + j) / 2 = h := ⟨_, rfl⟩
    have hmid : ((i : Int) + (j : Int)) / 2 = (h : Int) := by omega
    have hhi : i ≤ h ∧ h < j := by omega
    have hk62 : h ≤ 9223372036854775806 := by omega
    have HH := Lib.hid hhi
    have q3 : ((h : Int) < (n : Int)) = True := eq_true (by omega)
    have q3' : (h < n) = True := eq_true (by omega)
    obtain ⟨f, rfl⟩ : ∃ g, f = g + 1 := ⟨f - 1, by have := hF.out.1; omega⟩
    have HF2 := Lib.hid (show (if pc < q.getD h 0 then bsF q pc f (h + 1) j else bsF q pc f i h) = Z by
      have e := hF.out.2
      unfold bsF at e
      rw [if_pos hlt, hh] at e
      exact e)
    have HFl := Lib.hid (show j - i ≤ f + 1 from hF.out.1)
    obtain ⟨z, hz⟩ := get_some (L := q) (n := h) (by rw [HN.out]; omega)
    obtain ⟨g, rfl, hcg⟩ := own_num HO.out hz
    have hz6 := HZ.out z (List.mem_of_getElem? hz)
    have HZz := Lib.hid (show q.getD h 0 = z by simp [List.getD, hz])
    have HF := Lib.hid (HL.out z hz6)
    clear hF hz hh
    by_cases hc : pc < z
    · have q4 : ((pc : Int) - (z : Int) < 0) = True := eq_true (by omega)
      have HR := Lib.hid (show bsF q pc f (h + 1) j = Z by have e := HF2.out; rwa [HZz.out, if_pos hc] at e)
      clear hc
      go_wp2_with fail
      refine (HF.out _).mono ?_; rintro e w1 ⟨rfl, rfl⟩
      go_wp2_with fail
      go_roundw
      case rel => exact ⟨h + 1, j, f, by simp, rfl, by omega, hjn, Lib.hid ⟨by have := HFl.out; omega, HR.out⟩, by first | trivial | rfl⟩
      case measure => first | (simp [intOf]; done) | (simp [intOf]; omega)
    · have q4 : ((pc : Int) - (z : Int) < 0) = False := eq_false (by omega)
      have HR := Lib.hid (show bsF q pc f i h = Z by have e := HF2.out; rwa [HZz.out, if_neg hc] at e)
      clear hc
      go_wp2_with fail
      refine (HF.out _).mono ?_; rintro e w1 ⟨rfl, rfl⟩
      go_wp2_with fail
      go_roundw
      case rel => exact ⟨i, h, f, rfl, rfl, hhi.1, by omega, Lib.hid ⟨by have := HFl.out; omega, HR.out⟩, by first | trivial | rfl⟩
      case measure => first | (simp [intOf]; done) | (simp [intOf]; omega)
end Go.Proofs.YtefejcofmopjfaaGreatDoor

/- Rows of truths. -/
namespace Go.Proofs.YtefejcofmopjfaaGreatDoor
open Go.RowKit
set_option linter.unusedSimpArgs false
set_option linter.unusedVariables false
def boolR : Rep Bool := fun _ cs z => cs = [.bool z]
theorem boolR_stable : Stable boolR := fun _ _ _ _ h _ => h
def bV1 (l : List Bool) : List Value := l.map Value.bool
theorem bV1_len (l : List Bool) : (bV1 l).length = l.length := by simp [bV1]
theorem bV1_one (l : List Bool) : ∀ u ∈ bV1 l, u.oneCell' = true := by
  intro u hu
  obtain ⟨z, _, rfl⟩ := List.mem_map.1 hu
  rfl
theorem bools_at {w : World} {a : Option Addr} {n cap : Nat} {L : List Bool} (hv : RowR 1 boolR w (.slice a n cap) L) {k : Nat} (hk : k < L.length) : ∃ b off, a = some ⟨b, off, none⟩ ∧ b < w.heap.size ∧ n ≤ cap ∧ cap ≤ 9223372036854775807 ∧ ∀ i, i < L.length → w.cell? ⟨b, off + i, none⟩ = some (.bool (L.getD i false)) := by
  rcases hv with ⟨a, cap, h, rfl, _⟩ | ⟨b, off, cap, h1, _, h3, h4, h5, h6⟩
  · simp at hk
  · have e : a = some ⟨b, off, none⟩ ∧ n = L.length := by injection h1 with h1 h2; exact ⟨h1, h2⟩
    have ec : ‹Nat› = ‹Nat› := rfl
    injection h1 with _ _ hc
    refine ⟨b, off, e.1, h5, by rw [e.2, hc]; exact h3, by rw [hc]; exact h4, fun i hi => ?_⟩
    obtain ⟨C, g1, g2, g3⟩ := h6 i L[i] (by simp [hi])
    rw [show C = [.bool L[i]] from g3] at g2
    have := g2 0 _ rfl
    simpa [List.getD, hi] using this
theorem bools_of_owns {w : World} {B : Nat} {e : TypeId} {v : Value} {l : List Bool} (h : w.ownsRow B e 1 v l.length (bV1 l)) : RowR 1 boolR w v l := by
  obtain ⟨_, h⟩ := h
  rcases h with ⟨rfl, h0⟩ | ⟨g, cap, cur, rfl, hb, hg, h1, h2, h3, h4⟩
  · exact Or.inl ⟨none, 0, rfl, List.length_eq_zero_iff.1 h0, fun _ => rfl⟩
  · by_cases h0 : l.length = 0
    · exact Or.inl ⟨_, cap, by rw [h0], List.length_eq_zero_iff.1 h0, fun h => by cases h⟩
    · have hlt : g < w.heap.size := by
        by_cases hgl : g < w.heap.size
        · exact hgl
        · rw [Array.getElem?_eq_none (Nat.le_of_not_lt hgl)] at hg; cases hg
      refine Or.inr ⟨g, 0, cap, rfl, by omega, h1, h2, hlt, fun i x hx => ?_⟩
      refine ⟨[.bool x], rfl, fun j u hu => ?_, rfl⟩
      have hj : j < 1 := lt_of_get hu
      obtain rfl : j = 0 := by omega
      obtain rfl : Value.bool x = u := by simpa using hu
      have hi : i < l.length := lt_of_get hx
      have h5 : (bV1 l)[i]? = some (.bool x) := by simp [bV1, hx]
      rw [← h4, List.getElem?_take, if_pos (by omega)] at h5
      unfold World.cell?
      rw [hg]
      simpa using h5
theorem src_bools {w : World} {u : Value} {l : List Bool} (h : RowR 1 boolR w u l) : Src w u l.length (bV1 l) := by
  rcases h with ⟨a, cap, rfl, rfl, hc⟩ | ⟨b, off, cap, rfl, h2, h3, h4, h5, h6⟩
  · cases a with
    | none => rw [hc rfl]; exact Or.inl ⟨rfl, rfl, rfl⟩
    | some ad => exact Or.inr ⟨ad, cap, rfl, fun j u hu => by simp [bV1] at hu⟩
  · refine Or.inr ⟨⟨b, off, none⟩, cap, rfl, fun j u hu => ?_⟩
    rw [add_at]
    have hj : j < l.length := by have := lt_of_get hu; rwa [bV1_len] at this
    obtain ⟨C, g1, g2, g3⟩ := h6 j l[j] (by simp [hj])
    rw [show C = [.bool l[j]] from g3] at g2
    have h7 := g2 0 _ rfl
    have h8 : u = .bool l[j] := by simpa [bV1, hj] using hu.symm
    rw [h8]
    simpa using h7
theorem bV1_set (l : List Bool) (k : Nat) (b : Bool) : (bV1 l).set k (.bool b) = bV1 (l.set k b) := by simp [bV1, List.map_set]
theorem made_false (m : Nat) : madeCells (Value.bool false).cells m = (bV1 (List.replicate m false)).toArray := by
  apply Array.ext_getElem?
  intro i
  by_cases h : i < m
  · simp [madeCells, Value.cells, h, Nat.mod_one, bV1, List.getElem?_replicate]
  · simp [madeCells, Value.cells, h, bV1, List.getElem?_replicate]
end Go.Proofs.YtefejcofmopjfaaGreatDoor

/- A queue in a struct of the call's own: put and take. -/
namespace Go.Proofs.YtefejcofmopjfaaGreatDoor
open Go.RowKit
set_option linter.unusedSimpArgs false
set_option linter.unusedVariables false
/-- all but some blocks stay -/
structure Frame (w w' : World) (S : Nat → Prop) : Prop where
  os : w'.os = w.os
  tape : w'.tape = w.tape
  output : w'.output = w.output
  size : w.heap.size ≤ w'.heap.size
  block : ∀ k, k < w.heap.size → ¬ S k → w'.heap[k]? = w.heap[k]?
theorem Frame.refl (w : World) (S : Nat → Prop) : Frame w w S := ⟨rfl, rfl, rfl, Nat.le_refl _, fun _ _ _ => rfl⟩
theorem Frame.trans {a b c : World} {S : Nat → Prop} (h : Frame a b S) (k : Frame b c S) : Frame a c S :=
  ⟨k.os.trans h.os, k.tape.trans h.tape, k.output.trans h.output, Nat.le_trans h.size k.size, fun i hi hs => (k.block i (Nat.lt_of_lt_of_le hi h.size) hs).trans (h.block i hi hs)⟩
theorem Frame.more {a b : World} {S T : Nat → Prop} (h : Frame a b S) (hST : ∀ k, k < a.heap.size → S k → T k) : Frame a b T := ⟨h.os, h.tape, h.output, h.size, fun i hi hs => h.block i hi fun x => hs (hST i hi x)⟩
theorem Frame.grown {a b : World} {r : Option Nat} (h : a.grownBy b r) : Frame a b fun k => r = some k := ⟨h.os, h.tape, h.output, h.size, fun i hi hs => h.block i hi fun e => hs e.symm⟩
theorem Frame.below {a b : World} {B : Nat} {S : Nat → Prop} (h : Frame a b S) (hS : ∀ k, S k → B ≤ k) (hB : B ≤ a.heap.size) : Below B a b := ⟨h.os, h.tape, h.output, h.size, fun k hk => h.block k (by omega) fun x => by have := hS k x; omega⟩
theorem Frame.alloc (w : World) (o : Obj) (S : Nat → Prop) : Frame w (w.alloc o) S := ⟨rfl, rfl, rfl, by simp, fun k hk _ => get_past hk⟩
theorem Frame.set (w : World) (g o : Nat) (v : Value) : Frame w (w.setCell ⟨g, o, none⟩ v) fun k => k = g := ⟨rfl, rfl, rfl, by simp, fun k _ hs => get_set (a := ⟨g, o, none⟩) (fun e => hs e.symm)⟩
theorem Frame.obj {a b : World} {S : Nat → Prop} (h : Frame a b S) {k : Nat} {o : Obj} (ho : a.heap[k]? = some o) (hs : ¬ S k) : b.heap[k]? = some o := (h.block k (heap_lt ho) hs).trans ho
def insQ (q : List Nat) (pc : Nat) : List Nat := q.take (posF q pc) ++ pc :: q.drop (posF q pc)
theorem nV_ins (q : List Nat) (pc : Nat) : nV (insQ q pc) = (nV q).take (posF q pc) ++ .int .i64 (pc : Int) :: (nV q).drop (posF q pc) := by
  unfold nV insQ
  rw [List.map_append, List.map_take, List.map_cons, List.map_drop]
theorem insQ_len (q : List Nat) (pc : Nat) : (insQ q pc).length = q.length + 1 := by
  unfold insQ
  rw [List.length_append, List.length_cons, List.length_take, List.length_drop]
  have := posF_le q pc
  omega
theorem insQ_mem (q : List Nat) (pc x : Nat) : x ∈ insQ q pc ↔ x = pc ∨ x ∈ q := by
  unfold insQ
  rw [List.mem_append, List.mem_cons]
  constructor
  · rintro (h | h | h)
    · exact Or.inr (List.mem_of_mem_take h)
    · exact Or.inl h
    · exact Or.inr (List.mem_of_mem_drop h)
  · rintro (h | h)
    · exact Or.inr (Or.inl h)
    · have h2 : x ∈ q.take (posF q pc) ++ q.drop (posF q pc) := by rw [List.take_append_drop]; exact h
      rcases List.mem_append.1 h2 with h | h
      · exact Or.inl h
      · exact Or.inr (Or.inr h)
/-- a queue in a cell of block G -/
structure QuAt (w : World) (B G o : Nat) (A : Array Value) (T : TypeId) (v : Value) (q : List Nat) : Prop where
  obj : w.heap[G]? = some (.cells A T (0, 0))
  cell : A[o]? = some v
  own : w.ownsRow B 3 1 v q.length (nV q)
  ne : v.ownBlock ≠ some G
theorem own_lt {w : World} {B : Nat} {e : TypeId} {q n : Nat} {v : Value} {xs : List Value} (h : w.ownsRow B e q v n xs) {g : Nat} (hg : v.ownBlock = some g) : B ≤ g ∧ g < w.heap.size := by
  rcases h.2 with ⟨rfl, _⟩ | ⟨g', cap, cur, rfl, hB, hgg, _⟩
  · simp [Value.ownBlock] at hg
  · simp [Value.ownBlock] at hg
    subst hg
    exact ⟨hB, heap_lt hgg⟩
theorem owns_frame {w w' : World} {B : Nat} {e : TypeId} {q n : Nat} {v : Value} {xs : List Value} {S : Nat → Prop} (h : w.ownsRow B e q v n xs) (hf : Frame w w' S) (hs : ∀ g, v.ownBlock = some g → ¬ S g) : w'.ownsRow B e q v n xs := by
  refine ⟨h.1, ?_⟩
  rcases h.2 with h1 | ⟨g, cap, cur, rfl, hB, hg, r⟩
  · exact Or.inl h1
  · exact Or.inr ⟨g, cap, cur, rfl, hB, hf.obj hg (hs g rfl), r⟩
set_option maxRecDepth 100000 in
set_option maxHeartbeats 1000000 in
theorem queue_put {w : World} {B G o : Nat} {A : Array Value} {T : TypeId} {v : Value} {q : List Nat} (h : QuAt w B G o A T v q) (pc : Nat) (hq : q.length ≤ 1000) (hz : ∀ x ∈ q, x ≤ 1000000) (hpc : pc ≤ 1000000) (hB : B ≤ w.heap.size) :
    Calls Tryz.prog 77 #[.pointer (some ⟨G, o, none⟩), .int .i64 (pc : Int)] w fun e w' => e = .returned (.tuple #[]) ∧ ∃ v', QuAt w' B G o (A.setIfInBounds o v') T v' (insQ q pc) ∧ Near w v v' ∧ Frame w w' fun k => k = G ∨ v.ownBlock = some k := by
  have HH := Lib.hid h
  have c0 : w.cell? ⟨G, o, none⟩ = some v := obj_cell h.obj h.cell
  have HS := Lib.hid (queue_search B v q pc w h.own (by omega) hz hpc)
  have hGl : G < w.heap.size := heap_lt h.obj
  obtain ⟨ad, c, rfl⟩ := owns_form h.own
  have hple := posF_le q pc
  obtain ⟨n, hn⟩ : ∃ n, q.length = n := ⟨_, rfl⟩
  have HN := Lib.hid hn
  obtain ⟨W1, hW1⟩ : ∃ W1, w.alloc (.cells #[.int .i64 (pc : Int)] 3) = W1 := ⟨_, rfl⟩
  have hFr1 : Frame w W1 fun _ => False := by rw [← hW1]; exact Frame.alloc _ _ _
  have hnew : W1.heap[w.heap.size]? = some (.cells #[.int .i64 (pc : Int)] 3 (0, 0)) := by rw [← hW1]; exact get_last rfl
  have hown1 : W1.ownsRow B 3 1 (.slice ad q.length c) q.length (nV q) := owns_below h.own (hFr1.below (fun _ x => absurd x id) (Nat.le_refl _))
  have HI := Lib.hid (slices_InsertQ B (.slice ad q.length c) q.length (nV q) (pc : Int) (posF q pc) w.heap.size 3 W1 hown1 hple (by omega) hnew (fun e => by have := (own_lt h.own e).2; omega) (Nat.le_trans hB hFr1.size) (nV_one q))
  have hG1 : W1.heap[G]? = some (.cells A T (0, 0)) := hFr1.obj h.obj id
  obtain ⟨P, hP⟩ : ∃ P, posF q pc = P := ⟨_, rfl⟩
  have HP := Lib.hid hP
  rw [hP] at HS HI
  rw [hn] at HS HI c0
  have c1 : W1.cell? ⟨G, o, none⟩ = some (.slice ad n c) := by rw [← hn]; exact obj_cell hG1 h.cell
  have HG1 := Lib.hid hG1
  have HF1 := Lib.hid hFr1
  clear h hown1 hnew hP hn hFr1 hG1 hple hGl
  rw [HN.out]
  go_enter Tryz.func77, Tryz.ntmps77
  go_wp2_with fail
  refine HS.out.mono ?_; rintro e w1 ⟨⟨b, rfl⟩, rfl⟩
  go_wp2_with fail
  refine HI.out.mono ?_; rintro e w2 ⟨v', rfl, hO2, hG2, hN2⟩
  have hF2 : Frame w1 w2 fun k => (Value.slice ad n c).ownBlock = some k := (HF1.out.more fun _ _ x => absurd x id).trans (Frame.grown hG2)
  have hne : (Value.slice ad n c).ownBlock ≠ some G := by have := HH.out.ne; rwa [HN.out] at this
  have hGl : G < w1.heap.size := heap_lt HH.out.obj
  have hobj : w2.heap[G]? = some (.cells A T (0, 0)) := hF2.obj HH.out.obj hne
  have hne' : v'.ownBlock ≠ some G := by
    rcases hN2 with h | ⟨g, h, h2⟩
    · rw [h]; exact hne
    · rw [h]
      have := HF1.out.size
      intro e
      injection e with e
      omega
  have HQ2 := Lib.hid (show QuAt (w2.setCell ⟨G, o, none⟩ v') B G o (A.setIfInBounds o v') T v' (insQ q pc) ∧ Near w1 (.slice ad n c) v' ∧ Frame w1 (w2.setCell ⟨G, o, none⟩ v') (fun k => k = G ∨ (Value.slice ad n c).ownBlock = some k) from
    ⟨⟨obj_self hobj, by
        have := HH.out.cell
        obtain ⟨hb, _⟩ := Array.getElem?_eq_some_iff.1 this
        rw [Array.getElem?_setIfInBounds_self_of_lt hb], by
        have h := owns_frame hO2 (Frame.set w2 G o v') (fun g hg e => hne' (by rw [hg, e]))
        rw [insQ_len, HN.out, nV_ins, HP.out]
        exact h, hne'⟩, by
      rcases hN2 with h | ⟨g, h, h2⟩
      · exact Or.inl h
      · exact Or.inr ⟨g, h, Nat.le_trans HF1.out.size h2⟩, (hF2.more fun _ _ x => Or.inr x).trans ((Frame.set w2 G o v').more fun _ _ x => Or.inl x)⟩)
  have d0 : w2.cell? ⟨G, o, none⟩ = some (.slice ad n c) := by have h := obj_cell hobj HH.out.cell; rwa [HN.out] at h
  have f0 : w2.frozen? ⟨G, o, none⟩ = false := obj_frozen hobj o
  obtain ⟨a2, c2, rfl⟩ := owns_form hO2
  clear hO2 hG2 hN2 hF2 hne hGl hobj hne' c0 c1 hW1
  go_wp2_with fail
  go_end0
  exact ⟨rfl, _, HQ2.out⟩
end Go.Proofs.YtefejcofmopjfaaGreatDoor

/- Slices of slices of integers, read. -/
namespace Go.Proofs.YtefejcofmopjfaaGreatDoor
open Go.RowKit
set_option linter.unusedSimpArgs false
set_option linter.unusedVariables false
abbrev gridR : Rep (List Int) := sliceR 1 intR
theorem gridR_stable : Stable gridR := sliceR_stable intR_stable
/-- the k-th row -/
theorem grid_at {w : World} {a : Option Addr} {n cap : Nat} {L : List (List Int)} (hv : RowR 1 gridR w (.slice a n cap) L) {k : Nat} {l : List Int} (hl : L[k]? = some l) :
    ∃ b off s sc, a = some ⟨b, off, none⟩ ∧ b < w.heap.size ∧ n ≤ cap ∧ cap ≤ 9223372036854775807 ∧ w.cell? ⟨b, off + k, none⟩ = some (.slice s l.length sc) ∧ RowR 1 intR w (.slice s l.length sc) l := by
  rcases hv with ⟨_, _, _, rfl, _⟩ | ⟨b, off, cap, h1, h2, h3, h4, h5, h6⟩
  · simp at hl
  · injection h1 with h1 h1' h1''
    subst h1 h1' h1''
    obtain ⟨C, g1, g2, v, rfl, r⟩ := h6 k l hl
    obtain ⟨s, sc, rfl⟩ := row_get r
    exact ⟨b, off, s, sc, rfl, h5, h3, h4, by simpa using g2 0 _ rfl, r⟩
/-- the k-th number -/
theorem int_at {w : World} {a : Option Addr} {n cap : Nat} {L : List Int} (hv : RowR 1 intR w (.slice a n cap) L) {k : Nat} (hk : k < L.length) :
    ∃ b off, a = some ⟨b, off, none⟩ ∧ b < w.heap.size ∧ n ≤ cap ∧ cap ≤ 9223372036854775807 ∧ w.cell? ⟨b, off + k, none⟩ = some (.int .i64 (L.getD k 0)) ∧ I64 (L.getD k 0) := by
  rcases hv with ⟨_, _, _, rfl, _⟩ | ⟨b, off, cap, h1, h2, h3, h4, h5, h6⟩
  · simp at hk
  · injection h1 with h1 h1' h1''
    subst h1 h1' h1''
    obtain ⟨C, g1, g2, g3, g4⟩ := h6 k L[k] (by simp [hk])
    subst g3
    have e : L.getD k 0 = L[k] := by simp [List.getD, hk]
    rw [e]
    exact ⟨b, off, rfl, h5, h3, h4, by simpa using g2 0 _ rfl, g4⟩
/-- numbers that are places -/
def nI (l : List Nat) : List Int := l.map Int.ofNat
theorem nI_len (l : List Nat) : (nI l).length = l.length := by simp [nI]
theorem nI_app (a b : List Nat) : nI (a ++ b) = nI a ++ nI b := by simp [nI]
theorem nI_rev (a : List Nat) : nI a.reverse = (nI a).reverse := by simp [nI]
/-- a row of truths of the call's own, read -/
theorem owns_bool_at {w : World} {B g n cap : Nat} {e : TypeId} {L : List Bool} (h : w.ownsRow B e 1 (.slice (some ⟨g, 0, none⟩) n cap) n (bV1 L)) {j : Nat} (hj : j < n) (d : Bool) : w.cell? ⟨g, j, none⟩ = some (.bool (L.getD j d)) := by
  have hl := h.1
  rw [bV1_len, Nat.mul_one] at hl
  rw [h.cellAt j (by omega), List.getD_eq_getElem?_getD]
  unfold bV1
  rw [List.getElem?_map, List.getElem?_eq_getElem (by omega)]; rfl
theorem owns_ne {w : World} {B C : Nat} {e f : TypeId} {q p n m : Nat} {v : Value} {g c : Nat} {xs ys : List Value} (h : w.ownsRow B e q v n xs) (k : w.ownsRow C f p (.slice (some ⟨g, 0, none⟩) m c) m ys) (hef : e ≠ f) : v.ownBlock ≠ some g := fun hv => owns_type h k hef hv rfl
end Go.Proofs.YtefejcofmopjfaaGreatDoor

/- A queue's take; slices.Clone and slices.Equal of numbers. -/
namespace Go.Proofs.YtefejcofmopjfaaGreatDoor
open Go.RowKit
set_option linter.unusedSimpArgs false
set_option linter.unusedVariables false
/-- all but the last -/
theorem owns_less {w : World} {B : Nat} {e : TypeId} {g n c : Nat} {xs : List Value} {y : Value} (h : w.ownsRow B e 1 (.slice (some ⟨g, 0, none⟩) (n + 1) c) (n + 1) (xs ++ [y])) : w.ownsRow B e 1 (.slice (some ⟨g, 0, none⟩) n c) n xs := by
  have hl := h.1
  simp at hl
  refine ⟨by omega, ?_⟩
  rcases h.2 with ⟨h1, _⟩ | ⟨g', cap, cur, h1, hB, hg, hnc, hcm, hcs, ht⟩
  · cases h1
  · injection h1 with e1 e2 e3
    injection e1 with e1
    injection e1 with e1
    subst e1 e3
    refine Or.inr ⟨g, c, cur, rfl, hB, hg, by omega, hcm, hcs, ?_⟩
    have h2 := congrArg (List.take n) ht
    rw [List.take_take, Nat.min_eq_left (by omega), List.take_left' (by omega)] at h2
    rw [Nat.mul_one]
    exact h2
set_option maxRecDepth 100000 in
set_option maxHeartbeats 1000000 in
theorem queue_take {w : World} {B G o : Nat} {A : Array Value} {T : TypeId} {v : Value} {q : List Nat} {z : Nat} (h : QuAt w B G o A T v (q ++ [z])) (hq : q.length ≤ 1000) :
    Calls Tryz.prog 57 #[.pointer (some ⟨G, o, none⟩)] w fun e w' => e = .returned (.int .i64 (z : Int)) ∧ ∃ v', QuAt w' B G o (A.setIfInBounds o v') T v' q ∧ v'.ownBlock = v.ownBlock ∧ Frame w w' fun k => k = G := by
  have HH := Lib.hid h
  have hobj := h.obj
  have c0 : w.cell? ⟨G, o, none⟩ = some v := obj_cell h.obj h.cell
  have f0 : w.frozen? ⟨G, o, none⟩ = false := obj_frozen h.obj o
  obtain ⟨ad, c, rfl⟩ := owns_form h.own
  have hlen : (q ++ [z]).length = q.length + 1 := by simp
  have hown := h.own
  rw [hlen] at hown c0
  obtain ⟨g, rfl, hz⟩ := own_num hown (k := q.length) (z := z) (by rw [List.getElem?_append_right (Nat.le_refl _), Nat.sub_self]; rfl)
  have ho2 := owns_less (xs := nV q) (y := .int .i64 (z : Int)) (by have h := hown; unfold nV at h ⊢; rw [List.map_append] at h; exact h)
  have hne : (Value.slice (some ⟨g, 0, none⟩) q.length c).ownBlock ≠ some G := h.ne
  have hcap : q.length + 1 ≤ c := by
    rcases hown.2 with ⟨h1, _⟩ | ⟨g', cap, cur, h1, _, _, h2, _⟩
    · cases h1
    · injection h1 with e1 e2 e3; omega
  have HQ := Lib.hid (show ∃ v', QuAt (w.setCell ⟨G, o, none⟩ (.slice (some ⟨g, 0, none⟩) q.length c)) B G o (A.setIfInBounds o v') T v' q ∧ v'.ownBlock = (Value.slice (some ⟨g, 0, none⟩) (q ++ [z]).length c).ownBlock ∧ Frame w (w.setCell ⟨G, o, none⟩ (.slice (some ⟨g, 0, none⟩) q.length c)) fun k => k = G from
    ⟨.slice (some ⟨g, 0, none⟩) q.length c, ⟨obj_self hobj, by
        obtain ⟨hb, _⟩ := Array.getElem?_eq_some_iff.1 h.cell
        rw [Array.getElem?_setIfInBounds_self_of_lt hb], owns_frame ho2 (Frame.set w G o _) (fun g2 hg e => hne (by rw [hg, e])), hne⟩, rfl, Frame.set w G o _⟩)
  rw [hlen] at HQ ⊢
  obtain ⟨m, hm⟩ : ∃ m, q.length = m := ⟨_, rfl⟩
  rw [hm] at hz c0 HQ hq hcap ⊢
  clear hown ho2 hne hobj h HH hlen hm
  have hs1 : ((m : Int) < (m : Int) + 1) = True := eq_true (by omega)
  have hw : wrap64 ((m : Int)) = (m : Int) := by unfold wrap64; omega
  have q9 : (c = 0) = False := eq_false (by omega)
  have q8 : ((m : Int) ≤ (c : Int)) = True := eq_true (by omega)
  go_enter Tryz.func57, Tryz.ntmps57
  go_wp2_with fail
  go_ret
  exact ⟨rfl, HQ.out⟩
theorem eql_nil' {P : Program} (w : World) (t e : TypeId) (a : Option Addr) (l c : Nat) (h : P.underlying t = some (.slice e)) : (binOp .eql t (.slice a l c) (.slice none 0 0)).run P w = .ok (.bool a.isNone) w := by
  unfold binOp
  simp [run_equal_slice_nil w t e a l c h]
set_option maxRecDepth 100000 in
set_option maxHeartbeats 1000000 in
theorem slices_Clone (v : Value) (l : List Int) (w : World) (hv : RowR 1 intR w v l) (hl : l.length ≤ 100000) :
    Calls Tryz.prog 76 #[v] w fun e w' => ∃ u, e = .returned u ∧ w'.ownsRow w.heap.size 3 1 u l.length (iV l) ∧ Below w.heap.size w w' := by
  obtain ⟨i0, hi0, hz0, hzs, hzb⟩ : ∃ i, Tryz.prog.info? 3 = some i ∧ i.zero = some (.int .i64 0) ∧ i.size = 1 ∧ i.bytes = 8 := ⟨(Tryz.prog.info? 3).get!, by kernel_rfl, by kernel_rfl, by kernel_rfl, by kernel_rfl⟩
  have hso := src_ints hv
  obtain ⟨a, c, rfl⟩ := row_get hv
  have he := fun W => eql_nil' W 35 3 a l.length c Tryz.underlying35
  obtain ⟨n, hn⟩ : ∃ n, l.length = n := ⟨_, rfl⟩
  have HN := Lib.hid hn
  rw [hn] at hl he hso ⊢
  have hone : ∀ u ∈ iV l, u.oneCell' = true := by intro u hu; unfold iV at hu; obtain ⟨x, _, rfl⟩ := List.mem_map.1 hu; rfl
  have hil : (iV l).length = n * 1 := by unfold iV; rw [List.length_map, hn, Nat.mul_one]
  cases a with
  | none =>
    have h0 : n = 0 ∧ iV l = [] := by
      rcases hso with ⟨_, h1, h2⟩ | ⟨ad, cc, h1, _⟩
      · exact ⟨h1, h2⟩
      · cases h1
    have HR := Lib.hid (show w.ownsRow w.heap.size 3 1 (.slice none 0 0) n (iV l) by rw [h0.1, h0.2]; exact World.ownsRow_nil _ _ _ _)
    clear hv hso h0 hn
    simp only [Option.isNone_none] at he
    go_enter Tryz.func76, Tryz.ntmps76
    go_wp2_with fail
    go_ret
    exact ⟨_, rfl, HR.out, Below.refl _ _⟩
  | some ad =>
    simp only [Option.isNone_some] at he
    have HSo := Lib.hid (show Src (w.alloc (.cells #[] 3)) (.slice (some ad) n c) n (iV l) by
      have h := src_ints (hv.below intR_stable ((Below.refl w.heap.size w).alloc (Nat.le_refl _) (.cells #[] 3)))
      rwa [hn] at h)
    have HOe := Lib.hid (owns_empty w 3 1 (base := w.heap.size) (Nat.le_refl _))
    clear hv hso hn
    go_enter Tryz.func76, Tryz.ntmps76
    go_wp2_with (first | (at_builtin; go_loud (refine wpList_append_src rfl (.tmp 5) (.tmp 6) 35 rfl w.heap.size 3 i0 (.int .i64 0) 1 8 Tryz.underlying35 hi0 hz0 hzs hzb rfl (by decide) _ 0 [] rfl HOe.out _ n (iV l) rfl HSo.out hil hone (by unfold maxLen; omega) (by omega) (by simp) ?_; intro v5 w5 hO5 hG5; have HO5 := Lib.hid hO5; have HB5 := Lib.hid (grown3 ((Below.refl w.heap.size w).alloc (Nat.le_refl _) _) (by simp) HOe.out hG5); clear hO5 hG5)) | fail)
    go_ret
    exact ⟨_, rfl, by have h := HO5.out; rw [Nat.zero_add, List.nil_append] at h; exact h, HB5.out⟩
set_option maxRecDepth 100000 in
set_option maxHeartbeats 1000000 in
theorem slices_Equal (v u : Value) (l m : List Int) (w : World) (hv : RowR 1 intR w v l) (hu : RowR 1 intR w u m) (hl : l.length ≤ 100000) (hm : m.length = l.length) :
    Calls Tryz.prog 81 #[v, u] w fun e w' => e = .returned (.bool (decide (l = m))) ∧ ∃ k, w' = w.drewN k := by
  have HV := Lib.hid hv
  have HU := Lib.hid hu
  obtain ⟨a, c, rfl⟩ := row_get hv
  obtain ⟨b, d, rfl⟩ := row_get hu
  obtain ⟨n, hn⟩ : ∃ n, l.length = n := ⟨_, rfl⟩
  have HN := Lib.hid hn
  have HM := Lib.hid (hm.trans hn)
  rw [hm, hn]
  rw [hn] at hl
  obtain ⟨Z, hZ⟩ : ∃ Z, decide (l = m) = Z := ⟨_, rfl⟩
  have HZ := Lib.hid hZ
  rw [hZ]
  have q0 : ((n : Int) != (n : Int)) = false := by simp
  clear hv hu hn hm hZ
  go_enter Tryz.func81, Tryz.ntmps81
  go_wp2_with fail
  go_loopw [5, 13] (fun _ jj wr => ∃ k t : Nat, k ≤ n ∧ jj = .int .i64 k ∧ Hid (l.take k = m.take k) ∧ wr = w.drewN t) (fun _ jj _ => n - (intOf jj).toNat)
  case atStart => exact ⟨0, 0, Nat.zero_le _, rfl, Lib.hid rfl, rfl⟩
  case round =>
    obtain ⟨k, t, hk, rfl, hT, rfl⟩ := hrel
    by_cases hlt : k < n
    case neg =>
      obtain rfl : n = k := by omega
      have q1 : ((n : Int) < (n : Int)) = False := eq_false (by omega)
      have q1' : (n < n) = False := eq_false (by omega)
      have HR := Lib.hid (show Z = true by
        rw [← HZ.out]
        have h := hT.out
        rw [List.take_of_length_le (by rw [HN.out]; exact Nat.le_refl _), List.take_of_length_le (by rw [HM.out]; exact Nat.le_refl _)] at h
        exact decide_eq_true h)
      clear hlt hk hT
      go_wp2_with fail
      go_ret
      exact ⟨by rw [HR.out]; rfl, _, rfl⟩
    have q1 : ((k : Int) < (n : Int)) = True := eq_true (by omega)
    have q1' : (k < n) = True := eq_true hlt
    have hk62 : k ≤ 9223372036854775806 := by omega
    have HK := Lib.hid hlt
    obtain ⟨x, hx⟩ := get_some (L := l) (n := k) (by rw [HN.out]; exact hlt)
    obtain ⟨y, hy⟩ := get_some (L := m) (n := k) (by rw [HM.out]; exact hlt)
    obtain ⟨g, o1, rfl, _, _, _, g0, hg⟩ := int_at HV.out (k := k) (by rw [HN.out]; exact hlt)
    obtain ⟨i, o2, rfl, _, _, _, i0, hi⟩ := int_at HU.out (k := k) (by rw [HM.out]; exact hlt)
    rw [show l.getD k 0 = x by simp [List.getD, hx]] at g0
    rw [show m.getD k 0 = y by simp [List.getD, hy]] at i0
    have HTk := Lib.hid (And.intro (take_snoc hx) (take_snoc hy))
    have HXY := Lib.hid (And.intro hx hy)
    by_cases hxy : x = y
    · subst hxy
      have HR := Lib.hid (show l.take (k + 1) = m.take (k + 1) by rw [HTk.out.1, HTk.out.2, hT.out])
      have q2 : (x != x) = false := by simp
      clear hg hi hx hy hT hlt hk
      go_wp2_with fail
      go_quiet (fail)
      go_wp2_with fail
      go_roundw
      case rel => exact ⟨k + 1, _, by have := HK.out; omega, by simp, HR, rfl⟩
      case measure => have := HK.out; first | (simp [intOf]; done) | (simp [intOf]; omega)
    · have q2 : (x != y) = true := by simpa using hxy
      have HR := Lib.hid (show Z = false by
        rw [← HZ.out]
        refine decide_eq_false fun e => hxy ?_
        have h1 := HXY.out.1
        rw [e, HXY.out.2] at h1
        exact (Option.some.inj h1).symm)
      clear hg hi hx hy hT hlt hk hxy
      go_wp2_with fail
      go_quiet (fail)
      go_wp2_with fail
      go_ret
      exact ⟨by rw [HR.out]; rfl, _, World.drewN_drewN _ _ _⟩
end Go.Proofs.YtefejcofmopjfaaGreatDoor

/- A region that draws its order: a condition on the world that hangs on what has been carried out: loads may be taken first, of cells that a store of the same region writes later. -/
namespace Go.Proofs.YtefejcofmopjfaaGreatDoor
open Go.RowKit
section
variable {P : Program} {ops : Array Oper} {Q : Exit → Act → World → Prop} {md : Region.Mode} {S : Array Bool → World → Prop}
/-- whatever comes up next; S holds behind each operation, of what has come up by then -/
def wpTill (P : Program) (md : Region.Mode) (ops : Array Oper) (Q : Exit → Act → World → Prop) (S : Array Bool → World → Prop) : Nat → Array Bool → Act → World → Prop
  | 0, L, a, w => Region.ready md ops L = [] ∧ Q .normal a w
  | n + 1, L, a, w => (Region.ready md ops L = [] → Q .normal a w) ∧
    ∀ i ∈ Region.ready md ops L, wpOp P ops Q i (fun b v => S (L.setIfInBounds i true) v ∧ wpTill P md ops Q S n (L.setIfInBounds i true) b v) a w
theorem till_any : ∀ (n : Nat) (L : Array Bool) (a : Act) (w : World), wpTill P md ops Q S n L a w → wpAny P md ops Q n L a w
  | 0, _, _, _, h => h
  | n + 1, _, _, _, h => ⟨h.1, fun i hi => wpOp_mono (fun b v k => till_any n _ b v k.2) (h.2 i hi)⟩
theorem till_first {i z : Nat} {oi : Oper} {u : Value} {T : World → Prop} (hi : ops[i]? = some oi) (hsel : ∀ (j : Nat) (o : Oper) cs b, ops[j]? = some o → o.op ≠ .select cs b)
    (hQ : ∀ c a w, Q (.panic c) (a.put oi.dst u) w → Q (.panic c) a w) (hz : ∀ oz, ops[z]? = some oz → ∃ e ∈ oz.after, Region.binds md e = true ∧ e.on = i) (hiz : i ≠ z)
    (hT : ∀ L v, L.getD z true = false → S L v → T v) (hS2 : ∀ L v, S (L.setIfInBounds i true) v ↔ S L v) :
    ∀ (n : Nat) (L : Array Bool) (a : Act) (w : World),
      (∀ j oj, ops[j]? = some oj → j ≠ i → L.getD j true = false → (∀ e ∈ oj.after, Region.binds md e = true → e.on ≠ i) → oi.apart ops oj = true) →
      i ∈ Region.ready md ops L → YieldsIf P ops T oi u a → L.getD z true = false → S L w →
      wpTill P md ops Q S n (L.setIfInBounds i true) (a.put oi.dst u) w → wpTill P md ops Q S (n + 1) L a w := by
  intro n
  induction n with
  | zero =>
    intro L a w _ hr hy hL hS H
    refine ⟨fun h => (by rw [h] at hr; cases hr), fun j hj => ?_⟩
    by_cases hji : j = i
    · subst hji; exact hy.wpOp hi (hT L w hL hS) ⟨(hS2 L w).2 hS, H⟩
    · have := ready_mono hj hji
      rw [H.1] at this
      cases this
  | succ n ih =>
    intro L a w hfree hr hy hL hS H
    refine ⟨fun h => (by rw [h] at hr; cases hr), fun j hj => ?_⟩
    by_cases hji : j = i
    · subst hji; exact hy.wpOp hi (hT L w hL hS) ⟨(hS2 L w).2 hS, H⟩
    · have hK := H.2 j (ready_mono hj hji)
      obtain ⟨hun, oj, hoj, hall⟩ := mem_ready.1 hj
      have hiun := (mem_ready.1 hr).1
      have hwait : ∀ e ∈ oj.after, Region.binds md e = true → e.on ≠ i := fun e he hb heq => by
        have h1 := hall e he hb
        rw [heq] at h1
        rcases Nat.lt_or_ge i L.size with h' | h'
        · simp [h'] at hiun h1; rw [hiun] at h1; cases h1
        · simp [Array.getElem?_eq_none h'] at h1
      have hjz : j ≠ z := by
        rintro rfl
        obtain ⟨e, he, hb, heq⟩ := hz oj hoj
        exact hwait e he hb heq
      have h2 := wpOp_putIf hoj (hfree j oj hoj hji hun hwait) (fun cs b => hsel i oi cs b hi) (fun cs b => hsel j oj cs b hoj) hQ hy hK
      refine wpOp_mono (fun b v k => ?_) h2
      have hSv : S (L.setIfInBounds j true) v := (hS2 _ v).1 (by
        have := k.2.1
        rw [Array.setIfInBounds_comm _ _ (Ne.symm hji)] at this
        exact this)
      have hzL : (L.setIfInBounds j true).getD z true = false := by rw [getD_set_ne true hjz]; exact hL
      refine ⟨hSv, ih (L.setIfInBounds j true) b v (fun k' ok hk hki hu hno => hfree k' ok hk hki (by
          by_cases hjk : j = k'
          · subst hjk; exact hun
          · rw [getD_set_ne true hjk] at hu; exact hu) hno) (ready_mono hr (Ne.symm hji)) k.1 hzL hSv ?_⟩
      rw [Array.setIfInBounds_comm _ _ hji]
      exact k.2.2
/-- does number z wait for number i? -/
def waits (md : Region.Mode) (ops : Array Oper) (z i : Nat) : Bool := match ops[z]? with
  | some oz => oz.after.any fun e => Region.binds md e && e.on == i
  | none => true
theorem waits_spec {z i : Nat} (h : waits md ops z i = true) : ∀ oz, ops[z]? = some oz → ∃ e ∈ oz.after, Region.binds md e = true ∧ e.on = i := by
  intro oz ho
  unfold waits at h
  rw [ho] at h
  simp only [Array.any_eq_true, Bool.and_eq_true, beq_iff_eq] at h
  obtain ⟨k, hk, h1, h2⟩ := h
  exact ⟨_, Array.getElem_mem hk, h1, h2⟩
theorem till_take (z : Nat) (T : World → Prop) {i : Nat} {oi : Oper} {u : Value} {n : Nat} {L : Array Bool} {a : Act} {w : World} (hi : ops[i]? = some oi)
    (hs : Region.noSelect ops = true) (hf : Region.free md ops L i = true) (hr : (Region.ready md ops L).contains i = true) (hz : waits md ops z i = true) (hL : L.getD z true = false) (hiz : i ≠ z)
    (hT : ∀ L v, L.getD z true = false → S L v → T v) (hS2 : ∀ L v, S (L.setIfInBounds i true) v ↔ S L v)
    (hQ : ∀ c a w, Q (.panic c) (a.put oi.dst u) w → Q (.panic c) a w) (hy : YieldsIf P ops T oi u a) (hS : S L w)
    (h : S (L.setIfInBounds i true) w → wpTill P md ops Q S n (L.setIfInBounds i true) (a.put oi.dst u) w) : wpTill P md ops Q S (n + 1) L a w :=
  till_first hi (Region.noSelect_spec hs) hQ (waits_spec hz) hiz hT hS2 n L a w (Region.free_spec hi hf) (by simpa using hr) hy hL hS (h ((hS2 L w).2 hS))
/-- one alone may come up next -/
theorem till_one {i : Nat} {o : Oper} {n : Nat} {L : Array Bool} {a : Act} {w : World} (hr : Region.ready md ops L = [i]) (ho : ops[i]? = some o)
    (h : ∀ K' : Act → World → Prop, Shut (∀ b v, S (L.setIfInBounds i true) v → (S (L.setIfInBounds i true) v → wpTill P md ops Q S n (L.setIfInBounds i true) b v) → K' b v) →
      if Region.wanted o (yielded ops a.tmps) = true then Oper.wp P o a w K' Q else K' (a.put o.dst undef) w) : wpTill P md ops Q S (n + 1) L a w := by
  refine ⟨fun h0 => (by rw [hr] at h0; cases h0), fun j hj => ?_⟩
  rw [hr] at hj
  obtain rfl := List.mem_singleton.1 hj
  exact wpOp_step ho fun K' hK => h K' fun b v hS hW => hK b v ⟨hS, hW hS⟩
theorem till_done {L : Array Bool} {a : Act} {w : World} (hr : Region.ready md ops L = []) (h : Q .normal a w) : ∀ n, wpTill P md ops Q S n L a w
  | 0 => ⟨hr, h⟩
  | _ + 1 => ⟨fun _ => h, by rw [hr]; simp⟩
theorem wp_region_till {id : Nat} {a : Act} {w : World} (hm : P.follows .mixedOrders = true) (hS : S (Array.replicate ops.size false) w.drew)
    (h : S (Array.replicate ops.size false) w.drew → wpTill P .any ops Q S ops.size (Array.replicate ops.size false) a w.drew) : (Code.region id ops true).wp P Q a w :=
  wp_region_any hm (till_any _ _ _ _ (h hS))
end
end Go.Proofs.YtefejcofmopjfaaGreatDoor

/- typing.walk: a place that is reached. -/
namespace Go.Proofs.YtefejcofmopjfaaGreatDoor
open Go.RowKit
set_option linter.unusedSimpArgs false
set_option linter.unusedVariables false
theorem own_type {w : World} {B : Nat} {e : TypeId} {q n : Nat} {v : Value} {xs : List Value} (h : w.ownsRow B e q v n xs) {g : Nat} (hg : v.ownBlock = some g) : ∃ C, w.heap[g]? = some (.cells C e (0, 0)) := by
  rcases h.2 with ⟨rfl, _⟩ | ⟨g', cap, cur, rfl, hB, hgg, _⟩
  · simp [Value.ownBlock] at hg
  · simp [Value.ownBlock] at hg
    subst hg
    exact ⟨cur, hgg⟩
theorem ne_type {w : World} {B : Nat} {e t : TypeId} {q n : Nat} {v : Value} {xs : List Value} (h : w.ownsRow B e q v n xs) {p : Nat} {D : Array Value} {fr : Nat × Nat} (hp : w.heap[p]? = some (.cells D t fr)) (hne : e ≠ t) : v.ownBlock ≠ some p := by
  intro hg
  obtain ⟨C, hC⟩ := own_type h hg
  rw [hp] at hC
  injection hC with hC
  injection hC with _ h2
  exact hne h2.symm
theorem rows_frame {w w' : World} {B : Nat} {e : TypeId} {U : List Value} {L : List (List Int)} {S : Nat → Prop} (h : OwnRows B e w U L) (hf : Frame w w' S) (hs : ∀ (k : Nat) (u : Value) (g : Nat), U[k]? = some u → u.ownBlock = some g → ¬ S g) : OwnRows B e w' U L :=
  ⟨h.len, fun i u l hu hl => owns_frame (h.row i u l hu hl) hf (hs i u · hu), h.apart⟩
theorem row_of {B : Nat} {e : TypeId} {w : World} {U : List Value} {L : List (List Int)} (h : OwnRows B e w U L) {k : Nat} {u : Value} (hu : U[k]? = some u) : ∃ l, L[k]? = some l ∧ w.ownsRow B e 1 u l.length (iV l) := by
  obtain ⟨l, hl⟩ := get_some (L := L) (n := k) (by rw [← h.len]; exact lt_of_get hu)
  exact ⟨l, hl, h.row k u l hu hl⟩
/-- one row is a new one -/
theorem OwnRows.fresh {w w' : World} {B : Nat} {e : TypeId} {U : List Value} {L : List (List Int)} (h : OwnRows B e w U L) (hb : Below w.heap.size w w') (hB : B ≤ w.heap.size) {v : Value} {l : List Int} (hv : w'.ownsRow w.heap.size e 1 v l.length (iV l)) (k : Nat) : OwnRows B e w' (U.set k v) (L.set k l) := by
  have hw := h.below hb
  have hlt : ∀ (i : Nat) (u : Value) (g : Nat), U[i]? = some u → u.ownBlock = some g → g < w.heap.size := fun i u g hu hg => by
    obtain ⟨l, _, ho⟩ := row_of h hu
    exact (owns_lt ho hg).2
  have hge : ∀ g, v.ownBlock = some g → w.heap.size ≤ g := fun g hg => (owns_lt hv hg).1
  refine ⟨by rw [List.length_set, List.length_set]; exact h.len, fun i u m hu hm => ?_, fun i j u u' g hij hu hu' hg => ?_⟩
  · rw [List.getElem?_set] at hu hm
    by_cases hik : k = i
    · subst hik
      rw [if_pos rfl] at hu hm
      split at hu
      · split at hm
        · cases hu; cases hm; exact own_low hv hB
        · cases hm
      · cases hu
    · rw [if_neg hik] at hu hm
      exact hw.row i u m hu hm
  · rw [List.getElem?_set] at hu hu'
    intro hg'
    by_cases hik : k = i
    · subst hik
      rw [if_pos rfl] at hu
      rw [if_neg (by omega)] at hu'
      split at hu
      · cases hu
        have := hge g hg
        have := hlt j u' g hu' hg'
        omega
      · cases hu
    · rw [if_neg hik] at hu
      by_cases hjk : k = j
      · subst hjk
        rw [if_pos rfl] at hu'
        split at hu'
        · cases hu'
          have := hge g hg'
          have := hlt i u g hu hg
          omega
        · cases hu'
      · rw [if_neg hjk] at hu'
        exact h.apart i j u u' g hij hu hu' hg hg'
/-- how far typing has come -/
structure WS where
  stacks : List (List Int)
  reached : List Bool
  waits : List Nat
def reachF (pc : Nat) (st : List Int) (s : WS) : WS := ⟨s.stacks.set pc st, s.reached.set pc true, insQ s.waits pc⟩
structure Hd where
  a : Value
  b : Value
  c : Value
  d : Value
  e : Value
  f : Value
def walkA (h : Hd) (gS gR n : Nat) (vQ : Value) : Array Value := #[h.a, h.b, h.c, h.d, h.e, h.f, .slice (some ⟨gS, 0, none⟩) n n, .slice (some ⟨gR, 0, none⟩) n n, vQ]
structure WAt (B G gS gR n : Nat) (h : Hd) (vQ : Value) (U : List Value) (s : WS) (w : World) : Prop where
  obj : w.heap[G]? = some (.cells (walkA h gS gR n vQ) 112 (0, 0))
  hB : B ≤ G
  st : w.ownsRow B 35 1 (.slice (some ⟨gS, 0, none⟩) n n) n U
  rows : OwnRows B 3 w U s.stacks
  re : w.ownsRow B 4 1 (.slice (some ⟨gR, 0, none⟩) n n) n (bV1 s.reached)
  qu : w.ownsRow B 3 1 vQ s.waits.length (nV s.waits)
  apart : ∀ (k : Nat) (u : Value) (g : Nat), U[k]? = some u → u.ownBlock = some g → vQ.ownBlock ≠ some g
  low : B ≤ w.heap.size
  fit : ∀ st ∈ s.stacks, st.length ≤ 32 ∧ ∀ z ∈ st, I64 z
theorem WAt.len {B G gS gR n : Nat} {h : Hd} {vQ : Value} {U : List Value} {s : WS} {w : World} (k : WAt B G gS gR n h vQ U s w) : U.length = n ∧ s.stacks.length = n ∧ s.reached.length = n := by
  have h1 := k.st.1
  have h2 := k.rows.len
  have h3 := k.re.1
  rw [Nat.mul_one] at h1 h3
  rw [bV1_len] at h3
  exact ⟨h1, h2.symm.trans h1, h3⟩
theorem WAt.below {B G gS gR n : Nat} {h : Hd} {vQ : Value} {U : List Value} {s : WS} {w w' : World} (k : WAt B G gS gR n h vQ U s w) (hb : Below w.heap.size w w') : WAt B G gS gR n h vQ U s w' :=
  ⟨obj_below k.obj hb (heap_lt k.obj), k.hB, owns_below k.st hb, k.rows.below hb, owns_below k.re hb, owns_below k.qu hb, k.apart, Nat.le_trans k.low hb.size, k.fit⟩
theorem WAt.ne {B G gS gR n : Nat} {h : Hd} {vQ : Value} {U : List Value} {s : WS} {w : World} (k : WAt B G gS gR n h vQ U s w) : G ≠ gS ∧ G ≠ gR ∧ gS ≠ gR ∧ vQ.ownBlock ≠ some G ∧ vQ.ownBlock ≠ some gS ∧ vQ.ownBlock ≠ some gR ∧ (∀ (i : Nat) (u : Value) (g : Nat), U[i]? = some u → u.ownBlock = some g → g ≠ G ∧ g ≠ gS ∧ g ≠ gR) := by
  obtain ⟨C1, h1⟩ := own_type k.st (g := gS) rfl
  obtain ⟨C2, h2⟩ := own_type k.re (g := gR) rfl
  have ho := k.obj
  refine ⟨fun e => ?_, fun e => ?_, fun e => ?_, ne_type k.qu ho (by decide), ne_type k.qu h1 (by decide), ne_type k.qu h2 (by decide), fun i u g hu hg => ?_⟩
  · rw [e, h1] at ho
    injection ho with ho
    injection ho with _ h
    exact absurd h (by decide)
  · rw [e, h2] at ho
    injection ho with ho
    injection ho with _ h
    exact absurd h (by decide)
  · rw [e, h2] at h1
    injection h1 with ho
    injection ho with _ h
    exact absurd h (by decide)
  · obtain ⟨l, _, hr⟩ := row_of k.rows hu
    exact ⟨fun e => ne_type hr ho (by decide) (by rw [hg, e]), fun e => ne_type hr h1 (by decide) (by rw [hg, e]), fun e => ne_type hr h2 (by decide) (by rw [hg, e])⟩
/-- both stores, then the queue -/
theorem WAt.stored {B G gS gR n : Nat} {h : Hd} {vQ : Value} {U : List Value} {s : WS} {w w' : World} (k : WAt B G gS gR n h vQ U s w) (hb : Below w.heap.size w w') {v : Value} {l : List Int} (hv : w'.ownsRow w.heap.size 3 1 v l.length (iV l)) (hlf : l.length ≤ 32 ∧ ∀ z ∈ l, I64 z) (pc : Nat) :
    WAt B G gS gR n h vQ (U.set pc v) ⟨s.stacks.set pc l, s.reached.set pc true, s.waits⟩ ((w'.setCell ⟨gS, pc, none⟩ v).setCell ⟨gR, pc, none⟩ (.bool true)) := by
  have k1 := k.below hb
  obtain ⟨n1, n2, n3, n4, n5, n6, n7⟩ := k1.ne
  have hrows := k.rows.fresh hb k.low hv pc
  have hst := (k1.st.stored pc v).1
  have f1 := Frame.set w' gS pc v
  have f2 := Frame.set (w'.setCell ⟨gS, pc, none⟩ v) gR pc (.bool true)
  have ff : Frame w' ((w'.setCell ⟨gS, pc, none⟩ v).setCell ⟨gR, pc, none⟩ (.bool true)) fun g => g = gS ∨ g = gR := (f1.more fun _ _ x => Or.inl x).trans (f2.more fun _ _ x => Or.inr x)
  have hre := ((owns_frame k1.re f1 (fun g hg e => n3 (((show gR = g from (by simpa [Value.ownBlock] using hg)).trans e).symm))).stored pc (.bool true)).1
  rw [bV1_set] at hre
  have hge : ∀ (i : Nat) (u : Value) (g : Nat), (U.set pc v)[i]? = some u → u.ownBlock = some g → (∃ C, w'.heap[g]? = some (.cells C 3 (0, 0))) ∧ vQ.ownBlock ≠ some g := fun i u g hu hg => by
    obtain ⟨m, _, hr⟩ := row_of hrows hu
    refine ⟨own_type hr hg, ?_⟩
    rw [List.getElem?_set] at hu
    split at hu
    · split at hu
      · cases hu
        intro e
        have h1 := (owns_lt hv hg).1
        have h2 := (owns_lt k.qu e).2
        omega
      · cases hu
    · exact k.apart i u g hu hg
  obtain ⟨C1, h1⟩ := own_type k1.st (g := gS) rfl
  obtain ⟨C2, h2⟩ := own_type k1.re (g := gR) rfl
  refine ⟨ff.obj k1.obj (fun x => x.elim n1 n2), k.hB, owns_frame hst f2 (fun g hg e => n3 ((show gS = g from (by simpa [Value.ownBlock] using hg)).trans e)), rows_frame hrows ff (fun i u g hu hg => ?_), hre, owns_frame k1.qu ff (fun g hg => ?_), fun i u g hu hg => (hge i u g hu hg).2, by simpa using k1.low, fun st hst => (List.mem_or_eq_of_mem_set hst).elim (k.fit st) (fun e => by rw [e]; exact hlf)⟩
  · obtain ⟨⟨C, hC⟩, _⟩ := hge i u g hu hg
    rintro (e | e)
    · rw [e, h1] at hC
      injection hC with ho
      injection ho with _ h
      exact absurd h (by decide)
    · rw [e, h2] at hC
      injection hC with ho
      injection ho with _ h
      exact absurd h (by decide)
  · rintro (e | e)
    · exact n5 (by rw [hg, e])
    · exact n6 (by rw [hg, e])
end Go.Proofs.YtefejcofmopjfaaGreatDoor

/- Layer 20, plain: typing's going over a unit, and what it leaves. -/
namespace Go.Proofs.YtefejcofmopjfaaGreatDoor
namespace TY
set_option linter.unusedSimpArgs false
set_option linter.unusedVariables false
/-- what the walk asks: a step's error, its stack, the places behind; how many places there are -/
structure Env where
  n : Nat
  se : Nat → List Int → Int
  ss : Nat → List Int → List Int
  beh : Nat → List Int
def goF (st : List Int) : List Int → WS → Int × WS
  | [], s => (0, s)
  | z :: r, s => if s.reached.getD z.toNat false = false then goF st r (reachF z.toNat st s) else if ¬ (s.stacks.getD z.toNat []).length = st.length then (9, s) else if ¬ s.stacks.getD z.toNat [] = st then (10, s) else goF st r s
def inB (n : Nat) (z : Int) : Prop := 0 ≤ z ∧ z < n
instance (n : Nat) (z : Int) : Decidable (inB n z) := by unfold inB; infer_instance
def visitF (E : Env) (pc : Nat) (s : WS) : Int × WS :=
  if ¬ E.se pc (s.stacks.getD pc []) = 0 then (E.se pc (s.stacks.getD pc []), s) else if ¬ (∀ z ∈ E.beh pc, inB E.n z) then (11, s) else goF (E.ss pc (s.stacks.getD pc [])) (E.beh pc) s
def lastF (q : List Nat) : Nat := q.getLastD 0
def entF (E : Env) : Nat → WS → Option (Int × Int × WS)
  | 0, _ => none
  | f + 1, s => if s.waits = [] then some (0, 0, s) else
      if ¬ (visitF E (lastF s.waits) ⟨s.stacks, s.reached, s.waits.dropLast⟩).1 = 0 then some ((lastF s.waits : Int), (visitF E (lastF s.waits) ⟨s.stacks, s.reached, s.waits.dropLast⟩).1, (visitF E (lastF s.waits) ⟨s.stacks, s.reached, s.waits.dropLast⟩).2)
      else entF E f (visitF E (lastF s.waits) ⟨s.stacks, s.reached, s.waits.dropLast⟩).2
def un (l : List Bool) : Nat := l.countP (fun b => !b)
theorem un_set : ∀ (l : List Bool) (k : Nat), l[k]? = some false → un (l.set k true) + 1 = un l
  | [], k, h => by simp at h
  | b :: l, 0, h => by
    simp at h
    subst h
    simp [un]
  | b :: l, k + 1, h => by
    have ih := un_set l k (by simpa using h)
    unfold un at ih ⊢
    rw [List.set_cons_succ, List.countP_cons, List.countP_cons]
    omega
structure Fit (n : Nat) (s : WS) : Prop where
  ls : s.stacks.length = n
  lr : s.reached.length = n
  wl : ∀ x ∈ s.waits, x < n
  wr : ∀ x ∈ s.waits, s.reached.getD x false = true
  cnt : s.waits.length + un s.reached ≤ n
theorem getD_set_same {α : Type} {l : List α} {k : Nat} {x d : α} (h : k < l.length) : (l.set k x).getD k d = x := by simp [List.getD, h]
theorem getD_set_other {α : Type} {l : List α} {k j : Nat} {x d : α} (h : k ≠ j) : (l.set k x).getD j d = l.getD j d := by simp [List.getD, List.getElem?_set, h]
/-- what is reached stays as it is -/
def Ext (s t : WS) : Prop := ∀ k, s.reached.getD k false = true → t.reached.getD k false = true ∧ t.stacks.getD k [] = s.stacks.getD k []
theorem Ext.refl (s : WS) : Ext s s := fun k h => ⟨h, rfl⟩
theorem Ext.trans {a b c : WS} (h : Ext a b) (k : Ext b c) : Ext a c := fun i hi => ⟨(k i (h i hi).1).1, ((k i (h i hi).1).2).trans (h i hi).2⟩
theorem reach_ext {n : Nat} {s : WS} (h : Fit n s) {k : Nat} (hk : k < n) (st : List Int) (hr : s.reached.getD k false = false) : Ext s (reachF k st s) := fun j hj => by
  have hne : k ≠ j := fun e => by rw [e] at hr; rw [hr] at hj; cases hj
  exact ⟨(getD_set_other hne).trans hj, getD_set_other hne⟩
theorem reach_fit {n : Nat} {s : WS} (h : Fit n s) {k : Nat} (hk : k < n) (st : List Int) (hr : s.reached.getD k false = false) : Fit n (reachF k st s) ∧ (reachF k st s).waits.length + un (reachF k st s).reached = s.waits.length + un s.reached := by
  have hge : s.reached[k]? = some false := by
    rw [List.getD_eq_getElem?_getD] at hr
    rw [List.getElem?_eq_getElem (by rw [h.lr]; exact hk)] at hr ⊢
    simpa using hr
  have hu := un_set s.reached k hge
  have hw : (reachF k st s).waits.length = s.waits.length + 1 := insQ_len _ _
  have hc : (reachF k st s).waits.length + un (reachF k st s).reached = s.waits.length + un s.reached := by
    rw [hw]
    show s.waits.length + 1 + un (s.reached.set k true) = _
    omega
  refine ⟨⟨by show (s.stacks.set k st).length = n; rw [List.length_set]; exact h.ls, by show (s.reached.set k true).length = n; rw [List.length_set]; exact h.lr, fun x hx => ?_, fun x hx => ?_, by rw [hc]; exact h.cnt⟩, hc⟩
  · rcases (insQ_mem s.waits k x).1 hx with rfl | hx
    · exact hk
    · exact h.wl x hx
  · rcases (insQ_mem s.waits k x).1 hx with rfl | hx
    · exact getD_set_same (by rw [h.lr]; exact hk)
    · exact (reach_ext h hk st hr x (h.wr x hx)).1
/-- going on to the places behind one -/
theorem go_told {n : Nat} (st : List Int) : ∀ (l : List Int) (s : WS), Fit n s → (∀ z ∈ l, inB n z) → Fit n (goF st l s).2 ∧ (goF st l s).2.waits.length + un (goF st l s).2.reached = s.waits.length + un s.reached ∧
    ((goF st l s).1 = 0 → Ext s (goF st l s).2 ∧ (∀ z ∈ l, (goF st l s).2.reached.getD z.toNat false = true ∧ (goF st l s).2.stacks.getD z.toNat [] = st) ∧ (∀ k, (goF st l s).2.reached.getD k false = true → s.reached.getD k false = true ∨ k ∈ (goF st l s).2.waits) ∧ (∀ k ∈ s.waits, k ∈ (goF st l s).2.waits))
  | [], s, h, _ => ⟨h, rfl, fun _ => ⟨Ext.refl s, fun z hz => absurd hz List.not_mem_nil, fun k hk => Or.inl hk, fun k hk => hk⟩⟩
  | z :: r, s, h, hl => by
    have hz := hl z (List.mem_cons_self ..)
    have hr := fun y hy => hl y (List.mem_cons_of_mem _ hy)
    have hzn : z.toNat < n := by unfold inB at hz; omega
    unfold goF
    by_cases h1 : s.reached.getD z.toNat false = false
    · rw [if_pos h1]
      obtain ⟨hf, hc⟩ := reach_fit h hzn st h1
      have he := reach_ext h hzn st h1
      obtain ⟨i1, i2, i3⟩ := go_told st r (reachF z.toNat st s) hf hr
      refine ⟨i1, i2.trans hc, fun h0 => ?_⟩
      obtain ⟨j1, j2, j3, j4⟩ := i3 h0
      have hzr : (reachF z.toNat st s).reached.getD z.toNat false = true := getD_set_same (by rw [h.lr]; exact hzn)
      have hzs : (reachF z.toNat st s).stacks.getD z.toNat [] = st := getD_set_same (by rw [h.ls]; exact hzn)
      refine ⟨he.trans j1, fun y hy => ?_, fun k hk => ?_, fun k hk => j4 k ((insQ_mem _ _ _).2 (Or.inr hk))⟩
      · rcases List.mem_cons.1 hy with rfl | hy
        · exact ⟨(j1 _ hzr).1, ((j1 _ hzr).2).trans hzs⟩
        · exact j2 y hy
      · rcases j3 k hk with hk | hk
        · by_cases hkz : z.toNat = k
          · subst hkz
            exact Or.inr (j4 _ ((insQ_mem _ _ _).2 (Or.inl rfl)))
          · exact Or.inl ((getD_set_other hkz).symm.trans hk)
        · exact Or.inr hk
    · rw [if_neg h1]
      have h1 : s.reached.getD z.toNat false = true := by simpa using h1
      by_cases h2 : ¬ (s.stacks.getD z.toNat []).length = st.length
      · rw [if_pos h2]
        exact ⟨h, rfl, fun h0 => by simp at h0⟩
      · rw [if_neg h2]
        by_cases h3 : ¬ s.stacks.getD z.toNat [] = st
        · rw [if_pos h3]
          exact ⟨h, rfl, fun h0 => by simp at h0⟩
        · rw [if_neg h3]
          obtain ⟨i1, i2, i3⟩ := go_told st r s h hr
          refine ⟨i1, i2, fun h0 => ?_⟩
          obtain ⟨j1, j2, j3, j4⟩ := i3 h0
          refine ⟨j1, fun y hy => ?_, j3, j4⟩
          rcases List.mem_cons.1 hy with rfl | hy
          · exact ⟨(j1 _ h1).1, ((j1 _ h1).2).trans (Classical.not_not.1 h3)⟩
          · exact j2 y hy
/-- a place from which all is as it is told -/
def Cl (E : Env) (s : WS) (pc : Nat) : Prop := E.se pc (s.stacks.getD pc []) = 0 ∧ ∀ z ∈ E.beh pc, inB E.n z ∧ s.reached.getD z.toNat false = true ∧ s.stacks.getD z.toNat [] = E.ss pc (s.stacks.getD pc [])
theorem Cl.ext {E : Env} {s t : WS} {pc : Nat} (h : Cl E s pc) (hp : s.reached.getD pc false = true) (he : Ext s t) : Cl E t pc := by
  have e := (he pc hp).2
  refine ⟨by rw [e]; exact h.1, fun z hz => ?_⟩
  obtain ⟨h1, h2, h3⟩ := h.2 z hz
  exact ⟨h1, (he _ h2).1, by rw [(he _ h2).2, e]; exact h3⟩
def Good (E : Env) (s : WS) : Prop := ∀ pc, s.reached.getD pc false = true → pc ∈ s.waits ∨ Cl E s pc
theorem visit_told {E : Env} {q : List Nat} {pc : Nat} {a : List (List Int)} {b : List Bool} (h : Fit E.n ⟨a, b, q ++ [pc]⟩) (hG : Good E ⟨a, b, q ++ [pc]⟩) :
    Fit E.n ⟨a, b, q⟩ ∧ Fit E.n (visitF E pc ⟨a, b, q⟩).2 ∧ (visitF E pc ⟨a, b, q⟩).2.waits.length + un (visitF E pc ⟨a, b, q⟩).2.reached + 1 = (q ++ [pc]).length + un b ∧ ((visitF E pc ⟨a, b, q⟩).1 = 0 → Good E (visitF E pc ⟨a, b, q⟩).2) := by
  have hq : Fit E.n ⟨a, b, q⟩ := ⟨h.ls, h.lr, fun x hx => h.wl x (List.mem_append_left _ hx), fun x hx => h.wr x (List.mem_append_left _ hx), by have := h.cnt; simp at this ⊢; omega⟩
  have hpr : b.getD pc false = true := h.wr pc (by simp)
  refine ⟨hq, ?_⟩
  unfold visitF
  by_cases h1 : ¬ E.se pc (a.getD pc []) = 0
  · rw [if_pos h1]
    exact ⟨hq, by simp; omega, fun h0 => absurd h0 h1⟩
  · rw [if_neg h1]
    by_cases h2 : ¬ (∀ z ∈ E.beh pc, inB E.n z)
    · rw [if_pos h2]
      exact ⟨hq, by simp; omega, fun h0 => by simp at h0⟩
    · rw [if_neg h2]
      have h2 := Classical.not_not.1 h2
      obtain ⟨i1, i2, i3⟩ := go_told (E.ss pc (a.getD pc [])) (E.beh pc) ⟨a, b, q⟩ hq h2
      refine ⟨i1, by rw [i2]; simp; omega, fun h0 k hk => ?_⟩
      obtain ⟨j1, j2, j3, j4⟩ := i3 h0
      have hcl : Cl E (goF (E.ss pc (a.getD pc [])) (E.beh pc) ⟨a, b, q⟩).2 pc := by
        have e := (j1 pc hpr).2
        refine ⟨by rw [e]; exact Classical.not_not.1 h1, fun z hz => ⟨h2 z hz, (j2 z hz).1, by rw [(j2 z hz).2, e]⟩⟩
      rcases j3 k hk with hk | hk
      · rcases hG k hk with hw | hc
        · rcases List.mem_append.1 hw with hw | hw
          · exact Or.inl (j4 k hw)
          · rw [List.mem_singleton] at hw
            subst hw
            exact Or.inr hcl
        · exact Or.inr (Cl.ext (s := ⟨a, b, q⟩) hc hk j1)
      · exact Or.inl hk
theorem ent_told (E : Env) : ∀ (f : Nat) (s : WS), Fit E.n s → Good E s → s.waits.length + un s.reached < f → ∃ r, entF E f s = some r ∧ (r.2.1 = 0 → r.1 = 0 ∧ Fit E.n r.2.2 ∧ ∀ pc, r.2.2.reached.getD pc false = true → Cl E r.2.2 pc)
  | 0, s, _, _, h => by omega
  | f + 1, s, h, hG, hm => by
    unfold entF
    by_cases hw : s.waits = []
    · rw [if_pos hw]
      refine ⟨_, rfl, fun _ => ⟨rfl, h, fun pc hpc => ?_⟩⟩
      rcases hG pc hpc with h1 | h1
      · rw [hw] at h1; exact absurd h1 List.not_mem_nil
      · exact h1
    · rw [if_neg hw]
      obtain ⟨a, b, ws⟩ := s
      simp only at hw hm
      obtain ⟨q, pc, hqp⟩ : ∃ q pc, ws = q ++ [pc] := ⟨ws.dropLast, ws.getLast hw, (List.dropLast_concat_getLast hw).symm⟩
      subst hqp
      have hl : lastF (q ++ [pc]) = pc := by simp [lastF]
      simp only [hl, List.dropLast_concat]
      obtain ⟨_, i1, i2, i3⟩ := visit_told h hG
      by_cases h0 : (visitF E pc ⟨a, b, q⟩).1 = 0
      · rw [if_neg (by rw [h0]; simp)]
        exact ent_told E f _ i1 (i3 h0) (by omega)
      · rw [if_pos h0]
        exact ⟨_, rfl, fun e => absurd e h0⟩
def start (n : Nat) : WS := if 0 < n then reachF 0 [] ⟨List.replicate n [], List.replicate n false, []⟩ else ⟨List.replicate n [], List.replicate n false, []⟩
theorem un_none : ∀ n, un (List.replicate n false) = n
  | 0 => rfl
  | n + 1 => by
    have ih := un_none n
    unfold un at ih ⊢
    rw [List.replicate_succ, List.countP_cons, ih]
    rfl
theorem start_told (E : Env) : Fit E.n (start E.n) ∧ Good E (start E.n) ∧ (start E.n).waits.length + un (start E.n).reached = E.n := by
  have h0 : Fit E.n ⟨List.replicate E.n [], List.replicate E.n false, []⟩ := ⟨by simp, by simp, fun x hx => absurd hx List.not_mem_nil, fun x hx => absurd hx List.not_mem_nil, by simp [un_none]⟩
  unfold start
  by_cases hn : 0 < E.n
  · rw [if_pos hn]
    have hr : (List.replicate E.n false).getD 0 false = false := by simp [List.getD, List.getElem?_replicate, hn]
    obtain ⟨h1, h2⟩ := reach_fit h0 hn [] hr
    refine ⟨h1, fun k hk => ?_, by rw [h2]; simp [un_none]⟩
    by_cases hk0 : 0 = k
    · subst hk0
      exact Or.inl ((insQ_mem _ _ _).2 (Or.inl rfl))
    · have h3 : ((List.replicate E.n false).set 0 true).getD k false = true := hk
      rw [getD_set_other hk0] at h3
      simp [List.getD, List.getElem?_replicate] at h3
      split at h3 <;> simp at h3
  · rw [if_neg hn]
    refine ⟨h0, fun k hk => ?_, by simp [un_none]⟩
    simp [List.getD, List.getElem?_replicate] at hk
    split at hk <;> simp at hk
end TY
end Go.Proofs.YtefejcofmopjfaaGreatDoor

/- Whether two lists of numbers are the same. -/
namespace Go.Proofs.YtefejcofmopjfaaGreatDoor
open Go.RowKit
set_option linter.unusedSimpArgs false
set_option linter.unusedVariables false
set_option maxHeartbeats 2000000 in
theorem ref15_Ints (v u : Value) (L M : List Int) (w : World) (hv : RowR 1 intR w v L) (hu : RowR 1 intR w u M) :
    Calls Tryz.prog 30 #[v, u] w fun e w' => e = .returned (.bool (decide (L = M))) ∧ ∃ m, w' = w.drewN m := by
  have hL := hv.len
  obtain ⟨sa, ca, rfl⟩ := row_get hv
  obtain ⟨sb, cb, rfl⟩ := row_get hu
  by_cases hlen : L.length = M.length
  · have hb : (((L.length : Nat) : Int) != ((M.length : Nat) : Int)) = false := by rw [hlen]; simp
    have HY := Lib.hid (fun h : L = M => (decide_eq_true h : decide (L = M) = true))
    have HN := Lib.hid (fun h : ¬ L = M => (decide_eq_false h : decide (L = M) = false))
    obtain ⟨N, hN⟩ : ∃ N, L.length = N := ⟨_, rfl⟩
    have hM : M.length = N := hlen.symm.trans hN
    rw [hN] at hv hL
    rw [hM] at hu
    rw [hN, hM] at hb
    rw [hN, hM]
    clear hlen
    go_enter Tryz.func30, Tryz.ntmps30
    go_wp2_with fail
    go_loopw [5] (fun j wr => ∃ k m : Nat, k ≤ N ∧ j = .int .i64 k ∧ Hid (L.take k = M.take k) ∧ wr = w.drewN m) (fun j _ => N - (intOf j).toNat)
    case atStart => exact ⟨0, 0, by omega, rfl, Lib.hid (by simp), rfl⟩
    case round =>
      obtain ⟨k, m, hk, rfl, heq, rfl⟩ := hrel
      by_cases hlt : k < N
      · obtain ⟨b, off, rfl, hbw, hc⟩ := ints_at hv (k := k) (by omega)
        obtain ⟨b2, off2, rfl, hbw2, hd⟩ := ints_at hu (k := k) (by omega)
        obtain ⟨x, hx⟩ : ∃ x, L[k]? = some x := ⟨L[k]'(by omega), by simp [hN, hlt]⟩
        obtain ⟨y, hy⟩ : ∃ y, M[k]? = some y := ⟨M[k]'(by omega), by simp [hlt, hM]⟩
        obtain ⟨c0, _⟩ := hc k x hx
        obtain ⟨d0, _⟩ := hd k y hy
        clear hc hd
        by_cases hxy : x = y
        · have hs := Lib.hid (show L.take (k + 1) = M.take (k + 1) by rw [take_snoc hx, take_snoc hy, heq.out, hxy])
          have hq : (x != y) = false := by simp [hxy]
          clear hxy hx hy heq
          go_wp2_with fail
          go_quiet (fail)
          go_wp2_with fail
          go_roundw
          case rel => exact ⟨k + 1, _, by omega, by simp, hs, rfl⟩
          case measure => first | (simp [intOf]; done) | (simp [intOf]; omega)
        · have hs := Lib.hid (HN.out (fun h => hxy (by rw [h, hy] at hx; exact (Option.some.inj hx).symm)))
          have hq : (x != y) = true := by simpa using hxy
          clear hxy hx hy heq
          go_wp2_with fail
          go_quiet (fail)
          go_wp2_with fail
          go_ret
          exact ⟨by rw [hs.out]; rfl, _, World.drewN_drewN _ _ _⟩
      · obtain rfl : k = N := by omega
        have hs := Lib.hid (HY.out (by have := heq.out; rw [List.take_of_length_le (by omega), List.take_of_length_le (by omega)] at this; exact this))
        clear heq
        go_wp2_with fail
        go_ret
        exact ⟨by rw [hs.out]; rfl, _, rfl⟩
  · have hb : (((L.length : Nat) : Int) != ((M.length : Nat) : Int)) = true := by simp; omega
    have hs := Lib.hid (show decide (L = M) = false from decide_eq_false (fun h => hlen (by rw [h])))
    clear hlen
    go_enter Tryz.func30, Tryz.ntmps30
    go_wp2_with fail
    go_ret
    exact ⟨by rw [hs.out]; rfl, 0, rfl⟩
end Go.Proofs.YtefejcofmopjfaaGreatDoor

/- Rows that are made, rows of rows of the call's own. -/
namespace Go.Proofs.YtefejcofmopjfaaGreatDoor
open Go.RowKit
set_option linter.unusedSimpArgs false
set_option linter.unusedVariables false
theorem own_owns {w : World} {B : Nat} {e : TypeId} {q n m : Nat} {v : Value} {xs ys : List Value} (h : w.ownsRow B e q v n xs) (h1 : n = m) (h2 : xs = ys) : w.ownsRow B e q v m ys := by subst h1 h2; exact h
theorem madeI (m : Nat) : madeCells (Value.int .i64 0).cells m = (iV (List.replicate m 0)).toArray := by
  apply Array.ext_getElem?
  intro i
  by_cases h : i < m
  · simp [madeCells, Value.cells, h, Nat.mod_one, iV, List.getElem?_replicate]
  · simp [madeCells, Value.cells, h, iV, List.getElem?_replicate]
theorem madeS (m : Nat) : madeCells (Value.slice none 0 0).cells m = (List.replicate m (Value.slice none 0 0)).toArray := by
  apply Array.ext_getElem?
  intro i
  by_cases h : i < m
  · simp [madeCells, Value.cells, h, Nat.mod_one, List.getElem?_replicate]
  · simp [madeCells, Value.cells, h, List.getElem?_replicate]
theorem ob_ne {n m c d : Nat} {g h : Nat} (k : g ≠ h) : (Value.slice (some ⟨g, 0, none⟩) n c).ownBlock ≠ some h := by simpa [Value.ownBlock] using k
theorem set_get {w : World} {g o k : Nat} {x : Value} {q : Obj} (h : w.heap[k]? = some q) (hne : g ≠ k) : (w.setCell ⟨g, o, none⟩ x).heap[k]? = some q := by rw [get_set (a := ⟨g, o, none⟩) hne]; exact h
theorem rows_set {B : Nat} {e : TypeId} {w : World} {U : List Value} {L : List (List Int)} {g o : Nat} {x : Value} (h : OwnRows B e w U L) (hg : g < B) : OwnRows B e (w.setCell ⟨g, o, none⟩ x) U L :=
  ⟨h.len, fun i u l hu hl => owns_set (h.row i u l hu hl) (fun hg' => by have := (owns_lt (h.row i u l hu hl) hg').1; omega), h.apart⟩
theorem new_cells (w : World) (C : List Value) (t : TypeId) : ∀ (j : Nat) (u : Value), C[j]? = some u → (w.alloc (.cells C.toArray t)).cell? ((⟨w.heap.size, 0, none⟩ : Addr).add j) = some u := by
  rcases src_new w C t with ⟨h, _⟩ | ⟨ad, c, h, hc⟩
  · cases h
  · cases h; exact hc
/-- rows of the call's own, read as a grid -/
theorem grid_own {w : World} {B : Nat} {e : TypeId} {o : Value} {next : List (List Int)} {U : List Value} (h : w.ownsRow B e 1 o next.length U) (hr : ∀ (i : Nat) (u : Value) (l : List Int), U[i]? = some u → next[i]? = some l → RowR 1 intR w u l) : RowR 1 gridR w o next := by
  have hUl := h.1
  rcases h.2 with ⟨rfl, h0⟩ | ⟨g, cap, cur, rfl, hbg, hg, hnc, hcm, hcs, htake⟩
  · exact Or.inl ⟨none, 0, rfl, List.eq_nil_of_length_eq_zero h0, fun _ => rfl⟩
  · by_cases h0 : next.length = 0
    · exact Or.inl ⟨some ⟨g, 0, none⟩, cap, by rw [h0], List.eq_nil_of_length_eq_zero h0, fun h => by cases h⟩
    refine Or.inr ⟨g, 0, cap, rfl, by omega, hnc, hcm, heap_lt hg, fun i l hl => ?_⟩
    obtain ⟨u, hu⟩ := get_some (L := U) (n := i) (by have := lt_of_get hl; omega)
    have hc := h.cellAt i (by have := lt_of_get hl; omega)
    rw [hu] at hc
    refine ⟨[u], rfl, fun j x hx => ?_, u, rfl, hr i u l hu hl⟩
    cases j with
    | zero => cases hx; simpa using hc
    | succ j => simp at hx
theorem own_at {w : World} {B : Nat} {e : TypeId} {a : Option Addr} {n c q : Nat} {l : List Int} (h : w.ownsRow B e 1 (.slice a n c) n (iV l)) (hq : q < n) {z : Int} (hz : l[q]? = some z) : ∃ g, a = some ⟨g, 0, none⟩ ∧ w.cell? ⟨g, q, none⟩ = some (.int .i64 z) ∧ n ≤ c ∧ c ≤ 9223372036854775807 ∧ w.frozen? ⟨g, q, none⟩ = false := by
  rcases h.2 with ⟨h1, h0⟩ | ⟨g, cap, cur, h1, _, _, h2, h3, _⟩
  · omega
  · cases h1
    refine ⟨g, rfl, ?_, h2, h3, h.frozenAt q⟩
    rw [h.cellAt q (by omega)]
    simp [iV, hz]
theorem new_cellsE (w : World) (C : List Value) (t : TypeId) {b : Nat} (hb : w.heap.size = b) : ∀ (j : Nat) (u : Value), C[j]? = some u → (w.alloc (.cells C.toArray t)).cell? ((⟨b, 0, none⟩ : Addr).add j) = some u := by subst hb; exact new_cells w C t
end Go.Proofs.YtefejcofmopjfaaGreatDoor

/- typing.walk: reach. -/
namespace Go.Proofs.YtefejcofmopjfaaGreatDoor
open Go.RowKit
set_option linter.unusedSimpArgs false
set_option linter.unusedVariables false
theorem far_cell {w : World} {g q b i : Nat} {v : Value} (h : ¬ g = b) : (w.setCell ⟨g, q, none⟩ v).cell? ⟨b, i, none⟩ = w.cell? ⟨b, i, none⟩ := World.cell?_setCell_far w _ _ v h
theorem far_frozen {w : World} {g q b i : Nat} {v : Value} (h : ¬ g = b) : (w.setCell ⟨g, q, none⟩ v).frozen? ⟨b, i, none⟩ = w.frozen? ⟨b, i, none⟩ := by
  unfold World.frozen?
  rw [get_set (show (⟨g, q, none⟩ : Addr).block ≠ (⟨b, i, none⟩ : Addr).block from h)]
theorem walkA_put (h : Hd) (gS gR n : Nat) (v v' : Value) : (walkA h gS gR n v).setIfInBounds 8 v' = walkA h gS gR n v' := rfl
theorem WAt.quAt {B G gS gR n : Nat} {h : Hd} {vQ : Value} {U : List Value} {s : WS} {w : World} (k : WAt B G gS gR n h vQ U s w) : QuAt w B G 8 (walkA h gS gR n vQ) 112 vQ s.waits := ⟨k.obj, rfl, k.qu, k.ne.2.2.2.1⟩
/-- another queue -/
theorem WAt.queued {B G gS gR n : Nat} {h : Hd} {vQ v' : Value} {U : List Value} {s : WS} {q : List Nat} {w w' : World} (k : WAt B G gS gR n h vQ U s w) (hq : QuAt w' B G 8 ((walkA h gS gR n vQ).setIfInBounds 8 v') 112 v' q) (hN : Near w vQ v') (hf : Frame w w' fun k => k = G ∨ vQ.ownBlock = some k) : WAt B G gS gR n h v' U ⟨s.stacks, s.reached, q⟩ w' := by
  obtain ⟨n1, n2, n3, n4, n5, n6, n7⟩ := k.ne
  have hb : ∀ (i : Nat) (u : Value) (g : Nat), U[i]? = some u → u.ownBlock = some g → ¬ (g = G ∨ vQ.ownBlock = some g) := fun i u g hu hg => by
    rintro (e | e)
    · exact (n7 i u g hu hg).1 e
    · exact k.apart i u g hu hg e
  refine ⟨hq.obj, k.hB, owns_frame k.st hf ?_, rows_frame k.rows hf hb, owns_frame k.re hf ?_, hq.own, fun i u g hu hg e => ?_, Nat.le_trans k.low hf.size, k.fit⟩
  · intro g hg
    have hg : gS = g := by simpa [Value.ownBlock] using hg
    subst hg
    rintro (e | e)
    · exact n1 e.symm
    · exact n5 e
  · intro g hg
    have hg : gR = g := by simpa [Value.ownBlock] using hg
    subst hg
    rintro (e | e)
    · exact n2 e.symm
    · exact n6 e
  · rcases hN with h1 | ⟨g2, h1, h2⟩
    · rw [h1] at e
      exact k.apart i u g hu hg e
    · rw [h1] at e
      injection e with e
      obtain ⟨l, _, hr⟩ := row_of k.rows hu
      have := (owns_lt hr hg).2
      omega
set_option maxRecDepth 100000 in
set_option maxHeartbeats 2000000 in
theorem walk_reach {B G gS gR n : Nat} {h : Hd} {vQ : Value} {U : List Value} {s : WS} {w : World} (k : WAt B G gS gR n h vQ U s w) (pc : Nat) (hpc : pc < n) (hn : n ≤ 100000) (v : Value) (l : List Int) (hv : RowR 1 intR w v l) (hl : l.length ≤ 32) (hq : s.waits.length ≤ 1000) (hz : ∀ x ∈ s.waits, x ≤ 1000000) :
    Calls Tryz.prog 56 #[.pointer (some ⟨G, 0, none⟩), .int .i64 (pc : Int), v] w fun e w' => e = .returned (.tuple #[]) ∧ ∃ vQ' U', WAt B G gS gR n h vQ' U' (reachF pc l s) w' ∧ Frame w w' (fun g => g = G ∨ g = gS ∨ g = gR ∨ vQ.ownBlock = some g) ∧ Near w vQ vQ' := by
  have HCl := Lib.hid (fun W (hb : Below w.heap.size w W) => slices_Clone v l W (hv.below intR_stable hb) (by omega))
  have e6 : w.cell? ⟨G, 6, none⟩ = some (.slice (some ⟨gS, 0, none⟩) n n) := obj_cell k.obj rfl
  have e7 : w.cell? ⟨G, 7, none⟩ = some (.slice (some ⟨gR, 0, none⟩) n n) := obj_cell k.obj rfl
  have zG : G < w.heap.size := heap_lt k.obj
  obtain ⟨l1, l2, l3⟩ := k.len
  obtain ⟨x, hx⟩ := get_some (L := U) (n := pc) (by omega)
  obtain ⟨y, hy⟩ := get_some (L := bV1 s.reached) (n := pc) (by rw [bV1_len]; omega)
  have HSt := Lib.hid (fun W (hb : Below w.heap.size w W) => (show W.cell? ⟨gS, pc, none⟩ = some x ∧ W.frozen? ⟨gS, pc, none⟩ = false ∧ W.cell? ⟨gR, pc, none⟩ = some y ∧ W.frozen? ⟨gR, pc, none⟩ = false from by
    have k1 := k.below hb
    exact ⟨(k1.st.cellAt pc (by omega)).trans hx, k1.st.frozenAt pc, (k1.re.cellAt pc (by omega)).trans hy, k1.re.frozenAt pc⟩))
  obtain ⟨n1, n2, n3, n4, n5, n6, n7⟩ := k.ne
  have HKs := Lib.hid (fun (W : World) (hb : Below w.heap.size w W) (u : Value) (hu : W.ownsRow w.heap.size 3 1 u l.length (iV l)) => k.stored hb hu ⟨hl, row_ints hv⟩ pc)
  have HK := Lib.hid k
  have HQ := Lib.hid (And.intro hq hz)
  have HN := Lib.hid (And.intro hpc hn)
  have HNe := Lib.hid (And.intro n1 (And.intro n2 (And.intro n5 n6)))
  have q1 : ((pc : Int) < (n : Int)) = True := eq_true (by omega)
  have q1' : (pc < n) = True := eq_true hpc
  have sf := @far_cell
  have sz := @far_frozen
  have m3 : ¬ gS = gR := n3
  have m3' : ¬ gR = gS := fun e => n3 e.symm
  clear k hv hq hz l1 l2 l3 hx hy n1 n2 n3 n4 n5 n6 n7 hpc hn
  go_enter Tryz.func56, Tryz.ntmps56
  go_wp2_with fail
  refine wp_region_till (S := (fun (L : Array Bool) (w' : World) => L.getD 13 true = false → Below w.heap.size w w')) (by kernel_rfl) ?_ (fun hHeld => ?_)
  · (try dsimp only); exact fun _ => (by first | assumption | exact (Below.refl _ _).drew)
  refine till_take 13 (fun _ => True) (i := 0) (oi := { dst := some 6, op := Op.move (Operand.tmp 0), type := 109, pos := _, after := #[], guard := none }) (u := ?_) rfl (by kernel_rfl) (by kernel_rfl) (by kernel_rfl) (by kernel_rfl) (by kernel_rfl) (by decide) (fun L v hL h => trivial) (fun L v => by simp only [getD_set_ne true (show 0 ≠ 13 by decide), getD_set_ne true (show 0 ≠ 15 by decide)]) (fun _ _ _ h => h) (Or.inl ⟨by rfl, ?_⟩) hHeld ?_
  rotate_left
  · intro wt _; first | (go_simp; done) | (go_simp; with_reducible rfl) | (trace_state; fail)
  clear hHeld; intro hHeld
  try simp only [Act.put, List.setIfInBounds_toArray, List.set_cons_zero, List.set_cons_succ]
  refine till_take 13 (fun _ => True) (i := 1) (oi := { dst := some 7, op := Op.nilCheck (Operand.tmp 6), type := 0, pos := _, after := #[{ on := 0, ground := Ground.data }], guard := none }) (u := ?_) rfl (by kernel_rfl) (by kernel_rfl) (by kernel_rfl) (by kernel_rfl) (by kernel_rfl) (by decide) (fun L v hL h => trivial) (fun L v => by simp only [getD_set_ne true (show 1 ≠ 13 by decide), getD_set_ne true (show 1 ≠ 15 by decide)]) (fun _ _ _ h => h) (Or.inl ⟨by rfl, ?_⟩) hHeld ?_
  rotate_left
  · intro wt _; first | (go_simp; done) | (go_simp; with_reducible rfl) | (trace_state; fail)
  clear hHeld; intro hHeld
  try simp only [Act.put, List.setIfInBounds_toArray, List.set_cons_zero, List.set_cons_succ]
  refine till_take 13 (fun _ => True) (i := 2) (oi := { dst := some 8, op := Op.fieldAddr 112 (Operand.tmp 7) 3, type := 0, pos := _, after := #[{ on := 1, ground := Ground.data }], guard := none }) (u := ?_) rfl (by kernel_rfl) (by kernel_rfl) (by kernel_rfl) (by kernel_rfl) (by kernel_rfl) (by decide) (fun L v hL h => trivial) (fun L v => by simp only [getD_set_ne true (show 2 ≠ 13 by decide), getD_set_ne true (show 2 ≠ 15 by decide)]) (fun _ _ _ h => h) (Or.inl ⟨by rfl, ?_⟩) hHeld ?_
  rotate_left
  · intro wt _; first | (go_simp; done) | (go_simp; with_reducible rfl) | (trace_state; fail)
  clear hHeld; intro hHeld
  try simp only [Act.put, List.setIfInBounds_toArray, List.set_cons_zero, List.set_cons_succ]
  refine till_take 13 (fun w' => Below w.heap.size w w') (i := 3) (oi := { dst := some 9, op := Op.load 54 (Operand.tmp 8), type := 54, pos := _, after := #[{ on := 2, ground := Ground.data }], guard := none }) (u := ?_) rfl (by kernel_rfl) (by kernel_rfl) (by kernel_rfl) (by kernel_rfl) (by kernel_rfl) (by decide) (fun L v hL h => h hL) (fun L v => by simp only [getD_set_ne true (show 3 ≠ 13 by decide), getD_set_ne true (show 3 ≠ 15 by decide)]) (fun _ _ _ h => h) (Or.inl ⟨by rfl, ?_⟩) hHeld ?_
  rotate_left
  · intro wt hSw; (try dsimp only at hSw); have e6 := cellB hSw e6 zG; have e7 := cellB hSw e7 zG; clear hSw; first | (go_simp; done) | (go_simp; with_reducible rfl) | (trace_state; fail)
  clear hHeld; intro hHeld
  try simp only [Act.put, List.setIfInBounds_toArray, List.set_cons_zero, List.set_cons_succ]
  refine till_take 13 (fun _ => True) (i := 4) (oi := { dst := some 10, op := Op.move (Operand.tmp 1), type := 3, pos := _, after := #[], guard := none }) (u := ?_) rfl (by kernel_rfl) (by kernel_rfl) (by kernel_rfl) (by kernel_rfl) (by kernel_rfl) (by decide) (fun L v hL h => trivial) (fun L v => by simp only [getD_set_ne true (show 4 ≠ 13 by decide), getD_set_ne true (show 4 ≠ 15 by decide)]) (fun _ _ _ h => h) (Or.inl ⟨by rfl, ?_⟩) hHeld ?_
  rotate_left
  · intro wt _; first | (go_simp; done) | (go_simp; with_reducible rfl) | (trace_state; fail)
  clear hHeld; intro hHeld
  try simp only [Act.put, List.setIfInBounds_toArray, List.set_cons_zero, List.set_cons_succ]
  refine till_take 14 (fun _ => True) (i := 5) (oi := { dst := some 11, op := Op.move (Operand.tmp 0), type := 109, pos := _, after := #[], guard := none }) (u := ?_) rfl (by kernel_rfl) (by kernel_rfl) (by kernel_rfl) (by kernel_rfl) (by kernel_rfl) (by decide) (fun L v hL h => trivial) (fun L v => by simp only [getD_set_ne true (show 5 ≠ 13 by decide), getD_set_ne true (show 5 ≠ 15 by decide)]) (fun _ _ _ h => h) (Or.inl ⟨by rfl, ?_⟩) hHeld ?_
  rotate_left
  · intro wt _; first | (go_simp; done) | (go_simp; with_reducible rfl) | (trace_state; fail)
  clear hHeld; intro hHeld
  try simp only [Act.put, List.setIfInBounds_toArray, List.set_cons_zero, List.set_cons_succ]
  refine till_take 14 (fun _ => True) (i := 6) (oi := { dst := some 12, op := Op.nilCheck (Operand.tmp 11), type := 0, pos := _, after := #[{ on := 5, ground := Ground.data }], guard := none }) (u := ?_) rfl (by kernel_rfl) (by kernel_rfl) (by kernel_rfl) (by kernel_rfl) (by kernel_rfl) (by decide) (fun L v hL h => trivial) (fun L v => by simp only [getD_set_ne true (show 6 ≠ 13 by decide), getD_set_ne true (show 6 ≠ 15 by decide)]) (fun _ _ _ h => h) (Or.inl ⟨by rfl, ?_⟩) hHeld ?_
  rotate_left
  · intro wt _; first | (go_simp; done) | (go_simp; with_reducible rfl) | (trace_state; fail)
  clear hHeld; intro hHeld
  try simp only [Act.put, List.setIfInBounds_toArray, List.set_cons_zero, List.set_cons_succ]
  refine till_take 14 (fun _ => True) (i := 7) (oi := { dst := some 13, op := Op.fieldAddr 112 (Operand.tmp 12) 4, type := 0, pos := _, after := #[{ on := 6, ground := Ground.data }], guard := none }) (u := ?_) rfl (by kernel_rfl) (by kernel_rfl) (by kernel_rfl) (by kernel_rfl) (by kernel_rfl) (by decide) (fun L v hL h => trivial) (fun L v => by simp only [getD_set_ne true (show 7 ≠ 13 by decide), getD_set_ne true (show 7 ≠ 15 by decide)]) (fun _ _ _ h => h) (Or.inl ⟨by rfl, ?_⟩) hHeld ?_
  rotate_left
  · intro wt _; first | (go_simp; done) | (go_simp; with_reducible rfl) | (trace_state; fail)
  clear hHeld; intro hHeld
  try simp only [Act.put, List.setIfInBounds_toArray, List.set_cons_zero, List.set_cons_succ]
  refine till_take 13 (fun w' => Below w.heap.size w w') (i := 8) (oi := { dst := some 14, op := Op.load 55 (Operand.tmp 13), type := 55, pos := _, after := #[{ on := 7, ground := Ground.data }], guard := none }) (u := ?_) rfl (by kernel_rfl) (by kernel_rfl) (by kernel_rfl) (by kernel_rfl) (by kernel_rfl) (by decide) (fun L v hL h => h hL) (fun L v => by simp only [getD_set_ne true (show 8 ≠ 13 by decide), getD_set_ne true (show 8 ≠ 15 by decide)]) (fun _ _ _ h => h) (Or.inl ⟨by rfl, ?_⟩) hHeld ?_
  rotate_left
  · intro wt hSw; (try dsimp only at hSw); have e6 := cellB hSw e6 zG; have e7 := cellB hSw e7 zG; clear hSw; first | (go_simp; done) | (go_simp; with_reducible rfl) | (trace_state; fail)
  clear hHeld; intro hHeld
  try simp only [Act.put, List.setIfInBounds_toArray, List.set_cons_zero, List.set_cons_succ]
  refine till_take 14 (fun _ => True) (i := 9) (oi := { dst := some 15, op := Op.move (Operand.tmp 1), type := 3, pos := _, after := #[{ on := 13, ground := Ground.gcOnly Departure.lateStores }], guard := none }) (u := ?_) rfl (by kernel_rfl) (by kernel_rfl) (by kernel_rfl) (by kernel_rfl) (by kernel_rfl) (by decide) (fun L v hL h => trivial) (fun L v => by simp only [getD_set_ne true (show 9 ≠ 13 by decide), getD_set_ne true (show 9 ≠ 15 by decide)]) (fun _ _ _ h => h) (Or.inl ⟨by rfl, ?_⟩) hHeld ?_
  rotate_left
  · intro wt _; first | (go_simp; done) | (go_simp; with_reducible rfl) | (trace_state; fail)
  clear hHeld; intro hHeld
  try simp only [Act.put, List.setIfInBounds_toArray, List.set_cons_zero, List.set_cons_succ]
  refine till_take 13 (fun _ => True) (i := 10) (oi := { dst := some 16, op := Op.move (Operand.tmp 2), type := 35, pos := _, after := #[], guard := none }) (u := ?_) rfl (by kernel_rfl) (by kernel_rfl) (by kernel_rfl) (by kernel_rfl) (by kernel_rfl) (by decide) (fun L v hL h => trivial) (fun L v => by simp only [getD_set_ne true (show 10 ≠ 13 by decide), getD_set_ne true (show 10 ≠ 15 by decide)]) (fun _ _ _ h => h) (Or.inl ⟨by rfl, ?_⟩) hHeld ?_
  rotate_left
  · intro wt _; first | (go_simp; done) | (go_simp; with_reducible rfl) | (trace_state; fail)
  clear hHeld; intro hHeld
  try simp only [Act.put, List.setIfInBounds_toArray, List.set_cons_zero, List.set_cons_succ]
  refine till_one (i := 11) (o := { dst := some 17, op := Op.call { callee := Callee.value (Operand.func 76), args := #[Operand.tmp 16], argTypes := #[35] }, type := 35, pos := _, after := #[{ on := 10, ground := Ground.data }], guard := none }) (by kernel_rfl) rfl (fun K hK => ?_)
  go_simp
  have hHeld := hHeld (by decide); refine (HCl.out _ hHeld).mono ?_; rintro e v1 ⟨u1, rfl, hO1, hb1⟩; have hHeldC := hHeld.trans (hb1.mono hHeld.size); have HO1 := Lib.hid (own_low hO1 hHeld.size); obtain ⟨b0, f0, b1, f1⟩ := HSt.out v1 hHeldC; have HH1 := Lib.hid hHeldC; obtain ⟨ua, uc, rfl⟩ := owns_form hO1; clear hO1 hb1
  go_wp2_with fail
  refine hK.out _ _ ?_ (fun hHeld => ?_)
  · (try dsimp only); exact fun _ => hHeldC
  clear hK K
  try simp only [Act.put, List.setIfInBounds_toArray, List.set_cons_zero, List.set_cons_succ]
  refine till_take 13 (fun _ => True) (i := 12) (oi := { dst := some 18, op := Op.indexAddr 54 (Operand.tmp 9) (Operand.tmp 10), type := 0, pos := _, after := #[{ on := 3, ground := Ground.data }, { on := 4, ground := Ground.data }, { on := 0, ground := Ground.phase }, { on := 1, ground := Ground.phase }, { on := 2, ground := Ground.phase }, { on := 3, ground := Ground.phase }, { on := 4, ground := Ground.phase }, { on := 5, ground := Ground.textOnly Departure.lateStores }, { on := 6, ground := Ground.textOnly Departure.lateStoresUnsure }, { on := 7, ground := Ground.textOnly Departure.lateStoresUnsure }, { on := 8, ground := Ground.phase }, { on := 9, ground := Ground.textOnly Departure.lateStores }, { on := 10, ground := Ground.phase }, { on := 11, ground := Ground.phase }], guard := none }) (u := ?_) rfl (by kernel_rfl) (by kernel_rfl) (by kernel_rfl) (by kernel_rfl) (by kernel_rfl) (by decide) (fun L v hL h => trivial) (fun L v => by simp only [getD_set_ne true (show 12 ≠ 13 by decide), getD_set_ne true (show 12 ≠ 15 by decide)]) (fun _ _ _ h => h) (Or.inl ⟨by rfl, ?_⟩) hHeld ?_
  rotate_left
  · intro wt _; first | (go_simp; done) | (go_simp; with_reducible rfl) | (trace_state; fail)
  clear hHeld; intro hHeld
  try simp only [Act.put, List.setIfInBounds_toArray, List.set_cons_zero, List.set_cons_succ]
  refine till_one (i := 13) (o := { dst := none, op := Op.store 35 (Operand.tmp 18) (Operand.tmp 17), type := 0, pos := _, after := #[{ on := 12, ground := Ground.data }, { on := 11, ground := Ground.data }, { on := 11, ground := Ground.chain }, { on := 0, ground := Ground.phase }, { on := 1, ground := Ground.phase }, { on := 2, ground := Ground.phase }, { on := 3, ground := Ground.phase }, { on := 4, ground := Ground.phase }, { on := 5, ground := Ground.textOnly Departure.lateStores }, { on := 6, ground := Ground.textOnly Departure.lateStoresUnsure }, { on := 7, ground := Ground.textOnly Departure.lateStoresUnsure }, { on := 8, ground := Ground.phase }, { on := 9, ground := Ground.textOnly Departure.lateStores }, { on := 10, ground := Ground.phase }, { on := 11, ground := Ground.phase }], guard := none }) (by kernel_rfl) rfl (fun K hK => ?_)
  go_simp
  refine hK.out _ _ ?_ (fun hHeld => ?_)
  · (try dsimp only); exact fun h => absurd h (by decide)
  clear hK K
  try simp only [Act.put, List.setIfInBounds_toArray, List.set_cons_zero, List.set_cons_succ]
  refine till_take 15 (fun _ => True) (i := 14) (oi := { dst := some 19, op := Op.indexAddr 55 (Operand.tmp 14) (Operand.tmp 15), type := 0, pos := _, after := #[{ on := 8, ground := Ground.data }, { on := 9, ground := Ground.data }, { on := 0, ground := Ground.phase }, { on := 1, ground := Ground.phase }, { on := 2, ground := Ground.phase }, { on := 3, ground := Ground.phase }, { on := 4, ground := Ground.phase }, { on := 5, ground := Ground.phase }, { on := 6, ground := Ground.phase }, { on := 7, ground := Ground.phase }, { on := 8, ground := Ground.phase }, { on := 9, ground := Ground.phase }, { on := 10, ground := Ground.phase }, { on := 11, ground := Ground.phase }, { on := 12, ground := Ground.phase }, { on := 13, ground := Ground.phase }], guard := none }) (u := ?_) rfl (by kernel_rfl) (by kernel_rfl) (by kernel_rfl) (by kernel_rfl) (by kernel_rfl) (by decide) (fun L v hL h => trivial) (fun L v => by simp only [getD_set_ne true (show 14 ≠ 13 by decide), getD_set_ne true (show 14 ≠ 15 by decide)]) (fun _ _ _ h => h) (Or.inl ⟨by rfl, ?_⟩) hHeld ?_
  rotate_left
  · intro wt _; first | (go_simp; done) | (go_simp; with_reducible rfl) | (trace_state; fail)
  clear hHeld; intro hHeld
  try simp only [Act.put, List.setIfInBounds_toArray, List.set_cons_zero, List.set_cons_succ]
  refine till_one (i := 15) (o := { dst := none, op := Op.store 4 (Operand.tmp 19) (Operand.const (Value.bool true)), type := 0, pos := _, after := #[{ on := 14, ground := Ground.data }, { on := 13, ground := Ground.chain }, { on := 0, ground := Ground.phase }, { on := 1, ground := Ground.phase }, { on := 2, ground := Ground.phase }, { on := 3, ground := Ground.phase }, { on := 4, ground := Ground.phase }, { on := 5, ground := Ground.phase }, { on := 6, ground := Ground.phase }, { on := 7, ground := Ground.phase }, { on := 8, ground := Ground.phase }, { on := 9, ground := Ground.phase }, { on := 10, ground := Ground.phase }, { on := 11, ground := Ground.phase }, { on := 12, ground := Ground.phase }, { on := 13, ground := Ground.phase }], guard := none }) (by kernel_rfl) rfl (fun K hK => ?_)
  go_simp
  refine hK.out _ _ ?_ (fun hHeld => ?_)
  · (try dsimp only); exact fun h => absurd h (by decide)
  clear hK K
  try simp only [Act.put, List.setIfInBounds_toArray, List.set_cons_zero, List.set_cons_succ]
  refine till_done (by kernel_rfl) ?_ _
  have hK2 := HKs.out v1 HH1.out _ HO1.out
  have HF2 := Lib.hid (show Frame w ((v1.setCell ⟨gS, pc, none⟩ (.slice ua l.length uc)).setCell ⟨gR, pc, none⟩ (.bool true)) (fun g => g = gS ∨ g = gR) from
    ((⟨HH1.out.os, HH1.out.tape, HH1.out.output, HH1.out.size, fun k hk _ => HH1.out.block k hk⟩ : Frame w v1 fun g => g = gS ∨ g = gR).trans ((Frame.set _ _ _ _).more fun _ _ x => Or.inl x)).trans ((Frame.set _ _ _ _).more fun _ _ x => Or.inr x))
  obtain ⟨W2, hW2⟩ : ∃ W2, (v1.setCell ⟨gS, pc, none⟩ (.slice ua l.length uc)).setCell ⟨gR, pc, none⟩ (.bool true) = W2 := ⟨_, rfl⟩
  rw [hW2] at hK2 HF2 ⊢
  have HK2 := Lib.hid hK2
  have HP := Lib.hid (queue_put hK2.quAt pc HQ.out.1 HQ.out.2 (by have := HN.out; omega) hK2.low)
  clear hK2 hW2 b0 f0 b1 f1 sf sz e6 e7
  go_wp2_with fail
  refine HP.out.mono ?_; rintro e w3 ⟨rfl, v3, hQ3, hN3, hF3⟩
  have HR := Lib.hid (show ∃ vQ' U', WAt B G gS gR n h vQ' U' (reachF pc l s) w3 ∧ Frame w w3 (fun g => g = G ∨ g = gS ∨ g = gR ∨ vQ.ownBlock = some g) ∧ Near w vQ vQ' from
    ⟨v3, _, HK2.out.queued hQ3 hN3 hF3, (HF2.out.more fun _ _ x => x.elim (fun y => Or.inr (Or.inl y)) (fun y => Or.inr (Or.inr (Or.inl y)))).trans (hF3.more fun _ _ x => x.elim (fun y => Or.inl y) (fun y => Or.inr (Or.inr (Or.inr y)))), hN3.elim Or.inl (fun ⟨g, e1, e2⟩ => Or.inr ⟨g, e1, Nat.le_trans HF2.out.size e2⟩)⟩)
  clear hQ3 hN3 hF3
  go_wp2_with fail
  go_end0
  exact ⟨rfl, HR.out⟩
end Go.Proofs.YtefejcofmopjfaaGreatDoor
