/- Appending to a row of the call's own: where the answer lies. -/
import Derived.Test.YtfgnpphbkjeooaaOwn
import Derived.Test.YtfgnpphbkjeooaaHeap
namespace Go.Proofs.Ytfgnpphbkjeooaa
open Go.RowKit
set_option linter.unusedSimpArgs false
set_option linter.unusedVariables false
/-- the answer lies where the row lay, or in a new block -/
def Near (w : World) (v v' : Value) : Prop := v'.ownBlock = v.ownBlock ∨ ∃ g, v'.ownBlock = some g ∧ w.heap.size ≤ g
theorem run_append_near {P : Program} (w : World) (base : Nat) (t ty e : TypeId) (i : TypeInfo) (z : Value) (size bytes : Nat) (ht : P.underlying t = some (.slice e)) (hi : P.info? e = some i) (hz : i.zero = some z)
    (hsize : i.size = size) (hby : i.bytes = bytes)
    (v : Value) (n : Nat) (xs : List Value) (hown : w.ownsRow base e size v n xs)
    (a : Addr) (m c : Nat) (news : List Value) (hl : news.length = m * size) (hnews : ∀ j u, news[j]? = some u → w.cell? (a.add j) = some u) (h1 : ∀ u ∈ news, u.oneCell' = true)
    (h63 : n + m ≤ maxLen) (hbytes : (n + m) * bytes ≤ 140737488355328) (v' : Value) (w' : World) (hr : (Builtin.append_ #[t, t] ty #[v, .slice (some a) m c]).run P w = .ok v' w') : Near w v v' := by
  subst hsize
  subst hby
  have hsmall : n + m ≤ 9223372036854775807 := by simp only [maxLen] at h63; omega
  rcases hown.2 with ⟨rfl, rfl⟩ | ⟨g, cap, cur, rfl, hbg, hg, hnc, hcm, hcs, htake⟩
  · by_cases hm : m = 0
    · subst hm
      have hn : news = [] := List.eq_nil_of_length_eq_zero (by simpa using hl)
      subst hn
      simp [Builtin.append_, run_underlying ht, sizeOf, typeInfo, hi, Builtin.lenOf, Builtin.firstCells, loadCells, loadCellsFrom] at hr
      exact .inl (by rw [← hr.1])
    · have h2 := run_append_nil (P := P) w t ty e i z ht hi hz a m c news hl hnews (by omega) (by omega) (by have hb := hbytes; simp only [Nat.zero_add] at hb; omega)
      rw [h2] at hr
      injection hr with e1 e2
      exact .inr ⟨w.heap.size, by rw [← e1]; rfl, Nat.le_refl _⟩
  · by_cases hroom : n + m ≤ cap
    · have hfit : n * i.size + news.length ≤ cur.size := by rw [hl, hcs, ← Nat.add_mul]; exact Nat.mul_le_mul_right _ hroom
      have h2 := run_append_room (P := P) w t ty e i ht hi g n cap cur hg a m c news hl hnews h1 hroom hfit
      rw [h2] at hr
      injection hr with e1 e2
      exact .inl (by rw [← e1]; rfl)
    · have holds : ∀ j u, xs[j]? = some u → w.cell? ((⟨g, 0, none⟩ : Addr).add j) = some u := hown.cells (g := g) rfl
      have h2 := run_append_grow (P := P) w t ty e i z ht hi hz ⟨g, 0, none⟩ n cap xs hown.1 holds a m c news hl hnews (by omega) (by omega) (growslice_fits (by omega) hbytes)
      rw [h2] at hr
      injection hr with e1 e2
      exact .inr ⟨w.heap.size, by rw [← e1]; rfl, Nat.le_refl _⟩
theorem wp_append_near {P : Program} {w : World} {o : Oper} {a : Act} {K : Act → World → Prop} {Q : Exit → Act → World → Prop} (s x : Operand) (t : TypeId)
    (ho : o.op = .call { callee := .builtin .append, args := #[s, x], argTypes := #[t, t] })
    (base : Nat) (e : TypeId) (i : TypeInfo) (z : Value) (size bytes : Nat) (ht : P.underlying t = some (.slice e)) (hi : P.info? e = some i) (hz : i.zero = some z)
    (hsize : i.size = size) (hby : i.bytes = bytes) (hzs : z.cells.size = size) (hsz : 0 < size)
    (v : Value) (n : Nat) (xs : List Value) (hs : a.eval s = v) (hown : w.ownsRow base e size v n xs)
    (ad : Addr) (m c : Nat) (news : List Value) (hx : a.eval x = .slice (some ad) m c) (hl : news.length = m * size) (hnews : ∀ j u, news[j]? = some u → w.cell? (ad.add j) = some u) (h1 : ∀ u ∈ news, u.oneCell' = true)
    (h63 : n + m ≤ maxLen) (hbytes : (n + m) * bytes ≤ 140737488355328) (hbase : base ≤ w.heap.size)
    (h : ∀ v' w', w'.ownsRow base e size v' (n + m) (xs ++ news) → w.grownBy w' v.ownBlock → Near w v v' → K (a.put o.dst v') w') : o.wp P a w K Q := by
  obtain ⟨v', w', hr, h2, h3, _⟩ := run_append_own (P := P) w base t o.type e i z size bytes ht hi hz hsize hby hzs hsz v n xs hown ad m c news hl hnews h1 h63 hbytes hbase
  have h4 := run_append_near (P := P) w base t o.type e i z size bytes ht hi hz hsize hby v n xs hown ad m c news hl hnews h1 h63 hbytes v' w' hr
  unfold Oper.wp execOp
  simp only [ho, resolve, invoke, builtin, Sem.run_bind, Sem.run_pure, Result.andThen_ok, List.map_toArray, List.map_cons, List.map_nil, hs, hx, hr]
  exact h v' w' h2 h3 h4
theorem wpList_append_near {P : Program} {w : World} {ops : Array Oper} {rest : List Oper} {o : Oper} {a : Act} {Q : Exit → Act → World → Prop} (hgd : o.guard = none) (s x : Operand) (t : TypeId)
    (ho : o.op = .call { callee := .builtin .append, args := #[s, x], argTypes := #[t, t] })
    (base : Nat) (e : TypeId) (i : TypeInfo) (z : Value) (size bytes : Nat) (ht : P.underlying t = some (.slice e)) (hi : P.info? e = some i) (hz : i.zero = some z)
    (hsize : i.size = size) (hby : i.bytes = bytes) (hzs : z.cells.size = size) (hsz : 0 < size)
    (v : Value) (n : Nat) (xs : List Value) (hs : a.eval s = v) (hown : w.ownsRow base e size v n xs)
    (ad : Addr) (m c : Nat) (news : List Value) (hx : a.eval x = .slice (some ad) m c) (hl : news.length = m * size) (hnews : ∀ j u, news[j]? = some u → w.cell? (ad.add j) = some u) (h1 : ∀ u ∈ news, u.oneCell' = true)
    (h63 : n + m ≤ maxLen) (hbytes : (n + m) * bytes ≤ 140737488355328) (hbase : base ≤ w.heap.size)
    (h : ∀ v' w', w'.ownsRow base e size v' (n + m) (xs ++ news) → w.grownBy w' v.ownBlock → Near w v v' → wpList P ops Q rest (a.put o.dst v') w') : wpList P ops Q (o :: rest) a w :=
  wpList_plain hgd fun _ hK => wp_append_near s x t ho base e i z size bytes ht hi hz hsize hby hzs hsz v n xs hs hown ad m c news hx hl hnews h1 h63 hbytes hbase fun v' w' h2 h3 h4 => hK _ _ (h v' w' h2 h3 h4)
/-- one row of many is another one -/
theorem OwnRows.put {B : Nat} {e : TypeId} {w w2 : World} {U : List Value} {L : List (List Int)} {k : Nat} {u v : Value} {l : List Int} (h : OwnRows B e w U L) (hu : U[k]? = some u) (hO : w2.ownsRow B e 1 v l.length (iV l)) (hG : w.grownBy w2 u.ownBlock) (hN : Near w u v) :
    OwnRows B e w2 (U.set k v) (L.set k l) := by
  have hk := lt_of_get hu
  have hne : ∀ (i : Nat) (x : Value), i ≠ k → U[i]? = some x → ∀ g, x.ownBlock = some g → u.ownBlock ≠ some g := by
    intro i x hik hx g hg
    rcases Nat.lt_or_ge i k with h1 | h1
    · exact h.apart i k x u g h1 hx hu hg
    · intro hug
      exact h.apart k i u x g (by omega) hu hx hug hg
  have hsz : ∀ (i : Nat) (x : Value), U[i]? = some x → ∀ g, x.ownBlock = some g → g < w.heap.size := by
    intro i x hx g hg
    obtain ⟨m, hm⟩ := get_some (L := L) (n := i) (by rw [← h.len]; exact lt_of_get hx)
    exact (owns_lt (h.row i x m hx hm) hg).2
  have hvn : ∀ (i : Nat) (x : Value), i ≠ k → U[i]? = some x → ∀ g, x.ownBlock = some g → v.ownBlock ≠ some g := by
    intro i x hik hx g hg
    rcases hN with hN | ⟨g', hN, hge⟩
    · rw [hN]; exact hne i x hik hx g hg
    · rw [hN]; intro he; cases he; have := hsz i x hx g hg; omega
  refine ⟨by rw [List.length_set, List.length_set]; exact h.len, fun i x m hx hm => ?_, fun i j x y g hij hx hy hg => ?_⟩
  · rw [List.getElem?_set] at hx hm
    by_cases hik : k = i
    · subst hik
      rw [if_pos rfl, if_pos hk] at hx
      rw [if_pos rfl, if_pos (by rw [← h.len]; exact hk)] at hm
      cases hx; cases hm; exact hO
    · rw [if_neg hik] at hx hm
      exact owns_grown (h.row i x m hx hm) hG (hne i x (fun hh => hik hh.symm) hx)
  · rw [List.getElem?_set] at hx hy
    by_cases hik : k = i
    · subst hik
      rw [if_pos rfl, if_pos hk] at hx
      rw [if_neg (by omega)] at hy
      cases hx
      intro hyg
      exact hvn j y (by omega) hy g hyg hg
    · rw [if_neg hik] at hx
      by_cases hjk : k = j
      · subst hjk
        rw [if_pos rfl, if_pos hk] at hy
        cases hy
        exact hvn i x (fun hh => hik hh.symm) hx g hg
      · rw [if_neg hjk] at hy
        exact h.apart i j x y g hij hx hy hg
/-- no row yet -/
theorem OwnRows.blank (B : Nat) (e : TypeId) (w : World) (n : Nat) : OwnRows B e w (List.replicate n (.slice none 0 0)) (List.replicate n []) := by
  refine ⟨by simp, fun i u l hu hl => ?_, fun i j u u' g _ hu _ hg => ?_⟩
  · rw [List.getElem?_replicate] at hu hl
    split at hu
    · rename_i hh
      rw [if_pos hh] at hl
      cases hu; cases hl
      exact World.ownsRow_nil _ _ _ _
    · cases hu
  · rw [List.getElem?_replicate] at hu
    split at hu
    · cases hu; cases hg
    · cases hu
theorem OwnRows.store {B C : Nat} {e f : TypeId} {w : World} {U : List Value} {L : List (List Int)} {g n c o q : Nat} {xs : List Value} {x : Value} (h : OwnRows B e w U L) (k : w.ownsRow C f q (.slice (some ⟨g, 0, none⟩) n c) n xs) (hef : e ≠ f) : OwnRows B e (w.setCell ⟨g, o, none⟩ x) U L :=
  ⟨h.len, fun i u l hu hl => owns_set (h.row i u l hu hl) (fun hg => owns_type (h.row i u l hu hl) k hef hg rfl), h.apart⟩
end Go.Proofs.Ytfgnpphbkjeooaa
