/- What a row's list of package-level tables gives: their cells. -/
import Derived.Test.YtknbomikiakpmaaDoorBase
import Derived.Lib.LaidTab
import Derived.LaidLaws
import Derived.MakeChecks
namespace Go.Proofs.YtknbomikiakpmaaDoor
open Go.ChangeShapes Go.WideShapes Go.ChangeAt Go.RowKit
section
variable {P : Program}
def leafVal {H : Type} : DataW H → Value
  | .lit (.int k z) => .int k z
  | .lit (.string l) => .string ⟨l.toArray⟩
  | .lit (.bool b) => .bool b
  | _ => undef
/-- a type of one cell that reads as what it holds -/
def Leaf (P : Program) (e : TypeId) : Prop := (∃ k, P.underlying e = some (.int k)) ∨ P.underlying e = some .string ∨ P.underlying e = some .bool
theorem leaf_trod {H : Type} {enc : TypeId × Value → H} {w : World} {base : Nat} {sp : Nat → Bool} {held : Bool} {m : Nat} {e : TypeId} (he : Leaf P e) {cs : List Value} {x : DataW H × List MemPlace}
    (h : DataW.trod enc P w base sp held m e cs = some x) : cs = [leafVal x.1] := by
  rcases he with ⟨k, he⟩ | he | he
  · obtain ⟨z, rfl, rfl, _⟩ := DataW.trod_int he h; rfl
  · obtain ⟨s, rfl, rfl, _⟩ := DataW.trod_string he h; simp [leafVal]
  · cases m with
    | zero => simp [DataW.trod] at h
    | succ n =>
      unfold DataW.trod at h
      rw [he] at h
      split at h <;> simp_all [leafVal]
      obtain ⟨_, rfl⟩ := h
      rfl
theorem cells_of_array {H : Type} {enc : TypeId × Value → H} {w : World} {base : Nat} {sp : Nat → Bool} {held : Bool} {fuel : Nat} {t e : TypeId} {n : Nat} {cs : List Value} {ds : List (DataW H)} {p : List MemPlace}
    (ht : P.underlying t = some (.array n e)) (he : Leaf P e) (hce : P.cellsOf e = 1) (hct : P.cellsOf t = n)
    (h : DataW.trod enc P w base sp held fuel t cs = some (.agg ds, p)) : cs = ds.map leafVal := by
  obtain ⟨xs, m, rfl, hx, hl, hn, hall⟩ := DataW.trod_array ht h
  have hds : ds = xs.map (·.1) := by have := congrArg Prod.fst hx; simpa using this
  subst hds
  apply List.ext_getElem?
  intro i
  by_cases hi : i < n
  · have h1 := hall i hi
    obtain ⟨b, hb⟩ : ∃ b, xs[i]? = some b := ⟨xs[i], by simp [hn, hi]⟩
    rw [hb] at h1
    have h2 := leaf_trod he h1
    rw [hce, Nat.mul_one] at h2
    have h3 : cs[i]? = some (leafVal b.1) := by
      have := congrArg (·[0]?) h2
      simpa [List.getElem?_take, List.getElem?_drop] using this
    rw [h3]
    simp [hb]
  · rw [List.getElem?_eq_none (by omega), List.getElem?_eq_none (by simp; omega)]
theorem laidMet_head_tail {x : String × DataW Unit} {r : List (String × DataW Unit)} {w : World} (h : laidMet P (x :: r) w) : laidMet P r w := by
  obtain ⟨ps, hv, hnd, hrows⟩ := h
  obtain ⟨n, d⟩ := x
  obtain ⟨g, t, cs, fuel, p, q, _, _, _, _, hq, rfl⟩ := hv
  exact ⟨q, hq, List.Nodup.sublist (List.sublist_append_right _ _) hnd, fun b off hm => hrows b off (List.mem_append_right _ hm)⟩
/-- THE CELLS OF A TABLE THAT STANDS FIRST ON THE LIST. -/
theorem laid_cells {W : World} {name : String} {ds : List (DataW Unit)} {rest : List (String × DataW Unit)} {g : Nat} {t e : TypeId} {n : Nat}
    (hg : P.globalNamed name = some g) (hty : (P.globals[g]?).map (·.type) = some t) (ht : P.underlying t = some (.array n e)) (he : Leaf P e) (hce : P.cellsOf e = 1) (hct : P.cellsOf t = n)
    (h : laidMet P ((name, .agg ds) :: rest) W) (i : Nat) : W.cell? ⟨g, i, none⟩ = (ds[i]?).map leafVal := by
  obtain ⟨ps, ⟨g', t', cs, fuel, p, q, hg', ht', hvar, hd, _, _⟩, _⟩ := h
  obtain rfl := Option.some.inj (hg.symm.trans hg')
  obtain rfl := Option.some.inj (hty.symm.trans ht')
  have := World.var?_cell hg hvar i
  rw [this, ← Array.getElem?_toList, cells_of_array ht he hce hct hd]
  simp
theorem big_of_cell {w : World} {g i : Nat} {v : Value} (h : w.cell? ⟨g, i, none⟩ = some v) : g < w.heap.size := by
  by_cases hg : g < w.heap.size
  · exact hg
  · simp [World.cell?, Array.getElem?_eq_none (Nat.le_of_not_lt hg)] at h
end
end Go.Proofs.YtknbomikiakpmaaDoor
