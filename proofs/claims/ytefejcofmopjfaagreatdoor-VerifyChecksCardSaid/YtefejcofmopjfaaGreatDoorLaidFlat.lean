/- Tables of structs and arrays: their cells, one behind the other. -/
import Derived.Test.YtefejcofmopjfaaGreatDoorLaid
namespace Go.Proofs.YtefejcofmopjfaaGreatDoor
open Go.ChangeShapes Go.WideShapes Go.ChangeAt Go.RowKit
section
variable {P : Program}
def flatF {H : Type} : Nat → DataW H → List Value
  | _, .lit l => [leafVal (.lit l : DataW H)]
  | n + 1, .agg ds => ds.flatMap fun d => flatF n d
  | _, _ => []
theorem flatF_lit {H : Type} (n : Nat) (l : Lit) : flatF n (.lit l : DataW H) = [leafVal (.lit l : DataW H)] := by cases n <;> simp [flatF]
/-- a type of m cells that reads as what they hold -/
def FlatAt (P : Program) (t : TypeId) (n m : Nat) : Prop := ∀ {H : Type} (enc : TypeId × Value → H) (w : World) (base : Nat) (sp : Nat → Bool) (held : Bool) (fuel : Nat) (cs : List Value) (x : DataW H × List MemPlace),
  DataW.trod enc P w base sp held fuel t cs = some x → cs.length = m ∧ cs = flatF n x.1
theorem flatAt_int {e : TypeId} {k : IntKind} {n : Nat} (he : P.underlying e = some (.int k)) : FlatAt P e n 1 := by
  intro H enc w base sp held fuel cs x h
  obtain ⟨z, rfl, rfl, _⟩ := DataW.trod_int he h
  exact ⟨rfl, by simp [flatF_lit, leafVal]⟩
theorem flatAt_string {e : TypeId} {n : Nat} (he : P.underlying e = some .string) : FlatAt P e n 1 := by
  intro H enc w base sp held fuel cs x h
  obtain ⟨s, rfl, rfl, _⟩ := DataW.trod_string he h
  exact ⟨rfl, by simp [flatF_lit, leafVal]⟩
theorem cut_rows {H : Type} (f : DataW H → List Value) (m : Nat) : ∀ (n : Nat) (cs : List Value) (ys : List (DataW H)), cs.length = n * m → ys.length = n → (∀ i, i < n → ∃ y, ys[i]? = some y ∧ (cs.drop (i * m)).take m = f y) → cs = ys.flatMap f := by
  intro n
  induction n with
  | zero =>
    intro cs ys h1 h2 _
    obtain rfl : cs = [] := List.length_eq_zero_iff.1 (by omega)
    obtain rfl : ys = [] := List.length_eq_zero_iff.1 h2
    rfl
  | succ n ih =>
    intro cs ys h1 h2 h
    cases ys with
    | nil => simp at h2
    | cons y ys =>
      have h0 := h 0 (by omega)
      obtain ⟨y', hy, hc⟩ := h0
      obtain rfl : y = y' := by simpa using hy
      have hl : cs.length = n * m + m := by rw [h1]; rw [Nat.succ_mul]
      have hr := ih (cs.drop m) ys (by rw [List.length_drop]; omega) (by simpa using h2) (fun i hi => by
        obtain ⟨y'', hy, hc⟩ := h (i + 1) (by omega)
        refine ⟨y'', by simpa using hy, ?_⟩
        rw [List.drop_drop, ← hc]
        congr 2
        rw [Nat.succ_mul]; omega)
      rw [List.flatMap_cons, ← hr, ← hc]
      simp
theorem flatAt_array {t e : TypeId} {n m q : Nat} (ht : P.underlying t = some (.array n e)) (he : FlatAt P e q m) (hce : P.cellsOf e = m) (hct : P.cellsOf t = n * m) : FlatAt P t (q + 1) (n * m) := by
  intro H enc w base sp held fuel cs x h
  obtain ⟨xs, k, rfl, rfl, hl, hn, hall⟩ := DataW.trod_array ht h
  rw [hct] at hl
  refine ⟨hl, ?_⟩
  simp only [flatF]
  refine cut_rows _ m n cs _ hl (by simp [hn]) (fun i hi => ?_)
  have h1 := hall i hi
  obtain ⟨b, hb⟩ : ∃ b, xs[i]? = some b := ⟨xs[i], by simp [hn, hi]⟩
  rw [hb, hce] at h1
  exact ⟨b.1, by simp [hb], (he _ _ _ _ _ _ _ _ h1).2⟩
theorem flatAt_struct {t : TypeId} {fs : Array Field} {q : Nat} (ht : P.underlying t = some (.struct fs)) (hct : P.cellsOf t = fs.size)
    (hf : ∀ (i : Nat) (f : Field), fs[i]? = some f → FlatAt P f.type q 1 ∧ f.offset = i ∧ P.cellsOf f.type = 1) : FlatAt P t (q + 1) fs.size := by
  intro H enc w base sp held fuel cs x h
  obtain ⟨xs, k, rfl, rfl, hl, hn, hall⟩ := DataW.trod_struct ht h
  rw [hct] at hl
  refine ⟨hl, ?_⟩
  simp only [flatF]
  refine cut_rows _ 1 fs.size cs _ (by rw [hl]; omega) (by simp [hn]) (fun i hi => ?_)
  obtain ⟨f, hfi⟩ : ∃ f, fs[i]? = some f := ⟨fs[i], by simp [hi]⟩
  obtain ⟨h1, h2, h3⟩ := hf i f hfi
  have h4 := hall i f hfi
  obtain ⟨b, hb⟩ : ∃ b, xs[i]? = some b := ⟨xs[i], by simp [hn, hi]⟩
  rw [hb, h3, h2] at h4
  exact ⟨b.1, by simp [hb], by rw [Nat.mul_one]; exact (h1 _ _ _ _ _ _ _ _ h4).2⟩
/-- the cells of a table that stands first on the list -/
theorem laid_flat {W : World} {name : String} {d : DataW Unit} {rest : List (String × DataW Unit)} {g : Nat} {t : TypeId} {q m : Nat}
    (hg : P.globalNamed name = some g) (hty : (P.globals[g]?).map (·.type) = some t) (ht : FlatAt P t q m) (h : laidMet P ((name, d) :: rest) W) (i : Nat) : W.cell? ⟨g, i, none⟩ = (flatF q d)[i]? := by
  obtain ⟨ps, ⟨g', t', cs, fuel, p, r, hg', ht', hvar, hd, _, _⟩, _⟩ := h
  obtain rfl := Option.some.inj (hg.symm.trans hg')
  obtain rfl := Option.some.inj (hty.symm.trans ht')
  have := World.var?_cell hg hvar i
  rw [this, ← Array.getElem?_toList, (ht _ _ _ _ _ _ _ _ hd).2]
end
end Go.Proofs.YtefejcofmopjfaaGreatDoor
