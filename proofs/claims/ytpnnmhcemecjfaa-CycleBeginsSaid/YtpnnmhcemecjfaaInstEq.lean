/- '!=' between two instances, and between their fields. -/
import Derived.Test.YtpnnmhcemecjfaaStRefClone
import Derived.Test.YtpnnmhcemecjfaaInst
namespace Go.Proofs.Ytpnnmhcemecjfaa
open Go.RowKit
set_option linter.unusedSimpArgs false
set_option linter.unusedVariables false
theorem items_all (w : World) (d : Nat) (xs ys : Array Value) (f g : Nat → Int) (n : Nat) (hx : ∀ i, i < n → xs[i]? = some (.int .i64 (f i))) (hy : ∀ i, i < n → ys[i]? = some (.int .i64 (g i))) : ∀ is : List Nat, (∀ i ∈ is, i < n) →
    (Op.eqItems (d + 1) 3 1 xs ys is).run Try.prog w = .ok (is.all fun i => f i == g i) w
  | [], _ => by simp [Op.eqItems]
  | i :: is, h => by
    have hp : (part 3 xs (i * 1)).run Try.prog w = .ok (.int .i64 (f i)) w := by simp [part, isAgg, run_underlying Try.underlying3, hx i (h i (by simp))]
    have hq : (part 3 ys (i * 1)).run Try.prog w = .ok (.int .i64 (g i)) w := by simp [part, isAgg, run_underlying Try.underlying3, hy i (h i (by simp))]
    have ih := items_all w d xs ys f g n hx hy is (fun j hj => h j (by simp [hj]))
    simp only [Op.eqItems, Sem.run_bind, hp, hq, Result.andThen_ok, run_equalIn_int w d 3 .i64 .i64 (f i) (g i) Try.underlying3]
    by_cases he : f i = g i
    · simpa [he] using ih
    · simp [he]
theorem all_eq {x y : List Int} (hx : x.length = 10) (hy : y.length = 10) : ((List.range 10).all fun i => x.getD i 0 == y.getD i 0) = decide (x = y) := by
  obtain ⟨x0, x1, x2, x3, x4, x5, x6, x7, x8, x9, rfl⟩ := ten hx
  obtain ⟨y0, y1, y2, y3, y4, y5, y6, y7, y8, y9, rfl⟩ := ten hy
  rw [Bool.eq_iff_iff, List.all_eq_true, decide_eq_true_iff]
  constructor
  · intro h
    have k : ∀ i, i < 10 → [x0, x1, x2, x3, x4, x5, x6, x7, x8, x9].getD i 0 = [y0, y1, y2, y3, y4, y5, y6, y7, y8, y9].getD i 0 := fun i hi => by simpa using h i (by simp; omega)
    have e0 := k 0 (by omega)
    have e1 := k 1 (by omega)
    have e2 := k 2 (by omega)
    have e3 := k 3 (by omega)
    have e4 := k 4 (by omega)
    have e5 := k 5 (by omega)
    have e6 := k 6 (by omega)
    have e7 := k 7 (by omega)
    have e8 := k 8 (by omega)
    have e9 := k 9 (by omega)
    simp at e0 e1 e2 e3 e4 e5 e6 e7 e8 e9
    simp [e0, e1, e2, e3, e4, e5, e6, e7, e8, e9]
  · intro h
    rw [h]
    simp
def agg10 (x : List Int) : Value := .agg (iV x).toArray
theorem neq_fields (w : World) {x y : List Int} (hx : x.length = 10) (hy : y.length = 10) : (binOp .neq 54 (agg10 x) (agg10 y)).run Try.prog w = .ok (.bool (!decide (x = y))) w := by
  obtain ⟨i0, hi⟩ := Option.isSome_iff_exists.1 (show (Try.prog.info? 3).isSome = true by kernel_rfl)
  have hc : Try.prog.cellsOf 3 = 1 := by kernel_rfl
  unfold agg10
  rw [run_neq_struct, run_equalIn_array w 9999 _ _ Try.underlying54 hi, hc, items_all w 9998 _ _ (fun i => x.getD i 0) (fun i => y.getD i 0) 10 (fun i h => by simp [iV, List.getD, hx, h]) (fun i h => by simp [iV, List.getD, hy, h]) _ (fun i h => List.mem_range.1 h), all_eq hx hy]
  rfl
theorem neq_inst (w : World) {x y : List Int} (hx : x.length = 10) (hy : y.length = 10) : (binOp .neq 56 (agg10 x) (agg10 y)).run Try.prog w = .ok (.bool (!decide (x = y))) w := by
  obtain ⟨i0, hi⟩ := Option.isSome_iff_exists.1 (show (Try.prog.info? 3).isSome = true by kernel_rfl)
  obtain ⟨i1, hj⟩ := Option.isSome_iff_exists.1 (show (Try.prog.info? 54).isSome = true by kernel_rfl)
  have hs : Try.prog.stoodInHeld 56 = false := by kernel_rfl
  have hu : Try.prog.underlying 56 = some (.struct (Try.prog.fieldsOf 56)) := by kernel_rfl
  have hk : Try.prog.cellsOf 54 = 10 := by kernel_rfl
  have hc : Try.prog.cellsOf 3 = 1 := by kernel_rfl
  unfold agg10
  rw [run_neq_struct, run_equalIn_agg (d := 9999) (ht := hu) (hp := hs)]
  obtain ⟨f0, hfs, hn, ht, ho⟩ : ∃ f0, (Try.prog.fieldsOf 56).toList = [f0] ∧ f0.name ≠ "_" ∧ f0.type = 54 ∧ f0.offset = 0 := ⟨(Try.prog.fieldsOf 56)[0]!, by kernel_rfl, of_decide_eq_true (by kernel_rfl), by kernel_rfl, by kernel_rfl⟩
  rw [hfs]
  have hp : ∀ xs : Array Value, (part 54 xs 0).run Try.prog w = .ok (.agg (xs.extract 0 10)) w := fun xs => by
    simp [part, isAgg, run_underlying Try.underlying54, run_sizeOf w hj, Result.andThen, hk]
  simp only [Op.eqFields, hn, ht, ho, Sem.run_bind, hp, ne_eq, not_false_eq_true, if_true, Result.andThen_ok]
  have he : ∀ z : List Int, z.length = 10 → (iV z).toArray.extract 0 10 = (iV z).toArray := fun z hz => by
    apply Array.ext'
    simp [iV, hz]
    exact List.take_of_length_le (by simp [hz])
  rw [run_equalIn_array w 9998 _ _ Try.underlying54 hi, hc, he x hx, he y hy, items_all w 9997 _ _ (fun i => x.getD i 0) (fun i => y.getD i 0) 10 (fun i h => by simp [iV, List.getD, hx, h]) (fun i h => by simp [iV, List.getD, hy, h]) _ (fun i h => List.mem_range.1 h), all_eq hx hy]
  cases decide (x = y) <;> simp
end Go.Proofs.Ytpnnmhcemecjfaa
