/- '==' between two instructions. -/
import Derived.Test.YtpeogdbfhfkngaaDoorChecked
import Derived.Handy
import Derived.ChangeKeysEq
namespace Go.Proofs.YtpeogdbfhfkngaaDoor
open Go.RowKit
set_option linter.unusedSimpArgs false
set_option linter.unusedVariables false
theorem eq_instr (w : World) (a b c d f g : Int) : (binOp .eql 40 (.agg #[.int .i64 a, .int .i64 b, .int .i64 c]) (.agg #[.int .i64 d, .int .i64 f, .int .i64 g])).run Tryd.prog w = .ok (.bool ((a == d) && (b == f) && (c == g))) w := by
  have hs : Tryd.prog.stoodInHeld 40 = false := by kernel_rfl
  have hu : Tryd.prog.underlying 40 = some (.struct (Tryd.prog.fieldsOf 40)) := by kernel_rfl
  rw [run_eql_struct, run_equalIn_agg (d := 9999) (ht := hu) (hp := hs)]
  obtain ⟨f0, f1, f2, hfs, hn0, ht0, ho0, hn1, ht1, ho1, hn2, ht2, ho2⟩ : ∃ f0 f1 f2, (Tryd.prog.fieldsOf 40).toList = [f0, f1, f2] ∧ f0.name ≠ "_" ∧ f0.type = 3 ∧ f0.offset = 0 ∧ f1.name ≠ "_" ∧ f1.type = 3 ∧ f1.offset = 1 ∧ f2.name ≠ "_" ∧ f2.type = 3 ∧ f2.offset = 2 :=
    ⟨(Tryd.prog.fieldsOf 40)[0]!, (Tryd.prog.fieldsOf 40)[1]!, (Tryd.prog.fieldsOf 40)[2]!, by kernel_rfl, of_decide_eq_true (by kernel_rfl), by kernel_rfl, by kernel_rfl, of_decide_eq_true (by kernel_rfl), by kernel_rfl, by kernel_rfl, of_decide_eq_true (by kernel_rfl), by kernel_rfl, by kernel_rfl⟩
  rw [hfs]
  have hp : ∀ (xs : Array Value) (i : Nat) (z : Int), xs[i]? = some (.int .i64 z) → (part 3 xs i).run Tryd.prog w = .ok (.int .i64 z) w := fun xs i z hz => by
    simp [part, isAgg, run_underlying Tryd.underlying3, hz]
  have p0 : ∀ x y z : Int, (part 3 #[.int .i64 x, .int .i64 y, .int .i64 z] 0).run Tryd.prog w = .ok (.int .i64 x) w := fun x y z => hp _ 0 x rfl
  have p1 : ∀ x y z : Int, (part 3 #[.int .i64 x, .int .i64 y, .int .i64 z] 1).run Tryd.prog w = .ok (.int .i64 y) w := fun x y z => hp _ 1 y rfl
  have p2 : ∀ x y z : Int, (part 3 #[.int .i64 x, .int .i64 y, .int .i64 z] 2).run Tryd.prog w = .ok (.int .i64 z) w := fun x y z => hp _ 2 z rfl
  have e1 : ∀ x y : Int, (Op.equalIn 9999 3 (.int .i64 x) (.int .i64 y)).run Tryd.prog w = .ok (x == y) w := fun x y => run_equalIn_int (P := Tryd.prog) w 9998 3 .i64 .i64 x y Tryd.underlying3
  simp only [Op.eqFields, hn0, ht0, ho0, hn1, ht1, ho1, hn2, ht2, ho2, Sem.run_bind, ne_eq, not_false_eq_true, if_true, Result.andThen_ok, p0, p1, p2, e1]
  by_cases h1 : a = d <;> by_cases h2 : b = f <;> by_cases h3 : c = g <;> simp [h1, h2, h3, p0, p1, p2, e1, Result.andThen]
end Go.Proofs.YtpeogdbfhfkngaaDoor
