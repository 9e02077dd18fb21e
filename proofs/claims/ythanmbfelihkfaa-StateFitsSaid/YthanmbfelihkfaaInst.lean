/- '==' between two instances. -/
import Derived.Test.YthanmbfelihkfaaChecked
import Derived.Handy
import Derived.ChangeKeysEq
namespace Go.Proofs.Ythanmbfelihkfaa
open Go.RowKit
theorem items_self (w : World) (d : Nat) (xs : Array Value) (n : Nat) (hx : ∀ i, i < n → ∃ z, xs[i]? = some (.int .i64 z)) : ∀ is : List Nat, (∀ i ∈ is, i < n) →
    (Op.eqItems (d + 1) 3 1 xs xs is).run Try.prog w = .ok true w
  | [], _ => by simp [Op.eqItems]
  | i :: is, h => by
    obtain ⟨z, hz⟩ := hx i (h i (by simp))
    have hp : (part 3 xs (i * 1)).run Try.prog w = .ok (.int .i64 z) w := by simp [part, isAgg, run_underlying Try.underlying3, hz]
    have ih := items_self w d xs n hx is (fun j hj => h j (by simp [hj]))
    simp only [Op.eqItems, Sem.run_bind, hp, Result.andThen_ok, run_equalIn_int w d 3 .i64 .i64 z z Try.underlying3]
    simpa using ih
theorem eq_inst_self (w : World) (a b c d f g h i j l : Int) : (binOp .eql 62 (.agg #[.int .i64 a, .int .i64 b, .int .i64 c, .int .i64 d, .int .i64 f, .int .i64 g, .int .i64 h, .int .i64 i, .int .i64 j, .int .i64 l]) (.agg #[.int .i64 a, .int .i64 b, .int .i64 c, .int .i64 d, .int .i64 f, .int .i64 g, .int .i64 h, .int .i64 i, .int .i64 j, .int .i64 l])).run Try.prog w = .ok (.bool true) w := by
  obtain ⟨i0, hi⟩ := Option.isSome_iff_exists.1 (show (Try.prog.info? 3).isSome = true by kernel_rfl)
  obtain ⟨i1, hj⟩ := Option.isSome_iff_exists.1 (show (Try.prog.info? 60).isSome = true by kernel_rfl)
  have hs : Try.prog.stoodInHeld 62 = false := by kernel_rfl
  have hu : Try.prog.underlying 62 = some (.struct (Try.prog.fieldsOf 62)) := by kernel_rfl
  have hk : Try.prog.cellsOf 60 = 10 := by kernel_rfl
  have hc : Try.prog.cellsOf 3 = 1 := by kernel_rfl
  rw [run_eql_struct, run_equalIn_agg (d := 9999) (ht := hu) (hp := hs)]
  obtain ⟨f0, hfs, hn, ht, ho⟩ : ∃ f0, (Try.prog.fieldsOf 62).toList = [f0] ∧ f0.name ≠ "_" ∧ f0.type = 60 ∧ f0.offset = 0 := ⟨(Try.prog.fieldsOf 62)[0]!, by kernel_rfl, of_decide_eq_true (by kernel_rfl), by kernel_rfl, by kernel_rfl⟩
  rw [hfs]
  have hp : ∀ xs : Array Value, (part 60 xs 0).run Try.prog w = .ok (.agg (xs.extract 0 10)) w := fun xs => by
    simp [part, isAgg, run_underlying Try.underlying60, run_sizeOf w hj, Result.andThen, hk]
  simp only [Op.eqFields, hn, ht, ho, Sem.run_bind, hp, ne_eq, not_false_eq_true, if_true, Result.andThen_ok]
  rw [run_equalIn_array w 9998 _ _ Try.underlying60 hi, hc]
  have he : (#[.int .i64 a, .int .i64 b, .int .i64 c, .int .i64 d, .int .i64 f, .int .i64 g, .int .i64 h, .int .i64 i, .int .i64 j, .int .i64 l] : Array Value).extract 0 10 = #[.int .i64 a, .int .i64 b, .int .i64 c, .int .i64 d, .int .i64 f, .int .i64 g, .int .i64 h, .int .i64 i, .int .i64 j, .int .i64 l] := rfl
  rw [he, items_self w 9997 _ 10 (fun i hi => ?_) _ (fun i hi => List.mem_range.1 hi)]
  · simp
  · obtain rfl | rfl | rfl | rfl | rfl | rfl | rfl | rfl | rfl | rfl : i = 0 ∨ i = 1 ∨ i = 2 ∨ i = 3 ∨ i = 4 ∨ i = 5 ∨ i = 6 ∨ i = 7 ∨ i = 8 ∨ i = 9 := by omega
    all_goals exact ⟨_, rfl⟩
end Go.Proofs.Ythanmbfelihkfaa
