/- The law VerifyChecks: for every input the call returns true, and each argument reads behind the call as it read before. The walk lies in the texts that are imported; here is the step from it to the given statement. -/
import Derived.Test.YtefejcofmopjfaaGreatDoorMg5
import Derived.Test.YtefejcofmopjfaaGreatDoorTabRFacts
import Derived.Test.YtefejcofmopjfaaGreatDoorOpenPr
import Derived.Test.YtefejcofmopjfaaGreatDoorBase
import Derived.Test.YtefejcofmopjfaaGreatDoorCards
import Derived.Test.YtefejcofmopjfaaGreatDoorTie
import Derived.Test.YtefejcofmopjfaaGreatDoorLaid
namespace Go.Proofs.YtefejcofmopjfaaGreatDoor.verifyChecksLaw
open Go.ChangeShapes Go.WideShapes Go.ChangeAt Go.RowKit
open Go.WideMaps Go.WideElems
open Go.ChangeMaps (setBlock shut_map_nil open_string shut_string keptBut_setBlock frozen?_setBlock heap_setBlock_same)
set_option linter.unusedVariables false
theorem par : ∀ t ∈ Tryz.f3.params.toList, Tryz.prog.readableRec t = true ∧ t < Tryz.prog.types.size := by
  rw [Tryz.params3]
  intro t ht
  obtain rfl : t = 27 := by first | (simpa using ht) | (simp at ht; omega) | (simp at ht; rcases ht with h <;> subst h <;> simp)
  all_goals exact ⟨by kernel_rfl, of_decide_eq_true (by kernel_rfl)⟩
set_option maxRecDepth 100000 in
theorem contract (H : Type) (enc : TypeId × Value → H) (W : World) (base : Nat) (args : Array Value) (ds gs : List (DataW H)) (before : List MemPlace)
    (hval : ∀ (j : Nat) t v, Tryz.f3.params[j]? = some t → args[j]? = some v → Value.okWide Tryz.prog W .any base t v)
    (hW : DataW.Whole enc Tryz.prog Tryz.f3.params.toList Rows.verifyChecksSpec.vars false W args.toList ds gs before)
    (hsz : (DataW.weightsEach Tryz.prog (Tryz.f3.params.toList ++ (OpenSpec.ofChange Rows.verifyChecksSpec).bare.plain.varTypes Tryz.prog) (ds ++ gs)).all (· ≤ reachBytes) = true)
    (hL : laidMetH Tryz.prog Rows.verifyChecksRow.laid W) (hSh : W.ShapedOpen Tryz.prog) :
    Calls Tryz.prog 3 args W fun e W' => ∃ v, e = .returned v ∧ Rows.verifyChecksSpec.post enc Tryz.prog Tryz.f3 false true false false W args v W' := by
  obtain ⟨p, q, hA0, hV, hpq, hfz, hnd⟩ := id hW
  have hA : DataW.TrodAll enc Tryz.prog W 0 (fun _ => true) true Tryz.f3.params.toList args.toList ds p := hA0
  have hwz : p = p := rfl
  rw [Tryz.params3] at hA hval
  obtain ⟨v0, vs0, d0, ds0, p0, q0, hargs0, hds0, rfl, h0, r0⟩ := trodAll_cons hA
  obtain ⟨hvn, hdn, rfl⟩ := trodAll_nil r0
  obtain rfl : args = #[v0] := by cases args; simp_all
  obtain rfl : ds = [d0] := by simp_all
  obtain ⟨rfl, rfl⟩ := trodVars_none hV
  obtain ⟨pa0, pb0, pc0, pd0, pp0, rfl, w0⟩ := open_prog (hval 0 27 v0 rfl rfl) h0
  refine law_calls (tb := 4) laidOut par (by kernel_rfl) Tryz.underlying4 rfl hW rfl ?_
  exact (fun (hX : laidMet Tryz.prog [("ladderback/alu.goes", Rows.laid_ladderback_alu_goes), ("ladderback/block.shapes", Rows.laid_ladderback_block_shapes), ("ladderback/block.rows", Rows.laid_ladderback_block_rows), ("ladderback/op.shapes", Rows.laid_ladderback_op_shapes)] W ∧ handlesMet Tryz.prog [("errors.errorType", Rows.laid_errors_errorType)] W) => verifyChecks_walk pa0 pb0 pc0 pd0 pp0 W w0 (tabR_of hX.1).1 (tabR_of hX.1).2 (errT_met hX.2)) hL
noncomputable def laidWorld (os : Os) : World :=
  { World.holding Tryz.prog os ⟨#[], #[], []⟩ with heap := ((((((World.holding Tryz.prog os ⟨#[], #[], []⟩).heap.modify 2 (fun | .cells _ t frozen => .cells #[.int .i64 76, .int .i64 76, .int .i64 12, .int .i64 12, .int .i64 12, .int .i64 76, .int .i64 50, .int .i64 50, .int .i64 50, .int .i64 50, .int .i64 48, .int .i64 48, .int .i64 126, .int .i64 126, .int .i64 124, .int .i64 124, .int .i64 124, .int .i64 124] t frozen | o => o)).modify 3 (fun | .cells _ t frozen => .cells #[.string ⟨#[84, 79, 78]⟩, .int .i64 4, .int .i64 2, .string ⟨#[84, 79, 70]⟩, .int .i64 4, .int .i64 2, .string ⟨#[84, 80]⟩, .int .i64 4, .int .i64 2, .string ⟨#[67, 84, 85]⟩, .int .i64 5, .int .i64 3, .string ⟨#[67, 84, 68]⟩, .int .i64 5, .int .i64 3, .string ⟨#[67, 84, 85, 68]⟩, .int .i64 8, .int .i64 5, .string ⟨#[82, 95, 84, 82, 73, 71]⟩, .int .i64 2, .int .i64 1, .string ⟨#[70, 95, 84, 82, 73, 71]⟩, .int .i64 2, .int .i64 1] t frozen | o => o)).modify 4 (fun | .cells _ t frozen => .cells #[.string ⟨#[73, 78]⟩, .int .i64 1, .string ⟨#[80, 84]⟩, .int .i64 6, .string ⟨#[81]⟩, .int .i64 1, .string ⟨#[69, 84]⟩, .int .i64 6, .string ⟨#[]⟩, .int .i64 0, .string ⟨#[]⟩, .int .i64 0, .string ⟨#[]⟩, .int .i64 0, .string ⟨#[]⟩, .int .i64 0, .string ⟨#[67, 85]⟩, .int .i64 1, .string ⟨#[82]⟩, .int .i64 1, .string ⟨#[80, 86]⟩, .int .i64 2, .string ⟨#[81]⟩, .int .i64 1, .string ⟨#[67, 86]⟩, .int .i64 2, .string ⟨#[]⟩, .int .i64 0, .string ⟨#[]⟩, .int .i64 0, .string ⟨#[]⟩, .int .i64 0, .string ⟨#[67, 68]⟩, .int .i64 1, .string ⟨#[76, 68]⟩, .int .i64 1, .string ⟨#[80, 86]⟩, .int .i64 2, .string ⟨#[81]⟩, .int .i64 1, .string ⟨#[67, 86]⟩, .int .i64 2, .string ⟨#[]⟩, .int .i64 0, .string ⟨#[]⟩, .int .i64 0, .string ⟨#[]⟩, .int .i64 0, .string ⟨#[67, 85]⟩, .int .i64 1, .string ⟨#[67, 68]⟩, .int .i64 1, .string ⟨#[82]⟩, .int .i64 1, .string ⟨#[76, 68]⟩, .int .i64 1, .string ⟨#[80, 86]⟩, .int .i64 2, .string ⟨#[81, 85]⟩, .int .i64 1, .string ⟨#[81, 68]⟩, .int .i64 1, .string ⟨#[67, 86]⟩, .int .i64 2, .string ⟨#[67, 76, 75]⟩, .int .i64 1, .string ⟨#[81]⟩, .int .i64 1, .string ⟨#[]⟩, .int .i64 0, .string ⟨#[]⟩, .int .i64 0, .string ⟨#[]⟩, .int .i64 0, .string ⟨#[]⟩, .int .i64 0, .string ⟨#[]⟩, .int .i64 0, .string ⟨#[]⟩, .int .i64 0] t frozen | o => o)).modify 0 (fun | .cells _ t frozen => .cells #[.iface 84 (.agg #[.pointer (some ⟨5, 50, none⟩)])] t frozen | o => o)).modify 1 (fun | .cells _ t frozen => .cells #[.int .i64 10, .int .i64 10, .int .i64 1, .int .i64 0, .int .i64 2, .int .i64 0, .int .i64 2, .int .i64 0, .int .i64 3, .int .i64 0, .int .i64 3, .int .i64 0, .int .i64 2, .int .i64 0, .int .i64 2, .int .i64 0, .int .i64 0, .int .i64 0, .int .i64 0, .int .i64 0, .int .i64 0, .int .i64 0, .int .i64 0, .int .i64 0, .int .i64 0, .int .i64 0, .int .i64 0, .int .i64 0, .int .i64 0, .int .i64 0, .int .i64 0, .int .i64 0, .int .i64 0, .int .i64 0, .int .i64 0, .int .i64 0, .int .i64 0, .int .i64 0, .int .i64 0, .int .i64 0, .int .i64 0, .int .i64 0, .int .i64 0, .int .i64 0, .int .i64 0, .int .i64 0, .int .i64 0, .int .i64 0, .int .i64 0, .int .i64 0, .int .i64 0, .int .i64 0, .int .i64 4, .int .i64 4, .int .i64 0, .int .i64 0, .int .i64 0, .int .i64 0, .int .i64 0, .int .i64 0, .int .i64 5, .int .i64 10, .int .i64 5, .int .i64 10, .int .i64 6, .int .i64 10, .int .i64 7, .int .i64 0, .int .i64 0, .int .i64 0, .int .i64 8, .int .i64 9, .int .i64 8, .int .i64 0, .int .i64 8, .int .i64 9] t frozen | o => o)) }
theorem laid_met (os : Os) : laidMetH Tryz.prog Rows.verifyChecksRow.laid ((laidWorld os).forCall (fun _ _ => 0) ⟨#[], #[Value.agg #[.slice none 0 0, .slice none 0 0, .slice none 0 0, .slice none 0 0]], []⟩).memory :=
  laidMetH_of_parts (laidMet_of_run' 12 (by kernel_rfl) (by kernel_rfl)) (by kernel_rfl)
theorem reads (os : Os) {H : Type} (enc : TypeId × Value → H) : ∃ places, DataW.whole enc Tryz.prog ((laidWorld os).forCall (fun _ _ => 0) ⟨#[], #[Value.agg #[.slice none 0 0, .slice none 0 0, .slice none 0 0, .slice none 0 0]], []⟩).memory Tryz.f3.params.toList Rows.verifyChecksSpec.vars false #[Value.agg #[.slice none 0 0, .slice none 0 0, .slice none 0 0, .slice none 0 0]].toList 12 = some ([.agg [.nil, .nil, .nil, .nil]], [], places) :=
  ⟨[], by kernel_rfl⟩
set_option maxRecDepth 100000 in
theorem lifted (os : Os) (started : os.Started) (H : Type) (enc : TypeId × Value → H) (F : Stop.Interp) :
    ReturnsInHanded {} Tryz.checked os 3 .any ((OpenSpec.ofChange Rows.verifyChecksSpec).preRow enc Tryz.prog Tryz.f3 Rows.verifyChecksRow.domain false Rows.verifyChecksRow.laid) (((OpenSpec.ofChange Rows.verifyChecksSpec).at F).post enc Tryz.prog Tryz.f3 false true false false) := by
  obtain ⟨places, hx⟩ := reads os enc
  refine returnsInHanded_of_row (C := Tryz.checked) (s := OpenSpec.ofChange Rows.verifyChecksSpec) own started (by kernel_rfl) Tryz.func3
    (witness_row_at (enc := enc) (C := Tryz.checked) false (laidWorld os) #[Value.agg #[.slice none 0 0, .slice none 0 0, .slice none 0 0, .slice none 0 0]] rfl (by kernel_rfl) (by kernel_rfl) (by kernel_rfl)
      (OpenSpec.preRow_of_cond 12 hx (by kernel_rfl) (fun k hk => by cases hk) (by kernel_rfl) (laid_met os))) ?_
  intro W base args ds gs before hval hW _ _ hsz hL hSh _
  exact contract H enc W base args ds gs before hval hW hsz hL hSh
theorem said : Rows.VerifyChecksSaid :=
  OpenClaim.holds_of_cond 3 Tryz.f3 rfl rfl rfl rfl rfl rfl rfl ⟨rfl, rfl, rfl, rfl, rfl⟩ rfl rfl rfl rfl rfl (by kernel_rfl) Tryz.func3 (by kernel_rfl)
    (of_decide_eq_true (by kernel_rfl)) (by unfold Func.isWrapper; first | (rw [if_pos (by decide +kernel)]; kernel_rfl) | (rw [if_neg (by decide +kernel)]; exact ⟨rfl, rfl⟩))
    (fun os started H enc _ F => by rw [OpenClaim.pre_eq_preRow]; exact lifted os started H enc F)
theorem plain (f : FuncId) (fn : Func) (hf : Tryz.pinned.checked.prog.funcNamed "ladderback/ladderbacklaw22.VerifyChecks" = some f) (hfn : Tryz.pinned.checked.prog.funcs[f]? = some fn) :
    true = Tryz.pinned.checked.prog.looks [] ∧ ∀ (j : Nat) t, fn.params[j]? = some t → Tryz.pinned.checked.prog.wantsStandIn t = false := by
  obtain rfl : f = 3 := Option.some.inj ((show Tryz.prog.funcNamed "ladderback/ladderbacklaw22.VerifyChecks" = some 3 by kernel_rfl).symm.trans hf) |>.symm
  obtain rfl : fn = Tryz.f3 := (Option.some.inj (Tryz.func3.symm.trans hfn)).symm
  refine ⟨by kernel_rfl, fun j t ht => ?_⟩
  rw [Tryz.params3] at ht
  obtain rfl : t = 27 := by have h := Array.mem_of_getElem? ht; first | (simpa using h) | (simp at h; omega) | (simp at h; rcases h with h <;> subst h <;> simp)
  all_goals (show Tryz.prog.wantsStandIn _ = false; kernel_rfl)
theorem card : Rows.VerifyChecksCardSaid :=
  Claim7.holds_tied_plain_at .later [] _ _ _ _ said (fun _ h => by cases h) (by kernel_rfl) (fun _ h => by cases h) verifyChecks_row_tie rfl ⟨rfl, rfl⟩ (by kernel_rfl) rfl plain (by kernel_rfl)
end Go.Proofs.YtefejcofmopjfaaGreatDoor.verifyChecksLaw
