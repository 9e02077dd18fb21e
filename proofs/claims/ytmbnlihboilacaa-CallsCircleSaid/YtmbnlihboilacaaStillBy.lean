/- Steps through the operations ahead of a region's last ones, one law each. -/
import Derived.Test.YtmbnlihboilacaaOwn
import Derived.StillTailTactics
namespace Go.Proofs.Ytmbnlihboilacaa
open Go.RowKit
set_option linter.unusedSimpArgs false
set_option linter.unusedVariables false
theorem still_take {P : Program} {ops : Array Oper} {w : World} {Q : Act → Prop} {a : Act} {o : Oper} {rest : List Oper} {v : Value} (hw : Region.wanted o (yielded ops a.tmps) = true) (hr : (execOp a.eval o).run P w = .ok (.value v) w)
    (h : wpStill P ops w Q rest (a.put o.dst v)) : wpStill P ops w Q (o :: rest) a := by
  unfold wpStill
  rw [if_pos hw]
  unfold Oper.still
  rw [hr, Oper.stillUpon_value]
  exact h
theorem still_takeE {P : Program} {ops : Array Oper} {w : World} {Q : Act → Prop} {a : Act} {o : Oper} {rest : List Oper} (v : Value) (hw : Region.wanted o (yielded ops a.tmps) = true) (hr : (execOp a.eval o).run P w = .ok (.value v) w)
    (h : wpStill P ops w Q rest (a.put o.dst v)) : wpStill P ops w Q (o :: rest) a := still_take hw hr h
theorem still_skip {P : Program} {ops : Array Oper} {w : World} {Q : Act → Prop} {a : Act} {o : Oper} {rest : List Oper} (hw : Region.wanted o (yielded ops a.tmps) = false)
    (h : wpStill P ops w Q rest (a.put o.dst undef)) : wpStill P ops w Q (o :: rest) a := by
  unfold wpStill
  rw [if_neg (by rw [hw]; exact Bool.false_ne_true)]
  exact h
theorem still_omit {P : Program} {ops : Array Oper} {w : World} {Q : Act → Prop} {a : Act} {o : Oper} {rest : List Oper} {v : Value} (hv : v = undef) (hw : Region.wanted o (yielded ops a.tmps) = false)
    (h : wpStill P ops w Q rest (a.put o.dst v)) : wpStill P ops w Q (o :: rest) a := by
  subst hv
  exact still_skip hw h
theorem lex_step {md : Region.Mode} {ops : Array Oper} {g f k : Nat} {listed listed' : Array Bool} (h1 : (Region.ready md ops listed).contains k = true) (h2 : Region.free md ops listed k = true) (e : listed.setIfInBounds k true = listed')
    (h3 : Region.lexHead md ops g f (k + 1) listed' = true) : Region.lexHead md ops g (f + 1) k listed = true := by
  unfold Region.lexHead
  rw [h1, h2, e, h3]; rfl
theorem lex_tail {md : Region.Mode} {ops : Array Oper} {n : Nat} (h1 : Region.noSelect ops = true) (h2 : decide (n < ops.size) = true) (h3 : Region.sinkB md ops n = true) (h4 : Region.chainB md ops n = true)
    (h5 : Region.lexHead md ops (ops.size - n) n 0 (Array.replicate ops.size false) = true) : Region.lexTailB md ops n = true := by
  unfold Region.lexTailB
  rw [h1, h2, h3, h4, h5]; rfl
theorem want_in {ops : Array Oper} {tmps : Array Value} {o : Oper} {i : Nat} (x : Bool) {b : Bool} (hg : o.guard = some (i, b)) (hy : ((ops[i]?).bind (·.dst)).bind (tmps[·]?) = some (.bool x)) (he : (x == b) = true) : Region.wanted o (yielded ops tmps) = true := by
  unfold Region.wanted yielded
  rw [hg]
  simp only [hy]
  simpa using he
theorem want_out {ops : Array Oper} {tmps : Array Value} {o : Oper} {i : Nat} (x : Bool) {b : Bool} (hg : o.guard = some (i, b)) (hy : ((ops[i]?).bind (·.dst)).bind (tmps[·]?) = some (.bool x)) (he : (x == b) = false) : Region.wanted o (yielded ops tmps) = false := by
  unfold Region.wanted yielded
  rw [hg]
  simp only [hy]
  simpa using he
theorem want_undef {ops : Array Oper} {tmps : Array Value} {o : Oper} {i : Nat} {b : Bool} (hg : o.guard = some (i, b)) (hy : ((ops[i]?).bind (·.dst)).bind (tmps[·]?) = some undef) : Region.wanted o (yielded ops tmps) = false := by
  unfold Region.wanted yielded
  rw [hg]
  simp only [hy, undef]
  rfl
theorem want_free {ops : Array Oper} {tmps : Array Value} {o : Oper} (hg : o.guard = none) : Region.wanted o (yielded ops tmps) = true := by
  unfold Region.wanted
  rw [hg]
end Go.Proofs.Ytmbnlihboilacaa
