/- The type of an expression: plain. -/
import Derived.Test.YtpecpeedefeokaaDoorExB
import Derived.Test.YtpecpeedefeokaaDoorPgm
import Derived.Test.YtpecpeedefeokaaDoorKind
import Derived.Test.YtpecpeedefeokaaDoorAluMore
import Derived.Test.YtpecpeedefeokaaDoorBlockC
namespace Go.Proofs.YtpecpeedefeokaaDoor
open Go.RowKit
set_option linter.unusedSimpArgs false
set_option linter.unusedVariables false
/-- what expressions stand in -/
structure Sc where
  vars : List Vr
  blocks : List Bk
  slots : List Int
def inb (n : Int) (k : Nat) : Bool := decide (0 ≤ n ∧ n < (k : Int))
def vr0 : Vr := ⟨[], 0, 0, 0, 0⟩
def bk0 : Bk := ⟨[], 0⟩
def Sc.v (s : Sc) (n : Int) : Vr := s.vars.getD n.toNat vr0
def Sc.b (s : Sc) (n : Int) : Bk := s.blocks.getD n.toNat bk0
def Sc.s (s : Sc) (n : Int) : Int := s.slots.getD n.toNat 0
def keepR (t : Int) : Int := if kRight t then t else 0
def leafT (s : Sc) (e : Ex) : Int :=
  if e.op = 1 ∧ e.m = 0 then (if kIn e.t e.n then e.t else 0)
  else if ¬ e.t = 0 then 0
  else if e.op = 2 ∧ e.m = 0 ∧ inb e.n s.vars.length = true ∧ (s.v e.n).n < 2 then keepR (s.v e.n).t
  else if e.op = 3 ∧ e.m = 0 ∧ inb e.n s.slots.length = true then keepR (s.s e.n)
  else if e.op = 5 ∧ inb e.n s.blocks.length = true then keepR (fldT (s.b e.n).kind e.m)
  else 0
def singleT (s : Sc) (e : Ex) (t : Int) : Int :=
  if e.op = 8 ∧ e.n = 0 ∧ e.m = 0 ∧ kRight e.t = true then e.t
  else if ¬ e.t = 0 then 0
  else if e.op = 4 ∧ e.m = 0 ∧ t = 2 ∧ inb e.n s.vars.length = true then (if 2 ≤ (s.v e.n).n then keepR (s.v e.n).t else 0)
  else if e.op = 6 ∧ e.n = 0 ∧ (e.m = 13 ∨ e.m = 17) then aResult e.m t
  else 0
def doubleT (e : Ex) (a b : Int) : Int :=
  if ¬ e.op = 7 ∨ ¬ e.t = 0 ∨ ¬ e.n = 0 ∨ aBinary e.m = false ∨ ¬ b = (if e.m = 18 ∨ e.m = 19 then 2 else a) then 0 else aResult e.m a
def typeF (s : Sc) (e : Ex) (ts : List Int) : Int :=
  if ts.any (· == 0) then 0 else
  match ts with
  | [] => leafT s e
  | [a] => singleT s e a
  | [a, b] => doubleT e a b
  | _ => 0
noncomputable def typeE (s : Sc) : Ex → Int := foldE (typeF s)
theorem typeE_mk (s : Sc) (e : Ex) : typeE s e = typeF s e (e.l.map (typeE s)) := foldE_eq _ e
theorem keepR_le (t : Int) : 0 ≤ keepR t ∧ keepR t ≤ 6 := by
  unfold keepR kRight
  by_cases h : 1 ≤ t ∧ t ≤ 6
  · simp [h]; omega
  · simp [h]
theorem aResult_le (o t : Int) : 0 ≤ aResult o t ∧ aResult o t ≤ 6 := by
  unfold aResult
  split
  · rename_i h
    unfold aGoes at h
    have h := of_decide_eq_true h
    split <;> omega
  · omega
theorem kIn_right {t n : Int} (h : kIn t n = true) : kRight t = true := by unfold kIn at h; simp at h; exact h.1
theorem kRight_le {t : Int} (h : kRight t = true) : 1 ≤ t ∧ t ≤ 6 := of_decide_eq_true h
theorem leafT_le (s : Sc) (e : Ex) : 0 ≤ leafT s e ∧ leafT s e ≤ 6 := by
  unfold leafT
  split
  · split
    · rename_i h; have := kRight_le (kIn_right h); omega
    · omega
  · split
    · omega
    · split
      · exact keepR_le _
      · split
        · exact keepR_le _
        · split
          · exact keepR_le _
          · omega
theorem singleT_le (s : Sc) (e : Ex) (t : Int) : 0 ≤ singleT s e t ∧ singleT s e t ≤ 6 := by
  unfold singleT
  split
  · rename_i h; have := kRight_le h.2.2.2; omega
  · split
    · omega
    · split
      · split
        · exact keepR_le _
        · omega
      · split
        · exact aResult_le _ _
        · omega
theorem doubleT_le (e : Ex) (a b : Int) : 0 ≤ doubleT e a b ∧ doubleT e a b ≤ 6 := by
  unfold doubleT
  repeat' split
  all_goals first | omega | exact aResult_le _ _
theorem typeF_le (s : Sc) (e : Ex) (ts : List Int) : 0 ≤ typeF s e ts ∧ typeF s e ts ≤ 6 := by
  unfold typeF
  split
  · omega
  · split
    · exact leafT_le _ _
    · exact singleT_le _ _ _
    · exact doubleT_le _ _ _
    · omega
theorem typeE_le (s : Sc) (e : Ex) : 0 ≤ typeE s e ∧ typeE s e ≤ 6 := by rw [typeE_mk]; exact typeF_le _ _ _
/-- how it lies in memory -/
structure ScAt (w : World) (a b d : Value) (s : Sc) : Prop where
  vs : RowR 5 varR w a s.vars
  bs : RowR 2 blkR w b s.blocks
  ss : RowR 1 intR w d s.slots
theorem ScAt.below {w w' : World} {a b d : Value} {s : Sc} (h : ScAt w a b d s) (hb : Below w.heap.size w w') : ScAt w' a b d s :=
  ⟨h.vs.below varR_stable hb, h.bs.below blkR_stable hb, h.ss.below intR_stable hb⟩
end Go.Proofs.YtpecpeedefeokaaDoor
