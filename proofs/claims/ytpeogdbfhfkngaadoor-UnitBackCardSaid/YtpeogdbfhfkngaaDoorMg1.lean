/- Merged texts: UnGetB, UnGetC, Op, OpR, CodePure, CThree, CodeEnc, Instr, OpRight, CodeSame, CodeOne, CodeDec, UnGetD, UnGetE, Keep, Boxed. -/
import Derived.Test.YtpeogdbfhfkngaaDoorMg0
import Derived.WalkKit
import Derived.WalkSpells
import Derived.WalkLawsBesides
import Derived.Deep.QuietTactic
import Derived.BigQuiet
import Derived.WalkSmall
import Derived.IntWalk
import Derived.LoopTactic
import Derived.OwnWalk
import Derived.Test.YtpeogdbfhfkngaaDoorChecked
import Derived.Handy
import Derived.ChangeKeysEq
import Derived.Deep.RegionHeld3
import Derived.Laws.BitsAllLaws
/- Layer 15: all that stands ahead of the instructions. -/
namespace Go.Proofs.YtpeogdbfhfkngaaDoor
open Go.RowKit
set_option linter.unusedSimpArgs false
set_option linter.unusedVariables false
def hT (B : List UInt8) := rText B 0 false
def hP (B : List UInt8) := tysU B 1 8 (hT B).2.1 (hT B).2.2
def hR (B : List UInt8) := rNum B 1 (hP B).2.1 (hP B).2.2
def hL (B : List UInt8) := tysU B 2 1024 (hR B).2.1 (hR B).2.2
def hErr (B : List UInt8) : Int := if (hP B).1.2 ≠ 0 then (hP B).1.2 else (hL B).1.2
def hSt (B : List UInt8) : Nat × Bool := if (hP B).1.2 ≠ 0 then (hP B).2 else (hL B).2
theorem un_free {w : World} {b : Nat} {C : Array Value} {t : TypeId} (h : w.heap[b]? = some (.cells C t (0, 0))) (i : Nat) : w.frozen? ⟨b, i, none⟩ = false := by
  unfold World.frozen?
  rw [show (⟨b, i, none⟩ : Addr).block = b from rfl, h]
  simp
theorem un_set_heap (w : World) (g o k : Nat) (a : Value) : (w.setCell ⟨g, o, none⟩ a).heap[k]? = if g = k then w.heap[k]?.map (fun | .cells C t fr => .cells (C.setIfInBounds o a) t fr | x => x) else w.heap[k]? := by
  unfold World.setCell
  show (w.heap.modify g _)[k]? = _
  rw [Array.getElem?_modify]
  split
  · congr 1
  · rfl
theorem un_set {w : World} {g o : Nat} {C : Array Value} {t : TypeId} (h : w.heap[g]? = some (.cells C t)) (a : Value) : (w.setCell ⟨g, o, none⟩ a).heap[g]? = some (.cells (C.setIfInBounds o a) t) := by
  simp [un_set_heap, h]
theorem un_set_ne {w : World} {g o k : Nat} (hne : g ≠ k) (a : Value) : (w.setCell ⟨g, o, none⟩ a).heap[k]? = w.heap[k]? := by simp [un_set_heap, hne]
def set5 (w : World) (g : Nat) (a b c d e : Value) : World := ((((w.setCell ⟨g, 0, none⟩ a).setCell ⟨g, 1, none⟩ b).setCell ⟨g, 2, none⟩ c).setCell ⟨g, 3, none⟩ d).setCell ⟨g, 4, none⟩ e
theorem set5_at {w : World} {g : Nat} {x0 x1 x2 x3 x4 : Value} {t : TypeId} (h : w.heap[g]? = some (.cells #[x0, x1, x2, x3, x4] t)) (a b c d e : Value) : (set5 w g a b c d e).heap[g]? = some (.cells #[a, b, c, d, e] t) := by
  simp [set5, un_set_heap, h]
theorem set5_ne {w : World} {g k : Nat} (hne : g ≠ k) (a b c d e : Value) : (set5 w g a b c d e).heap[k]? = w.heap[k]? := by
  simp [set5, un_set_heap, hne]
theorem set5_size (w : World) (g : Nat) (a b c d e : Value) : (set5 w g a b c d e).heap.size = w.heap.size := by simp [set5, World.setCell]
theorem grown_set5 {w w1 : World} {o : Option Nat} (h : w.grownBy w1 o) {g : Nat} (hg : w.heap.size ≤ g) (a b c d e : Value) : w.grownBy (set5 w1 g a b c d e) o :=
  grown_set (grown_set (grown_set (grown_set (grown_set h (p := ⟨g, 0, none⟩) hg a) (p := ⟨g, 1, none⟩) hg b) (p := ⟨g, 2, none⟩) hg c) (p := ⟨g, 3, none⟩) hg d) (p := ⟨g, 4, none⟩) hg e
theorem rd_set5 {w : World} {g q : Nat} {L : List UInt8} {n : Nat} {bad : Bool} (h : RdAt w g q L n bad) {p : Nat} (a b c d e : Value) (hg : g ≠ p) (hq : q ≠ p) : RdAt (set5 w p a b c d e) g q L n bad :=
  rd_stay h (set5_ne (fun x => hg x.symm) _ _ _ _ _) (fun _ => set5_ne (fun x => hq x.symm) _ _ _ _ _)
theorem own_past {w w' : World} {B g q n : Nat} {e : TypeId} {v : Value} {xs : List Value} (h : w.ownsRow B e q v n xs) (hG : w.grownBy w' (some g)) (hg : g < B) : w'.ownsRow B e q v n xs :=
  owns_grown h hG (fun k hk e => by have := (owns_lt h hk).1; have := Option.some.inj e; omega)
theorem own_setp {w : World} {B g o q n : Nat} {e : TypeId} {v x : Value} {xs : List Value} (h : w.ownsRow B e q v n xs) (hg : g < B) : (w.setCell ⟨g, o, none⟩ x).ownsRow B e q v n xs :=
  owns_set h (fun hk => by have := (owns_lt h hk).1; omega)
theorem own_set5 {w : World} {B g q n : Nat} {t : TypeId} {v a b c d e : Value} {xs : List Value} (h : w.ownsRow B t q v n xs) (hg : g < B) : (set5 w g a b c d e).ownsRow B t q v n xs :=
  own_setp (own_setp (own_setp (own_setp (own_setp h hg) hg) hg) hg) hg
end Go.Proofs.YtpeogdbfhfkngaaDoor

/- Layer 15: all that stands ahead of the instructions: the contract. -/
namespace Go.Proofs.YtpeogdbfhfkngaaDoor
open Go.RowKit
set_option linter.unusedSimpArgs false
set_option linter.unusedVariables false
set_option maxHeartbeats 4000000 in
theorem unit_head (g q : Nat) (B : List UInt8) (w : World) (h : RdAt w g q B 0 false) (hq : q < w.heap.size) (hBl : B.length ≤ 100000) :
    Calls Tryd.prog 32 #[.pointer (some ⟨g, 0, none⟩)] w fun e w' => ∃ nm a1 a2 a3 rs c1 c2 c3, e = .returned (.tuple #[.agg #[.string nm, .slice a1 a2 a3, .int .i64 rs, .slice c1 c2 c3, .slice none 0 0], .int .i64 (hErr B)]) ∧ RdAt w' g q B (hSt B).1 (hSt B).2 ∧ w.grownBy w' (some g) ∧ (hErr B = 0 → nm = ⟨(hT B).1.toArray⟩ ∧ rs = (hR B).1 ∧ w'.ownsRow w.heap.size 3 1 (.slice a1 a2 a3) (hP B).1.1.length (iV (hP B).1.1) ∧ w'.ownsRow w.heap.size 3 1 (.slice c1 c2 c3) (hL B).1.1.length (iV (hL B).1.1)) := by
  have hgl := rd_lt h
  have HX1 := Lib.hid (fun W hW => rd_Text g q B 0 false W hW)
  have HX2 := Lib.hid (fun W hW => unit_types g q B (hT B).2.1 1 (hT B).2.2 1 8 W hW (by decide) (by omega) hBl)
  have HX3 := Lib.hid (fun W hW => rd_Num g q B (hP B).2.1 1 (hP B).2.2 1 W hW (by decide) (by omega))
  have HX4 := Lib.hid (fun W hW => unit_types g q B (hR B).2.1 2 (hR B).2.2 2 1024 W hW (by decide) (by omega) hBl)
  have e1 : rText B 0 false = hT B := rfl
  have e2 : tysU B 1 8 (hT B).2.1 (hT B).2.2 = hP B := rfl
  have e3 : rNum B 1 (hP B).2.1 (hP B).2.2 = hR B := rfl
  have e4 : tysU B 2 1024 (hR B).2.1 (hR B).2.2 = hL B := rfl
  rw [e1] at HX1
  rw [e2] at HX2
  rw [e3] at HX3
  rw [e4] at HX4
  have HE0 := Lib.hid (fun h0 : (hP B).1.2 ≠ 0 => (And.intro (show hErr B = (hP B).1.2 from if_pos h0) (show hSt B = (hP B).2 from if_pos h0)))
  have HE1 := Lib.hid (fun h0 : ¬ (hP B).1.2 ≠ 0 => (And.intro (show hErr B = (hL B).1.2 from if_neg h0) (show hSt B = (hL B).2 from if_neg h0)))
  clear e1 e2 e3 e4
  generalize hErr B = er at *
  generalize hSt B = st at *
  generalize hT B = T at *
  generalize hP B = P at *
  generalize hR B = R at *
  generalize hL B = M at *
  obtain ⟨s, n1, b1⟩ := T
  obtain ⟨⟨pl, pe⟩, n2, b2⟩ := P
  obtain ⟨rs, n3, b3⟩ := R
  obtain ⟨⟨ll, le⟩, n4, b4⟩ := M
  dsimp only at HX1 HX2 HX3 HX4 HE0 HE1 ⊢
  obtain ⟨nm, hnm⟩ : ∃ nm : ByteArray, nm = ⟨s.toArray⟩ := ⟨_, rfl⟩
  rw [← hnm] at HX1 ⊢
  obtain ⟨W0, hW0⟩ : ∃ W0, W0 = (w.alloc (.cells #[.string ⟨#[]⟩, .slice none 0 0, .int .i64 0, .slice none 0 0, .slice none 0 0] 25)).alloc (.cells #[.string ⟨#[]⟩, .slice none 0 0, .int .i64 0, .slice none 0 0, .slice none 0 0] 25) := ⟨_, rfl⟩
  have hz0 : W0.heap.size = w.heap.size + 2 := by rw [hW0]; simp
  have hb0 : Below w.heap.size w W0 := by rw [hW0]; exact ((Below.refl _ _).alloc (Nat.le_refl _) _).alloc (by simp) _
  have a1 : W0.heap[w.heap.size]? = some (.cells #[.string ⟨#[]⟩, .slice none 0 0, .int .i64 0, .slice none 0 0, .slice none 0 0] 25) := by rw [hW0, Below.heap_alloc _ _ _ (by simp)]; exact heap_alloc_new w _
  have a2 : W0.heap[w.heap.size + 1]? = some (.cells #[.string ⟨#[]⟩, .slice none 0 0, .int .i64 0, .slice none 0 0, .slice none 0 0] 25) := by rw [hW0]; exact alloc_get (by simp)
  have hR0 : RdAt W0 g q B 0 false := rd_below h hb0
  have g0 : w.grownBy W0 (some g) := by rw [hW0]; exact grown_alloc (grown_alloc (World.grownBy.refl _ _) _) _
  have HN := Lib.hid hnm
  have HW0 := Lib.hid hW0
  have H0 := Lib.hid (And.intro a1 (And.intro a2 (And.intro hR0 g0)))
  clear hnm hW0 a1 a2 hR0 g0 hb0 h
  go_enter Tryd.func32, Tryd.ntmps32
  go_wp2_with fail
  obtain ⟨a1, a2, hR0, g0⟩ := H0.out
  rw [← HW0.out]
  refine (HX1.out W0 hR0).mono ?_; rintro e w1 ⟨rfl, hR1, hG1⟩
  have z1 := hG1.size
  have a1 := (hG1.block w.heap.size (by omega) (by simp; omega)).trans a1
  have a2 := (hG1.block (w.heap.size + 1) (by omega) (by simp; omega)).trans a2
  have g1 := grown_grown g0 hG1
  have cA := cell_of a2 0 (v := .string ⟨#[]⟩) rfl
  have fA := un_free a2 0
  have H1 := Lib.hid (And.intro a1 (And.intro a2 (And.intro hR1 g1)))
  clear a1 a2 hR0 g0 hR1 hG1 g1 H0 HX1
  go_wp2_with fail
  obtain ⟨a1, a2, hR1, g1⟩ := H1.out
  obtain ⟨X1, hX1⟩ : ∃ X1, X1 = w1.setCell ⟨w.heap.size + 1, 0, none⟩ (.string nm) := ⟨_, rfl⟩
  have a1 : X1.heap[w.heap.size]? = some (.cells #[.string ⟨#[]⟩, .slice none 0 0, .int .i64 0, .slice none 0 0, .slice none 0 0] 25) := by rw [hX1]; exact (un_set_ne (by omega) _).trans a1
  have a2 : X1.heap[w.heap.size + 1]? = some (.cells #[.string nm, .slice none 0 0, .int .i64 0, .slice none 0 0, .slice none 0 0] 25) := by rw [hX1]; exact un_set a2 _
  have hR1 : RdAt X1 g q B n1 b1 := by rw [hX1]; exact rd_set hR1 _ _ (by simp; omega) (by simp; omega)
  have g1 : w.grownBy X1 (some g) := by rw [hX1]; exact grown_set g1 (by simp) _
  have z1 : w.heap.size + 2 ≤ X1.heap.size := by rw [hX1]; simp [World.setCell]; omega
  rw [← hX1]
  clear hX1 cA fA H1
  refine (HX2.out X1 hR1).mono ?_; rintro e w2 ⟨r2, rfl, hO2, hR2, hG2⟩
  obtain ⟨p1, p3, rfl⟩ := owns_form hO2
  have hO2 := own_low (B := w.heap.size + 2) hO2 z1
  have z2 := hG2.size
  have a1 := (hG2.block w.heap.size (by omega) (by simp; omega)).trans a1
  have a2 := (hG2.block (w.heap.size + 1) (by omega) (by simp; omega)).trans a2
  have g2 := grown_grown g1 hG2
  have cB := cell_of a2 1 (v := .slice none 0 0) rfl
  have fB := un_free a2 1
  generalize hpn : pl.length = pn at *
  have HPN := Lib.hid hpn
  obtain ⟨X2, hX2⟩ : ∃ X2, X2 = w2.setCell ⟨w.heap.size + 1, 1, none⟩ (.slice p1 pn p3) := ⟨_, rfl⟩
  have a1 : X2.heap[w.heap.size]? = some (.cells #[.string ⟨#[]⟩, .slice none 0 0, .int .i64 0, .slice none 0 0, .slice none 0 0] 25) := by rw [hX2]; exact (un_set_ne (by omega) _).trans a1
  have a2 : X2.heap[w.heap.size + 1]? = some (.cells #[.string nm, .slice p1 pn p3, .int .i64 0, .slice none 0 0, .slice none 0 0] 25) := by rw [hX2]; exact un_set a2 _
  have hR2 : RdAt X2 g q B n2 b2 := by rw [hX2]; exact rd_set hR2 _ _ (by simp; omega) (by simp; omega)
  have g2 : w.grownBy X2 (some g) := by rw [hX2]; exact grown_set g2 (by simp) _
  have hO2 : X2.ownsRow (w.heap.size + 2) 3 1 (.slice p1 pn p3) pn (iV pl) := by rw [hX2]; exact own_setp hO2 (by omega)
  have z2 : w.heap.size + 2 ≤ X2.heap.size := by rw [hX2]; simp [World.setCell]; omega
  have HH := Lib.hid (And.intro a1 (And.intro a2 (And.intro hR2 (And.intro g2 hO2))))
  clear g1 hR1 hG2 z1 HX2 hpn
  by_cases h0 : pe = 0
  case neg =>
    have q0 : (pe != 0) = true := by simpa using h0
    obtain ⟨rfl, rfl⟩ := HE0.out h0
    rw [hX2] at a1 a2
    have c0 := cell_of a2 0 (v := .string nm) rfl
    have c1 := cell_of a2 1 (v := .slice p1 pn p3) rfl
    have c2 := cell_of a2 2 (v := .int .i64 0) rfl
    have c3 := cell_of a2 3 (v := .slice none 0 0) rfl
    have c4 := cell_of a2 4 (v := .slice none 0 0) rfl
    have d0 := cell_of a1 0 (v := .string ⟨#[]⟩) rfl
    have d1 := cell_of a1 1 (v := .slice none 0 0) rfl
    have d2 := cell_of a1 2 (v := .int .i64 0) rfl
    have d3 := cell_of a1 3 (v := .slice none 0 0) rfl
    have d4 := cell_of a1 4 (v := .slice none 0 0) rfl
    have f0 := un_free a1 0
    have f1 := un_free a1 1
    have f2 := un_free a1 2
    have f3 := un_free a1 3
    have f4 := un_free a1 4
    have HX := Lib.hid hX2
    have h0' := Lib.hid h0
    clear a1 a2 hX2 h0 hR2 g2 hO2
    go_wp2_with fail
    obtain ⟨a1, a2, hR2, g2, hO2⟩ := HH.out
    rw [← HX.out]
    obtain ⟨WF, hWF⟩ : ∃ WF, WF = ((((X2.setCell ⟨w.heap.size, 0, none⟩ (.string nm)).setCell ⟨w.heap.size, 1, none⟩ (.slice p1 pn p3)).setCell ⟨w.heap.size, 2, none⟩ (.int .i64 0)).setCell ⟨w.heap.size, 3, none⟩ (.slice none 0 0)).setCell ⟨w.heap.size, 4, none⟩ (.slice none 0 0) := ⟨_, rfl⟩
    have hF : WF.heap[w.heap.size]? = some (.cells #[.string nm, .slice p1 pn p3, .int .i64 0, .slice none 0 0, .slice none 0 0] 25) := by rw [hWF]; exact set5_at a1 _ _ _ _ _
    have r0 := cell_of hF 0 (v := .string nm) rfl
    have r1 := cell_of hF 1 (v := .slice p1 pn p3) rfl
    have r2 := cell_of hF 2 (v := .int .i64 0) rfl
    have r3 := cell_of hF 3 (v := .slice none 0 0) rfl
    have r4 := cell_of hF 4 (v := .slice none 0 0) rfl
    rw [← hWF]
    refine bodyPost_ret (by simp [results, Tryd.results32, go_sem, r0, r1, r2, r3, r4]; rfl) rfl ?_
    exact ⟨nm, _, _, _, _, _, _, _, rfl, by rw [hWF]; exact rd_set5 hR2 _ _ _ _ _ (by omega) (by omega), by rw [hWF]; exact grown_set5 g2 (Nat.le_refl _) _ _ _ _ _, fun e => absurd e h0'.out⟩
  subst h0
  obtain ⟨rfl, rfl⟩ := HE1.out (by simp)
  have HX := Lib.hid hX2
  clear a1 a2 hX2 hR2 g2 hO2
  go_wp2_with fail
  obtain ⟨a1, a2, hR2, g2, hO2⟩ := HH.out
  rw [← HX.out]
  clear HX HH cB fB
  refine (HX3.out X2 hR2).mono ?_; rintro e w3 ⟨rfl, hR3, hG3⟩
  have z3 := hG3.size
  have a1 := (hG3.block w.heap.size (by omega) (by simp; omega)).trans a1
  have a2 := (hG3.block (w.heap.size + 1) (by omega) (by simp; omega)).trans a2
  have g3 := grown_grown g2 hG3
  have hO3 := own_past hO2 hG3 (by omega)
  have cC := cell_of a2 2 (v := .int .i64 0) rfl
  have fC := un_free a2 2
  have HH := Lib.hid (And.intro a1 (And.intro a2 (And.intro hR3 (And.intro g3 hO3))))
  clear a1 a2 hR3 g3 hO3 hR2 g2 hO2 hG3 HX3
  go_wp2_with fail
  obtain ⟨a1, a2, hR3, g3, hO3⟩ := HH.out
  obtain ⟨X3, hX3⟩ : ∃ X3, X3 = w3.setCell ⟨w.heap.size + 1, 2, none⟩ (.int .i64 rs) := ⟨_, rfl⟩
  have a1 : X3.heap[w.heap.size]? = some (.cells #[.string ⟨#[]⟩, .slice none 0 0, .int .i64 0, .slice none 0 0, .slice none 0 0] 25) := by rw [hX3]; exact (un_set_ne (by omega) _).trans a1
  have a2 : X3.heap[w.heap.size + 1]? = some (.cells #[.string nm, .slice p1 pn p3, .int .i64 rs, .slice none 0 0, .slice none 0 0] 25) := by rw [hX3]; exact un_set a2 _
  have hR3 : RdAt X3 g q B n3 b3 := by rw [hX3]; exact rd_set hR3 _ _ (by simp; omega) (by simp; omega)
  have g3 : w.grownBy X3 (some g) := by rw [hX3]; exact grown_set g3 (by simp) _
  have hO3 : X3.ownsRow (w.heap.size + 2) 3 1 (.slice p1 pn p3) pn (iV pl) := by rw [hX3]; exact own_setp hO3 (by omega)
  have z3 : w.heap.size + 2 ≤ X3.heap.size := by rw [hX3]; simp [World.setCell]; omega
  rw [← hX3]
  clear hX3 HH cC fC
  refine (HX4.out X3 hR3).mono ?_; rintro e w4 ⟨r4, rfl, hO4, hR4, hG4⟩
  obtain ⟨l1, l3, rfl⟩ := owns_form hO4
  have hO4 := own_low (B := w.heap.size + 2) hO4 z3
  have z4 := hG4.size
  have a1 := (hG4.block w.heap.size (by omega) (by simp; omega)).trans a1
  have a2 := (hG4.block (w.heap.size + 1) (by omega) (by simp; omega)).trans a2
  have g4 := grown_grown g3 hG4
  have hO3 := own_past hO3 hG4 (by omega)
  have cD := cell_of a2 3 (v := .slice none 0 0) rfl
  have fD := un_free a2 3
  generalize hln : ll.length = ln at *
  have HLN := Lib.hid hln
  obtain ⟨X4, hX4⟩ : ∃ X4, X4 = w4.setCell ⟨w.heap.size + 1, 3, none⟩ (.slice l1 ln l3) := ⟨_, rfl⟩
  have b1' : X4.heap[w.heap.size]? = some (.cells #[.string ⟨#[]⟩, .slice none 0 0, .int .i64 0, .slice none 0 0, .slice none 0 0] 25) := by rw [hX4]; exact (un_set_ne (by omega) _).trans a1
  have b2' : X4.heap[w.heap.size + 1]? = some (.cells #[.string nm, .slice p1 pn p3, .int .i64 rs, .slice l1 ln l3, .slice none 0 0] 25) := by rw [hX4]; exact un_set a2 _
  have hR4 : RdAt X4 g q B n4 b4 := by rw [hX4]; exact rd_set hR4 _ _ (by simp; omega) (by simp; omega)
  have g4 : w.grownBy X4 (some g) := by rw [hX4]; exact grown_set g4 (by simp) _
  have hO3 : X4.ownsRow (w.heap.size + 2) 3 1 (.slice p1 pn p3) pn (iV pl) := by rw [hX4]; exact own_setp hO3 (by omega)
  have hO4 : X4.ownsRow (w.heap.size + 2) 3 1 (.slice l1 ln l3) ln (iV ll) := by rw [hX4]; exact own_setp hO4 (by omega)
  have HH := Lib.hid (And.intro b1' (And.intro hR4 (And.intro g4 (And.intro hO3 hO4))))
  rw [hX4] at b1' b2'
  have c0 := cell_of b2' 0 (v := .string nm) rfl
  have c1 := cell_of b2' 1 (v := .slice p1 pn p3) rfl
  have c2 := cell_of b2' 2 (v := .int .i64 rs) rfl
  have c3 := cell_of b2' 3 (v := .slice l1 ln l3) rfl
  have c4 := cell_of b2' 4 (v := .slice none 0 0) rfl
  have d0 := cell_of b1' 0 (v := .string ⟨#[]⟩) rfl
  have d1 := cell_of b1' 1 (v := .slice none 0 0) rfl
  have d2 := cell_of b1' 2 (v := .int .i64 0) rfl
  have d3 := cell_of b1' 3 (v := .slice none 0 0) rfl
  have d4 := cell_of b1' 4 (v := .slice none 0 0) rfl
  have f0 := un_free b1' 0
  have f1 := un_free b1' 1
  have f2 := un_free b1' 2
  have f3 := un_free b1' 3
  have f4 := un_free b1' 4
  have HX := Lib.hid hX4
  clear a1 a2 b1' b2' hX4 hR4 g4 hO3 hO4 hR3 g3 hG4 HX4 hln
  go_wp2_with fail
  obtain ⟨b1', hR4, g4, hO3, hO4⟩ := HH.out
  rw [← HX.out]
  obtain ⟨WF, hWF⟩ : ∃ WF, WF = ((((X4.setCell ⟨w.heap.size, 0, none⟩ (.string nm)).setCell ⟨w.heap.size, 1, none⟩ (.slice p1 pn p3)).setCell ⟨w.heap.size, 2, none⟩ (.int .i64 rs)).setCell ⟨w.heap.size, 3, none⟩ (.slice l1 ln l3)).setCell ⟨w.heap.size, 4, none⟩ (.slice none 0 0) := ⟨_, rfl⟩
  have hF : WF.heap[w.heap.size]? = some (.cells #[.string nm, .slice p1 pn p3, .int .i64 rs, .slice l1 ln l3, .slice none 0 0] 25) := by rw [hWF]; exact set5_at b1' _ _ _ _ _
  have r0 := cell_of hF 0 (v := .string nm) rfl
  have r1 := cell_of hF 1 (v := .slice p1 pn p3) rfl
  have r2 := cell_of hF 2 (v := .int .i64 rs) rfl
  have r3 := cell_of hF 3 (v := .slice l1 ln l3) rfl
  have r4 := cell_of hF 4 (v := .slice none 0 0) rfl
  rw [← hWF]
  refine bodyPost_ret (by simp [results, Tryd.results32, go_sem, r0, r1, r2, r3, r4]; rfl) rfl ?_
  exact ⟨nm, _, _, _, _, _, _, _, rfl, by rw [hWF]; exact rd_set5 hR4 _ _ _ _ _ (by omega) (by omega), by rw [hWF]; exact grown_set5 g4 (Nat.le_refl _) _ _ _ _ _, fun _ => ⟨rfl, rfl, by rw [hWF, HPN.out]; exact own_low (own_set5 hO3 (by omega)) (by omega), by rw [hWF, HLN.out]; exact own_low (own_set5 hO4 (by omega)) (by omega)⟩⟩
end Go.Proofs.YtpeogdbfhfkngaaDoor

/- Layer 12: the tables of op, and its small functions. -/
namespace Go.Proofs.YtpeogdbfhfkngaaDoor
open Go.RowKit
set_option linter.unusedSimpArgs false
set_option linter.unusedVariables false
def wordsV : List Value := [.string ⟨#[110, 111, 112]⟩, .string ⟨#[99, 111, 110, 115, 116]⟩, .string ⟨#[108, 111, 97, 100]⟩, .string ⟨#[115, 116, 111, 114, 101]⟩, .string ⟨#[103, 101, 116]⟩, .string ⟨#[112, 117, 116]⟩, .string ⟨#[105, 116, 101, 109]⟩, .string ⟨#[107, 101, 101, 112]⟩, .string ⟨#[97, 100, 100]⟩, .string ⟨#[115, 117, 98]⟩, .string ⟨#[109, 117, 108]⟩, .string ⟨#[100, 105, 118]⟩, .string ⟨#[109, 111, 100]⟩, .string ⟨#[110, 101, 103]⟩, .string ⟨#[97, 110, 100]⟩, .string ⟨#[111, 114]⟩, .string ⟨#[120, 111, 114]⟩, .string ⟨#[110, 111, 116]⟩, .string ⟨#[115, 104, 108]⟩, .string ⟨#[115, 104, 114]⟩, .string ⟨#[101, 113]⟩, .string ⟨#[110, 101]⟩, .string ⟨#[108, 116]⟩, .string ⟨#[108, 101]⟩, .string ⟨#[103, 116]⟩, .string ⟨#[103, 101]⟩, .string ⟨#[99, 111, 110, 118]⟩, .string ⟨#[100, 117, 112]⟩, .string ⟨#[112, 111, 112]⟩, .string ⟨#[115, 119, 97, 112]⟩, .string ⟨#[106, 117, 109, 112]⟩, .string ⟨#[102, 97, 108, 115, 101]⟩, .string ⟨#[115, 119, 105, 116, 99, 104]⟩, .string ⟨#[99, 97, 108, 108]⟩, .string ⟨#[114, 101, 116]⟩, .string ⟨#[115, 101, 116]⟩, .string ⟨#[114, 117, 110]⟩, .string ⟨#[111, 117, 116]⟩]
def shapesV : List Value := [.int .i64 10, .int .i64 10, .int .i64 1, .int .i64 0, .int .i64 2, .int .i64 0, .int .i64 2, .int .i64 0, .int .i64 3, .int .i64 0, .int .i64 3, .int .i64 0, .int .i64 2, .int .i64 0, .int .i64 2, .int .i64 0, .int .i64 0, .int .i64 0, .int .i64 0, .int .i64 0, .int .i64 0, .int .i64 0, .int .i64 0, .int .i64 0, .int .i64 0, .int .i64 0, .int .i64 0, .int .i64 0, .int .i64 0, .int .i64 0, .int .i64 0, .int .i64 0, .int .i64 0, .int .i64 0, .int .i64 0, .int .i64 0, .int .i64 0, .int .i64 0, .int .i64 0, .int .i64 0, .int .i64 0, .int .i64 0, .int .i64 0, .int .i64 0, .int .i64 0, .int .i64 0, .int .i64 0, .int .i64 0, .int .i64 0, .int .i64 0, .int .i64 0, .int .i64 0, .int .i64 4, .int .i64 4, .int .i64 0, .int .i64 0, .int .i64 0, .int .i64 0, .int .i64 0, .int .i64 0, .int .i64 5, .int .i64 10, .int .i64 5, .int .i64 10, .int .i64 6, .int .i64 10, .int .i64 7, .int .i64 0, .int .i64 0, .int .i64 0, .int .i64 8, .int .i64 9, .int .i64 8, .int .i64 0, .int .i64 8, .int .i64 9]
def wL : List (List UInt8) := [[110, 111, 112], [99, 111, 110, 115, 116], [108, 111, 97, 100], [115, 116, 111, 114, 101], [103, 101, 116], [112, 117, 116], [105, 116, 101, 109], [107, 101, 101, 112], [97, 100, 100], [115, 117, 98], [109, 117, 108], [100, 105, 118], [109, 111, 100], [110, 101, 103], [97, 110, 100], [111, 114], [120, 111, 114], [110, 111, 116], [115, 104, 108], [115, 104, 114], [101, 113], [110, 101], [108, 116], [108, 101], [103, 116], [103, 101], [99, 111, 110, 118], [100, 117, 112], [112, 111, 112], [115, 119, 97, 112], [106, 117, 109, 112], [102, 97, 108, 115, 101], [115, 119, 105, 116, 99, 104], [99, 97, 108, 108], [114, 101, 116], [115, 101, 116], [114, 117, 110], [111, 117, 116]]
def aL : List Int := [10, 1, 2, 2, 3, 3, 2, 2, 4, 4, 4, 4, 4, 4, 4, 4, 4, 4, 4, 4, 4, 4, 4, 4, 4, 4, 4, 0, 0, 0, 5, 5, 6, 7, 0, 8, 8, 8]
def bL : List Int := [10, 0, 0, 0, 0, 0, 0, 0, 0, 0, 0, 0, 0, 0, 0, 0, 0, 0, 0, 0, 0, 0, 0, 0, 0, 0, 4, 0, 0, 0, 10, 10, 10, 0, 0, 9, 0, 9]
structure STab (w : World) : Prop where
  sh : ∀ i : Nat, w.cell? ⟨0, i, none⟩ = shapesV[i]?
  big1 : 0 < w.heap.size
theorem STab.below {w w' : World} (h : STab w) (hb : Below w.heap.size w w') : STab w' :=
  ⟨fun i => (hb.cell h.big1).trans (h.sh i), Nat.lt_of_lt_of_le h.big1 hb.size⟩
def oIs (n : Int) : Bool := decide (0 ≤ n ∧ n ≤ 37)
theorem oIs_yes {n : Int} (h : 0 ≤ n ∧ n ≤ 37) : oIs n = true := decide_eq_true h
theorem oIs_no {n : Int} (h : ¬ (0 ≤ n ∧ n ≤ 37)) : oIs n = false := decide_eq_false h
/-- what an operation has at A and at B -/
def oA (n : Int) : Int := if 0 ≤ n then aL.getD n.toNat 0 else 0
def oB (n : Int) : Int := if 0 ≤ n then bL.getD n.toNat 0 else 0
def oW (n : Int) : ByteArray := if 0 ≤ n then ⟨(wL.getD n.toNat []).toArray⟩ else ⟨#[]⟩
theorem o_no {n : Int} (h : ¬ (0 ≤ n ∧ n ≤ 37)) : oA n = 0 ∧ oB n = 0 ∧ oW n = ⟨#[]⟩ := by
  unfold oA oB oW
  by_cases h0 : 0 ≤ n
  · rw [if_pos h0, if_pos h0, if_pos h0]
    have e1 : aL.length = 38 := rfl
    have e2 : bL.length = 38 := rfl
    have e3 : wL.length = 38 := rfl
    simp only [List.getD, List.getElem?_eq_none (show aL.length ≤ n.toNat by omega), List.getElem?_eq_none (show bL.length ≤ n.toNat by omega), List.getElem?_eq_none (show wL.length ≤ n.toNat by omega)]
    exact ⟨rfl, rfl, rfl⟩
  · rw [if_neg h0, if_neg h0, if_neg h0]; exact ⟨rfl, rfl, rfl⟩
theorem o38 {n : Int} (h : 0 ≤ n ∧ n ≤ 37) : n = 0 ∨ n = 1 ∨ n = 2 ∨ n = 3 ∨ n = 4 ∨ n = 5 ∨ n = 6 ∨ n = 7 ∨ n = 8 ∨ n = 9 ∨ n = 10 ∨ n = 11 ∨ n = 12 ∨ n = 13 ∨ n = 14 ∨ n = 15 ∨ n = 16 ∨ n = 17 ∨ n = 18 ∨ n = 19 ∨ n = 20 ∨ n = 21 ∨ n = 22 ∨ n = 23 ∨ n = 24 ∨ n = 25 ∨ n = 26 ∨ n = 27 ∨ n = 28 ∨ n = 29 ∨ n = 30 ∨ n = 31 ∨ n = 32 ∨ n = 33 ∨ n = 34 ∨ n = 35 ∨ n = 36 ∨ n = 37 := by omega
theorem op_Is (n : Int) (w : World) : Calls Tryd.prog 46 #[.int .i64 n] w fun e w' => e = .returned (.bool (oIs n)) ∧ w = w' := by
  by_cases h1 : 0 ≤ n
  · by_cases h2 : n ≤ 37
    · go_enter Tryd.func46, Tryd.ntmps46
      go_wp2
      go_ret
      exact ⟨by rw [oIs_yes ⟨h1, h2⟩]; rfl, rfl⟩
    · go_enter Tryd.func46, Tryd.ntmps46
      go_wp2
      go_ret
      exact ⟨by rw [oIs_no (by omega)]; rfl, rfl⟩
  · go_enter Tryd.func46, Tryd.ntmps46
    go_wp2
    go_ret
    exact ⟨by rw [oIs_no (by omega)]; rfl, rfl⟩
theorem STab.sk {w : World} (h : STab w) {k : Nat} (hk : k ≤ 37) (hn : ¬ (8 ≤ k ∧ k < 26)) : w.cell? ⟨0, k * 2, none⟩ = some (.int .i64 (oA k)) ∧ w.cell? ⟨0, k * 2 + 1, none⟩ = some (.int .i64 (oB k)) := by
  rw [h.sh (k * 2), h.sh (k * 2 + 1)]
  have hall : ∀ m : Fin 38, ¬ (8 ≤ m.1 ∧ m.1 < 26) → shapesV[m.1 * 2]? = some (.int .i64 (oA (m.1 : Int))) ∧ shapesV[m.1 * 2 + 1]? = some (.int .i64 (oB (m.1 : Int))) := by
    intro m
    have := m.2
    obtain h | h | h | h | h | h | h | h | h | h | h | h | h | h | h | h | h | h | h | h | h | h | h | h | h | h | h | h | h | h | h | h | h | h | h | h | h | h := o38 (n := (m.1 : Int)) (by omega)
    all_goals
      have e : m.1 = (m.1 : Int).toNat := by omega
      rw [h, e, h]
      intro hq
      first | exact ⟨rfl, rfl⟩ | (exfalso; exact hq (by decide))
  exact hall ⟨k, by omega⟩ hn
theorem o_mid {k : Nat} (h : 8 ≤ k ∧ k < 26) : oA k = 4 ∧ oB k = 0 := by
  have hall : ∀ m : Fin 38, (8 ≤ m.1 ∧ m.1 < 26) → oA (m.1 : Int) = 4 ∧ oB (m.1 : Int) = 0 := by decide +kernel
  exact hall ⟨k, by omega⟩ h
set_option maxHeartbeats 1000000 in
theorem op_ShapeS (n : Int) (w : World) (hT : STab w) : Calls Tryd.prog 45 #[.int .i64 n] w fun e w' => e = .returned (.tuple #[.int .i64 (oA n), .int .i64 (oB n)]) ∧ ∃ m, w' = w.drewN m := by
  by_cases h : 0 ≤ n ∧ n ≤ 37
  · have hr := oIs_yes h
    obtain ⟨k, rfl⟩ := Int.eq_ofNat_of_zero_le h.1
    have hk : k ≤ 37 := by omega
    by_cases hm : 8 ≤ k ∧ k < 26
    · have e1 := Lib.hid (o_mid hm)
      have g1 : (8 ≤ (k : Int)) := by omega
      have g2 : ((k : Int) < 26) := by omega
      clear hT h hm
      go_enter Tryd.func45, Tryd.ntmps45
      go_wp2_with fail
      refine (op_Is _ _).mono ?_; rintro e w' ⟨rfl, rfl⟩
      go_wp2_with fail
      go_returns
      exact ⟨by rw [e1.out.1, e1.out.2]; rfl, 0, rfl⟩
    · obtain ⟨c0, c1⟩ := hT.sk hk hm
      have ec0 : w.cell? ⟨0, k * 2 + 0 * 1, none⟩ = some (.int .i64 (oA k)) := c0
      clear hT h
      generalize oA (k : Int) = x at *
      generalize oB (k : Int) = y at *
      by_cases h8 : 8 ≤ k
      · have g1 : (8 ≤ (k : Int)) := by omega
        have g2 : ¬ ((k : Int) < 26) := by omega
        clear hm
        go_enter Tryd.func45, Tryd.ntmps45
        go_wp2_with fail
        refine (op_Is _ _).mono ?_; rintro e w' ⟨rfl, rfl⟩
        go_wp2_with fail
        go_quiet (fail); go_wp2_with fail
        go_returns
        exact ⟨rfl, _, rfl⟩
      · have g1 : ¬ (8 ≤ (k : Int)) := by omega
        clear hm
        go_enter Tryd.func45, Tryd.ntmps45
        go_wp2_with fail
        refine (op_Is _ _).mono ?_; rintro e w' ⟨rfl, rfl⟩
        go_wp2_with fail
        go_quiet (fail); go_wp2_with fail
        go_returns
        exact ⟨rfl, _, rfl⟩
  · have hr := oIs_no h
    have e1 := Lib.hid (o_no h)
    clear hT h
    go_enter Tryd.func45, Tryd.ntmps45
    go_wp2_with fail
    refine (op_Is _ _).mono ?_; rintro e w' ⟨rfl, rfl⟩
    go_wp2_with fail
    go_returns
    exact ⟨by rw [e1.out.1, e1.out.2.1]; rfl, 0, rfl⟩
set_option maxHeartbeats 4000000 in
theorem ref12_Shape (n : Int) (w : World) : Calls Tryd.prog 55 #[.int .i64 n] w fun e w' => e = .returned (.tuple #[.int .i64 (oA n), .int .i64 (oB n)]) ∧ Below w.heap.size w w' := by
  by_cases h : 0 ≤ n ∧ n ≤ 37
  · rcases o38 h with h | h | h | h | h | h | h | h | h | h | h | h | h | h | h | h | h | h | h | h | h | h | h | h | h | h | h | h | h | h | h | h | h | h | h | h | h | h
    all_goals
      subst h
      go_enter Tryd.func55, Tryd.ntmps55
      go_wp2
      (first | (go_returns; exact ⟨rfl, by (repeat' (first | (with_reducible exact Below.refl _ _) | (with_reducible assumption) | (with_reducible refine below_drewN ?_ _) | (with_reducible refine Below.alloc ?_ ?_ _) | (with_reducible refine Below.drew ?_) | (with_reducible refine Below.setCell ?_ ?_ _) | go_size))⟩) | (go_quiet (fail); go_wp2_with fail; go_returns; exact ⟨rfl, by (repeat' (first | (with_reducible exact Below.refl _ _) | (with_reducible assumption) | (with_reducible refine below_drewN ?_ _) | (with_reducible refine Below.alloc ?_ ?_ _) | (with_reducible refine Below.drew ?_) | (with_reducible refine Below.setCell ?_ ?_ _) | go_size))⟩))
  · by_cases h0 : n < 0
    · go_enter Tryd.func55, Tryd.ntmps55
      go_wp2
      go_returns
      exact ⟨by rw [(o_no h).1, (o_no h).2.1]; rfl, Below.refl _ _⟩
    · have h37 : 37 < n := by omega
      have q := o_no h
      have Q := Lib.hid q
      clear h h0 q
      go_enter Tryd.func55, Tryd.ntmps55
      go_wp2
      go_returns
      exact ⟨by rw [Q.out.1, Q.out.2.1]; rfl, Below.refl _ _⟩
end Go.Proofs.YtpeogdbfhfkngaaDoor

/- Layer 12: whether an instruction is right. -/
namespace Go.Proofs.YtpeogdbfhfkngaaDoor
open Go.RowKit
set_option linter.unusedSimpArgs false
set_option linter.unusedVariables false
def oFit (a n : Int) : Bool := if a = 0 then n == 0 else decide (0 ≤ n ∧ n ≤ 65535)
theorem oFit_0 {a : Int} (h : a = 0) (n : Int) : oFit a n = (n == 0) := if_pos h
theorem oFit_yes {a n : Int} (h : ¬ a = 0) (hn : 0 ≤ n ∧ n ≤ 65535) : oFit a n = true := by unfold oFit; rw [if_neg h]; exact decide_eq_true hn
theorem oFit_no {a n : Int} (h : ¬ a = 0) (hn : ¬ (0 ≤ n ∧ n ≤ 65535)) : oFit a n = false := by unfold oFit; rw [if_neg h]; exact decide_eq_false hn
def oRight (o a b : Int) : Bool := oIs o && oFit (oA o) a && oFit (oB o) b
theorem op_fits (a n : Int) (w : World) : Calls Tryd.prog 47 #[.int .i64 a, .int .i64 n] w fun e w' => e = .returned (.bool (oFit a n)) ∧ w = w' := by
  by_cases ha : a = 0
  · have HF := Lib.hid (oFit_0 ha n)
    subst ha
    go_enter Tryd.func47, Tryd.ntmps47
    go_wp2
    go_ret
    exact ⟨by rw [HF.out]; rfl, rfl⟩
  · have hz : ((a : Int) == 0) = false := beq_eq_false_iff_ne.2 ha
    by_cases h0 : 0 ≤ n
    · by_cases h1 : n ≤ 65535
      · have HF := Lib.hid (oFit_yes ha ⟨h0, h1⟩)
        clear ha
        go_enter Tryd.func47, Tryd.ntmps47
        go_wp2
        go_ret
        exact ⟨by rw [HF.out]; rfl, rfl⟩
      · have HF := Lib.hid (oFit_no ha (fun h => h1 h.2))
        clear ha
        go_enter Tryd.func47, Tryd.ntmps47
        go_wp2
        go_ret
        exact ⟨by rw [HF.out]; rfl, rfl⟩
    · have HF := Lib.hid (oFit_no ha (fun h => h0 h.1))
      clear ha
      go_enter Tryd.func47, Tryd.ntmps47
      go_wp2
      go_ret
      exact ⟨by rw [HF.out]; rfl, rfl⟩
theorem ref12_may (n a : Int) (w : World) : Calls Tryd.prog 56 #[.int .i64 n, .int .i64 a] w fun e w' => e = .returned (.bool (oFit a n)) ∧ w = w' := by
  by_cases hn : n = 0
  · have HF : Hid (oFit a n = true) := Lib.hid (by
      by_cases ha : a = 0
      · rw [oFit_0 ha, hn]; rfl
      · exact oFit_yes ha (by omega))
    subst hn
    go_enter Tryd.func56, Tryd.ntmps56
    go_wp2
    go_ret
    exact ⟨by rw [HF.out]; rfl, rfl⟩
  · have hz : ((n : Int) == 0) = false := beq_eq_false_iff_ne.2 hn
    by_cases ha : a = 0
    · have HF : Hid (oFit a n = false) := Lib.hid (by rw [oFit_0 ha, hz])
      subst ha
      clear hn
      go_enter Tryd.func56, Tryd.ntmps56
      go_wp2
      go_ret
      exact ⟨by rw [HF.out]; rfl, rfl⟩
    · have hza : ((a : Int) == 0) = false := beq_eq_false_iff_ne.2 ha
      have hzb : ((a : Int) != 0) = true := by rw [bne, hza]; rfl
      by_cases h0 : 0 < n
      · by_cases h1 : n < 65536
        · have HF := Lib.hid (oFit_yes ha (n := n) (by omega))
          clear ha hn
          go_enter Tryd.func56, Tryd.ntmps56
          go_wp2
          go_ret
          exact ⟨by rw [HF.out]; rfl, rfl⟩
        · have HF := Lib.hid (oFit_no ha (n := n) (by omega))
          clear ha hn
          go_enter Tryd.func56, Tryd.ntmps56
          go_wp2
          go_ret
          exact ⟨by rw [HF.out]; rfl, rfl⟩
      · have HF := Lib.hid (oFit_no ha (n := n) (by omega))
        clear ha hn
        go_enter Tryd.func56, Tryd.ntmps56
        go_wp2
        go_ret
        exact ⟨by rw [HF.out]; rfl, rfl⟩
set_option maxHeartbeats 2000000 in
theorem op_RightS (o a b : Int) (w : World) (hT : STab w) : Calls Tryd.prog 27 #[.agg #[.int .i64 o, .int .i64 a, .int .i64 b]] w fun e w' => e = .returned (.bool (oRight o a b)) ∧ Below w.heap.size w w' := by
  have HR := Lib.hid (show oRight o a b = (oIs o && oFit (oA o) a && oFit (oB o) b) from rfl)
  have hS := @op_ShapeS o
  have hI := @op_Is o
  have hA := @op_fits (oA o) a
  have hB := @op_fits (oB o) b
  generalize oA o = x at *
  generalize oB o = y at *
  generalize oIs o = i at *
  generalize oFit x a = p at *
  generalize oFit y b = q at *
  cases i <;> cases p <;> cases q
  all_goals
    go_enter Tryd.func27, Tryd.ntmps27
    go_wp2_with fail
    refine (hS _ (hT.below (by (repeat' (first | (with_reducible exact Below.refl _ _) | (with_reducible assumption) | (with_reducible refine below_drewN ?_ _) | (with_reducible refine Below.alloc ?_ ?_ _) | (with_reducible refine Below.drew ?_) | (with_reducible refine Below.setCell ?_ ?_ _) | go_size))))).mono ?_; rintro e w1 ⟨rfl, m, rfl⟩
    go_wp2_with fail
    refine (hI _).mono ?_; rintro e w' ⟨rfl, rfl⟩
    go_wp2_with fail
    try (refine (hA _).mono ?_; rintro e w' ⟨rfl, rfl⟩; go_wp2_with fail)
    try (refine (hB _).mono ?_; rintro e w' ⟨rfl, rfl⟩; go_wp2_with fail)
    go_ret
    exact ⟨by rw [HR.out]; rfl, by (repeat' (first | (with_reducible exact Below.refl _ _) | (with_reducible assumption) | (with_reducible refine below_drewN ?_ _) | (with_reducible refine Below.alloc ?_ ?_ _) | (with_reducible refine Below.drew ?_) | (with_reducible refine Below.setCell ?_ ?_ _) | go_size))⟩
end Go.Proofs.YtpeogdbfhfkngaaDoor

/- Layer 13: instructions and their bytes: numbers and lists alone. -/
namespace Go.Proofs.YtpeogdbfhfkngaaDoor
open Go.RowKit
set_option linter.unusedSimpArgs false
set_option linter.unusedVariables false

def rI (x : Ins) : Bool := oRight x.1 x.2.1 x.2.2
def encI (x : Ins) : List UInt8 := byteAt x.1 0 :: (putL 2 x.2.1 ++ putL 2 x.2.2)
def enc (L : List Ins) : List UInt8 := L.flatMap encI
theorem encI_len (x : Ins) : (encI x).length = 5 := by simp [encI, putL_len]
theorem enc_snoc (L : List Ins) (x : Ins) : enc (L ++ [x]) = enc L ++ encI x := by simp [enc]
theorem enc_len (L : List Ins) : (enc L).length = 5 * L.length := by
  induction L with
  | nil => rfl
  | cons x t ih =>
    show (encI x ++ enc t).length = _
    rw [List.length_append, encI_len, ih, List.length_cons]; omega
theorem putL_2 (n : Int) : putL 2 n = [byteAt n 0, byteAt n 1] := by simp [putL, List.range_succ]
theorem encI_bytes (x : Ins) : encI x = [byteAt x.1 0, byteAt x.2.1 0, byteAt x.2.1 1, byteAt x.2.2 0, byteAt x.2.2 1] := by simp [encI, putL_2]
/-- the i-th instruction of bytes -/
def insAt (B : List UInt8) (i : Nat) : Ins := ((B.getD (5 * i) 0).toNat, (B.getD (5 * i + 1) 0).toNat + 256 * (B.getD (5 * i + 2) 0).toNat, (B.getD (5 * i + 3) 0).toNat + 256 * (B.getD (5 * i + 4) 0).toNat)
def oReal (n : Int) : Bool := decide (48 ≤ n ∧ n ≤ 55)
def errAt (B : List UInt8) (i : Nat) : Int := if B.length < 5 * i + 5 then 1 else if oReal (insAt B i).1 then 6 else if rI (insAt B i) then 0 else 7
def decL (B : List UInt8) (k : Nat) : List Ins := (List.range k).map (insAt B)
theorem decL_succ (B : List UInt8) (k : Nat) : decL B (k + 1) = decL B k ++ [insAt B k] := by simp [decL, List.range_succ]
theorem decL_len (B : List UInt8) (k : Nat) : (decL B k).length = k := by simp [decL]
def Good (B : List UInt8) (k : Nat) : Prop := ∀ j, j < k → 5 * j < B.length ∧ errAt B j = 0
/-- what bytes are read as -/
def DecR (B : List UInt8) (L : List Ins) (a e : Int) : Prop :=
  (∃ k : Nat, Good B k ∧ 5 * k < B.length ∧ errAt B k = e ∧ e ≠ 0 ∧ L = [] ∧ a = k) ∨ (∃ k : Nat, Good B k ∧ B.length ≤ 5 * k ∧ L = decL B k ∧ a = 0 ∧ e = 0)
theorem Good.succ {B : List UInt8} {k : Nat} (h : Good B k) (h1 : 5 * k < B.length) (h2 : errAt B k = 0) : Good B (k + 1) := fun j hj => by
  rcases (show j < k ∨ j = k by omega) with h3 | rfl
  · exact h j h3
  · exact ⟨h1, h2⟩
theorem DecR.unique {B : List UInt8} {L M : List Ins} {a b e f : Int} (h : DecR B L a e) (g : DecR B M b f) : L = M ∧ a = b ∧ e = f := by
  rcases h with ⟨k, h1, h2, h3, h4, h5, h6⟩ | ⟨k, h1, h2, h3, h4, h5⟩ <;> rcases g with ⟨m, g1, g2, g3, g4, g5, g6⟩ | ⟨m, g1, g2, g3, g4, g5⟩
  · have hk : k = m := by
      rcases Nat.lt_trichotomy k m with h | h | h
      · exact absurd (g1 k h).2 (by rw [h3]; exact h4)
      · exact h
      · exact absurd (h1 m h).2 (by rw [g3]; exact g4)
    subst hk
    exact ⟨by rw [h5, g5], by rw [h6, g6], by rw [← h3, ← g3]⟩
  · exfalso
    have : k < m := by omega
    exact absurd (g1 k this).2 (by rw [h3]; exact h4)
  · exfalso
    have : m < k := by omega
    exact absurd (h1 m this).2 (by rw [g3]; exact g4)
  · have hk : k = m := by
      rcases Nat.lt_trichotomy k m with h | h | h
      · have := (g1 k h).1; omega
      · exact h
      · have := (h1 m h).1; omega
    subst hk
    exact ⟨by rw [h3, g3], by rw [h4, g4], by rw [h5, g5]⟩
theorem byteAt_0 {n : Int} (h : 0 ≤ n ∧ n ≤ 65535) : ((byteAt n 0).toNat : Int) = n % 256 := by rw [byteAt_val]; simp
theorem byteAt_1 {n : Int} (h : 0 ≤ n ∧ n ≤ 65535) : ((byteAt n 1).toNat : Int) = n / 256 := by rw [byteAt_val]; simp; omega
theorem oFit_in {a n : Int} (h : oFit a n = true) : 0 ≤ n ∧ n ≤ 65535 := by
  by_cases ha : a = 0
  · rw [oFit_0 ha] at h; have : n = 0 := by simpa using h
    omega
  · unfold oFit at h; rw [if_neg ha] at h; simpa using h
theorem rI_in {x : Ins} (h : rI x = true) : (0 ≤ x.1 ∧ x.1 ≤ 37) ∧ (0 ≤ x.2.1 ∧ x.2.1 ≤ 65535) ∧ (0 ≤ x.2.2 ∧ x.2.2 ≤ 65535) := by
  unfold rI oRight at h
  simp only [Bool.and_eq_true] at h
  refine ⟨?_, oFit_in h.1.2, oFit_in h.2⟩
  have := h.1.1
  unfold oIs at this
  simpa using this
theorem enc_get (L : List Ins) : ∀ (i j : Nat), i < L.length → j < 5 → (enc L).getD (5 * i + j) 0 = (encI (L.getD i (0, 0, 0))).getD j 0 := by
  induction L with
  | nil => intro i j h; simp at h
  | cons x t ih =>
    intro i j h hj
    have e : enc (x :: t) = encI x ++ enc t := rfl
    rw [e]
    cases i with
    | zero =>
      simp only [List.getD, Nat.mul_zero, Nat.zero_add]
      rw [List.getElem?_append_left (by rw [encI_len]; exact hj)]
      rfl
    | succ i =>
      simp only [List.getD]
      rw [List.getElem?_append_right (by rw [encI_len]; omega), encI_len]
      have := ih i j (by simpa using h) hj
      simp only [List.getD] at this
      rw [show 5 * (i + 1) + j - 5 = 5 * i + j by omega, this]
      rfl
theorem enc_ins {L : List Ins} {i : Nat} (hi : i < L.length) (h : rI (L.getD i (0, 0, 0)) = true) : insAt (enc L) i = L.getD i (0, 0, 0) := by
  obtain ⟨h0, h1, h2⟩ := rI_in h
  have q0 := enc_get L i 0 hi (by omega)
  have q1 := enc_get L i 1 hi (by omega)
  have q2 := enc_get L i 2 hi (by omega)
  have q3 := enc_get L i 3 hi (by omega)
  have q4 := enc_get L i 4 hi (by omega)
  rw [encI_bytes] at q0 q1 q2 q3 q4
  unfold insAt
  rw [Nat.add_zero] at q0
  rw [q0, q1, q2, q3, q4]
  generalize L.getD i (0, 0, 0) = x at *
  obtain ⟨o, a, b⟩ := x
  simp only at h0 h1 h2 ⊢
  simp only [List.getD, List.getElem?_cons_zero, List.getElem?_cons_succ, Option.getD_some]
  rw [byteAt_0 (n := o) (by omega), byteAt_0 h1, byteAt_1 h1, byteAt_0 h2, byteAt_1 h2]
  congr 1
  · omega
  · congr 1 <;> omega
theorem enc_good {L : List Ins} (h : L.all rI = true) : ∀ k, k ≤ L.length → Good (enc L) k := by
  intro k hk j hj
  have hl := enc_len L
  have hr : rI (L.getD j (0, 0, 0)) = true := by
    rw [List.all_eq_true] at h
    have : L.getD j (0, 0, 0) = L[j]'(by omega) := by simp [List.getD, show j < L.length by omega]
    rw [this]
    exact h _ (List.getElem_mem _)
  have he := enc_ins (by omega) hr
  refine ⟨by omega, ?_⟩
  unfold errAt
  rw [if_neg (by omega), he]
  have hn : oReal (L.getD j (0, 0, 0)).1 = false := decide_eq_false (by have := (rI_in hr).1; omega)
  rw [hn, hr]
  simp
theorem enc_dec {L : List Ins} (h : L.all rI = true) : DecR (enc L) L 0 0 := by
  refine Or.inr ⟨L.length, enc_good h _ (Nat.le_refl _), by rw [enc_len]; exact Nat.le_refl _, ?_, rfl, rfl⟩
  apply List.ext_getElem?
  intro i
  by_cases hi : i < L.length
  · have hr : rI (L.getD i (0, 0, 0)) = true := by
      rw [List.all_eq_true] at h
      have : L.getD i (0, 0, 0) = L[i] := by simp [List.getD, hi]
      rw [this]
      exact h _ (List.getElem_mem _)
    have := enc_ins hi hr
    simp only [decL, List.getElem?_map, List.getElem?_range hi, Option.map_some, this]
    simp [List.getD, hi]
  · rw [List.getElem?_eq_none (by omega), List.getElem?_eq_none (by rw [decL_len]; omega)]
theorem byteAt_of (c : UInt8) : byteAt (c.toNat : Int) 0 = c := by
  apply UInt8.toNat_inj.1
  have h := byteAt_val (c.toNat : Int) 0
  have := c.toNat_lt
  simp at h
  omega
theorem byteAt_lo (c d : UInt8) : byteAt ((c.toNat : Int) + 256 * d.toNat) 0 = c ∧ byteAt ((c.toNat : Int) + 256 * d.toNat) 1 = d := by
  have h1 := c.toNat_lt
  have h2 := d.toNat_lt
  constructor
  · apply UInt8.toNat_inj.1
    have h := byteAt_val ((c.toNat : Int) + 256 * d.toNat) 0
    simp at h
    omega
  · apply UInt8.toNat_inj.1
    have h := byteAt_val ((c.toNat : Int) + 256 * d.toNat) 1
    simp at h
    omega
theorem encI_ins {B : List UInt8} {i : Nat} (h : 5 * i + 5 ≤ B.length) : encI (insAt B i) = (B.drop (5 * i)).take 5 := by
  rw [encI_bytes]
  unfold insAt
  simp only
  rw [byteAt_of, (byteAt_lo _ _).1, (byteAt_lo _ _).2, (byteAt_lo _ _).1, (byteAt_lo _ _).2]
  apply List.ext_getElem?
  intro j
  rw [List.getElem?_take]
  by_cases hj : j < 5
  · rw [if_pos hj, List.getElem?_drop]
    have : ∀ q, q < B.length → B[q]? = some (B.getD q 0) := fun q hq => by simp [List.getD, hq]
    rw [this _ (by omega)]
    obtain rfl | rfl | rfl | rfl | rfl : j = 0 ∨ j = 1 ∨ j = 2 ∨ j = 3 ∨ j = 4 := by omega
    all_goals rfl
  · rw [if_neg hj, List.getElem?_eq_none (by simp; omega)]
theorem dec_enc {B : List UInt8} : ∀ k, Good B k → enc (decL B k) = B.take (5 * k) ∧ (decL B k).all rI = true := by
  intro k
  induction k with
  | zero => intro _; simp [decL, enc]
  | succ k ih =>
    intro h
    obtain ⟨h1, h2⟩ := ih (fun j hj => h j (by omega))
    obtain ⟨h3, h4⟩ := h k (by omega)
    have h5 : 5 * k + 5 ≤ B.length := by
      unfold errAt at h4
      by_cases hs : B.length < 5 * k + 5
      · rw [if_pos hs] at h4; omega
      · omega
    have h6 : rI (insAt B k) = true := by
      unfold errAt at h4
      rw [if_neg (by omega)] at h4
      cases hr : rI (insAt B k)
      · rw [hr] at h4
        split at h4 <;> simp at h4
      · rfl
    rw [decL_succ, enc_snoc, h1, encI_ins h5]
    constructor
    · rw [show 5 * (k + 1) = 5 * k + 5 by omega, List.take_add]
    · rw [List.all_append, h2]; simp [h6]
/-- what was read is put as it was -/
theorem DecR.back {B : List UInt8} {L : List Ins} {a e : Int} (h : DecR B L a e) : (e ≠ 0 ∧ L = []) ∨ (e = 0 ∧ L.all rI = true ∧ enc L = B) := by
  rcases h with ⟨k, h1, h2, h3, h4, h5, h6⟩ | ⟨k, h1, h2, h3, h4, h5⟩
  · exact Or.inl ⟨h4, h5⟩
  · obtain ⟨q1, q2⟩ := dec_enc k h1
    subst h3
    refine Or.inr ⟨h5, q2, ?_⟩
    rw [q1, List.take_of_length_le h2]
end Go.Proofs.YtpeogdbfhfkngaaDoor

/- Three cells that lie together. -/
namespace Go.Proofs.YtpeogdbfhfkngaaDoor
open Go.RowKit
/-- the three cells of an instruction in memory -/
def C3 (W : World) (b : Nat) (x y z : Int) : Prop := W.cell? ⟨b, 0, none⟩ = some (.int .i64 x) ∧ W.cell? ⟨b, 1, none⟩ = some (.int .i64 y) ∧ W.cell? ⟨b, 2, none⟩ = some (.int .i64 z)
theorem C3.new (W : World) (x y z : Int) (t : TypeId) {W' : World} (h : Below (W.heap.size + 1) (W.alloc (.cells #[.int .i64 x, .int .i64 y, .int .i64 z] t)) W') : C3 W' W.heap.size x y z :=
  ⟨(h.cell (by simp)).trans (by rw [cell_at (by simp)]; rfl), (h.cell (by simp)).trans (by rw [cell_at (by simp)]; rfl), (h.cell (by simp)).trans (by rw [cell_at (by simp)]; rfl)⟩
theorem C3.keep {W W' : World} {b : Nat} {x y z : Int} (c : C3 W b x y z) (hb : b < W.heap.size) (h : Below W.heap.size W W') : C3 W' b x y z :=
  ⟨(h.cell (p := ⟨b, 0, none⟩) hb).trans c.1, (h.cell (p := ⟨b, 1, none⟩) hb).trans c.2.1, (h.cell (p := ⟨b, 2, none⟩) hb).trans c.2.2⟩
end Go.Proofs.YtpeogdbfhfkngaaDoor

/- Layer 13: instructions as bytes: Encode of both sides. -/
namespace Go.Proofs.YtpeogdbfhfkngaaDoor
open Go.RowKit
set_option linter.unusedSimpArgs false
set_option linter.unusedVariables false
def encO (L : List Ins) : List UInt8 := if L.all rI then enc L else []
theorem encO_yes {L : List Ins} (h : L.all rI = true) : encO L = enc L := if_pos h
theorem encO_no {L : List Ins} (h : L.all rI = false) : encO L = [] := by unfold encO; rw [h]; exact if_neg (by decide)
theorem all_take_no {L : List Ins} {k : Nat} {x : Ins} (hx : L[k]? = some x) (h : rI x = false) : L.all rI = false := by
  rw [Bool.eq_false_iff]; intro ha
  rw [List.all_eq_true] at ha
  have := ha x (List.mem_of_getElem? hx)
  rw [h] at this; cases this
theorem owns_make (w : World) (Z : Array Value) (e : TypeId) (q m : Nat) (hZ : Z.size = m * q) (hm : m ≤ maxLen) : (w.alloc (.cells Z e)).ownsRow w.heap.size e q (.slice (some ⟨w.heap.size, 0, none⟩) 0 m) 0 [] := by
  refine ⟨by simp, Or.inr ⟨w.heap.size, m, Z, rfl, Nat.le_refl _, ?_, by omega, hm, hZ, by simp⟩⟩
  show (w.heap.push _)[w.heap.size]? = _
  simp
theorem ins_get {w : World} {v : Value} {L : List Ins} (hv : RowR 3 insR w v L) : ∃ a cap, v = .slice a L.length cap := by
  rcases hv with ⟨a, cap, rfl, rfl, _⟩ | ⟨b, off, cap, h1, _⟩
  · exact ⟨a, cap, rfl⟩
  · exact ⟨_, cap, h1⟩
theorem ins_at {w : World} {a : Option Addr} {n cap : Nat} {L : List Ins} (hv : RowR 3 insR w (.slice a n cap) L) {k : Nat} (hk : k < L.length) : ∃ b off, a = some ⟨b, off, none⟩ ∧ b < w.heap.size ∧ ∀ i x, L[i]? = some x → w.cell? ⟨b, off + i * 3, none⟩ = some (.int .i64 x.1) ∧ w.cell? ⟨b, off + i * 3 + 1, none⟩ = some (.int .i64 x.2.1) ∧ w.cell? ⟨b, off + i * 3 + 2, none⟩ = some (.int .i64 x.2.2) ∧ I64 x.1 ∧ I64 x.2.1 ∧ I64 x.2.2 := by
  rcases hv with ⟨a, cap, h, rfl, _⟩ | ⟨b, off, cap, h1, _, _, _, h5, h6⟩
  · simp at hk
  · have e : a = some ⟨b, off, none⟩ := by injection h1
    exact ⟨b, off, e, h5, fun i x hx => ins_cells h6 hx⟩
theorem bytesV_app (a b : List UInt8) : bytesV (a ++ b) = bytesV a ++ bytesV b := by simp [bytesV]
theorem byte_o (o : Int) : (((byteAt o 0).toNat : Int)) = o % 256 := by rw [byteAt_val]; simp
theorem owns_bytes {w : World} {B : Nat} {e : TypeId} {r : Value} {n : Nat} {L : List UInt8} (h : w.ownsRow B e 1 r n (bytesV L)) (hn : n = L.length) : RowAt w r L.length (byteV L) := by
  subst hn
  exact RowAt.owns h (fun i hi => byteV_at hi)
theorem own_eq {w : World} {B : Nat} {e : TypeId} {q : Nat} {r : Value} {n m : Nat} {xs ys : List Value} (h : w.ownsRow B e q r n xs) (h1 : n = m) (h2 : xs = ys) : w.ownsRow B e q r m ys := by
  subst h1; subst h2; exact h
theorem map_bytesV (l : List UInt8) : (List.range l.length).map (byteV l) = bytesV l := map_byteV l
theorem enc_val (E : List UInt8) (x : Ins) (h : 0 ≤ x.1 ∧ x.1 ≤ 37) : bytesV E ++ (List.range 1).map (fun _ => Value.int .u8 x.1) ++ bytesV (putL 2 x.2.1 ++ putL 2 x.2.2) = bytesV (E ++ encI x) := by
  have h1 : ((byteAt x.1 0).toNat : Int) = x.1 := by rw [byte_o, Int.emod_eq_of_lt h.1 (by omega)]
  unfold encI
  rw [show E ++ (byteAt x.1 0 :: (putL 2 x.2.1 ++ putL 2 x.2.2)) = (E ++ [byteAt x.1 0]) ++ (putL 2 x.2.1 ++ putL 2 x.2.2) by simp, bytesV_app (E ++ [byteAt x.1 0]), bytesV_snoc, h1]
  rfl
set_option maxHeartbeats 4000000 in
theorem code_Encode (v : Value) (L : List Ins) (w : World) (hT : STab w) (hv : RowR 3 insR w v L) (hn : L.length ≤ 1000) :
    Calls Tryd.prog 21 #[v] w fun e w' => ∃ r, e = .returned (.tuple #[r, .bool (L.all rI)]) ∧ RowAt w' r (encO L).length (byteV (encO L)) ∧ Below w.heap.size w w' := by
  obtain ⟨i, hi, hz, hsize, hby⟩ : ∃ i, Tryd.prog.info? 5 = some i ∧ i.zero = some (.int .u8 0) ∧ i.size = 1 ∧ i.bytes = 1 := ⟨(Tryd.prog.info? 5).get!, by kernel_rfl, by kernel_rfl, by kernel_rfl, by kernel_rfl⟩
  obtain ⟨sa, cap, rfl⟩ := ins_get hv
  have hmk := run_make w 28 5 i _ Tryd.underlying28 hi hz .i64 .i64 (0 : Int) (5 * (L.length : Int)) (by omega) (by omega) (by rw [hby]; omega) (by omega)
  rw [hsize, Nat.mul_one, show ((0 : Int)).toNat = 0 from rfl, show (5 * (L.length : Int)).toNat = 5 * L.length by omega] at hmk
  obtain ⟨Z, hZ⟩ : ∃ Z, madeCells (Value.int .u8 0).cells (5 * L.length) = Z := ⟨_, rfl⟩
  have hZs : Z.size = 5 * L.length * 1 := by rw [← hZ]; simp [madeCells]
  rw [hZ] at hmk
  have hO0 := Lib.hid (owns_make w Z 5 1 (5 * L.length) hZs (by unfold maxLen; omega))
  have hB0 : Below w.heap.size w (w.alloc (.cells Z 5)) := (Below.refl _ _).alloc (Nat.le_refl _) _
  have hw5 : IntKind.i64.wrap (5 * (L.length : Int)) = 5 * (L.length : Int) := IntWalk.i64_in _ (by omega)
  clear hZ hZs
  have HY := Lib.hid (encO_yes (L := L))
  have HN := Lib.hid (encO_no (L := L))
  have cp := @cell_past
  generalize hN : L.length = N at *
  go_enter Tryd.func21, Tryd.ntmps21
  go_wp2_with fail
  go_loopw [4, 13] (fun o j wr => ∃ k : Nat, k ≤ N ∧ j = .int .i64 k ∧ Hid ((L.take k).all rI = true) ∧ Hid (wr.ownsRow w.heap.size 5 1 o (enc (L.take k)).length (bytesV (enc (L.take k)))) ∧ Below w.heap.size w wr) (fun _ j _ => N - (intOf j).toNat)
  case atStart => exact ⟨0, by omega, rfl, Lib.hid (by simp), Lib.hid hO0.out, hB0⟩
  case round =>
    obtain ⟨k, hk, rfl, hall, hO, hB⟩ := hrel
    have hz' := hB.size
    by_cases hlt : k < N
    · obtain ⟨b, off, rfl, hbw, hc⟩ := ins_at hv (k := k) (by omega)
      obtain ⟨x, hx⟩ : ∃ x, L[k]? = some x := ⟨L[k]'(by omega), by simp [hN, hlt]⟩
      obtain ⟨c0, c1, c2, w0, w1, w2⟩ := hc k x hx
      have c0 := (hB.cell (p := ⟨b, off + k * 3, none⟩) hbw).trans c0
      have c1 := (hB.cell (p := ⟨b, off + k * 3 + 1, none⟩) hbw).trans c1
      have c2 := (hB.cell (p := ⟨b, off + k * 3 + 2, none⟩) hbw).trans c2
      have hlen : (enc (L.take k)).length = 5 * k := by rw [enc_len, List.length_take, hN]; rw [Nat.min_eq_left (by omega)]
      have hts := Lib.hid (take_snoc hx)
      have hR := op_RightS x.1 x.2.1 x.2.2
      have hno := Lib.hid (all_take_no hx)
      have hxr : oRight x.1 x.2.1 x.2.2 = rI x := rfl
      rw [hxr] at hR
      have hI := Lib.hid (rI_in (x := x))
      clear hc hxr
      cases hr : rI x
      · have hal := hno.out hr
        have hen := Lib.hid (HN.out hal)
        have HAL := Lib.hid hal
        rw [hr] at hR
        clear hal hall hO hts hx
        go_wp2_with fail
        refine (hR _ (hT.below (by (repeat' (first | (with_reducible exact Below.refl _ _) | (with_reducible assumption) | (with_reducible refine more_below ?_ ?_ _ _) | (with_reducible refine below_drewN ?_ _) | (with_reducible refine Below.alloc ?_ ?_ _) | (with_reducible refine Below.drew ?_) | (with_reducible refine Below.setCell ?_ ?_ _) | (simp only [World.size_alloc, World.size_setCell, World.size_drew, more_size, World.heap_drewN]; omega) | go_size))))).mono ?_; rintro e W1 ⟨rfl, hb1⟩
        have hB1 : Below w.heap.size w W1 := Below.trans (by (repeat' (first | (with_reducible exact Below.refl _ _) | (with_reducible assumption) | (with_reducible refine more_below ?_ ?_ _ _) | (with_reducible refine below_drewN ?_ _) | (with_reducible refine Below.alloc ?_ ?_ _) | (with_reducible refine Below.drew ?_) | (with_reducible refine Below.setCell ?_ ?_ _) | (simp only [World.size_alloc, World.size_setCell, World.size_drew, more_size, World.heap_drewN]; omega) | go_size))) (hb1.mono (by simp; omega))
        go_wp2_with fail
        go_returns
        exact ⟨.slice none 0 0, by rw [HAL.out]; rfl, by rw [hen.out]; exact Or.inl ⟨none, 0, rfl, rfl, fun _ => rfl⟩, hB1⟩
      · rw [hr] at hR
        obtain ⟨i0, i1, i2⟩ := hI.out hr
        have hx2 := Lib.hid hx
        clear hx hI
        generalize hee : enc (L.take k) = E at *
        have HE := Lib.hid hee
        clear hee
        go_wp2_with fail
        refine (hR _ (hT.below (by (repeat' (first | (with_reducible exact Below.refl _ _) | (with_reducible assumption) | (with_reducible refine more_below ?_ ?_ _ _) | (with_reducible refine below_drewN ?_ _) | (with_reducible refine Below.alloc ?_ ?_ _) | (with_reducible refine Below.drew ?_) | (with_reducible refine Below.setCell ?_ ?_ _) | (simp only [World.size_alloc, World.size_setCell, World.size_drew, more_size, World.heap_drewN]; omega) | go_size))))).mono ?_; rintro e W1 ⟨rfl, hb1⟩
        have hbn : Below wr.heap.size wr W1 := Below.trans (by (repeat' (first | (with_reducible exact Below.refl _ _) | (with_reducible assumption) | (with_reducible refine below_drewN ?_ _) | (with_reducible refine Below.alloc ?_ ?_ _) | (with_reducible refine Below.drew ?_) | (with_reducible refine Below.setCell ?_ ?_ _) | go_size))) (hb1.mono (by simp))
        have hO1 := Lib.hid (owns_below hO.out hbn)
        have hB1 : Below w.heap.size w W1 := Below.trans hB (hbn.mono hz')
        have e1 := C3.new wr x.1 x.2.1 x.2.2 _ (by simpa using hb1)
        have hz1 : wr.heap.size < W1.heap.size := by have := hb1.size; simp at this; omega
        obtain ⟨k0, k1, k2⟩ := e1
        have hOr := hO
        clear hb1 c0 c1 c2 hO
        go_wp2_with (first | (at_builtin; refine wpList_append_row1_at rfl (.tmp 20) (.tmp 24) 28 rfl w.heap.size 5 i (.int .u8 0) 1 Tryd.underlying28 hi hz hsize hby rfl _ E.length _ rfl (hO1.out.alloc _) _ 1 (fun _ => .int .u8 x.1) rfl (RowAt.new _ _ _ _ _ 1 1 (by omega) (by omega) (by omega) (fun i hi => by obtain rfl : i = 0 := (by omega); rfl)) (by omega) (fun _ _ => rfl) (by unfold maxLen; omega) (by omega) (by rw [World.size_alloc]; omega) ?_; intro v2 w2 hO2 hG2 hat2; have HO2 := Lib.hid hO2; have hB2 := below_grownV (hB1.alloc (by omega) _) (by rw [World.size_alloc]; omega) (hO1.out.alloc _) hG2; have hG := Lib.hid hG2; clear hO2 hG2) | fail)
        have c2 : C3 w2 wr.heap.size x.1 x.2.1 x.2.2 := ⟨(grown_cell hG.out (own_ne hOr.out (Nat.le_refl _)) (by simp; omega)).trans ((cell_past hz1).trans k0), (grown_cell hG.out (own_ne hOr.out (Nat.le_refl _)) (by simp; omega)).trans ((cell_past hz1).trans k1), (grown_cell hG.out (own_ne hOr.out (Nat.le_refl _)) (by simp; omega)).trans ((cell_past hz1).trans k2)⟩
        have z2 : wr.heap.size < w2.heap.size := by have := hG.out.size; simp at this; omega
        have hne : v2.ownBlock ≠ some wr.heap.size := by
          rcases hat2 with h | h
          · rw [h]; exact own_ne hOr.out (Nat.le_refl _)
          · rw [h]; simp; omega
        clear hG hOr k0 k1 k2 hat2
        have hn8 : (near8 2).toNat = 2 := by decide
        refine wp_region_held_drew (S := (fun w' => Below w.heap.size w w' ∧ C3 w' wr.heap.size x.1 x.2.1 x.2.2 ∧ wr.heap.size < w'.heap.size)) (by kernel_rfl) ?_ (fun hHeld => ?_)
        · (try dsimp only); first | exact ⟨hB2.drew, c2, z2⟩ | exact hHeld | (trace_state; fail)
        refine wpAnyH_take (i := 0) (oi := { dst := some 26, op := Op.move (Operand.tmp 4), type := 28, pos := _, after := #[], guard := none }) (v := ?_) rfl (by kernel_rfl) (by kernel_rfl) (by kernel_rfl) (fun _ _ _ h => h) (Or.inl ⟨by rfl, ?_⟩) (by assumption) ?_
        rotate_left
        · intro w hSw; (try dsimp only at hSw); first | (go_simp; done) | (go_simp; with_reducible rfl)
        try simp only [Act.put, List.setIfInBounds_toArray, List.set_cons_zero, List.set_cons_succ]
        refine wpAnyH_take (i := 1) (oi := { dst := some 27, op := Op.fieldAddr 40 (Operand.tmp 6) 1, type := 0, pos := _, after := #[], guard := none }) (v := ?_) rfl (by kernel_rfl) (by kernel_rfl) (by kernel_rfl) (fun _ _ _ h => h) (Or.inl ⟨by rfl, ?_⟩) (by assumption) ?_
        rotate_left
        · intro w hSw; (try dsimp only at hSw); first | (go_simp; done) | (go_simp; with_reducible rfl)
        try simp only [Act.put, List.setIfInBounds_toArray, List.set_cons_zero, List.set_cons_succ]
        refine wpAnyH_take (i := 2) (oi := { dst := some 28, op := Op.load 3 (Operand.tmp 27), type := 3, pos := _, after := #[{ on := 1, ground := Ground.data }], guard := none }) (v := ?_) rfl (by kernel_rfl) (by kernel_rfl) (by kernel_rfl) (fun _ _ _ h => h) (Or.inl ⟨by rfl, ?_⟩) (by assumption) ?_
        rotate_left
        · intro wt hSw; (try dsimp only at hSw); obtain ⟨_, ⟨q0, q1, q2⟩, _⟩ := hSw; first | (go_simp; done) | (go_simp; with_reducible rfl) | (trace_state; fail)
        try simp only [Act.put, List.setIfInBounds_toArray, List.set_cons_zero, List.set_cons_succ]
        refine wpAnyH_take (i := 4) (oi := { dst := some 30, op := Op.fieldAddr 40 (Operand.tmp 6) 2, type := 0, pos := _, after := #[], guard := none }) (v := ?_) rfl (by kernel_rfl) (by kernel_rfl) (by kernel_rfl) (fun _ _ _ h => h) (Or.inl ⟨by rfl, ?_⟩) (by assumption) ?_
        rotate_left
        · intro w hSw; (try dsimp only at hSw); first | (go_simp; done) | (go_simp; with_reducible rfl)
        try simp only [Act.put, List.setIfInBounds_toArray, List.set_cons_zero, List.set_cons_succ]
        refine wpAnyH_take (i := 5) (oi := { dst := some 31, op := Op.load 3 (Operand.tmp 30), type := 3, pos := _, after := #[{ on := 4, ground := Ground.data }], guard := none }) (v := ?_) rfl (by kernel_rfl) (by kernel_rfl) (by kernel_rfl) (fun _ _ _ h => h) (Or.inl ⟨by rfl, ?_⟩) (by assumption) ?_
        rotate_left
        · intro wt hSw; (try dsimp only at hSw); obtain ⟨_, ⟨q0, q1, q2⟩, _⟩ := hSw; first | (go_simp; done) | (go_simp; with_reducible rfl) | (trace_state; fail)
        try simp only [Act.put, List.setIfInBounds_toArray, List.set_cons_zero, List.set_cons_succ]
        refine wpAnyH_ready (rs := [3]) (by kernel_rfl) (by simp) ?_
        refine AllReadyH.cons (o := { dst := some 29, op := Op.call { callee := Callee.value (Operand.func 20), args := #[Operand.const (Value.slice none 0 0), Operand.const (Value.int IntKind.i64 2), Operand.tmp 28], argTypes := #[28, 3, 3] }, type := 28, pos := _, after := #[{ on := 2, ground := Ground.data }], guard := none }) rfl (fun K hK => ?_) AllReadyH.nil
        go_simp
        refine (octet_Put (.slice none 0 0) [] 2 x.2.1 _ (Or.inl ⟨none, 0, rfl, rfl, fun _ => rfl⟩) (by simp)).mono ?_; rintro e wa ⟨r1, rfl, hr1, hba⟩; rw [hn8] at hr1; have HOa := Lib.hid (owns_below (w := World.drew w2) HO2.out hba); have HR1 := Lib.hid (owns_bytes (L := putL 2 x.2.1) (by simpa using hr1) (by simp [putL_len])); clear hr1
        go_wp2_with fail
        refine hK.out _ _ ?_ (fun hHeld => ?_)
        · (try dsimp only); exact ⟨hHeld.1.trans (hba.mono hHeld.1.size), hHeld.2.1.keep hHeld.2.2 hba, Nat.lt_of_lt_of_le hHeld.2.2 hba.size⟩
        clear hK K
        try simp only [Act.put, List.setIfInBounds_toArray, List.set_cons_zero, List.set_cons_succ]
        refine wpAnyH_ready (rs := [6]) (by kernel_rfl) (by simp) ?_
        refine AllReadyH.cons (o := { dst := some 32, op := Op.call { callee := Callee.value (Operand.func 20), args := #[Operand.tmp 29, Operand.const (Value.int IntKind.i64 2), Operand.tmp 31], argTypes := #[28, 3, 3] }, type := 28, pos := _, after := #[{ on := 3, ground := Ground.data }, { on := 5, ground := Ground.data }, { on := 3, ground := Ground.chain }], guard := none }) rfl (fun K hK => ?_) AllReadyH.nil
        go_simp
        refine (octet_Put r1 (putL 2 x.2.1) 2 x.2.2 _ HR1.out (by rw [putL_len]; omega)).mono ?_; rintro e wb ⟨r2, rfl, hr2, hbb⟩; rw [hn8] at hr2; have HOb := Lib.hid (owns_below HOa.out hbb); have HR2 := Lib.hid (owns_bytes (L := putL 2 x.2.1 ++ putL 2 x.2.2) hr2 (by simp [putL_len])); clear hr2
        go_wp2_with fail
        refine hK.out _ _ ?_ (fun hHeld => ?_)
        · (try dsimp only); exact ⟨hHeld.1.trans (hbb.mono hHeld.1.size), hHeld.2.1.keep hHeld.2.2 hbb, Nat.lt_of_lt_of_le hHeld.2.2 hbb.size⟩
        clear hK K
        try simp only [Act.put, List.setIfInBounds_toArray, List.set_cons_zero, List.set_cons_succ]
        refine wpAnyH_ready (rs := [7]) (by kernel_rfl) (by simp) ?_
        refine AllReadyH.cons (o := { dst := some 33, op := Op.call { callee := Callee.builtin Builtin.append, args := #[Operand.tmp 26, Operand.tmp 32], argTypes := #[28, 28] }, type := 28, pos := _, after := #[{ on := 0, ground := Ground.data }, { on := 6, ground := Ground.data }, { on := 6, ground := Ground.chain }], guard := none }) rfl (fun K hK => ?_) AllReadyH.nil
        refine wp_append_row1 (.tmp 26) (.tmp 32) 28 rfl w.heap.size 5 i (.int .u8 0) 1 Tryd.underlying28 hi hz hsize hby rfl _ (E.length + 1) _ rfl HOb.out _ (putL 2 x.2.1 ++ putL 2 x.2.2).length (byteV (putL 2 x.2.1 ++ putL 2 x.2.2)) rfl HR2.out (by simp [putL_len]) (fun _ _ => rfl) (by unfold maxLen; simp only [List.length_append, putL_len]; omega) (by simp only [List.length_append, putL_len]; omega) (by exact hHeld.1.size) ?_; intro v3 w3 hO3 hG3; have HO3 := Lib.hid hO3; have hB3 := below_grownV hHeld.1 hHeld.1.size HOb.out hG3; clear hO3
        refine hK.out _ _ ?_ (fun hHeld => ?_)
        · (try dsimp only); exact ⟨hB3, ⟨(grown_cell hG3 hne hHeld.2.2).trans hHeld.2.1.1, (grown_cell hG3 hne hHeld.2.2).trans hHeld.2.1.2.1, (grown_cell hG3 hne hHeld.2.2).trans hHeld.2.1.2.2⟩, Nat.lt_of_lt_of_le hHeld.2.2 hG3.size⟩
        clear hK K
        try simp only [Act.put, List.setIfInBounds_toArray, List.set_cons_zero, List.set_cons_succ]
        refine wpAnyH_take (i := 8) (oi := { dst := some 4, op := Op.assign (Operand.tmp 33), type := 28, pos := _, after := #[{ on := 7, ground := Ground.data }, { on := 7, ground := Ground.chain }, { on := 0, ground := Ground.phase }, { on := 1, ground := Ground.phase }, { on := 2, ground := Ground.phase }, { on := 3, ground := Ground.phase }, { on := 4, ground := Ground.phase }, { on := 5, ground := Ground.phase }, { on := 6, ground := Ground.phase }, { on := 7, ground := Ground.phase }], guard := none }) (v := ?_) rfl (by kernel_rfl) (by kernel_rfl) (by kernel_rfl) (fun _ _ _ h => h) (Or.inl ⟨by rfl, ?_⟩) (by assumption) ?_
        rotate_left
        · intro w hSw; (try dsimp only at hSw); first | (go_simp; done) | (go_simp; with_reducible rfl)
        try simp only [Act.put, List.setIfInBounds_toArray, List.set_cons_zero, List.set_cons_succ]
        refine wpAnyH_done (by kernel_rfl) ?_ _
        go_wp2_with fail
        go_roundw
        case rel => exact ⟨k + 1, by omega, by simp, Lib.hid (by rw [hts.out, List.all_append, hall.out]; simp [hr]), Lib.hid (own_eq HO3.out (by rw [hts.out, enc_snoc, HE.out]; simp [encI, putL_len]; try omega) (by
          rw [hts.out, enc_snoc, HE.out, map_bytesV]; exact enc_val E x i0)), hB3⟩
        case measure => first | (simp [intOf]; done) | (simp [intOf]; omega)
    · obtain rfl : k = N := by omega
      have htk : L.take k = L := by rw [← hN, List.take_length]
      have h1 := hall.out
      have h2 := hO.out
      rw [htk] at h1 h2
      have h3 := Lib.hid (HY.out h1)
      have h4 := Lib.hid h2
      have h5 := Lib.hid h1
      clear hall hO h1 h2
      go_wp2_with fail
      go_returns
      refine ⟨_, by rw [h5.out]; rfl, ?_, hB⟩
      rw [h3.out]
      exact RowAt.owns h4.out (fun i hi => byteV_at hi)
end Go.Proofs.YtpeogdbfhfkngaaDoor

/- '==' between two instructions. -/
namespace Go.Proofs.YtpeogdbfhfkngaaDoor
open Go.RowKit
set_option linter.unusedSimpArgs false
set_option linter.unusedVariables false
theorem eq_instr (w : World) (a b c d f g : Int) : (binOp .eql 40 (.agg #[.int .i64 a, .int .i64 b, .int .i64 c]) (.agg #[.int .i64 d, .int .i64 f, .int .i64 g])).run Tryd.prog w = .ok (.bool ((a == d) && (b == f) && (c == g))) w := by
  have hs : Tryd.prog.stoodInHeld 40 = false := by kernel_rfl
  have hu : Tryd.prog.underlying 40 = some (.struct (Tryd.prog.fieldsOf 40)) := by kernel_rfl
  rw [run_eql_struct, run_equalIn_agg (d := 9999) (ht := hu) (hp := hs)]
  obtain ⟨f0, f1, f2, hfs, hn0, ht0, ho0, hn1, ht1, ho1, hn2, ht2, ho2⟩ : ∃ f0 f1 f2, (Tryd.prog.fieldsOf 40).toList = [f0, f1, f2] ∧ f0.name ≠ "_" ∧ f0.type = 3 ∧ f0.offset = 0 ∧ f1.name ≠ "_" ∧ f1.type = 3 ∧ f1.offset = 1 ∧ f2.name ≠ "_" ∧ f2.type = 3 ∧ f2.offset = 2 :=
    ⟨(Tryd.prog.fieldsOf 40)[0]!, (Tryd.prog.fieldsOf 40)[1]!, (Tryd.prog.fieldsOf 40)[2]!, by kernel_rfl, of_decide_eq_true (by kernel_rfl), by kernel_rfl, by kernel_rfl, of_decide_eq_true (by kernel_rfl), by kernel_rfl, by kernel_rfl, of_decide_eq_true (by kernel_rfl), by kernel_rfl, by kernel_rfl⟩
  rw [hfs]
  have hp : ∀ (xs : Array Value) (i : Nat) (z : Int), xs[i]? = some (.int .i64 z) → (part 3 xs i).run Tryd.prog w = .ok (.int .i64 z) w := fun xs i z hz => by
    simp [part, isAgg, run_underlying Tryd.underlying3, hz]
  have p0 : ∀ x y z : Int, (part 3 #[.int .i64 x, .int .i64 y, .int .i64 z] 0).run Tryd.prog w = .ok (.int .i64 x) w := fun x y z => hp _ 0 x rfl
  have p1 : ∀ x y z : Int, (part 3 #[.int .i64 x, .int .i64 y, .int .i64 z] 1).run Tryd.prog w = .ok (.int .i64 y) w := fun x y z => hp _ 1 y rfl
  have p2 : ∀ x y z : Int, (part 3 #[.int .i64 x, .int .i64 y, .int .i64 z] 2).run Tryd.prog w = .ok (.int .i64 z) w := fun x y z => hp _ 2 z rfl
  have e1 : ∀ x y : Int, (Op.equalIn 9999 3 (.int .i64 x) (.int .i64 y)).run Tryd.prog w = .ok (x == y) w := fun x y => run_equalIn_int (P := Tryd.prog) w 9998 3 .i64 .i64 x y Tryd.underlying3
  simp only [Op.eqFields, hn0, ht0, ho0, hn1, ht1, ho1, hn2, ht2, ho2, Sem.run_bind, ne_eq, not_false_eq_true, if_true, Result.andThen_ok, p0, p1, p2, e1]
  by_cases h1 : a = d <;> by_cases h2 : b = f <;> by_cases h3 : c = g <;> simp [h1, h2, h3, p0, p1, p2, e1, Result.andThen]
end Go.Proofs.YtpeogdbfhfkngaaDoor

/- Layer 12: the answer's Right. -/
namespace Go.Proofs.YtpeogdbfhfkngaaDoor
open Go.RowKit
set_option linter.unusedSimpArgs false
set_option linter.unusedVariables false
set_option maxHeartbeats 2000000 in
theorem ref12_Right (o a b : Int) (w : World) : Calls Tryd.prog 42 #[.agg #[.int .i64 o, .int .i64 a, .int .i64 b]] w fun e w' => e = .returned (.bool (oRight o a b)) ∧ Below w.heap.size w w' := by
  have mc := @more_cell
  have HR := Lib.hid (show oRight o a b = (oIs o && oFit (oA o) a && oFit (oB o) b) from rfl)
  have HY := Lib.hid (@oIs_yes o)
  have HN := Lib.hid (@oIs_no o)
  have hS := @ref12_Shape o
  have hA := @ref12_may a (oA o)
  have hB := @ref12_may b (oB o)
  generalize oA o = x at *
  generalize oB o = y at *
  generalize oFit x a = p at *
  generalize oFit y b = q at *
  by_cases h0 : 0 ≤ o
  · by_cases h1 : o ≤ 37
    · have hi := Lib.hid (HY.out ⟨h0, h1⟩)
      cases p <;> cases q
      all_goals
        go_enter Tryd.func42, Tryd.ntmps42
        go_wp2_with fail
        refine (hS _).mono ?_; rintro e w1 ⟨rfl, hb⟩
        obtain ⟨l, d, rfl⟩ := more_of hb
        clear hb
        go_wp2_with fail
        try (refine (hA _).mono ?_; rintro e w' ⟨rfl, rfl⟩; go_wp2_with fail)
        try (refine (hB _).mono ?_; rintro e w' ⟨rfl, rfl⟩; go_wp2_with fail)
        go_ret
        exact ⟨by rw [HR.out, hi.out]; rfl, by (repeat' (first | (with_reducible exact Below.refl _ _) | (with_reducible assumption) | (with_reducible refine more_below ?_ ?_ _ _) | (with_reducible refine below_drewN ?_ _) | (with_reducible refine Below.alloc ?_ ?_ _) | (with_reducible refine Below.drew ?_) | (with_reducible refine Below.setCell ?_ ?_ _) | (simp only [World.size_alloc, World.size_setCell, World.size_drew, more_size, World.heap_drewN]; omega) | go_size))⟩
    · have hi := Lib.hid (HN.out (fun h => h1 h.2))
      go_enter Tryd.func42, Tryd.ntmps42
      go_wp2_with fail
      refine (hS _).mono ?_; rintro e w1 ⟨rfl, hb⟩
      obtain ⟨l, d, rfl⟩ := more_of hb
      clear hb
      go_wp2_with fail
      go_ret
      exact ⟨by rw [HR.out, hi.out]; rfl, by (repeat' (first | (with_reducible exact Below.refl _ _) | (with_reducible assumption) | (with_reducible refine more_below ?_ ?_ _ _) | (with_reducible refine below_drewN ?_ _) | (with_reducible refine Below.alloc ?_ ?_ _) | (with_reducible refine Below.drew ?_) | (with_reducible refine Below.setCell ?_ ?_ _) | (simp only [World.size_alloc, World.size_setCell, World.size_drew, more_size, World.heap_drewN]; omega) | go_size))⟩
  · have hi := Lib.hid (HN.out (fun h => h0 h.1))
    go_enter Tryd.func42, Tryd.ntmps42
    go_wp2_with fail
    refine (hS _).mono ?_; rintro e w1 ⟨rfl, hb⟩
    obtain ⟨l, d, rfl⟩ := more_of hb
    clear hb
    go_wp2_with fail
    go_ret
    exact ⟨by rw [HR.out, hi.out]; rfl, by (repeat' (first | (with_reducible exact Below.refl _ _) | (with_reducible assumption) | (with_reducible refine more_below ?_ ?_ _ _) | (with_reducible refine below_drewN ?_ _) | (with_reducible refine Below.alloc ?_ ?_ _) | (with_reducible refine Below.drew ?_) | (with_reducible refine Below.setCell ?_ ?_ _) | (simp only [World.size_alloc, World.size_setCell, World.size_drew, more_size, World.heap_drewN]; omega) | go_size))⟩
end Go.Proofs.YtpeogdbfhfkngaaDoor

/- Layer 13: the same instructions; Encode of the answer. -/
namespace Go.Proofs.YtpeogdbfhfkngaaDoor
open Go.RowKit
set_option linter.unusedSimpArgs false
set_option linter.unusedVariables false
theorem neq_instr (w : World) (a b c d f g : Int) : (binOp .neq 40 (.agg #[.int .i64 a, .int .i64 b, .int .i64 c]) (.agg #[.int .i64 d, .int .i64 f, .int .i64 g])).run Tryd.prog w = .ok (.bool (!((a == d) && (b == f) && (c == g)))) w := by
  have h := eq_instr w a b c d f g
  rw [run_eql_struct] at h
  rw [run_neq_struct]
  cases hh : (Op.equalIn 10000 40 (.agg #[.int .i64 a, .int .i64 b, .int .i64 c]) (.agg #[.int .i64 d, .int .i64 f, .int .i64 g])).run Tryd.prog w with
  | ok v w' => rw [hh] at h; simp [Result.andThen] at h ⊢; obtain ⟨h1, h2⟩ := h; exact ⟨by rw [h1], h2⟩
  | halt r w' => rw [hh] at h; simp [Result.andThen] at h
theorem ins_eq {x y : Ins} : ((x.1 == y.1) && (x.2.1 == y.2.1) && (x.2.2 == y.2.2)) = decide (x = y) := by
  obtain ⟨a, b, c⟩ := x
  obtain ⟨d, f, g⟩ := y
  by_cases h1 : a = d <;> by_cases h2 : b = f <;> by_cases h3 : c = g <;> simp [h1, h2, h3]
set_option maxHeartbeats 2000000 in
theorem ref13_Same (v u : Value) (L M : List Ins) (w : World) (hv : RowR 3 insR w v L) (hu : RowR 3 insR w u M) (hL : L.length ≤ 1000000000) :
    Calls Tryd.prog 30 #[v, u] w fun e w' => e = .returned (.bool (decide (L = M))) ∧ ∃ m, w' = w.drewN m := by
  obtain ⟨sa, ca, rfl⟩ := ins_get hv
  obtain ⟨sb, cb, rfl⟩ := ins_get hu
  have hneq := neq_instr
  by_cases hlen : L.length = M.length
  · have hb : (((L.length : Nat) : Int) != ((M.length : Nat) : Int)) = false := by rw [hlen]; simp
    have HY := Lib.hid (fun h : L = M => (decide_eq_true h : decide (L = M) = true))
    have HN := Lib.hid (fun h : ¬ L = M => (decide_eq_false h : decide (L = M) = false))
    obtain ⟨N, hN⟩ : ∃ N, L.length = N := ⟨_, rfl⟩
    have hM : M.length = N := hlen.symm.trans hN
    rw [hN] at hv hL
    rw [hM] at hu
    rw [hN, hM] at hb
    rw [hN, hM]
    clear hlen
    go_enter Tryd.func30, Tryd.ntmps30
    go_wp2_with fail
    go_loopw [5] (fun j wr => ∃ k m : Nat, k ≤ N ∧ j = .int .i64 k ∧ Hid (L.take k = M.take k) ∧ wr = w.drewN m) (fun j _ => N - (intOf j).toNat)
    case atStart => exact ⟨0, 0, by omega, rfl, Lib.hid (by simp), rfl⟩
    case round =>
      obtain ⟨k, m, hk, rfl, heq, rfl⟩ := hrel
      by_cases hlt : k < N
      · obtain ⟨b, off, rfl, hbw, hc⟩ := ins_at hv (k := k) (by omega)
        obtain ⟨b2, off2, rfl, hbw2, hd⟩ := ins_at hu (k := k) (by omega)
        obtain ⟨x, hx⟩ : ∃ x, L[k]? = some x := ⟨L[k]'(by omega), by simp [hN, hlt]⟩
        obtain ⟨y, hy⟩ : ∃ y, M[k]? = some y := ⟨M[k]'(by omega), by simp [hlt, hM]⟩
        obtain ⟨c0, c1, c2, _⟩ := hc k x hx
        obtain ⟨d0, d1, d2, _⟩ := hd k y hy
        have hix := ins_eq (x := x) (y := y)
        clear hc hd
        by_cases hxy : x = y
        · have hq := decide_eq_true hxy
          have hs := Lib.hid (show L.take (k + 1) = M.take (k + 1) by rw [take_snoc hx, take_snoc hy, heq.out, hxy])
          rw [hq] at hix
          clear hxy hx hy hq heq
          go_wp2_with fail
          go_quiet (fail)
          go_wp2_with fail
          go_roundw
          case rel => exact ⟨k + 1, _, by omega, by simp, hs, rfl⟩
          case measure => first | (simp [intOf]; done) | (simp [intOf]; omega)
        · have hq := decide_eq_false hxy
          have hs := Lib.hid (HN.out (fun h => hxy (by rw [h, hy] at hx; exact (Option.some.inj hx).symm)))
          rw [hq] at hix
          clear hxy hx hy hq heq
          go_wp2_with fail
          go_quiet (fail)
          go_wp2_with fail
          go_ret
          exact ⟨by rw [hs.out]; rfl, _, World.drewN_drewN _ _ _⟩
      · obtain rfl : k = N := by omega
        have hs := Lib.hid (HY.out (by have := heq.out; rw [List.take_of_length_le (by omega), List.take_of_length_le (by omega)] at this; exact this))
        clear heq
        go_wp2_with fail
        go_ret
        exact ⟨by rw [hs.out]; rfl, _, rfl⟩
  · have hb : (((L.length : Nat) : Int) != ((M.length : Nat) : Int)) = true := by simp; omega
    have hs := Lib.hid (show decide (L = M) = false from decide_eq_false (fun h => hlen (by rw [h])))
    clear hlen
    go_enter Tryd.func30, Tryd.ntmps30
    go_wp2_with fail
    go_ret
    exact ⟨by rw [hs.out]; rfl, 0, rfl⟩
theorem encI_put (E : List UInt8) (x : Ins) : E ++ putL 1 x.1 ++ putL 2 x.2.1 ++ putL 2 x.2.2 = E ++ encI x := by
  simp [encI, putL, List.range_succ]
set_option maxHeartbeats 4000000 in
theorem ref13_Encode (v : Value) (L : List Ins) (w : World) (hv : RowR 3 insR w v L) (hn : L.length ≤ 1000) :
    Calls Tryd.prog 25 #[v] w fun e w' => ∃ r, e = .returned (.tuple #[r, .bool (L.all rI)]) ∧ RowAt w' r (encO L).length (byteV (encO L)) ∧ Below w.heap.size w w' := by
  obtain ⟨sa, cap, rfl⟩ := ins_get hv
  have HY := Lib.hid (encO_yes (L := L))
  have HN := Lib.hid (encO_no (L := L))
  have hn1 : (near8 1).toNat = 1 := by decide
  have hn2 : (near8 2).toNat = 2 := by decide
  generalize hN : L.length = N at *
  go_enter Tryd.func25, Tryd.ntmps25
  go_wp2_with fail
  go_loopw [4, 5] (fun o j wr => ∃ k : Nat, k ≤ N ∧ j = .int .i64 k ∧ Hid ((L.take k).all rI = true) ∧ Hid (RowAt wr o (enc (L.take k)).length (byteV (enc (L.take k)))) ∧ Below w.heap.size w wr) (fun _ j _ => N - (intOf j).toNat)
  case atStart => exact ⟨0, by omega, rfl, Lib.hid (by simp), Lib.hid (Or.inl ⟨none, 0, rfl, rfl, fun _ => rfl⟩), Below.refl _ _⟩
  case round =>
    obtain ⟨k, hk, rfl, hall, hO, hB⟩ := hrel
    have hz' := hB.size
    by_cases hlt : k < N
    · obtain ⟨b, off, rfl, hbw, hc⟩ := ins_at hv (k := k) (by omega)
      obtain ⟨x, hx⟩ : ∃ x, L[k]? = some x := ⟨L[k]'(by omega), by simp [hN, hlt]⟩
      obtain ⟨c0, c1, c2, w0, w1, w2⟩ := hc k x hx
      have c0 := (hB.cell (p := ⟨b, off + k * 3, none⟩) hbw).trans c0
      have c1 := (hB.cell (p := ⟨b, off + k * 3 + 1, none⟩) hbw).trans c1
      have c2 := (hB.cell (p := ⟨b, off + k * 3 + 2, none⟩) hbw).trans c2
      have hlen : (enc (L.take k)).length = 5 * k := by rw [enc_len, List.length_take, hN]; rw [Nat.min_eq_left (by omega)]
      have hts := Lib.hid (take_snoc hx)
      have hR := ref12_Right x.1 x.2.1 x.2.2
      have hno := Lib.hid (all_take_no hx)
      have hxr : oRight x.1 x.2.1 x.2.2 = rI x := rfl
      rw [hxr] at hR
      clear hc hxr
      cases hr : rI x
      · have hal := hno.out hr
        have hen := Lib.hid (HN.out hal)
        have HAL := Lib.hid hal
        rw [hr] at hR
        clear hal hall hO hts hx
        go_wp2_with fail
        refine (hR _).mono ?_; rintro e W1 ⟨rfl, hb1⟩
        have hB1 : Below w.heap.size w W1 := Below.trans hB (hb1.mono hz')
        go_wp2_with fail
        go_returns
        exact ⟨.slice none 0 0, by rw [HAL.out]; rfl, by rw [hen.out]; exact Or.inl ⟨none, 0, rfl, rfl, fun _ => rfl⟩, hB1⟩
      · rw [hr] at hR
        clear hx
        generalize hee : enc (L.take k) = E at *
        have HE := Lib.hid hee
        clear hee
        go_wp2_with fail
        refine (hR _).mono ?_; rintro e W1 ⟨rfl, hb1⟩
        have hE1 := Lib.hid (hO.out.below hb1)
        have hB1 : Below w.heap.size w W1 := Below.trans hB (hb1.mono hz')
        have c0 := (hb1.cell (p := ⟨b, off + k * 3, none⟩) (Nat.lt_of_lt_of_le hbw hz')).trans c0
        have c1 := (hb1.cell (p := ⟨b, off + k * 3 + 1, none⟩) (Nat.lt_of_lt_of_le hbw hz')).trans c1
        have c2 := (hb1.cell (p := ⟨b, off + k * 3 + 2, none⟩) (Nat.lt_of_lt_of_le hbw hz')).trans c2
        clear hb1 hO
        go_wp2_with fail
        refine wp_region_held_drew (S := (fun w' => Below W1.heap.size W1 w')) (by kernel_rfl) ?_ (fun hHeld => ?_)
        · (try dsimp only); first | exact (Below.refl _ _).drew | exact hHeld.trans (hbz.mono hHeld.size) | (trace_state; fail)
        refine wpAnyH_take (i := 0) (oi := { dst := some 18, op := Op.move (Operand.tmp 4), type := 28, pos := _, after := #[], guard := none }) (v := ?_) rfl (by kernel_rfl) (by kernel_rfl) (by kernel_rfl) (fun _ _ _ h => h) (Or.inl ⟨by rfl, ?_⟩) (by assumption) ?_
        rotate_left
        · intro w hSw; (try dsimp only at hSw); first | (go_simp; done) | (go_simp; with_reducible rfl)
        try simp only [Act.put, List.setIfInBounds_toArray, List.set_cons_zero, List.set_cons_succ]
        refine wpAnyH_take (i := 1) (oi := { dst := some 19, op := Op.move (Operand.tmp 0), type := 23, pos := _, after := #[], guard := none }) (v := ?_) rfl (by kernel_rfl) (by kernel_rfl) (by kernel_rfl) (fun _ _ _ h => h) (Or.inl ⟨by rfl, ?_⟩) (by assumption) ?_
        rotate_left
        · intro w hSw; (try dsimp only at hSw); first | (go_simp; done) | (go_simp; with_reducible rfl)
        try simp only [Act.put, List.setIfInBounds_toArray, List.set_cons_zero, List.set_cons_succ]
        refine wpAnyH_take (i := 2) (oi := { dst := some 20, op := Op.move (Operand.tmp 5), type := 3, pos := _, after := #[], guard := none }) (v := ?_) rfl (by kernel_rfl) (by kernel_rfl) (by kernel_rfl) (fun _ _ _ h => h) (Or.inl ⟨by rfl, ?_⟩) (by assumption) ?_
        rotate_left
        · intro w hSw; (try dsimp only at hSw); first | (go_simp; done) | (go_simp; with_reducible rfl)
        try simp only [Act.put, List.setIfInBounds_toArray, List.set_cons_zero, List.set_cons_succ]
        refine wpAnyH_take (i := 3) (oi := { dst := some 21, op := Op.indexAddr 23 (Operand.tmp 19) (Operand.tmp 20), type := 0, pos := _, after := #[{ on := 1, ground := Ground.data }, { on := 2, ground := Ground.data }], guard := none }) (v := ?_) rfl (by kernel_rfl) (by kernel_rfl) (by kernel_rfl) (fun _ _ _ h => h) (Or.inl ⟨by rfl, ?_⟩) (by assumption) ?_
        rotate_left
        · intro w hSw; (try dsimp only at hSw); first | (go_simp; done) | (go_simp; with_reducible rfl)
        try simp only [Act.put, List.setIfInBounds_toArray, List.set_cons_zero, List.set_cons_succ]
        refine wpAnyH_take (i := 4) (oi := { dst := some 22, op := Op.fieldAddr 40 (Operand.tmp 21) 0, type := 0, pos := _, after := #[{ on := 3, ground := Ground.data }], guard := none }) (v := ?_) rfl (by kernel_rfl) (by kernel_rfl) (by kernel_rfl) (fun _ _ _ h => h) (Or.inl ⟨by rfl, ?_⟩) (by assumption) ?_
        rotate_left
        · intro w hSw; (try dsimp only at hSw); first | (go_simp; done) | (go_simp; with_reducible rfl)
        try simp only [Act.put, List.setIfInBounds_toArray, List.set_cons_zero, List.set_cons_succ]
        refine wpAnyH_take (i := 5) (oi := { dst := some 23, op := Op.load 3 (Operand.tmp 22), type := 3, pos := _, after := #[{ on := 4, ground := Ground.data }], guard := none }) (v := ?_) rfl (by kernel_rfl) (by kernel_rfl) (by kernel_rfl) (fun _ _ _ h => h) (Or.inl ⟨by rfl, ?_⟩) (by assumption) ?_
        rotate_left
        · intro wt hSw; (try dsimp only at hSw); have q0 := (hSw.cell (p := ⟨b, off + k * 3, none⟩) (Nat.lt_of_lt_of_le hbw hB1.size)).trans c0; have q1 := (hSw.cell (p := ⟨b, off + k * 3 + 1, none⟩) (Nat.lt_of_lt_of_le hbw hB1.size)).trans c1; have q2 := (hSw.cell (p := ⟨b, off + k * 3 + 2, none⟩) (Nat.lt_of_lt_of_le hbw hB1.size)).trans c2; first | (go_simp; done) | (go_simp; with_reducible rfl) | (trace_state; fail)
        try simp only [Act.put, List.setIfInBounds_toArray, List.set_cons_zero, List.set_cons_succ]
        refine wpAnyH_take (i := 7) (oi := { dst := some 25, op := Op.move (Operand.tmp 0), type := 23, pos := _, after := #[], guard := none }) (v := ?_) rfl (by kernel_rfl) (by kernel_rfl) (by kernel_rfl) (fun _ _ _ h => h) (Or.inl ⟨by rfl, ?_⟩) (by assumption) ?_
        rotate_left
        · intro w hSw; (try dsimp only at hSw); first | (go_simp; done) | (go_simp; with_reducible rfl)
        try simp only [Act.put, List.setIfInBounds_toArray, List.set_cons_zero, List.set_cons_succ]
        refine wpAnyH_take (i := 8) (oi := { dst := some 26, op := Op.move (Operand.tmp 5), type := 3, pos := _, after := #[], guard := none }) (v := ?_) rfl (by kernel_rfl) (by kernel_rfl) (by kernel_rfl) (fun _ _ _ h => h) (Or.inl ⟨by rfl, ?_⟩) (by assumption) ?_
        rotate_left
        · intro w hSw; (try dsimp only at hSw); first | (go_simp; done) | (go_simp; with_reducible rfl)
        try simp only [Act.put, List.setIfInBounds_toArray, List.set_cons_zero, List.set_cons_succ]
        refine wpAnyH_take (i := 9) (oi := { dst := some 27, op := Op.indexAddr 23 (Operand.tmp 25) (Operand.tmp 26), type := 0, pos := _, after := #[{ on := 7, ground := Ground.data }, { on := 8, ground := Ground.data }], guard := none }) (v := ?_) rfl (by kernel_rfl) (by kernel_rfl) (by kernel_rfl) (fun _ _ _ h => h) (Or.inl ⟨by rfl, ?_⟩) (by assumption) ?_
        rotate_left
        · intro w hSw; (try dsimp only at hSw); first | (go_simp; done) | (go_simp; with_reducible rfl)
        try simp only [Act.put, List.setIfInBounds_toArray, List.set_cons_zero, List.set_cons_succ]
        refine wpAnyH_take (i := 10) (oi := { dst := some 28, op := Op.fieldAddr 40 (Operand.tmp 27) 1, type := 0, pos := _, after := #[{ on := 9, ground := Ground.data }], guard := none }) (v := ?_) rfl (by kernel_rfl) (by kernel_rfl) (by kernel_rfl) (fun _ _ _ h => h) (Or.inl ⟨by rfl, ?_⟩) (by assumption) ?_
        rotate_left
        · intro w hSw; (try dsimp only at hSw); first | (go_simp; done) | (go_simp; with_reducible rfl)
        try simp only [Act.put, List.setIfInBounds_toArray, List.set_cons_zero, List.set_cons_succ]
        refine wpAnyH_take (i := 11) (oi := { dst := some 29, op := Op.load 3 (Operand.tmp 28), type := 3, pos := _, after := #[{ on := 10, ground := Ground.data }], guard := none }) (v := ?_) rfl (by kernel_rfl) (by kernel_rfl) (by kernel_rfl) (fun _ _ _ h => h) (Or.inl ⟨by rfl, ?_⟩) (by assumption) ?_
        rotate_left
        · intro wt hSw; (try dsimp only at hSw); have q0 := (hSw.cell (p := ⟨b, off + k * 3, none⟩) (Nat.lt_of_lt_of_le hbw hB1.size)).trans c0; have q1 := (hSw.cell (p := ⟨b, off + k * 3 + 1, none⟩) (Nat.lt_of_lt_of_le hbw hB1.size)).trans c1; have q2 := (hSw.cell (p := ⟨b, off + k * 3 + 2, none⟩) (Nat.lt_of_lt_of_le hbw hB1.size)).trans c2; first | (go_simp; done) | (go_simp; with_reducible rfl) | (trace_state; fail)
        try simp only [Act.put, List.setIfInBounds_toArray, List.set_cons_zero, List.set_cons_succ]
        refine wpAnyH_take (i := 13) (oi := { dst := some 31, op := Op.move (Operand.tmp 0), type := 23, pos := _, after := #[], guard := none }) (v := ?_) rfl (by kernel_rfl) (by kernel_rfl) (by kernel_rfl) (fun _ _ _ h => h) (Or.inl ⟨by rfl, ?_⟩) (by assumption) ?_
        rotate_left
        · intro w hSw; (try dsimp only at hSw); first | (go_simp; done) | (go_simp; with_reducible rfl)
        try simp only [Act.put, List.setIfInBounds_toArray, List.set_cons_zero, List.set_cons_succ]
        refine wpAnyH_take (i := 14) (oi := { dst := some 32, op := Op.move (Operand.tmp 5), type := 3, pos := _, after := #[], guard := none }) (v := ?_) rfl (by kernel_rfl) (by kernel_rfl) (by kernel_rfl) (fun _ _ _ h => h) (Or.inl ⟨by rfl, ?_⟩) (by assumption) ?_
        rotate_left
        · intro w hSw; (try dsimp only at hSw); first | (go_simp; done) | (go_simp; with_reducible rfl)
        try simp only [Act.put, List.setIfInBounds_toArray, List.set_cons_zero, List.set_cons_succ]
        refine wpAnyH_take (i := 15) (oi := { dst := some 33, op := Op.indexAddr 23 (Operand.tmp 31) (Operand.tmp 32), type := 0, pos := _, after := #[{ on := 13, ground := Ground.data }, { on := 14, ground := Ground.data }], guard := none }) (v := ?_) rfl (by kernel_rfl) (by kernel_rfl) (by kernel_rfl) (fun _ _ _ h => h) (Or.inl ⟨by rfl, ?_⟩) (by assumption) ?_
        rotate_left
        · intro w hSw; (try dsimp only at hSw); first | (go_simp; done) | (go_simp; with_reducible rfl)
        try simp only [Act.put, List.setIfInBounds_toArray, List.set_cons_zero, List.set_cons_succ]
        refine wpAnyH_take (i := 16) (oi := { dst := some 34, op := Op.fieldAddr 40 (Operand.tmp 33) 2, type := 0, pos := _, after := #[{ on := 15, ground := Ground.data }], guard := none }) (v := ?_) rfl (by kernel_rfl) (by kernel_rfl) (by kernel_rfl) (fun _ _ _ h => h) (Or.inl ⟨by rfl, ?_⟩) (by assumption) ?_
        rotate_left
        · intro w hSw; (try dsimp only at hSw); first | (go_simp; done) | (go_simp; with_reducible rfl)
        try simp only [Act.put, List.setIfInBounds_toArray, List.set_cons_zero, List.set_cons_succ]
        refine wpAnyH_take (i := 17) (oi := { dst := some 35, op := Op.load 3 (Operand.tmp 34), type := 3, pos := _, after := #[{ on := 16, ground := Ground.data }], guard := none }) (v := ?_) rfl (by kernel_rfl) (by kernel_rfl) (by kernel_rfl) (fun _ _ _ h => h) (Or.inl ⟨by rfl, ?_⟩) (by assumption) ?_
        rotate_left
        · intro wt hSw; (try dsimp only at hSw); have q0 := (hSw.cell (p := ⟨b, off + k * 3, none⟩) (Nat.lt_of_lt_of_le hbw hB1.size)).trans c0; have q1 := (hSw.cell (p := ⟨b, off + k * 3 + 1, none⟩) (Nat.lt_of_lt_of_le hbw hB1.size)).trans c1; have q2 := (hSw.cell (p := ⟨b, off + k * 3 + 2, none⟩) (Nat.lt_of_lt_of_le hbw hB1.size)).trans c2; first | (go_simp; done) | (go_simp; with_reducible rfl) | (trace_state; fail)
        try simp only [Act.put, List.setIfInBounds_toArray, List.set_cons_zero, List.set_cons_succ]
        refine wpAnyH_ready (rs := [6]) (by kernel_rfl) (by simp) ?_
        refine AllReadyH.cons (o := { dst := some 24, op := Op.call { callee := Callee.value (Operand.func 24), args := #[Operand.tmp 18, Operand.const (Value.int IntKind.i64 1), Operand.tmp 23], argTypes := #[28, 3, 3] }, type := 28, pos := _, after := #[{ on := 0, ground := Ground.data }, { on := 5, ground := Ground.data }], guard := none }) rfl (fun K hK => ?_) AllReadyH.nil
        go_simp
        refine (ref03_Put _ E 1 x.1 _ (hE1.out.below (by exact hHeld)) (by omega)).mono ?_; rintro e wz ⟨r1, rfl, hr1, hbz⟩; rw [hn1] at hr1; have HR1 := Lib.hid (owns_bytes (L := E ++ putL 1 x.1) hr1 (by simp [putL_len])); clear hr1
        go_wp2_with fail
        refine hK.out _ _ ?_ (fun hHeld => ?_)
        · (try dsimp only); first | exact (Below.refl _ _).drew | exact hHeld.trans (hbz.mono hHeld.size) | (trace_state; fail)
        clear hK K
        try simp only [Act.put, List.setIfInBounds_toArray, List.set_cons_zero, List.set_cons_succ]
        refine wpAnyH_ready (rs := [12]) (by kernel_rfl) (by simp) ?_
        refine AllReadyH.cons (o := { dst := some 30, op := Op.call { callee := Callee.value (Operand.func 24), args := #[Operand.tmp 24, Operand.const (Value.int IntKind.i64 2), Operand.tmp 29], argTypes := #[28, 3, 3] }, type := 28, pos := _, after := #[{ on := 6, ground := Ground.data }, { on := 11, ground := Ground.data }, { on := 6, ground := Ground.chain }], guard := none }) rfl (fun K hK => ?_) AllReadyH.nil
        go_simp
        refine (ref03_Put r1 (E ++ putL 1 x.1) 2 x.2.1 _ HR1.out (by simp [putL_len]; omega)).mono ?_; rintro e wz ⟨r2, rfl, hr2, hbz⟩; rw [hn2] at hr2; have HR2 := Lib.hid (owns_bytes (L := E ++ putL 1 x.1 ++ putL 2 x.2.1) hr2 (by simp [putL_len]; try omega)); clear hr2
        go_wp2_with fail
        refine hK.out _ _ ?_ (fun hHeld => ?_)
        · (try dsimp only); first | exact (Below.refl _ _).drew | exact hHeld.trans (hbz.mono hHeld.size) | (trace_state; fail)
        clear hK K
        try simp only [Act.put, List.setIfInBounds_toArray, List.set_cons_zero, List.set_cons_succ]
        refine wpAnyH_ready (rs := [18]) (by kernel_rfl) (by simp) ?_
        refine AllReadyH.cons (o := { dst := some 36, op := Op.call { callee := Callee.value (Operand.func 24), args := #[Operand.tmp 30, Operand.const (Value.int IntKind.i64 2), Operand.tmp 35], argTypes := #[28, 3, 3] }, type := 28, pos := _, after := #[{ on := 12, ground := Ground.data }, { on := 17, ground := Ground.data }, { on := 12, ground := Ground.chain }], guard := none }) rfl (fun K hK => ?_) AllReadyH.nil
        go_simp
        refine (ref03_Put r2 (E ++ putL 1 x.1 ++ putL 2 x.2.1) 2 x.2.2 _ HR2.out (by simp [putL_len]; omega)).mono ?_; rintro e wz ⟨r3, rfl, hr3, hbz⟩; rw [hn2] at hr3; have HR3 := Lib.hid (owns_bytes (L := E ++ putL 1 x.1 ++ putL 2 x.2.1 ++ putL 2 x.2.2) hr3 (by simp [putL_len]; try omega)); clear hr3
        go_wp2_with fail
        refine hK.out _ _ ?_ (fun hHeld => ?_)
        · (try dsimp only); first | exact (Below.refl _ _).drew | exact hHeld.trans (hbz.mono hHeld.size) | (trace_state; fail)
        clear hK K
        try simp only [Act.put, List.setIfInBounds_toArray, List.set_cons_zero, List.set_cons_succ]
        refine wpAnyH_take (i := 19) (oi := { dst := some 4, op := Op.assign (Operand.tmp 36), type := 28, pos := _, after := #[{ on := 18, ground := Ground.data }, { on := 18, ground := Ground.chain }, { on := 0, ground := Ground.phase }, { on := 1, ground := Ground.phase }, { on := 2, ground := Ground.phase }, { on := 3, ground := Ground.phase }, { on := 4, ground := Ground.phase }, { on := 5, ground := Ground.phase }, { on := 6, ground := Ground.phase }, { on := 7, ground := Ground.phase }, { on := 8, ground := Ground.phase }, { on := 9, ground := Ground.phase }, { on := 10, ground := Ground.phase }, { on := 11, ground := Ground.phase }, { on := 12, ground := Ground.phase }, { on := 13, ground := Ground.phase }, { on := 14, ground := Ground.phase }, { on := 15, ground := Ground.phase }, { on := 16, ground := Ground.phase }, { on := 17, ground := Ground.phase }, { on := 18, ground := Ground.phase }], guard := none }) (v := ?_) rfl (by kernel_rfl) (by kernel_rfl) (by kernel_rfl) (fun _ _ _ h => h) (Or.inl ⟨by rfl, ?_⟩) (by assumption) ?_
        rotate_left
        · intro w hSw; (try dsimp only at hSw); first | (go_simp; done) | (go_simp; with_reducible rfl)
        try simp only [Act.put, List.setIfInBounds_toArray, List.set_cons_zero, List.set_cons_succ]
        refine wpAnyH_done (by kernel_rfl) ?_ _
        go_wp2_with fail
        go_roundw
        case rel => exact ⟨k + 1, by omega, by simp, Lib.hid (by rw [hts.out, List.all_append, hall.out]; simp [hr]), Lib.hid (by rw [hts.out, enc_snoc, HE.out, ← encI_put]; exact HR3.out), hB1.trans (hHeld.mono hB1.size)⟩
        case measure => first | (simp [intOf]; done) | (simp [intOf]; omega)
    · obtain rfl : k = N := by omega
      have htk : L.take k = L := by rw [← hN, List.take_length]
      have h1 := hall.out
      have h2 := hO.out
      rw [htk] at h1 h2
      have h3 := Lib.hid (HY.out h1)
      have h4 := Lib.hid h2
      have h5 := Lib.hid h1
      clear hall hO h1 h2
      go_wp2_with fail
      go_returns
      refine ⟨_, by rw [h5.out]; rfl, ?_, hB⟩
      rw [h3.out]
      exact h4.out
end Go.Proofs.YtpeogdbfhfkngaaDoor

/- Layer 13: an instruction of five bytes. -/
namespace Go.Proofs.YtpeogdbfhfkngaaDoor
open Go.RowKit
set_option linter.unusedSimpArgs false
set_option linter.unusedVariables false
theorem or_lo (c d : UInt8) : bits .or .i64 (c.toNat : Int) ((d.toNat : Int) * 256) = (c.toNat : Int) + 256 * d.toNat := by
  have hc := c.toNat_lt
  have hd := d.toNat_lt
  have e : (d.toNat : Int) * 256 = ((d.toNat * 256 : Nat) : Int) := by omega
  rw [e]
  show IntKind.i64.wrap ((BitVec.ofInt 64 (c.toNat : Int) ||| BitVec.ofInt 64 ((d.toNat * 256 : Nat) : Int)).toNat : Int) = _
  rw [BitVec.toNat_or, ofInt_u64 _ (by omega), ofInt_u64 _ (by omega), Nat.or_comm, Nat.mul_comm, show (256 : Nat) = 2 ^ 8 by rfl, ← Nat.two_pow_add_eq_or_of_lt (by simpa using hc), IntWalk.i64_in _ (by omega)]
  omega
theorem op_RealS (n : Int) (w : World) : Calls Tryd.prog 60 #[.int .i64 n] w fun e w' => e = .returned (.bool (oReal n)) ∧ w = w' := by
  by_cases h1 : 48 ≤ n
  · by_cases h2 : n ≤ 55
    · have h : oReal n = true := decide_eq_true ⟨h1, h2⟩
      go_enter Tryd.func60, Tryd.ntmps60
      go_wp2
      go_ret
      exact ⟨by first | rfl | (rw [h]; rfl), rfl⟩
    · have h : oReal n = false := decide_eq_false (by omega)
      go_enter Tryd.func60, Tryd.ntmps60
      go_wp2
      go_ret
      exact ⟨by first | rfl | (rw [h]; rfl), rfl⟩
  · have h : oReal n = false := decide_eq_false (by omega)
    go_enter Tryd.func60, Tryd.ntmps60
    go_wp2
    go_ret
    exact ⟨by first | rfl | (rw [h]; rfl), rfl⟩
def errI (x : Ins) : Int := if oReal x.1 then 6 else if rI x then 0 else 7
def insZ (x : Ins) : Ins := if errI x = 0 then x else (0, 0, 0)
set_option maxHeartbeats 4000000 in
theorem code_one (b off cap : Nat) (c0 c1 c2 c3 c4 : UInt8) (w : World) (hT : STab w) (hb : b < w.heap.size)
    (h0 : w.cell? ⟨b, off, none⟩ = some (.int .u8 c0.toNat)) (h1 : w.cell? ⟨b, off + 1, none⟩ = some (.int .u8 c1.toNat)) (h2 : w.cell? ⟨b, off + 2, none⟩ = some (.int .u8 c2.toNat)) (h3 : w.cell? ⟨b, off + 3, none⟩ = some (.int .u8 c3.toNat)) (h4 : w.cell? ⟨b, off + 4, none⟩ = some (.int .u8 c4.toNat))
    (x : Ins) (hx : x = ((c0.toNat : Int), (c1.toNat : Int) + 256 * c2.toNat, (c3.toNat : Int) + 256 * c4.toNat)) :
    Calls Tryd.prog 59 #[.slice (some ⟨b, off, none⟩) 5 cap] w fun e w' => e = .returned (.tuple #[.agg #[.int .i64 (insZ x).1, .int .i64 (insZ x).2.1, .int .i64 (insZ x).2.2], .int .i64 (errI x)]) ∧ Below w.heap.size w w' := by
  go_enter Tryd.func59, Tryd.ntmps59
  go_wp2_with fail
  have o1 := or_lo c1 c2
  have o2 := or_lo c3 c4
  have b1 := c1.toNat_lt
  have b2 := c2.toNat_lt
  have b3 := c3.toNat_lt
  have b4 := c4.toNat_lt
  refine wp_region_held_drew (S := (fun w' => Below (w.alloc (.cells #[.int .i64 0, .int .i64 0, .int .i64 0] 40)).heap.size (w.alloc (.cells #[.int .i64 0, .int .i64 0, .int .i64 0] 40)) w')) (by kernel_rfl) ?_ (fun hHeld => ?_)
  · (try dsimp only); first | exact (Below.refl _ _).drew | exact (by (repeat' (first | (with_reducible exact Below.refl _ _) | (with_reducible assumption) | (with_reducible refine below_drewN ?_ _) | (with_reducible refine Below.alloc ?_ ?_ _) | (with_reducible refine Below.drew ?_) | (with_reducible refine Below.setCell ?_ ?_ _) | go_size))) | (trace_state; fail)
  refine wpAnyH_take (i := 0) (oi := { dst := some 5, op := Op.move (Operand.tmp 0), type := 28, pos := _, after := #[], guard := none }) (v := ?_) rfl (by kernel_rfl) (by kernel_rfl) (by kernel_rfl) (fun _ _ _ h => h) (Or.inl ⟨by rfl, ?_⟩) (by assumption) ?_
  rotate_left
  · intro w hSw; (try dsimp only at hSw); first | (go_simp; done) | (go_simp; with_reducible rfl)
  try simp only [Act.put, List.setIfInBounds_toArray, List.set_cons_zero, List.set_cons_succ]
  refine wpAnyH_take (i := 1) (oi := { dst := some 6, op := Op.indexAddr 28 (Operand.tmp 5) (Operand.const (Value.int IntKind.i64 0)), type := 0, pos := _, after := #[{ on := 0, ground := Ground.data }], guard := none }) (v := ?_) rfl (by kernel_rfl) (by kernel_rfl) (by kernel_rfl) (fun _ _ _ h => h) (Or.inl ⟨by rfl, ?_⟩) (by assumption) ?_
  rotate_left
  · intro w hSw; (try dsimp only at hSw); first | (go_simp; done) | (go_simp; with_reducible rfl)
  try simp only [Act.put, List.setIfInBounds_toArray, List.set_cons_zero, List.set_cons_succ]
  refine wpAnyH_take (i := 2) (oi := { dst := some 7, op := Op.load 5 (Operand.tmp 6), type := 5, pos := _, after := #[{ on := 1, ground := Ground.data }], guard := none }) (v := ?_) rfl (by kernel_rfl) (by kernel_rfl) (by kernel_rfl) (fun _ _ _ h => h) (Or.inl ⟨by rfl, ?_⟩) (by assumption) ?_
  rotate_left
  · intro wt hSw; (try dsimp only at hSw); have q0 := ((Below.trans (by (repeat' (first | (with_reducible exact Below.refl _ _) | (with_reducible assumption) | (with_reducible refine below_drewN ?_ _) | (with_reducible refine Below.alloc ?_ ?_ _) | (with_reducible refine Below.drew ?_) | (with_reducible refine Below.setCell ?_ ?_ _) | go_size))) (hSw.mono (by simp))).cell (p := ⟨b, off, none⟩) hb).trans h0; first | (go_simp; done) | (go_simp; with_reducible rfl) | (trace_state; fail)
  try simp only [Act.put, List.setIfInBounds_toArray, List.set_cons_zero, List.set_cons_succ]
  refine wpAnyH_take (i := 3) (oi := { dst := some 8, op := Op.convert 5 3 (Operand.tmp 7), type := 3, pos := _, after := #[{ on := 2, ground := Ground.data }], guard := none }) (v := ?_) rfl (by kernel_rfl) (by kernel_rfl) (by kernel_rfl) (fun _ _ _ h => h) (Or.inl ⟨by rfl, ?_⟩) (by assumption) ?_
  rotate_left
  · intro w hSw; (try dsimp only at hSw); first | (go_simp; done) | (go_simp; with_reducible rfl)
  try simp only [Act.put, List.setIfInBounds_toArray, List.set_cons_zero, List.set_cons_succ]
  refine wpAnyH_take (i := 4) (oi := { dst := some 9, op := Op.move (Operand.tmp 0), type := 28, pos := _, after := #[], guard := none }) (v := ?_) rfl (by kernel_rfl) (by kernel_rfl) (by kernel_rfl) (fun _ _ _ h => h) (Or.inl ⟨by rfl, ?_⟩) (by assumption) ?_
  rotate_left
  · intro w hSw; (try dsimp only at hSw); first | (go_simp; done) | (go_simp; with_reducible rfl)
  try simp only [Act.put, List.setIfInBounds_toArray, List.set_cons_zero, List.set_cons_succ]
  refine wpAnyH_take (i := 5) (oi := { dst := some 10, op := Op.indexAddr 28 (Operand.tmp 9) (Operand.const (Value.int IntKind.i64 1)), type := 0, pos := _, after := #[{ on := 4, ground := Ground.data }], guard := none }) (v := ?_) rfl (by kernel_rfl) (by kernel_rfl) (by kernel_rfl) (fun _ _ _ h => h) (Or.inl ⟨by rfl, ?_⟩) (by assumption) ?_
  rotate_left
  · intro w hSw; (try dsimp only at hSw); first | (go_simp; done) | (go_simp; with_reducible rfl)
  try simp only [Act.put, List.setIfInBounds_toArray, List.set_cons_zero, List.set_cons_succ]
  refine wpAnyH_take (i := 6) (oi := { dst := some 11, op := Op.load 5 (Operand.tmp 10), type := 5, pos := _, after := #[{ on := 5, ground := Ground.data }], guard := none }) (v := ?_) rfl (by kernel_rfl) (by kernel_rfl) (by kernel_rfl) (fun _ _ _ h => h) (Or.inl ⟨by rfl, ?_⟩) (by assumption) ?_
  rotate_left
  · intro wt hSw; (try dsimp only at hSw); have q1 := ((Below.trans (by (repeat' (first | (with_reducible exact Below.refl _ _) | (with_reducible assumption) | (with_reducible refine below_drewN ?_ _) | (with_reducible refine Below.alloc ?_ ?_ _) | (with_reducible refine Below.drew ?_) | (with_reducible refine Below.setCell ?_ ?_ _) | go_size))) (hSw.mono (by simp))).cell (p := ⟨b, off + 1, none⟩) hb).trans h1; first | (go_simp; done) | (go_simp; with_reducible rfl) | (trace_state; fail)
  try simp only [Act.put, List.setIfInBounds_toArray, List.set_cons_zero, List.set_cons_succ]
  refine wpAnyH_take (i := 7) (oi := { dst := some 12, op := Op.convert 5 3 (Operand.tmp 11), type := 3, pos := _, after := #[{ on := 6, ground := Ground.data }], guard := none }) (v := ?_) rfl (by kernel_rfl) (by kernel_rfl) (by kernel_rfl) (fun _ _ _ h => h) (Or.inl ⟨by rfl, ?_⟩) (by assumption) ?_
  rotate_left
  · intro w hSw; (try dsimp only at hSw); first | (go_simp; done) | (go_simp; with_reducible rfl)
  try simp only [Act.put, List.setIfInBounds_toArray, List.set_cons_zero, List.set_cons_succ]
  refine wpAnyH_take (i := 8) (oi := { dst := some 13, op := Op.move (Operand.tmp 0), type := 28, pos := _, after := #[], guard := none }) (v := ?_) rfl (by kernel_rfl) (by kernel_rfl) (by kernel_rfl) (fun _ _ _ h => h) (Or.inl ⟨by rfl, ?_⟩) (by assumption) ?_
  rotate_left
  · intro w hSw; (try dsimp only at hSw); first | (go_simp; done) | (go_simp; with_reducible rfl)
  try simp only [Act.put, List.setIfInBounds_toArray, List.set_cons_zero, List.set_cons_succ]
  refine wpAnyH_take (i := 9) (oi := { dst := some 14, op := Op.indexAddr 28 (Operand.tmp 13) (Operand.const (Value.int IntKind.i64 2)), type := 0, pos := _, after := #[{ on := 8, ground := Ground.data }], guard := none }) (v := ?_) rfl (by kernel_rfl) (by kernel_rfl) (by kernel_rfl) (fun _ _ _ h => h) (Or.inl ⟨by rfl, ?_⟩) (by assumption) ?_
  rotate_left
  · intro w hSw; (try dsimp only at hSw); first | (go_simp; done) | (go_simp; with_reducible rfl)
  try simp only [Act.put, List.setIfInBounds_toArray, List.set_cons_zero, List.set_cons_succ]
  refine wpAnyH_take (i := 10) (oi := { dst := some 15, op := Op.load 5 (Operand.tmp 14), type := 5, pos := _, after := #[{ on := 9, ground := Ground.data }], guard := none }) (v := ?_) rfl (by kernel_rfl) (by kernel_rfl) (by kernel_rfl) (fun _ _ _ h => h) (Or.inl ⟨by rfl, ?_⟩) (by assumption) ?_
  rotate_left
  · intro wt hSw; (try dsimp only at hSw); have q2 := ((Below.trans (by (repeat' (first | (with_reducible exact Below.refl _ _) | (with_reducible assumption) | (with_reducible refine below_drewN ?_ _) | (with_reducible refine Below.alloc ?_ ?_ _) | (with_reducible refine Below.drew ?_) | (with_reducible refine Below.setCell ?_ ?_ _) | go_size))) (hSw.mono (by simp))).cell (p := ⟨b, off + 2, none⟩) hb).trans h2; first | (go_simp; done) | (go_simp; with_reducible rfl) | (trace_state; fail)
  try simp only [Act.put, List.setIfInBounds_toArray, List.set_cons_zero, List.set_cons_succ]
  refine wpAnyH_take (i := 11) (oi := { dst := some 16, op := Op.convert 5 3 (Operand.tmp 15), type := 3, pos := _, after := #[{ on := 10, ground := Ground.data }], guard := none }) (v := ?_) rfl (by kernel_rfl) (by kernel_rfl) (by kernel_rfl) (fun _ _ _ h => h) (Or.inl ⟨by rfl, ?_⟩) (by assumption) ?_
  rotate_left
  · intro w hSw; (try dsimp only at hSw); first | (go_simp; done) | (go_simp; with_reducible rfl)
  try simp only [Act.put, List.setIfInBounds_toArray, List.set_cons_zero, List.set_cons_succ]
  refine wpAnyH_take (i := 12) (oi := { dst := some 17, op := Op.binOp BinOp.shl 3 (Operand.tmp 16) (Operand.const (Value.int IntKind.u64 8)) 80, type := 3, pos := _, after := #[{ on := 11, ground := Ground.data }], guard := none }) (v := ?_) rfl (by kernel_rfl) (by kernel_rfl) (by kernel_rfl) (fun _ _ _ h => h) (Or.inl ⟨by rfl, ?_⟩) (by assumption) ?_
  rotate_left
  · intro w hSw; (try dsimp only at hSw); first | (go_simp; done) | (go_simp; with_reducible rfl)
  try simp only [Act.put, List.setIfInBounds_toArray, List.set_cons_zero, List.set_cons_succ]
  refine wpAnyH_take (i := 13) (oi := { dst := some 18, op := Op.binOp BinOp.or 3 (Operand.tmp 12) (Operand.tmp 17) 3, type := 3, pos := _, after := #[{ on := 7, ground := Ground.data }, { on := 12, ground := Ground.data }], guard := none }) (v := ?_) rfl (by kernel_rfl) (by kernel_rfl) (by kernel_rfl) (fun _ _ _ h => h) (Or.inl ⟨by rfl, ?_⟩) (by assumption) ?_
  rotate_left
  · intro w hSw; (try dsimp only at hSw); first | (go_simp; done) | (go_simp; with_reducible rfl)
  try simp only [Act.put, List.setIfInBounds_toArray, List.set_cons_zero, List.set_cons_succ]
  refine wpAnyH_take (i := 14) (oi := { dst := some 19, op := Op.move (Operand.tmp 0), type := 28, pos := _, after := #[], guard := none }) (v := ?_) rfl (by kernel_rfl) (by kernel_rfl) (by kernel_rfl) (fun _ _ _ h => h) (Or.inl ⟨by rfl, ?_⟩) (by assumption) ?_
  rotate_left
  · intro w hSw; (try dsimp only at hSw); first | (go_simp; done) | (go_simp; with_reducible rfl)
  try simp only [Act.put, List.setIfInBounds_toArray, List.set_cons_zero, List.set_cons_succ]
  refine wpAnyH_take (i := 15) (oi := { dst := some 20, op := Op.indexAddr 28 (Operand.tmp 19) (Operand.const (Value.int IntKind.i64 3)), type := 0, pos := _, after := #[{ on := 14, ground := Ground.data }], guard := none }) (v := ?_) rfl (by kernel_rfl) (by kernel_rfl) (by kernel_rfl) (fun _ _ _ h => h) (Or.inl ⟨by rfl, ?_⟩) (by assumption) ?_
  rotate_left
  · intro w hSw; (try dsimp only at hSw); first | (go_simp; done) | (go_simp; with_reducible rfl)
  try simp only [Act.put, List.setIfInBounds_toArray, List.set_cons_zero, List.set_cons_succ]
  refine wpAnyH_take (i := 16) (oi := { dst := some 21, op := Op.load 5 (Operand.tmp 20), type := 5, pos := _, after := #[{ on := 15, ground := Ground.data }], guard := none }) (v := ?_) rfl (by kernel_rfl) (by kernel_rfl) (by kernel_rfl) (fun _ _ _ h => h) (Or.inl ⟨by rfl, ?_⟩) (by assumption) ?_
  rotate_left
  · intro wt hSw; (try dsimp only at hSw); have q3 := ((Below.trans (by (repeat' (first | (with_reducible exact Below.refl _ _) | (with_reducible assumption) | (with_reducible refine below_drewN ?_ _) | (with_reducible refine Below.alloc ?_ ?_ _) | (with_reducible refine Below.drew ?_) | (with_reducible refine Below.setCell ?_ ?_ _) | go_size))) (hSw.mono (by simp))).cell (p := ⟨b, off + 3, none⟩) hb).trans h3; first | (go_simp; done) | (go_simp; with_reducible rfl) | (trace_state; fail)
  try simp only [Act.put, List.setIfInBounds_toArray, List.set_cons_zero, List.set_cons_succ]
  refine wpAnyH_take (i := 17) (oi := { dst := some 22, op := Op.convert 5 3 (Operand.tmp 21), type := 3, pos := _, after := #[{ on := 16, ground := Ground.data }], guard := none }) (v := ?_) rfl (by kernel_rfl) (by kernel_rfl) (by kernel_rfl) (fun _ _ _ h => h) (Or.inl ⟨by rfl, ?_⟩) (by assumption) ?_
  rotate_left
  · intro w hSw; (try dsimp only at hSw); first | (go_simp; done) | (go_simp; with_reducible rfl)
  try simp only [Act.put, List.setIfInBounds_toArray, List.set_cons_zero, List.set_cons_succ]
  refine wpAnyH_take (i := 18) (oi := { dst := some 23, op := Op.move (Operand.tmp 0), type := 28, pos := _, after := #[], guard := none }) (v := ?_) rfl (by kernel_rfl) (by kernel_rfl) (by kernel_rfl) (fun _ _ _ h => h) (Or.inl ⟨by rfl, ?_⟩) (by assumption) ?_
  rotate_left
  · intro w hSw; (try dsimp only at hSw); first | (go_simp; done) | (go_simp; with_reducible rfl)
  try simp only [Act.put, List.setIfInBounds_toArray, List.set_cons_zero, List.set_cons_succ]
  refine wpAnyH_take (i := 19) (oi := { dst := some 24, op := Op.indexAddr 28 (Operand.tmp 23) (Operand.const (Value.int IntKind.i64 4)), type := 0, pos := _, after := #[{ on := 18, ground := Ground.data }], guard := none }) (v := ?_) rfl (by kernel_rfl) (by kernel_rfl) (by kernel_rfl) (fun _ _ _ h => h) (Or.inl ⟨by rfl, ?_⟩) (by assumption) ?_
  rotate_left
  · intro w hSw; (try dsimp only at hSw); first | (go_simp; done) | (go_simp; with_reducible rfl)
  try simp only [Act.put, List.setIfInBounds_toArray, List.set_cons_zero, List.set_cons_succ]
  refine wpAnyH_take (i := 20) (oi := { dst := some 25, op := Op.load 5 (Operand.tmp 24), type := 5, pos := _, after := #[{ on := 19, ground := Ground.data }], guard := none }) (v := ?_) rfl (by kernel_rfl) (by kernel_rfl) (by kernel_rfl) (fun _ _ _ h => h) (Or.inl ⟨by rfl, ?_⟩) (by assumption) ?_
  rotate_left
  · intro wt hSw; (try dsimp only at hSw); have q4 := ((Below.trans (by (repeat' (first | (with_reducible exact Below.refl _ _) | (with_reducible assumption) | (with_reducible refine below_drewN ?_ _) | (with_reducible refine Below.alloc ?_ ?_ _) | (with_reducible refine Below.drew ?_) | (with_reducible refine Below.setCell ?_ ?_ _) | go_size))) (hSw.mono (by simp))).cell (p := ⟨b, off + 4, none⟩) hb).trans h4; first | (go_simp; done) | (go_simp; with_reducible rfl) | (trace_state; fail)
  try simp only [Act.put, List.setIfInBounds_toArray, List.set_cons_zero, List.set_cons_succ]
  refine wpAnyH_take (i := 21) (oi := { dst := some 26, op := Op.convert 5 3 (Operand.tmp 25), type := 3, pos := _, after := #[{ on := 20, ground := Ground.data }], guard := none }) (v := ?_) rfl (by kernel_rfl) (by kernel_rfl) (by kernel_rfl) (fun _ _ _ h => h) (Or.inl ⟨by rfl, ?_⟩) (by assumption) ?_
  rotate_left
  · intro w hSw; (try dsimp only at hSw); first | (go_simp; done) | (go_simp; with_reducible rfl)
  try simp only [Act.put, List.setIfInBounds_toArray, List.set_cons_zero, List.set_cons_succ]
  refine wpAnyH_take (i := 22) (oi := { dst := some 27, op := Op.binOp BinOp.shl 3 (Operand.tmp 26) (Operand.const (Value.int IntKind.u64 8)) 80, type := 3, pos := _, after := #[{ on := 21, ground := Ground.data }], guard := none }) (v := ?_) rfl (by kernel_rfl) (by kernel_rfl) (by kernel_rfl) (fun _ _ _ h => h) (Or.inl ⟨by rfl, ?_⟩) (by assumption) ?_
  rotate_left
  · intro w hSw; (try dsimp only at hSw); first | (go_simp; done) | (go_simp; with_reducible rfl)
  try simp only [Act.put, List.setIfInBounds_toArray, List.set_cons_zero, List.set_cons_succ]
  refine wpAnyH_take (i := 23) (oi := { dst := some 28, op := Op.binOp BinOp.or 3 (Operand.tmp 22) (Operand.tmp 27) 3, type := 3, pos := _, after := #[{ on := 17, ground := Ground.data }, { on := 22, ground := Ground.data }], guard := none }) (v := ?_) rfl (by kernel_rfl) (by kernel_rfl) (by kernel_rfl) (fun _ _ _ h => h) (Or.inl ⟨by rfl, ?_⟩) (by assumption) ?_
  rotate_left
  · intro w hSw; (try dsimp only at hSw); first | (go_simp; done) | (go_simp; with_reducible rfl)
  try simp only [Act.put, List.setIfInBounds_toArray, List.set_cons_zero, List.set_cons_succ]
  refine wpAnyH_take (i := 24) (oi := { dst := some 29, op := Op.build 40 #[(0, Operand.tmp 8), (1, Operand.tmp 18), (2, Operand.tmp 28)], type := 40, pos := _, after := #[{ on := 3, ground := Ground.data }, { on := 13, ground := Ground.data }, { on := 23, ground := Ground.data }], guard := none }) (v := ?_) rfl (by kernel_rfl) (by kernel_rfl) (by kernel_rfl) (fun _ _ _ h => h) (Or.inl ⟨by rfl, ?_⟩) (by assumption) ?_
  rotate_left
  · intro w hSw; (try dsimp only at hSw); first | (go_simp; done) | (go_simp; with_reducible rfl)
  try simp only [Act.put, List.setIfInBounds_toArray, List.set_cons_zero, List.set_cons_succ]
  refine wpAnyH_ready (rs := [25]) (by kernel_rfl) (by simp) ?_
  refine AllReadyH.cons (o := { dst := some 4, op := Op.alloc 40, type := 0, pos := _, after := #[], guard := none }) rfl (fun K hK => ?_) AllReadyH.nil
  go_simp
  refine hK.out _ _ ?_ (fun hHeld => ?_)
  · (try dsimp only); first | exact (Below.refl _ _).drew | exact (by (repeat' (first | (with_reducible exact Below.refl _ _) | (with_reducible assumption) | (with_reducible refine below_drewN ?_ _) | (with_reducible refine Below.alloc ?_ ?_ _) | (with_reducible refine Below.drew ?_) | (with_reducible refine Below.setCell ?_ ?_ _) | go_size))) | (trace_state; fail)
  clear hK K
  try simp only [Act.put, List.setIfInBounds_toArray, List.set_cons_zero, List.set_cons_succ]
  refine wpAnyH_ready (rs := [26]) (by kernel_rfl) (by simp) ?_
  refine AllReadyH.cons (o := { dst := none, op := Op.store 40 (Operand.tmp 4) (Operand.tmp 29), type := 0, pos := _, after := #[{ on := 25, ground := Ground.data }, { on := 24, ground := Ground.data }, { on := 0, ground := Ground.phase }, { on := 1, ground := Ground.phase }, { on := 2, ground := Ground.phase }, { on := 3, ground := Ground.phase }, { on := 4, ground := Ground.phase }, { on := 5, ground := Ground.phase }, { on := 6, ground := Ground.phase }, { on := 7, ground := Ground.phase }, { on := 8, ground := Ground.phase }, { on := 9, ground := Ground.phase }, { on := 10, ground := Ground.phase }, { on := 11, ground := Ground.phase }, { on := 12, ground := Ground.phase }, { on := 13, ground := Ground.phase }, { on := 14, ground := Ground.phase }, { on := 15, ground := Ground.phase }, { on := 16, ground := Ground.phase }, { on := 17, ground := Ground.phase }, { on := 18, ground := Ground.phase }, { on := 19, ground := Ground.phase }, { on := 20, ground := Ground.phase }, { on := 21, ground := Ground.phase }, { on := 22, ground := Ground.phase }, { on := 23, ground := Ground.phase }, { on := 24, ground := Ground.phase }, { on := 25, ground := Ground.phase }], guard := none }) rfl (fun K hK => ?_) AllReadyH.nil
  go_simp
  refine hK.out _ _ ?_ (fun hHeld => ?_)
  · (try dsimp only); first | exact (Below.refl _ _).drew | exact (by (repeat' (first | (with_reducible exact Below.refl _ _) | (with_reducible assumption) | (with_reducible refine below_drewN ?_ _) | (with_reducible refine Below.alloc ?_ ?_ _) | (with_reducible refine Below.drew ?_) | (with_reducible refine Below.setCell ?_ ?_ _) | go_size))) | (trace_state; fail)
  clear hK K
  try simp only [Act.put, List.setIfInBounds_toArray, List.set_cons_zero, List.set_cons_succ]
  refine wpAnyH_done (by kernel_rfl) ?_ _
  have v0 : IntKind.i64.wrap (c0.toNat : Int) = x.1 := by rw [hx]; exact IntWalk.i64_in _ (by have := c0.toNat_lt; omega)
  have v1 : bits .or .i64 (IntKind.i64.wrap (c1.toNat : Int)) (IntKind.i64.wrap (IntKind.i64.wrap (c2.toNat : Int) * 256)) = x.2.1 := by
    rw [IntWalk.i64_in (c1.toNat : Int) (by omega), IntWalk.i64_in (c2.toNat : Int) (by omega), IntWalk.i64_in ((c2.toNat : Int) * 256) (by omega), o1, hx]
  have v2 : bits .or .i64 (IntKind.i64.wrap (c3.toNat : Int)) (IntKind.i64.wrap (IntKind.i64.wrap (c4.toNat : Int) * 256)) = x.2.2 := by
    rw [IntWalk.i64_in (c3.toNat : Int) (by omega), IntWalk.i64_in (c4.toNat : Int) (by omega), IntWalk.i64_in ((c4.toNat : Int) * 256) (by omega), o2, hx]
  rw [v0, v1, v2]
  have HE := Lib.hid (show errI x = if oReal x.1 then 6 else if rI x then 0 else 7 from rfl)
  have HZ := Lib.hid (show insZ x = if errI x = 0 then x else (0, 0, 0) from rfl)
  have hRl := op_RealS x.1
  have hRt := op_RightS x.1 x.2.1 x.2.2
  have hxr : oRight x.1 x.2.1 x.2.2 = rI x := rfl
  rw [hxr] at hRt
  clear hx v0 v1 v2 o1 o2 b1 b2 b3 b4 h0 h1 h2 h3 h4 hHeld hxr
  have mc := @more_cell
  have ms := @more_set
  have mf := @more_frozen
  cases hr : oReal x.1
  · rw [hr] at hRl
    cases hq : rI x
    · rw [hq] at hRt
      have he : errI x = 7 := by rw [HE.out, hr, hq]; rfl
      have hz : insZ x = (0, 0, 0) := by rw [HZ.out, he]; rfl
      have E1 := Lib.hid he
      have E2 := Lib.hid hz
      clear he hz
      go_wp2_with fail
      refine (hRl _).mono ?_; rintro e w1 ⟨rfl, rfl⟩
      go_wp2_with fail
      refine (hRt _ (hT.below (by (repeat' (first | (with_reducible exact Below.refl _ _) | (with_reducible assumption) | (with_reducible refine below_drewN ?_ _) | (with_reducible refine Below.alloc ?_ ?_ _) | (with_reducible refine Below.drew ?_) | (with_reducible refine Below.setCell ?_ ?_ _) | go_size))))).mono ?_; rintro e w1 ⟨rfl, hb1⟩
      obtain ⟨l1, d1, rfl⟩ := more_of hb1
      go_wp2_with fail
      refine bodyPost_ret (by simp [results, Tryd.results59, go_sem, more_cell, more_size, more_frozen]; try rfl) rfl ?_
      exact ⟨by rw [E1.out, E2.out], by (repeat' (first | (with_reducible exact Below.refl _ _) | (with_reducible assumption) | (with_reducible refine more_below ?_ ?_ _ _) | (with_reducible refine below_drewN ?_ _) | (with_reducible refine Below.alloc ?_ ?_ _) | (with_reducible refine Below.drew ?_) | (with_reducible refine Below.setCell ?_ ?_ _) | (simp only [World.size_alloc, World.size_setCell, World.size_drew, more_size, World.heap_drewN]; omega) | go_size))⟩
    · rw [hq] at hRt
      have he : errI x = 0 := by rw [HE.out, hr, hq]; rfl
      have hz : insZ x = x := by rw [HZ.out, he]; rfl
      have E1 := Lib.hid he
      have E2 := Lib.hid hz
      clear he hz
      go_wp2_with fail
      refine (hRl _).mono ?_; rintro e w1 ⟨rfl, rfl⟩
      go_wp2_with fail
      refine (hRt _ (hT.below (by (repeat' (first | (with_reducible exact Below.refl _ _) | (with_reducible assumption) | (with_reducible refine below_drewN ?_ _) | (with_reducible refine Below.alloc ?_ ?_ _) | (with_reducible refine Below.drew ?_) | (with_reducible refine Below.setCell ?_ ?_ _) | go_size))))).mono ?_; rintro e w1 ⟨rfl, hb1⟩
      obtain ⟨l1, d1, rfl⟩ := more_of hb1
      go_wp2_with fail
      refine bodyPost_ret (by simp [results, Tryd.results59, go_sem, more_cell, more_size, more_frozen]; try rfl) rfl ?_
      exact ⟨by rw [E1.out, E2.out], by (repeat' (first | (with_reducible exact Below.refl _ _) | (with_reducible assumption) | (with_reducible refine more_below ?_ ?_ _ _) | (with_reducible refine below_drewN ?_ _) | (with_reducible refine Below.alloc ?_ ?_ _) | (with_reducible refine Below.drew ?_) | (with_reducible refine Below.setCell ?_ ?_ _) | (simp only [World.size_alloc, World.size_setCell, World.size_drew, more_size, World.heap_drewN]; omega) | go_size))⟩
  · rw [hr] at hRl
    have he : errI x = 6 := by rw [HE.out, hr]; rfl
    have hz : insZ x = (0, 0, 0) := by rw [HZ.out, he]; rfl
    have E1 := Lib.hid he
    have E2 := Lib.hid hz
    clear he hz
    go_wp2_with fail
    refine (hRl _).mono ?_; rintro e w1 ⟨rfl, rfl⟩
    go_wp2_with fail
    refine bodyPost_ret (by simp [results, Tryd.results59, go_sem, more_cell, more_size, more_frozen]; try rfl) rfl ?_
    exact ⟨by rw [E1.out, E2.out], by (repeat' (first | (with_reducible exact Below.refl _ _) | (with_reducible assumption) | (with_reducible refine more_below ?_ ?_ _ _) | (with_reducible refine below_drewN ?_ _) | (with_reducible refine Below.alloc ?_ ?_ _) | (with_reducible refine Below.drew ?_) | (with_reducible refine Below.setCell ?_ ?_ _) | (simp only [World.size_alloc, World.size_setCell, World.size_drew, more_size, World.heap_drewN]; omega) | go_size))⟩
end Go.Proofs.YtpeogdbfhfkngaaDoor

/- Layer 13: bytes as instructions. -/
namespace Go.Proofs.YtpeogdbfhfkngaaDoor
open Go.RowKit
set_option linter.unusedSimpArgs false
set_option linter.unusedVariables false
/-- append of one instruction that was just laid -/
theorem wpList_append_ins {P : Program} {w0 : World} {ops : Array Oper} {rest : List Oper} {o : Oper} {a : Act} {Q : Exit → Act → World → Prop} (hgd : o.guard = none) (s x : Operand) (t : TypeId)
    (ho : o.op = .call { callee := .builtin .append, args := #[s, x], argTypes := #[t, t] })
    (base : Nat) (e te : TypeId) (i : TypeInfo) (z : Value) (bytes : Nat) (ht : P.underlying t = some (.slice e)) (hi : P.info? e = some i) (hz : i.zero = some z)
    (hsize : i.size = 3) (hby : i.bytes = bytes) (hzs : z.cells.size = 3)
    (v : Value) (n : Nat) (xs : List Value) (hs : a.eval s = v) (hown : w0.ownsRow base e 3 v n xs)
    (y : Ins) (g : Nat) (hx : a.eval x = .slice (some ⟨g, 0, none⟩) 1 1) (hgg : g = w0.heap.size)
    (h63 : n + 1 ≤ maxLen) (hbytes : (n + 1) * bytes ≤ 140737488355328) (hbase : base ≤ w0.heap.size)
    (h : ∀ v' w', w'.ownsRow base e 3 v' (n + 1) (xs ++ [.int .i64 y.1, .int .i64 y.2.1, .int .i64 y.2.2]) → (w0.alloc (.cells #[.int .i64 y.1, .int .i64 y.2.1, .int .i64 y.2.2] te)).grownBy w' v.ownBlock → wpList P ops Q rest (a.put o.dst v') w') :
    wpList P ops Q (o :: rest) a (w0.alloc (.cells #[.int .i64 y.1, .int .i64 y.2.1, .int .i64 y.2.2] te)) := by
  subst hgg
  refine wpList_append_own _ hgd s x t ho base e i z 3 bytes ht hi hz hsize hby hzs (by omega) v n xs hs (hown.alloc _) ⟨w0.heap.size, 0, none⟩ 1 1 [.int .i64 y.1, .int .i64 y.2.1, .int .i64 y.2.2] hx rfl ?_ ?_ h63 hbytes (by rw [World.size_alloc]; omega) (fun v' w' ho' hg _ => h v' w' ho' hg)
  · intro j u hu
    have hj : j < 3 := by
      by_cases hj : j < 3
      · exact hj
      · rw [List.getElem?_eq_none (by simp; omega)] at hu; cases hu
    have : (⟨w0.heap.size, 0, none⟩ : Addr).add j = ⟨w0.heap.size, j, none⟩ := by unfold Addr.add; by_cases h0 : j = 0 <;> simp [h0]
    rw [this, cell_at rfl]
    simpa using hu
  · intro u hu
    simp at hu
    rcases hu with rfl | rfl | rfl <;> rfl
theorem errAt_short {B : List UInt8} {k : Nat} (h : B.length < 5 * k + 5) : errAt B k = 1 := if_pos h
theorem errAt_in {B : List UInt8} {k : Nat} (h : ¬ B.length < 5 * k + 5) : errAt B k = errI (insAt B k) := if_neg h
theorem insAt_I64 (B : List UInt8) (k : Nat) : I64 (insAt B k).1 ∧ I64 (insAt B k).2.1 ∧ I64 (insAt B k).2.2 := by
  unfold insAt I64
  have h0 := (B.getD (5 * k) 0).toNat_lt
  have h1 := (B.getD (5 * k + 1) 0).toNat_lt
  have h2 := (B.getD (5 * k + 2) 0).toNat_lt
  have h3 := (B.getD (5 * k + 3) 0).toNat_lt
  have h4 := (B.getD (5 * k + 4) 0).toNat_lt
  simp only
  omega
theorem decL_I64 (B : List UInt8) (k : Nat) : ∀ x ∈ decL B k, I64 x.1 ∧ I64 x.2.1 ∧ I64 x.2.2 := by
  intro x hx
  unfold decL at hx
  obtain ⟨i, _, rfl⟩ := List.mem_map.1 hx
  exact insAt_I64 B i
theorem bytes_get {w : World} {v : Value} {n : Nat} {f : Nat → Value} (hv : RowAt w v n f) : ∃ a cap, v = .slice a n cap := by
  rcases hv with ⟨a, cap, rfl, rfl, _⟩ | ⟨b, off, cap, h1, _⟩
  · exact ⟨a, cap, rfl⟩
  · exact ⟨_, cap, h1⟩
theorem bytes_at {w : World} {a : Option Addr} {n cap : Nat} {f : Nat → Value} (hv : RowAt w (.slice a n cap) n f) (h0 : 0 < n) : ∃ b off, a = some ⟨b, off, none⟩ ∧ n ≤ cap ∧ cap ≤ maxLen ∧ b < w.heap.size ∧ ∀ i, i < n → w.cell? ⟨b, off + i, none⟩ = some (f i) := by
  rcases hv with ⟨a, cap, h, rfl, _⟩ | ⟨b, off, cap, h1, _, h3, h4, h5, h6⟩
  · omega
  · injection h1 with h1 h2 h3'
    subst h3'
    exact ⟨b, off, h1, h3, h4, h5, h6⟩
set_option maxHeartbeats 4000000 in
theorem code_Decode (v : Value) (B : List UInt8) (w : World) (hT : STab w) (hv : RowAt w v B.length (byteV B)) (hn : B.length ≤ 5000) :
    Calls Tryd.prog 52 #[v] w fun e w' => ∃ r L a er, e = .returned (.tuple #[r, .int .i64 a, .int .i64 er]) ∧ DecR B L a er ∧ RowR 3 insR w' r L ∧ Below w.heap.size w w' := by
  obtain ⟨i, hi, hz, hsize, hby⟩ : ∃ i, Tryd.prog.info? 40 = some i ∧ i.zero = some (.agg #[.int .i64 0, .int .i64 0, .int .i64 0]) ∧ i.size = 3 ∧ i.bytes = 24 := ⟨(Tryd.prog.info? 40).get!, by kernel_rfl, by kernel_rfl, by kernel_rfl, by kernel_rfl⟩
  obtain ⟨sa, cap, rfl⟩ := bytes_get hv
  generalize hN : B.length = N at *
  have hmk := run_make w 23 40 i _ Tryd.underlying23 hi hz .i64 .i64 (0 : Int) ((N : Int) / 5) (by omega) (by omega) (by rw [hby]; omega) (by omega)
  rw [hsize, show ((0 : Int)).toNat = 0 from rfl, show ((N : Int) / 5).toNat = N / 5 by omega] at hmk
  obtain ⟨Z, hZ⟩ : ∃ Z, madeCells (Value.agg #[.int .i64 0, .int .i64 0, .int .i64 0]).cells (N / 5 * 3) = Z := ⟨_, rfl⟩
  have hZs : Z.size = N / 5 * 3 := by rw [← hZ]; simp [madeCells]
  rw [hZ] at hmk
  have hO0 := Lib.hid (owns_make w Z 40 3 (N / 5) hZs (by unfold maxLen; omega))
  have hB0 : Below w.heap.size w (w.alloc (.cells Z 40)) := (Below.refl _ _).alloc (Nat.le_refl _) _
  clear hZ hZs
  go_enter Tryd.func52, Tryd.ntmps52
  go_wp2_with fail
  go_loopw [5, 6] (fun o j wr => ∃ k : Nat, Good B k ∧ 5 * k < N + 5 ∧ j = .int .i64 (5 * (k : Int)) ∧ Hid (wr.ownsRow w.heap.size 40 3 o k (insV (decL B k))) ∧ Below w.heap.size w wr) (fun _ j _ => N + 5 - (intOf j).toNat)
  case atStart => exact ⟨0, fun j hj => by omega, by omega, rfl, Lib.hid (by exact hO0.out), hB0⟩
  case round =>
    obtain ⟨k, hg, hk, rfl, hO, hB⟩ := hrel
    have hz' := hB.size
    have G := Lib.hid hg
    have hw5 : IntKind.i64.wrap (5 * (k : Int) + 5) = 5 * (k : Int) + 5 := IntWalk.i64_in _ (by omega)
    have hq5 : (5 * (k : Int)).tdiv 5 = k := by rw [Int.tdiv_eq_ediv_of_nonneg (by omega)]; omega
    clear hg
    by_cases hlt : 5 * k < N
    · obtain ⟨b, off, rfl, hcap, hcm, hbw, hc⟩ := bytes_at hv (by omega)
      by_cases hsh : N < 5 * k + 5
      · have he : errAt B k = 1 := errAt_short (by omega)
        have HD := Lib.hid (show DecR B [] k 1 from Or.inl ⟨k, G.out, by omega, he, by omega, rfl, rfl⟩)
        clear he hc hO G
        go_wp2_with fail
        go_returns
        exact ⟨.slice none 0 0, [], k, 1, by simp, HD.out, Or.inl ⟨none, 0, rfl, rfl, fun _ => rfl⟩, hB⟩
      · have hin := errAt_in (B := B) (k := k) (by omega)
        have hc0 := (hB.cell (p := ⟨b, off + 5 * k, none⟩) hbw).trans (hc (5 * k) (by omega))
        have hc1 := (hB.cell (p := ⟨b, off + 5 * k + 1, none⟩) hbw).trans (hc (5 * k + 1) (by omega))
        have hc2 := (hB.cell (p := ⟨b, off + 5 * k + 2, none⟩) hbw).trans (hc (5 * k + 2) (by omega))
        have hc3 := (hB.cell (p := ⟨b, off + 5 * k + 3, none⟩) hbw).trans (hc (5 * k + 3) (by omega))
        have hc4 := (hB.cell (p := ⟨b, off + 5 * k + 4, none⟩) hbw).trans (hc (5 * k + 4) (by omega))
        have hone := code_one b (off + 5 * k) 5 (B.getD (5 * k) 0) (B.getD (5 * k + 1) 0) (B.getD (5 * k + 2) 0) (B.getD (5 * k + 3) 0) (B.getD (5 * k + 4) 0) wr (hT.below hB) (by omega) hc0 hc1 hc2 hc3 hc4 (insAt B k) rfl
        have hmx : cap ≤ 9223372036854775807 := by unfold maxLen at hcm; omega
        have hds := Lib.hid (decL_succ B k)
        have HZ := Lib.hid (show insZ (insAt B k) = if errI (insAt B k) = 0 then insAt B k else (0, 0, 0) from rfl)
        have hZI := Lib.hid (insAt_I64 B k)
        clear hc hc0 hc1 hc2 hc3 hc4
        generalize insAt B k = x at *
        go_wp2_with fail
        refine hone.mono ?_; rintro e W1 ⟨rfl, hb1⟩
        have hB1 : Below w.heap.size w W1 := hB.trans (hb1.mono hz')
        have hz1 := hB1.size
        have hO1 := Lib.hid (owns_below hO.out hb1)
        clear hone hb1 hO
        by_cases he : errI x = 0
        · have hzx : insZ x = x := by rw [HZ.out, if_pos he]
          have hG := Lib.hid (G.out.succ (by omega) (hin.trans he))
          have hI3 := hZI.out
          rw [hzx, he]
          clear he hzx hin HZ
          go_wp2_with (first | (at_builtin; go_loud (refine wpList_append_ins rfl (.tmp 42) (.tmp 44) 23 rfl w.heap.size 40 40 i (.agg #[.int .i64 0, .int .i64 0, .int .i64 0]) 24 Tryd.underlying23 hi hz hsize hby rfl _ k _ rfl (hO1.out.alloc _) x _ rfl (by simp) (by unfold maxLen; omega) (by omega) (by rw [World.size_alloc]; omega) ?_; intro v2 w2 hO2 hG2; have HO2 := Lib.hid hO2; have hB2 := grown3 ((hB1.alloc hz1 _).alloc (by rw [World.size_alloc]; omega) _) (by simp only [World.size_alloc]; omega) ((hO1.out.alloc _).alloc _) hG2; clear hO2 hG2)) | fail)
          go_roundw
          case rel => exact ⟨k + 1, hG.out, by omega, by first | rfl | (congr 1; omega), Lib.hid (own_eq HO2.out rfl (by rw [hds.out, insV_snoc])), hB2⟩
          case measure => first | (simp [intOf]; done) | (simp [intOf]; omega)
        · have hzx : insZ x = (0, 0, 0) := by rw [HZ.out, if_neg he]
          have HD := Lib.hid (show DecR B [] k (errI x) from Or.inl ⟨k, G.out, by omega, hin, he, rfl, rfl⟩)
          have hne : (errI x != 0) = true := by simpa using he
          rw [hzx]
          generalize errI x = er at *
          clear hzx hin HZ he
          go_wp2_with fail
          go_returns
          exact ⟨.slice none 0 0, [], k, er, by simp, HD.out, Or.inl ⟨none, 0, rfl, rfl, fun _ => rfl⟩, by (repeat' (first | (with_reducible exact Below.refl _ _) | (with_reducible assumption) | (with_reducible refine below_drewN ?_ _) | (with_reducible refine Below.alloc ?_ ?_ _) | (with_reducible refine Below.drew ?_) | (with_reducible refine Below.setCell ?_ ?_ _) | go_size))⟩
    · have HD := Lib.hid (show DecR B (decL B k) 0 0 from Or.inr ⟨k, G.out, by omega, rfl, rfl, rfl⟩)
      clear G
      go_wp2_with fail
      go_returns
      exact ⟨_, decL B k, 0, 0, rfl, HD.out, RowR.ins_owned (own_eq hO.out (decL_len B k).symm rfl) (decL_I64 B k), hB⟩
end Go.Proofs.YtpeogdbfhfkngaaDoor

/- Layer 15: the instructions of a unit's bytes. -/
namespace Go.Proofs.YtpeogdbfhfkngaaDoor
open Go.RowKit
set_option linter.unusedSimpArgs false
set_option linter.unusedVariables false
def bC (B : List UInt8) (n : Nat) (bad : Bool) : Int × Int := cntU B 2 16384 n bad
def bN (B : List UInt8) (n : Nat) (bad : Bool) : Int × Nat × Bool := rNum B 2 n bad
def bT (B : List UInt8) (n : Nat) (bad : Bool) : List UInt8 × Nat × Bool := rTake B (min (5 * (bC B n bad).1) (leftOf B (bN B n bad).2.1 (bN B n bad).2.2)) (bN B n bad).2.1 (bN B n bad).2.2
def BodyR (B : List UInt8) (n : Nat) (bad : Bool) (L : List Ins) (e : Int) (s : Nat × Bool) : Prop :=
  ((bC B n bad).2 ≠ 0 ∧ e = (bC B n bad).2 ∧ s = (bN B n bad).2 ∧ L = []) ∨ ((bC B n bad).2 = 0 ∧ ∃ M a er, DecR (bT B n bad).1 M a er ∧ s = (bT B n bad).2 ∧ ((er ≠ 0 ∧ e = er ∧ L = []) ∨ (er = 0 ∧ (M.length : Int) < (bC B n bad).1 ∧ e = 1 ∧ L = []) ∨ (er = 0 ∧ ¬ (M.length : Int) < (bC B n bad).1 ∧ e = 0 ∧ L = M)))
theorem rNum2_fit (B : List UInt8) (n : Nat) (bad : Bool) : 0 ≤ (rNum B 2 n bad).1 := by
  show 0 ≤ numV (rTake B ((2 : Nat) : Int) n bad).1
  have h := rTake_len8 B 2 n bad
  generalize (rTake B ((2 : Nat) : Int) n bad).1 = X at *
  by_cases h2 : X.length = 2
  · obtain ⟨k, hk, _⟩ := numV2 h2
    rw [hk]; omega
  · exact (numV_byte (by omega)).1
theorem bC_fit (B : List UInt8) (n : Nat) (bad : Bool) : 0 ≤ (bC B n bad).1 ∧ (bC B n bad).1 ≤ 16384 := by
  unfold bC cntU
  split
  · simp
  · split
    · simp
    · have h1 : 0 ≤ (rNum B 2 n bad).1 := rNum2_fit B n bad
      exact ⟨h1, by rename_i h; simpa using h⟩
set_option maxHeartbeats 4000000 in
theorem unit_body (g q : Nat) (B : List UInt8) (n : Nat) (bad : Bool) (w : World) (h : RdAt w g q B n bad) (hT : STab w) (hSt : ∀ W, w.grownBy W (some g) → STab W) (hBl : B.length ≤ 5000) :
    Calls Tryd.prog 33 #[.pointer (some ⟨g, 0, none⟩)] w fun e w' => ∃ r1 r2 r3 L er s, e = .returned (.tuple #[.slice r1 r2 r3, .int .i64 er]) ∧ BodyR B n bad L er s ∧ RowR 3 insR w' (.slice r1 r2 r3) L ∧ RdAt w' g q B s.1 s.2 ∧ w.grownBy w' (some g) := by
  have HC := Lib.hid (unit_counted g q B n 2 bad 2 16384 w h (by decide) (by omega))
  have hfit := bC_fit B n bad
  have HTk := Lib.hid (fun W hW => rd_Take g q B (bN B n bad).2.1 (bN B n bad).2.2 (min (5 * (bC B n bad).1) (leftOf B (bN B n bad).2.1 (bN B n bad).2.2)) W hW)
  have hTl := rTake_len B (min (5 * (bC B n bad).1) (leftOf B (bN B n bad).2.1 (bN B n bad).2.2)) (bN B n bad).2.1 (bN B n bad).2.2
  have e1 : cntU B 2 16384 n bad = bC B n bad := rfl
  have e2 : rNum B 2 n bad = bN B n bad := rfl
  have e3 : rTake B (min (5 * (bC B n bad).1) (leftOf B (bN B n bad).2.1 (bN B n bad).2.2)) (bN B n bad).2.1 (bN B n bad).2.2 = bT B n bad := rfl
  rw [e1, e2] at HC
  rw [e3] at HTk hTl
  have HD : Hid (∀ L e s, BodyR B n bad L e s ↔ ((bC B n bad).2 ≠ 0 ∧ e = (bC B n bad).2 ∧ s = (bN B n bad).2 ∧ L = []) ∨ ((bC B n bad).2 = 0 ∧ ∃ M a er, DecR (bT B n bad).1 M a er ∧ s = (bT B n bad).2 ∧ ((er ≠ 0 ∧ e = er ∧ L = []) ∨ (er = 0 ∧ (M.length : Int) < (bC B n bad).1 ∧ e = 1 ∧ L = []) ∨ (er = 0 ∧ ¬ (M.length : Int) < (bC B n bad).1 ∧ e = 0 ∧ L = M)))) := Lib.hid (fun L e s => Iff.rfl)
  have HX := Lib.hid (show ∀ L e s, BodyR B n bad L e s → BodyR B n bad L e s from fun _ _ _ x => x)
  clear e1 e2 e3 HX h
  generalize bC B n bad = C at *
  generalize bN B n bad = N at *
  generalize bT B n bad = T at *
  obtain ⟨c, ce⟩ := C
  obtain ⟨z0, n1, b1⟩ := N
  obtain ⟨t, n2, b2⟩ := T
  dsimp only at HC HTk HD hfit hTl
  have H1 := Lib.hid (fun (h0 : ce ≠ 0) => (HD.out [] ce (n1, b1)).2 (Or.inl ⟨h0, rfl, rfl, rfl⟩))
  have H2 := Lib.hid (fun (h0 : ce = 0) M a er (hd : DecR t M a er) (h1 : er ≠ 0) => (HD.out [] er (n2, b2)).2 (Or.inr ⟨h0, M, a, er, hd, rfl, Or.inl ⟨h1, rfl, rfl⟩⟩))
  have H3 := Lib.hid (fun (h0 : ce = 0) M a (hd : DecR t M a 0) (h2 : (M.length : Int) < c) => (HD.out [] 1 (n2, b2)).2 (Or.inr ⟨h0, M, a, 0, hd, rfl, Or.inr (Or.inl ⟨rfl, h2, rfl, rfl⟩)⟩))
  have H4 := Lib.hid (fun (h0 : ce = 0) M a (hd : DecR t M a 0) (h2 : ¬ (M.length : Int) < c) => (HD.out M 0 (n2, b2)).2 (Or.inr ⟨h0, M, a, 0, hd, rfl, Or.inr (Or.inr ⟨rfl, h2, rfl, rfl⟩)⟩))
  clear HD
  have hwr : IntKind.i64.wrap (5 * c) = 5 * c := IntWalk.i64_in _ (by omega)
  go_enter Tryd.func33, Tryd.ntmps33
  go_wp2_with fail
  refine HC.out.mono ?_; rintro e w1 ⟨rfl, hR, hG⟩
  have HR := Lib.hid hR
  have HG := Lib.hid hG
  clear hR hG HC
  by_cases h0 : ce = 0
  case neg =>
    have q0 : (ce != 0) = true := by simpa using h0
    have hs := Lib.hid (H1.out h0)
    clear h0
    go_wp2_with fail
    go_returns
    exact ⟨none, 0, 0, [], ce, (n1, b1), rfl, hs.out, row_none, HR.out, HG.out⟩
  have G2 := Lib.hid (H2.out h0)
  have G3 := Lib.hid (H3.out h0)
  have G4 := Lib.hid (H4.out h0)
  clear H1 H2 H3 H4
  subst h0
  have HLf := Lib.hid (reader_Left g q B n1 b1 w1 HR.out)
  generalize leftOf B n1 b1 = lf at *
  by_cases hm : lf < 5 * c
  case pos =>
    have qm : (lf < 5 * c) = True := eq_true hm
    rw [show min (5 * c) lf = lf by omega] at HTk
    clear hm
    go_wp2_with fail
    refine HLf.out.mono ?_; rintro e w2 ⟨rfl, m2, rfl⟩
    have HR2 := Lib.hid (rd_drew HR.out m2)
    have HG2 := Lib.hid (grown_below HG.out (Below_drewN w1.heap.size w1 m2))
    go_wp2_with fail
    refine (HTk.out _ HR2.out).mono ?_; rintro e w3 ⟨r3, rfl, hr3, hR3, hG3⟩
    have HR3 := Lib.hid hR3
    have HG3 := Lib.hid (grown_grown HG2.out hG3)
    have HRow := Lib.hid hr3
    clear hr3 hR3 hG3
    go_wp2_with fail
    refine (code_Decode r3 t w3 (hSt _ HG3.out) HRow.out (by omega)).mono ?_; rintro e w4 ⟨r4, M, a, er, rfl, hd, hr4, hb4⟩
    have HDec := Lib.hid hd
    obtain ⟨d1, d3, rfl⟩ := ins_get hr4
    have HR4 := Lib.hid (rd_below HR3.out hb4)
    have HG4 := Lib.hid (grown_below HG3.out hb4)
    have Hr4 := Lib.hid hr4
    clear hr4 hb4 hd
    by_cases h1 : er = 0
    case neg =>
      have q1 : (er != 0) = true := by simpa using h1
      have hs := Lib.hid (G2.out M a er HDec.out h1)
      clear h1
      go_wp2_with fail
      go_returns
      exact ⟨none, 0, 0, [], er, (n2, b2), rfl, hs.out, row_none, HR4.out, HG4.out⟩
    subst h1
    by_cases h2 : (M.length : Int) < c
    · have hs := Lib.hid (G3.out M a HDec.out h2)
      generalize M.length = ml at *
      have q2 : ((ml : Int) < c) = True := eq_true h2
      go_wp2_with fail
      go_returns
      exact ⟨none, 0, 0, [], 1, (n2, b2), rfl, hs.out, row_none, HR4.out, HG4.out⟩
    · have hs := Lib.hid (G4.out M a HDec.out (by omega))
      generalize M.length = ml at *
      have q2 : ((ml : Int) < c) = False := eq_false h2
      go_wp2_with fail
      go_returns
      exact ⟨_, _, _, M, 0, (n2, b2), rfl, hs.out, Hr4.out, HR4.out, HG4.out⟩
  case neg =>
    have qm : (lf < 5 * c) = False := eq_false hm
    rw [show min (5 * c) lf = 5 * c by omega] at HTk
    clear hm
    go_wp2_with fail
    refine HLf.out.mono ?_; rintro e w2 ⟨rfl, m2, rfl⟩
    have HR2 := Lib.hid (rd_drew HR.out m2)
    have HG2 := Lib.hid (grown_below HG.out (Below_drewN w1.heap.size w1 m2))
    go_wp2_with fail
    refine (HTk.out _ HR2.out).mono ?_; rintro e w3 ⟨r3, rfl, hr3, hR3, hG3⟩
    have HR3 := Lib.hid hR3
    have HG3 := Lib.hid (grown_grown HG2.out hG3)
    have HRow := Lib.hid hr3
    clear hr3 hR3 hG3
    go_wp2_with fail
    refine (code_Decode r3 t w3 (hSt _ HG3.out) HRow.out (by omega)).mono ?_; rintro e w4 ⟨r4, M, a, er, rfl, hd, hr4, hb4⟩
    have HDec := Lib.hid hd
    obtain ⟨d1, d3, rfl⟩ := ins_get hr4
    have HR4 := Lib.hid (rd_below HR3.out hb4)
    have HG4 := Lib.hid (grown_below HG3.out hb4)
    have Hr4 := Lib.hid hr4
    clear hr4 hb4 hd
    by_cases h1 : er = 0
    case neg =>
      have q1 : (er != 0) = true := by simpa using h1
      have hs := Lib.hid (G2.out M a er HDec.out h1)
      clear h1
      go_wp2_with fail
      go_returns
      exact ⟨none, 0, 0, [], er, (n2, b2), rfl, hs.out, row_none, HR4.out, HG4.out⟩
    subst h1
    by_cases h2 : (M.length : Int) < c
    · have hs := Lib.hid (G3.out M a HDec.out h2)
      generalize M.length = ml at *
      have q2 : ((ml : Int) < c) = True := eq_true h2
      go_wp2_with fail
      go_returns
      exact ⟨none, 0, 0, [], 1, (n2, b2), rfl, hs.out, row_none, HR4.out, HG4.out⟩
    · have hs := Lib.hid (G4.out M a HDec.out (by omega))
      generalize M.length = ml at *
      have q2 : ((ml : Int) < c) = False := eq_false h2
      go_wp2_with fail
      go_returns
      exact ⟨_, _, _, M, 0, (n2, b2), rfl, hs.out, Hr4.out, HR4.out, HG4.out⟩
end Go.Proofs.YtpeogdbfhfkngaaDoor

/- Layer 15: bytes as a unit: the contract. -/
namespace Go.Proofs.YtpeogdbfhfkngaaDoor
open Go.RowKit
set_option linter.unusedSimpArgs false
set_option linter.unusedVariables false
def unZ : Un := ⟨[], [], 0, [], []⟩
def GetU (B : List UInt8) (u : Un) (e : Int) : Prop :=
  (hErr B ≠ 0 ∧ e = hErr B ∧ u = unZ) ∨ (hErr B = 0 ∧ ∃ L eb s, BodyR B (hSt B).1 (hSt B).2 L eb s ∧ ((eb ≠ 0 ∧ e = eb ∧ u = unZ) ∨ (eb = 0 ∧ 0 < leftOf B s.1 s.2 ∧ e = 4 ∧ u = unZ) ∨ (eb = 0 ∧ ¬ 0 < leftOf B s.1 s.2 ∧ e = 0 ∧ u = ⟨(hT B).1, (hP B).1.1, (hR B).1, (hL B).1.1, L⟩)))
theorem unZ_at (w : World) : UnAt w (.slice none 0 0) (.slice none 0 0) (.slice none 0 0) unZ := ⟨row_none, row_none, row_none, by unfold sz unZ; simp, by unfold I64 unZ; simp⟩
/-- a row stays where its block does -/
theorem row_keep {α : Type} {q : Nat} {R : Rep α} {w w' : World} {v : Value} {L : List α} (hR : ∀ cs x, R w cs x → R w' cs x) (h : RowR q R w v L) (hs : w.heap.size ≤ w'.heap.size) (hc : ∀ b off cap, v = .slice (some ⟨b, off, none⟩) L.length cap → 0 < L.length → w'.heap[b]? = w.heap[b]?) : RowR q R w' v L := by
  rcases h with h | ⟨b, off, cap, h1, h2, h3, h4, h5, h6⟩
  · exact Or.inl h
  · refine Or.inr ⟨b, off, cap, h1, h2, h3, h4, Nat.lt_of_lt_of_le h5 hs, fun i x hx => ?_⟩
    obtain ⟨C, g1, g2, g3⟩ := h6 i x hx
    exact ⟨C, g1, fun j u hu => (World.cell?_of_block (a := ⟨b, off + i * q + j, none⟩) (hc b off cap h1 h2)).trans (g2 j u hu), hR _ _ g3⟩
/-- instructions do not lie in a unit's block -/
theorem ins_not_unit {w : World} {b off cap p : Nat} {L : List Ins} {s : ByteArray} {a1 b1 c1 : Option Addr} {a2 a3 b2 b3 c2 c3 : Nat} {rs : Int} {t : TypeId} {fr : Nat × Nat} (h : RowR 3 insR w (.slice (some ⟨b, off, none⟩) L.length cap) L) (h0 : 0 < L.length) (hp : w.heap[p]? = some (.cells #[.string s, .slice a1 a2 a3, .int .i64 rs, .slice b1 b2 b3, .slice c1 c2 c3] t fr)) : b ≠ p := by
  rintro rfl
  obtain ⟨b', off', e, _, hc⟩ := ins_at h h0
  obtain ⟨x, hx⟩ := get_some h0
  obtain ⟨c0, c1', _⟩ := hc 0 x hx
  have e1 : b' = b ∧ off' = off := by have := Option.some.inj e; injection this with h1 h2; exact ⟨h1.symm, h2.symm⟩
  obtain ⟨rfl, rfl⟩ := e1
  unfold World.cell? at c0 c1'
  rw [show (⟨b', off' + 0 * 3, none⟩ : Addr).block = b' from rfl, hp] at c0
  rw [show (⟨b', off' + 0 * 3 + 1, none⟩ : Addr).block = b' from rfl, hp] at c1'
  simp only [Nat.zero_mul, Nat.add_zero] at c0 c1'
  have d0 : #[Value.string s, .slice a1 a2 a3, .int .i64 rs, .slice b1 b2 b3, .slice c1 c2 c3][off']? = some (.int .i64 x.1) := by simpa using c0
  have d1 : #[Value.string s, .slice a1 a2 a3, .int .i64 rs, .slice b1 b2 b3, .slice c1 c2 c3][off' + 1]? = some (.int .i64 x.2.1) := by simpa using c1'
  match off', d0, d1 with
  | 0, d0, _ => simp at d0
  | 1, d0, _ => simp at d0
  | 2, _, d1 => simp at d1
  | 3, d0, _ => simp at d0
  | 4, d0, _ => simp at d0
  | k + 5, d0, _ => simp at d0
theorem own_keep_set {w : World} {B p o q n : Nat} {e : TypeId} {v x : Value} {xs : List Value} (h : w.ownsRow B e q v n xs) (hp : ∀ k, v.ownBlock = some k → k ≠ p) : (w.setCell ⟨p, o, none⟩ x).ownsRow B e q v n xs :=
  owns_set h (fun hk => hp p hk rfl)
theorem below_some {B : Nat} {w0 wa w2 : World} {g : Nat} (hb : Below B w0 wa) (hs : B ≤ wa.heap.size) (hg : wa.grownBy w2 (some g)) (hB : B ≤ g) : Below B w0 w2 :=
  hb.trans ⟨hg.os, hg.tape, hg.output, hg.size, fun k hk => hg.block k (by omega) (fun h => by have := Option.some.inj h; omega)⟩
theorem below_set5 {B : Nat} {w w' : World} {g : Nat} (h : Below B w w') (hB : B ≤ g) (a b c d e : Value) : Below B w (set5 w' g a b c d e) :=
  ((((h.setCell (p := ⟨g, 0, none⟩) hB _).setCell (p := ⟨g, 1, none⟩) hB _).setCell (p := ⟨g, 2, none⟩) hB _).setCell (p := ⟨g, 3, none⟩) hB _).setCell (p := ⟨g, 4, none⟩) hB _
theorem tys_I64 (B : List UInt8) (N : Nat) (lim : Int) (n : Nat) (bad : Bool) : ∀ z ∈ (tysU B N lim n bad).1.1, I64 z := by
  unfold tysU
  split
  · intro z hz; cases hz
  · split
    · intro z hz; cases hz
    · exact natL_I64 _
theorem hP_I64 (B : List UInt8) : ∀ z ∈ (hP B).1.1, I64 z := tys_I64 B 1 8 (Go.Proofs.YtpeogdbfhfkngaaDoor.hT B).2.1 (Go.Proofs.YtpeogdbfhfkngaaDoor.hT B).2.2
theorem hL_I64 (B : List UInt8) : ∀ z ∈ (hL B).1.1, I64 z := tys_I64 B 2 1024 (hR B).2.1 (hR B).2.2
theorem ins_set5 {X : World} {g : Nat} {L : List Ins} {r1 : Option Addr} {r2 r3 : Nat} (h : RowR 3 insR X (.slice r1 r2 r3) L) {s : ByteArray} {a1 b1 c1 : Option Addr} {a2 a3 b2 b3 c2 c3 : Nat} {rs : Int} {t : TypeId} {fr : Nat × Nat} (hp : X.heap[g]? = some (.cells #[.string s, .slice a1 a2 a3, .int .i64 rs, .slice b1 b2 b3, .slice c1 c2 c3] t fr)) (a b c d e : Value) : RowR 3 insR (set5 X g a b c d e) (.slice r1 r2 r3) L := by
  have hx : ∀ (bb off cap : Nat), Value.slice r1 r2 r3 = .slice (some ⟨bb, off, none⟩) L.length cap → 0 < L.length → (set5 X g a b c d e).heap[bb]? = X.heap[bb]? := by
    intro bb off cap e1 h0
    rw [e1] at h
    exact set5_ne (fun q => ins_not_unit h h0 hp q.symm) _ _ _ _ _
  exact row_keep (R := insR) (w := X) (w' := set5 X g a b c d e) (fun _ _ q => ⟨q.1, q.2⟩) h (Nat.le_of_eq (set5_size X g a b c d e).symm) hx
set_option maxHeartbeats 8000000 in
theorem unit_Get (v : Value) (B : List UInt8) (w : World) (hT : STab w) (hv : RowAt w v B.length (byteV B)) (hBl : B.length ≤ 5000) :
    Calls Tryd.prog 16 #[v] w fun e w' => ∃ a b c u er, e = .returned (.tuple #[.agg #[.string ⟨u.name.toArray⟩, a, .int .i64 u.result, b, c], .int .i64 er]) ∧ UnAt w' a b c u ∧ GetU B u er ∧ Below w.heap.size w w' := by
  obtain ⟨W0, hW0⟩ : ∃ W0, W0 = w.alloc (.cells #[.string ⟨#[]⟩, .slice none 0 0, .int .i64 0, .slice none 0 0, .slice none 0 0] 25) := ⟨_, rfl⟩
  have hb0 : Below w.heap.size w W0 := by rw [hW0]; exact (Below.refl _ _).alloc (Nat.le_refl _) _
  have a0 : W0.heap[w.heap.size]? = some (.cells #[.string ⟨#[]⟩, .slice none 0 0, .int .i64 0, .slice none 0 0, .slice none 0 0] 25) := by rw [hW0]; exact heap_alloc_new w _
  have z0 : W0.heap.size = w.heap.size + 1 := by rw [hW0]; simp
  have HNew := Lib.hid (rd_New v B W0 (hv.below hb0) (by omega))
  have HW0 := Lib.hid hW0
  have HT := Lib.hid hT
  have hg1 := Lib.hid (fun (h : hErr B ≠ 0) => (show GetU B unZ (hErr B) from Or.inl ⟨h, rfl, rfl⟩))
  have hg2 := Lib.hid (fun (h : hErr B = 0) L eb s (hb : BodyR B (hSt B).1 (hSt B).2 L eb s) (he : eb ≠ 0) => (show GetU B unZ eb from Or.inr ⟨h, L, eb, s, hb, Or.inl ⟨he, rfl, rfl⟩⟩))
  have hg3 := Lib.hid (fun (h : hErr B = 0) L s (hb : BodyR B (hSt B).1 (hSt B).2 L 0 s) (hl : 0 < leftOf B s.1 s.2) => (show GetU B unZ 4 from Or.inr ⟨h, L, 0, s, hb, Or.inr (Or.inl ⟨rfl, hl, rfl, rfl⟩)⟩))
  have hg4 := Lib.hid (fun (h : hErr B = 0) L s (hb : BodyR B (hSt B).1 (hSt B).2 L 0 s) (hl : ¬ 0 < leftOf B s.1 s.2) => (show GetU B ⟨(Go.Proofs.YtpeogdbfhfkngaaDoor.hT B).1, (hP B).1.1, (hR B).1, (hL B).1.1, L⟩ 0 from Or.inr ⟨h, L, 0, s, hb, Or.inr (Or.inr ⟨rfl, hl, rfl, rfl⟩)⟩))
  have hnl := rText_len B 0 false
  have hrf := rNum1_fit B (hP B).2.1 (hP B).2.2
  rw [show rText B 0 false = Go.Proofs.YtpeogdbfhfkngaaDoor.hT B from rfl] at hnl
  rw [show rNum B 1 (hP B).2.1 (hP B).2.2 = hR B from rfl] at hrf
  have hNL := Lib.hid (And.intro hnl hrf)
  clear hW0 hv hT hnl hrf
  go_enter Tryd.func16, Tryd.ntmps16
  go_wp2_with fail
  rw [← HW0.out]
  refine HNew.out.mono ?_; rintro e w1 ⟨g, q, rfl, hR1, hg, ⟨hq1, hq2⟩, hb1⟩
  have hgl := rd_lt hR1
  have a1 := (hb1.block w.heap.size (by omega)).trans a0
  have hB1 := hb0.trans (hb1.mono (by omega))
  have z1 := hb1.size
  have HR1 := Lib.hid hR1
  have HA1 := Lib.hid a1
  rw [z0] at hg hq1 z1
  clear hR1 a1 hb1 HNew HW0 hb0 a0
  clear z0
  clear W0
  go_wp2_with fail
  refine (unit_head g q B w1 HR1.out (by omega) (by omega)).mono ?_; rintro e w2 ⟨nm, a1, a2, a3, rs, c1, c2, c3, rfl, hR2, hG2, hok⟩
  have z2 := hG2.size
  have hB2 := below_some hB1 (by omega) hG2 (by omega)
  have ar := (hG2.block w.heap.size (by omega) (by simp; omega)).trans HA1.out
  have hqw : q < w2.heap.size := by omega
  obtain ⟨X2, hX2⟩ : ∃ X2, X2 = w2.alloc (.cells #[.string nm, .slice a1 a2 a3, .int .i64 rs, .slice c1 c2 c3, .slice none 0 0] 25) := ⟨_, rfl⟩
  have hBa : Below w2.heap.size w2 X2 := by rw [hX2]; exact (Below.refl _ _).alloc (Nat.le_refl _) _
  have hBX : Below w.heap.size w X2 := hB2.trans (hBa.mono (by omega))
  have arX : X2.heap[w.heap.size]? = some (.cells #[.string ⟨#[]⟩, .slice none 0 0, .int .i64 0, .slice none 0 0, .slice none 0 0] 25) := (hBa.block _ (by omega)).trans ar
  have apX : X2.heap[w2.heap.size]? = some (.cells #[.string nm, .slice a1 a2 a3, .int .i64 rs, .slice c1 c2 c3, .slice none 0 0] 25) := by rw [hX2]; exact heap_alloc_new w2 _
  have hRX := rd_below hR2 hBa
  have zX : X2.heap.size = w2.heap.size + 1 := by rw [hX2]; simp
  have HOK := Lib.hid hok
  have HR2 := Lib.hid (And.intro hRX (And.intro arX (And.intro apX hBX)))
  clear hR2 hG2 hok ar HR1 HA1 hBa hRX apX
  generalize hErr B = er at *
  by_cases h0 : er = 0
  case neg =>
    have q0 : (er == 0) = false := by simpa using h0
    have q1 : (er != 0) = true := by simpa using h0
    have hs := Lib.hid (hg1.out h0)
    rw [hX2] at arX
    have d0 := cell_of arX 0 (v := .string ⟨#[]⟩) rfl
    have d1 := cell_of arX 1 (v := .slice none 0 0) rfl
    have d2 := cell_of arX 2 (v := .int .i64 0) rfl
    have d3 := cell_of arX 3 (v := .slice none 0 0) rfl
    have d4 := cell_of arX 4 (v := .slice none 0 0) rfl
    have f0 := un_free arX 0
    have f1 := un_free arX 1
    have f2 := un_free arX 2
    have f3 := un_free arX 3
    have f4 := un_free arX 4
    have HX := Lib.hid hX2
    clear arX hX2 h0 hg2 hg3 hg4 HOK
    go_wp2_with fail
    obtain ⟨hRX, arX, apX, hBX⟩ := HR2.out
    rw [← HX.out]
    obtain ⟨WF, hWF⟩ : ∃ WF, WF = ((((X2.setCell ⟨w.heap.size, 0, none⟩ (.string ⟨#[]⟩)).setCell ⟨w.heap.size, 1, none⟩ (.slice none 0 0)).setCell ⟨w.heap.size, 2, none⟩ (.int .i64 0)).setCell ⟨w.heap.size, 3, none⟩ (.slice none 0 0)).setCell ⟨w.heap.size, 4, none⟩ (.slice none 0 0) := ⟨_, rfl⟩
    have hF : WF.heap[w.heap.size]? = some (.cells #[.string ⟨#[]⟩, .slice none 0 0, .int .i64 0, .slice none 0 0, .slice none 0 0] 25) := by rw [hWF]; exact set5_at arX _ _ _ _ _
    have y0 := cell_of hF 0 (v := .string ⟨#[]⟩) rfl
    have y1 := cell_of hF 1 (v := .slice none 0 0) rfl
    have y2 := cell_of hF 2 (v := .int .i64 0) rfl
    have y3 := cell_of hF 3 (v := .slice none 0 0) rfl
    have y4 := cell_of hF 4 (v := .slice none 0 0) rfl
    rw [← hWF]
    refine bodyPost_ret (by simp [results, Tryd.results16, go_sem, y0, y1, y2, y3, y4]; rfl) rfl ?_
    exact ⟨.slice none 0 0, .slice none 0 0, .slice none 0 0, unZ, er, rfl, unZ_at _, hs.out, by rw [hWF]; exact below_set5 hBX (Nat.le_refl _) _ _ _ _ _⟩
  obtain ⟨hnm, hrs, hOa, hOc⟩ := HOK.out h0
  have G2 := Lib.hid (hg2.out h0)
  have G3 := Lib.hid (hg3.out h0)
  have G4 := Lib.hid (hg4.out h0)
  have HS := Lib.hid (And.intro hOa hOc)
  have HNM := Lib.hid (And.intro hnm hrs)
  have HX := Lib.hid hX2
  clear hg1 hg2 hg3 hg4 HOK hnm hrs hOa hOc arX hX2 hBX
  subst h0
  go_wp2_with fail
  rw [← HX.out]
  obtain ⟨hRX, arX, apX, hBX⟩ := HR2.out
  refine (unit_body g q B (hSt B).1 (hSt B).2 X2 hRX (HT.out.below hBX) (fun W hW => HT.out.below (below_some hBX (by omega) hW (by omega))) hBl).mono ?_; rintro e w3 ⟨r1, r2, r3, L, eb, s, rfl, hbd, hrow, hR3, hG3⟩
  have z3 := hG3.size
  have hB3 := below_some hBX (by omega) hG3 (by omega)
  have ar3 := (hG3.block w.heap.size (by omega) (by simp; omega)).trans arX
  have ap3 := (hG3.block w2.heap.size (by omega) (by simp; omega)).trans apX
  have hrL : r2 = L.length := by obtain ⟨_, _, e⟩ := ins_get hrow; injection e
  have c4 := cell_of ap3 4 (v := .slice none 0 0) rfl
  have f4 := un_free ap3 4
  obtain ⟨X3, hX3⟩ : ∃ X3, X3 = w3.setCell ⟨w2.heap.size, 4, none⟩ (.slice r1 r2 r3) := ⟨_, rfl⟩
  have ar4 : X3.heap[w.heap.size]? = some (.cells #[.string ⟨#[]⟩, .slice none 0 0, .int .i64 0, .slice none 0 0, .slice none 0 0] 25) := by rw [hX3]; exact (un_set_ne (by omega) _).trans ar3
  have ap4 : X3.heap[w2.heap.size]? = some (.cells #[.string nm, .slice a1 a2 a3, .int .i64 rs, .slice c1 c2 c3, .slice r1 r2 r3] 25) := by rw [hX3]; exact un_set ap3 _
  have hR4 : RdAt X3 g q B s.1 s.2 := by rw [hX3]; exact rd_set hR3 _ _ (by simp; omega) (by simp; omega)
  have hB4 : Below w.heap.size w X3 := by rw [hX3]; exact hB3.setCell (p := ⟨w2.heap.size, 4, none⟩) (by simp; omega) _
  have z4 : X3.heap.size = w3.heap.size := by rw [hX3]; simp [World.setCell]
  have hrow4 : RowR 3 insR X3 (.slice r1 r2 r3) L := row_keep (w := w3) (fun _ _ x => x) hrow (by omega) (fun b off cap e h0 => by
    rw [hX3]
    subst hrL
    injection e with e1 e2 e3
    subst e1 e3
    exact un_set_ne (fun e => ins_not_unit hrow h0 ap3 e.symm) _)
  have hOO : X3.ownsRow w1.heap.size 3 1 (.slice a1 a2 a3) (hP B).1.1.length (iV (hP B).1.1) ∧ X3.ownsRow w1.heap.size 3 1 (.slice c1 c2 c3) (hL B).1.1.length (iV (hL B).1.1) := by
    obtain ⟨hOa, hOc⟩ := HS.out
    have lt1 := fun k hk => owns_lt (g := k) hOa hk
    have lt2 := fun k hk => owns_lt (g := k) hOc hk
    have hBa : Below w2.heap.size w2 X2 := by rw [HX.out]; exact (Below.refl _ _).alloc (Nat.le_refl _) _
    rw [hX3]
    exact ⟨own_keep_set (own_past (owns_below hOa hBa) hG3 (by omega)) (fun k hk => by have := (lt1 k hk).2; omega), own_keep_set (own_past (owns_below hOc hBa) hG3 (by omega)) (fun k hk => by have := (lt2 k hk).2; omega)⟩
  have HH := Lib.hid (And.intro ar4 (And.intro ap4 (And.intro hR4 (And.intro hB4 (And.intro hrow4 hOO)))))
  have HBD := Lib.hid hbd
  clear hrow hR3 hG3 hB3 ar3 ap3 hR4 hB4 hrow4 hOO HS hRX arX apX hBX HR2 hrL hbd
  by_cases h1 : eb = 0
  case neg =>
    have q0 : (eb == 0) = false := by simpa using h1
    have q1 : (eb != 0) = true := by simpa using h1
    have hs := Lib.hid (G2.out L eb s HBD.out h1)
    rw [hX3] at ar4
    have d0 := cell_of ar4 0 (v := .string ⟨#[]⟩) rfl
    have d1 := cell_of ar4 1 (v := .slice none 0 0) rfl
    have d2 := cell_of ar4 2 (v := .int .i64 0) rfl
    have d3 := cell_of ar4 3 (v := .slice none 0 0) rfl
    have d4 := cell_of ar4 4 (v := .slice none 0 0) rfl
    have k0 := un_free ar4 0
    have k1 := un_free ar4 1
    have k2 := un_free ar4 2
    have k3 := un_free ar4 3
    have k4 := un_free ar4 4
    have HX3 := Lib.hid hX3
    clear ar4 ap4 hX3 h1
    go_wp2_with fail
    obtain ⟨ar4, _, _, hB4, _⟩ := HH.out
    rw [← HX3.out]
    obtain ⟨WF, hWF⟩ : ∃ WF, WF = ((((X3.setCell ⟨w.heap.size, 0, none⟩ (.string ⟨#[]⟩)).setCell ⟨w.heap.size, 1, none⟩ (.slice none 0 0)).setCell ⟨w.heap.size, 2, none⟩ (.int .i64 0)).setCell ⟨w.heap.size, 3, none⟩ (.slice none 0 0)).setCell ⟨w.heap.size, 4, none⟩ (.slice none 0 0) := ⟨_, rfl⟩
    have hF : WF.heap[w.heap.size]? = some (.cells #[.string ⟨#[]⟩, .slice none 0 0, .int .i64 0, .slice none 0 0, .slice none 0 0] 25) := by rw [hWF]; exact set5_at ar4 _ _ _ _ _
    have y0 := cell_of hF 0 (v := .string ⟨#[]⟩) rfl
    have y1 := cell_of hF 1 (v := .slice none 0 0) rfl
    have y2 := cell_of hF 2 (v := .int .i64 0) rfl
    have y3 := cell_of hF 3 (v := .slice none 0 0) rfl
    have y4 := cell_of hF 4 (v := .slice none 0 0) rfl
    rw [← hWF]
    refine bodyPost_ret (by simp [results, Tryd.results16, go_sem, y0, y1, y2, y3, y4]; rfl) rfl ?_
    exact ⟨.slice none 0 0, .slice none 0 0, .slice none 0 0, unZ, eb, rfl, unZ_at _, hs.out, by rw [hWF]; exact below_set5 hB4 (Nat.le_refl _) _ _ _ _ _⟩
  have G5 := Lib.hid (fun hl => G3.out L s (h1 ▸ HBD.out) hl)
  have G6 := Lib.hid (fun hl => G4.out L s (h1 ▸ HBD.out) hl)
  clear G2 G3 G4 HBD
  subst h1
  have HX3 := Lib.hid hX3
  clear ar4 ap4 hX3
  go_wp2_with fail
  rw [← HX3.out]
  obtain ⟨ar4, ap4, hR4, hB4, hrow4, hOO⟩ := HH.out
  refine (reader_Left g q B s.1 s.2 X3 hR4).mono ?_; rintro e w4 ⟨rfl, m4, rfl⟩
  obtain ⟨X4, hX4⟩ : ∃ X4, X4 = X3.drewN m4 := ⟨_, rfl⟩
  have hD : Below X3.heap.size X3 X4 := by rw [hX4]; exact Below_drewN _ _ _
  have ar5 := (hD.block _ (by omega)).trans ar4
  have ap5 := (hD.block _ (by omega)).trans ap4
  have hB5 := hB4.trans (hD.mono (by omega))
  have z5 := hD.size
  have hrow5 := hrow4.below insR_stable hD
  have hOO5 := And.intro (owns_below hOO.1 hD) (owns_below hOO.2 hD)
  rw [← hX4]
  have HH5 := Lib.hid (And.intro ar5 (And.intro ap5 (And.intro hB5 (And.intro hrow5 hOO5))))
  clear hD hX4 ar4 ap4 hR4 hB4 hrow4 hOO hB5 hrow5 hOO5 c4 f4 HH
  clear HX3
  generalize leftOf B s.1 s.2 = lf at *
  by_cases h2 : 0 < lf
  · have q2 : (0 < lf) = True := eq_true h2
    have hs := Lib.hid (G5.out h2)
    have d0 := cell_of ar5 0 (v := .string ⟨#[]⟩) rfl
    have d1 := cell_of ar5 1 (v := .slice none 0 0) rfl
    have d2 := cell_of ar5 2 (v := .int .i64 0) rfl
    have d3 := cell_of ar5 3 (v := .slice none 0 0) rfl
    have d4 := cell_of ar5 4 (v := .slice none 0 0) rfl
    have k0 := un_free ar5 0
    have k1 := un_free ar5 1
    have k2 := un_free ar5 2
    have k3 := un_free ar5 3
    have k4 := un_free ar5 4
    clear ar5 ap5 h2
    go_wp2_with fail
    obtain ⟨ar5, _, hB5, _⟩ := HH5.out
    obtain ⟨WF, hWF⟩ : ∃ WF, WF = ((((X4.setCell ⟨w.heap.size, 0, none⟩ (.string ⟨#[]⟩)).setCell ⟨w.heap.size, 1, none⟩ (.slice none 0 0)).setCell ⟨w.heap.size, 2, none⟩ (.int .i64 0)).setCell ⟨w.heap.size, 3, none⟩ (.slice none 0 0)).setCell ⟨w.heap.size, 4, none⟩ (.slice none 0 0) := ⟨_, rfl⟩
    have hF : WF.heap[w.heap.size]? = some (.cells #[.string ⟨#[]⟩, .slice none 0 0, .int .i64 0, .slice none 0 0, .slice none 0 0] 25) := by rw [hWF]; exact set5_at ar5 _ _ _ _ _
    have y0 := cell_of hF 0 (v := .string ⟨#[]⟩) rfl
    have y1 := cell_of hF 1 (v := .slice none 0 0) rfl
    have y2 := cell_of hF 2 (v := .int .i64 0) rfl
    have y3 := cell_of hF 3 (v := .slice none 0 0) rfl
    have y4 := cell_of hF 4 (v := .slice none 0 0) rfl
    rw [← hWF]
    refine bodyPost_ret (by simp [results, Tryd.results16, go_sem, y0, y1, y2, y3, y4]; rfl) rfl ?_
    exact ⟨.slice none 0 0, .slice none 0 0, .slice none 0 0, unZ, 4, rfl, unZ_at _, hs.out, by rw [hWF]; exact below_set5 hB5 (Nat.le_refl _) _ _ _ _ _⟩
  · have q2 : (0 < lf) = False := eq_false h2
    have hs := Lib.hid (G6.out (by omega))
    have d0 := cell_of ar5 0 (v := .string ⟨#[]⟩) rfl
    have d1 := cell_of ar5 1 (v := .slice none 0 0) rfl
    have d2 := cell_of ar5 2 (v := .int .i64 0) rfl
    have d3 := cell_of ar5 3 (v := .slice none 0 0) rfl
    have d4 := cell_of ar5 4 (v := .slice none 0 0) rfl
    have k0 := un_free ar5 0
    have k1 := un_free ar5 1
    have k2 := un_free ar5 2
    have k3 := un_free ar5 3
    have k4 := un_free ar5 4
    have p0 := cell_of ap5 0 (v := .string nm) rfl
    have p1 := cell_of ap5 1 (v := .slice a1 a2 a3) rfl
    have p2 := cell_of ap5 2 (v := .int .i64 rs) rfl
    have p3 := cell_of ap5 3 (v := .slice c1 c2 c3) rfl
    have p4 := cell_of ap5 4 (v := .slice r1 r2 r3) rfl
    clear ar5 ap5 h2
    go_wp2_with fail
    obtain ⟨ar5, ap5, hB5, hrow5, hOa, hOc⟩ := HH5.out
    obtain ⟨WF, hWF⟩ : ∃ WF, WF = ((((X4.setCell ⟨w.heap.size, 0, none⟩ (.string nm)).setCell ⟨w.heap.size, 1, none⟩ (.slice a1 a2 a3)).setCell ⟨w.heap.size, 2, none⟩ (.int .i64 rs)).setCell ⟨w.heap.size, 3, none⟩ (.slice c1 c2 c3)).setCell ⟨w.heap.size, 4, none⟩ (.slice r1 r2 r3) := ⟨_, rfl⟩
    have hF : WF.heap[w.heap.size]? = some (.cells #[.string nm, .slice a1 a2 a3, .int .i64 rs, .slice c1 c2 c3, .slice r1 r2 r3] 25) := by rw [hWF]; exact set5_at ar5 _ _ _ _ _
    have y0 := cell_of hF 0 (v := .string nm) rfl
    have y1 := cell_of hF 1 (v := .slice a1 a2 a3) rfl
    have y2 := cell_of hF 2 (v := .int .i64 rs) rfl
    have y3 := cell_of hF 3 (v := .slice c1 c2 c3) rfl
    have y4 := cell_of hF 4 (v := .slice r1 r2 r3) rfl
    rw [← hWF]
    refine bodyPost_ret (by simp [results, Tryd.results16, go_sem, y0, y1, y2, y3, y4]; rfl) rfl ?_
    obtain ⟨hnm, hrs⟩ := HNM.out
    obtain ⟨hl1, hl2, hl3⟩ := hNL.out
    have hW5 : WF = set5 X4 w.heap.size (.string nm) (.slice a1 a2 a3) (.int .i64 rs) (.slice c1 c2 c3) (.slice r1 r2 r3) := hWF
    refine ⟨.slice a1 a2 a3, .slice c1 c2 c3, .slice r1 r2 r3, ⟨(Go.Proofs.YtpeogdbfhfkngaaDoor.hT B).1, (hP B).1.1, (hR B).1, (hL B).1.1, L⟩, 0, ?_, ⟨?_, ?_, ?_, ?_, ?_⟩, hs.out, ?_⟩
    · show Ending.returned (.tuple #[.agg #[.string nm, .slice a1 a2 a3, .int .i64 rs, .slice c1 c2 c3, .slice r1 r2 r3], .int .i64 0]) = _
      rw [hnm, hrs]
    · rw [hW5]; exact row_of_owns (own_set5 hOa (by omega)) (hP_I64 B)
    · rw [hW5]; exact row_of_owns (own_set5 hOc (by omega)) (hL_I64 B)
    · rw [hW5]; exact ins_set5 hrow5 ar5 _ _ _ _ _
    · exact Nat.le_trans hl1 (by decide)
    · exact ⟨Int.le_trans (by decide) hl2, Int.le_trans hl3 (by decide)⟩
    · rw [hW5]; exact below_set5 hB5 (Nat.le_refl _) _ _ _ _ _
end Go.Proofs.YtpeogdbfhfkngaaDoor

/- Cells of older blocks, in later worlds. -/
namespace Go.Proofs.YtpeogdbfhfkngaaDoor
open Go.RowKit
theorem cellB {a b : World} (k : Below a.heap.size a b) {g o : Nat} {v : Value} (hc : a.cell? ⟨g, o, none⟩ = some v) (hp : g < a.heap.size) : b.cell? ⟨g, o, none⟩ = some v := (k.cell (p := ⟨g, o, none⟩) hp).trans hc
end Go.Proofs.YtpeogdbfhfkngaaDoor

/- What a block that was made for a value holds. -/
namespace Go.Proofs.YtpeogdbfhfkngaaDoor
open Go.RowKit
def Boxed (W : World) (g : Nat) (L : List Value) : Prop := ∀ i u, L[i]? = some u → W.cell? ⟨g, i, none⟩ = some u
theorem Boxed.new (W : World) (L : List Value) (t : TypeId) {W' : World} (h : Below (W.heap.size + 1) (W.alloc (.cells L.toArray t)) W') : Boxed W' W.heap.size L := fun i u hu =>
  (h.cell (p := ⟨W.heap.size, i, none⟩) (by show W.heap.size < _; omega)).trans (by rw [cell_at rfl]; simpa using hu)
theorem Boxed.keep {W W' : World} {g : Nat} {L : List Value} (c : Boxed W g L) (hb : g < W.heap.size) (h : Below W.heap.size W W') : Boxed W' g L := fun i u hu => (h.cell (p := ⟨g, i, none⟩) hb).trans (c i u hu)
/-- two boxes, one behind the other -/
theorem boxed2 (w : World) (L M : List Value) (t u : TypeId) {W' : World} (h : Below (w.heap.size + 2) ((w.alloc (.cells L.toArray t)).alloc (.cells M.toArray u)) W') : Boxed W' w.heap.size L ∧ Boxed W' (w.heap.size + 1) M ∧ w.heap.size + 1 < W'.heap.size ∧ Below w.heap.size w W' := by
  have e : (w.alloc (.cells L.toArray t)).heap.size = w.heap.size + 1 := by simp
  have hb : Below w.heap.size w ((w.alloc (.cells L.toArray t)).alloc (.cells M.toArray u)) := Below.alloc (Below.alloc (Below.refl _ _) (by omega) _) (by simp) _
  refine ⟨?_, ?_, by have := h.size; simp at this; omega, hb.trans (h.mono (by omega))⟩
  · exact Boxed.new w L t (Below.trans (Below.alloc (Below.refl _ _) (by simp) _) (h.mono (by omega)))
  · have := Boxed.new (w.alloc (.cells L.toArray t)) M u (W' := W') (by rw [e]; exact h)
    rw [e] at this; exact this
end Go.Proofs.YtpeogdbfhfkngaaDoor
