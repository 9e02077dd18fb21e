/- Merged texts: RefGetV, RefVars, RefBlkR, RefBlks, RefBlksW, RefBox, Ints. -/
import Derived.Test.YtjikkipdmonndaaDoorMg3
import Derived.Test.YtjikkipdmonndaaDoorMg6
import Derived.Test.YtjikkipdmonndaaDoorMg1
import Derived.Test.YtjikkipdmonndaaDoorMg5
import Derived.Test.YtjikkipdmonndaaDoorMg0
import Derived.Deep.Cut
import Derived.Deep.CutRange
import Derived.RegionTactic
import Derived.LoopTactic
import Derived.OwnWalk
import Derived.WalkKit
import Derived.WalkSpells
import Derived.WalkLawsBesides
import Derived.Deep.QuietTactic
import Derived.BigQuiet
import Derived.WalkSmall
import Derived.IntWalk
/- Layer 14: variables are read, one and tables, by the program and by the reference; the same variables are the same. -/
namespace Go.Proofs.YtjikkipdmonndaaDoor
open Go.RowKit
set_option linter.unusedSimpArgs false
set_option linter.unusedVariables false
theorem set_at0 {w : World} {g : Nat} {C : Array Value} {t : TypeId} {fr : Nat × Nat} (h : w.heap[g]? = some (.cells C t fr)) (i : Nat) (v : Value) (D : Array Value) (hD : C.setIfInBounds i v = D) : (w.setCell ⟨g, i, none⟩ v).heap[g]? = some (.cells D t fr) := by subst hD; exact (set_at h i v 0).1
def varV (x : Vr) : Value := .agg #[.string ⟨x.name.toArray⟩, .int .i64 x.t, .int .i64 x.n, .int .i64 x.area, .int .i64 x.init]
set_option maxRecDepth 100000 in
set_option maxHeartbeats 1000000 in
theorem tab_GetVar (g q : Nat) (L : List UInt8) (n : Nat) (bad : Bool) (w : World) (h : RdAt w g q L n bad) (hq : q < w.heap.size) :
    Calls Tryd.prog 99 #[.pointer (some ⟨g, 0, none⟩)] w fun e w' => e = .returned (varV (rVar L n bad).1) ∧ RdAt w' g q L (rVar L n bad).2.1 (rVar L n bad).2.2 ∧ w.grownBy w' (some g) := by
  unfold rVar rV5 rV4 rV3 rV2 rV1
  have hgl := rd_lt h
  obtain ⟨A, hA⟩ : ∃ A, rText L n bad = A := ⟨_, rfl⟩
  have HT := Lib.hid (fun W hW => rd_Text g q L n bad W hW)
  rw [hA] at HT ⊢
  clear hA
  obtain ⟨s, n0, b0⟩ := A
  dsimp only at HT ⊢
  obtain ⟨A, hA⟩ : ∃ A, rNum L 1 n0 b0 = A := ⟨_, rfl⟩
  have H1 := Lib.hid (fun W hW => rd_Num g q L n0 1 b0 1 W hW (by decide) (by omega))
  rw [hA] at H1 ⊢
  clear hA
  obtain ⟨c1, n1, b1⟩ := A
  dsimp only at H1 ⊢
  obtain ⟨A, hA⟩ : ∃ A, rNum L 1 n1 b1 = A := ⟨_, rfl⟩
  have H2 := Lib.hid (fun W hW => rd_Num g q L n1 1 b1 1 W hW (by decide) (by omega))
  rw [hA] at H2 ⊢
  clear hA
  obtain ⟨c2, n2, b2⟩ := A
  dsimp only at H2 ⊢
  obtain ⟨A, hA⟩ : ∃ A, rNum L 1 n2 b2 = A := ⟨_, rfl⟩
  have H3 := Lib.hid (fun W hW => rd_Num g q L n2 1 b2 1 W hW (by decide) (by omega))
  rw [hA] at H3 ⊢
  clear hA
  obtain ⟨c3, n3, b3⟩ := A
  dsimp only at H3 ⊢
  obtain ⟨A, hA⟩ : ∃ A, rNum L 8 n3 b3 = A := ⟨_, rfl⟩
  have H4 := Lib.hid (fun W hW => rd_Num g q L n3 8 b3 8 W hW (by decide) (by omega))
  rw [hA] at H4 ⊢
  clear hA
  obtain ⟨c4, n4, b4⟩ := A
  dsimp only at H4 ⊢
  have h0 : RdAt ((w.alloc (.cells #[.string ⟨#[]⟩, .int .i64 0, .int .i64 0, .int .i64 0, .int .i64 0] 41)).alloc (.cells #[.string ⟨#[]⟩, .int .i64 0, .int .i64 0, .int .i64 0, .int .i64 0] 41)) g q L n bad := rd_below (rd_below h ((Below.refl _ _).alloc (Nat.le_refl _) _)) ((Below.refl _ _).alloc (Nat.le_refl _) _)
  have g0 : w.grownBy ((w.alloc (.cells #[.string ⟨#[]⟩, .int .i64 0, .int .i64 0, .int .i64 0, .int .i64 0] 41)).alloc (.cells #[.string ⟨#[]⟩, .int .i64 0, .int .i64 0, .int .i64 0, .int .i64 0] 41)) (some g) := grown_alloc (grown_alloc (World.grownBy.refl _ _) _) _
  have a1 : ((w.alloc (.cells #[.string ⟨#[]⟩, .int .i64 0, .int .i64 0, .int .i64 0, .int .i64 0] 41)).alloc (.cells #[.string ⟨#[]⟩, .int .i64 0, .int .i64 0, .int .i64 0, .int .i64 0] 41)).heap[w.heap.size]? = some (.cells #[.string ⟨#[]⟩, .int .i64 0, .int .i64 0, .int .i64 0, .int .i64 0] 41 (0, 0)) := by
    rw [Below.heap_alloc _ _ _ (by simp)]; exact heap_alloc_new w _
  have a2 : ((w.alloc (.cells #[.string ⟨#[]⟩, .int .i64 0, .int .i64 0, .int .i64 0, .int .i64 0] 41)).alloc (.cells #[.string ⟨#[]⟩, .int .i64 0, .int .i64 0, .int .i64 0, .int .i64 0] 41)).heap[w.heap.size + 1]? = some (.cells #[.string ⟨#[]⟩, .int .i64 0, .int .i64 0, .int .i64 0, .int .i64 0] 41 (0, 0)) := alloc_get (by simp)
  have HT1 := Lib.hid (HT.out _ h0)
  clear HT
  have G0 := Lib.hid (And.intro a1 (And.intro a2 (And.intro h0 g0)))
  clear a1 a2 h0 g0 h
  go_enter Tryd.func99, Tryd.ntmps99
  go_wp2_with fail
  refine HT1.out.mono ?_; rintro e w1 ⟨rfl, hR, hG1⟩
  obtain ⟨W0, hW0⟩ : ∃ W0, W0 = ((w.alloc (.cells #[.string ⟨#[]⟩, .int .i64 0, .int .i64 0, .int .i64 0, .int .i64 0] 41)).alloc (.cells #[.string ⟨#[]⟩, .int .i64 0, .int .i64 0, .int .i64 0, .int .i64 0] 41)) := ⟨_, rfl⟩
  rw [← hW0] at G0 hG1
  obtain ⟨a1, a2, h0, g0⟩ := G0.out
  have z0 : W0.heap.size = w.heap.size + 2 := by rw [hW0]; simp
  have e1 := (hG1.block w.heap.size (by omega) (by simp; omega)).trans a1
  have e2 := (hG1.block (w.heap.size + 1) (by omega) (by simp; omega)).trans a2
  have z1 : w.heap.size + 2 ≤ w1.heap.size := by have := hG1.size; omega
  have hG := grown_grown g0 hG1
  have cA := cell_of e2 0 (v := .string ⟨#[]⟩) rfl
  have fA := free_of e2 0
  have HX := Lib.hid (And.intro hR (And.intro hG (And.intro e1 e2)))
  clear hR hG hG1 G0 HT1 a1 a2 h0 g0 e1 e2 hW0
  go_wp2_with fail
  obtain ⟨hR, hG, e1, e2⟩ := HX.out
  clear HX
  obtain ⟨k1, k2⟩ := set_at e2 0 (.string ⟨s.toArray⟩) 0
  have k1 : (w1.setCell ⟨w.heap.size + 1, 0, none⟩ (.string ⟨s.toArray⟩)).heap[w.heap.size + 1]? = some (.cells #[.string ⟨s.toArray⟩, .int .i64 0, .int .i64 0, .int .i64 0, .int .i64 0] 41 (0, 0)) := k1
  refine (H1.out _ (rd_set hR ⟨w.heap.size + 1, 0, none⟩ (.string ⟨s.toArray⟩) (by simp; omega) (by simp; omega))).mono ?_; rintro e w2 ⟨rfl, hR3, hG3⟩
  have zs : (w1.setCell ⟨w.heap.size + 1, 0, none⟩ (.string ⟨s.toArray⟩)).heap.size = w1.heap.size := by simp [World.setCell]
  have hG2 := grown_set hG (p := ⟨w.heap.size + 1, 0, none⟩) (by simp) (.string ⟨s.toArray⟩)
  have f1 := (hG3.block w.heap.size (by omega) (by simp; omega)).trans ((Below.heap_setCell _ _ _ _ (by simp)).trans e1)
  have f2 := (hG3.block (w.heap.size + 1) (by omega) (by simp; omega)).trans k1
  have z2 : w.heap.size + 2 ≤ w2.heap.size := by have := hG3.size; omega
  have hG4 := grown_grown hG2 hG3
  clear cA fA
  have cA := cell_of f2 1 (v := .int .i64 0) rfl
  have fA := free_of f2 1
  have HX := Lib.hid (And.intro hR3 (And.intro hG4 (And.intro f1 f2)))
  clear hR hG e1 e2 k1 k2 hR3 hG3 hG2 f1 f2 hG4 zs H1
  go_wp2_with fail
  obtain ⟨hR, hG, e1, e2⟩ := HX.out
  clear HX
  obtain ⟨k1, k2⟩ := set_at e2 1 (.int .i64 c1) 0
  have k1 : (w2.setCell ⟨w.heap.size + 1, 1, none⟩ (.int .i64 c1)).heap[w.heap.size + 1]? = some (.cells #[.string ⟨s.toArray⟩, .int .i64 c1, .int .i64 0, .int .i64 0, .int .i64 0] 41 (0, 0)) := k1
  refine (H2.out _ (rd_set hR ⟨w.heap.size + 1, 1, none⟩ (.int .i64 c1) (by simp; omega) (by simp; omega))).mono ?_; rintro e w3 ⟨rfl, hR3, hG3⟩
  have zs : (w2.setCell ⟨w.heap.size + 1, 1, none⟩ (.int .i64 c1)).heap.size = w2.heap.size := by simp [World.setCell]
  have hG2 := grown_set hG (p := ⟨w.heap.size + 1, 1, none⟩) (by simp) (.int .i64 c1)
  have f1 := (hG3.block w.heap.size (by omega) (by simp; omega)).trans ((Below.heap_setCell _ _ _ _ (by simp)).trans e1)
  have f2 := (hG3.block (w.heap.size + 1) (by omega) (by simp; omega)).trans k1
  have z3 : w.heap.size + 2 ≤ w3.heap.size := by have := hG3.size; omega
  have hG4 := grown_grown hG2 hG3
  clear cA fA
  have cA := cell_of f2 2 (v := .int .i64 0) rfl
  have fA := free_of f2 2
  have HX := Lib.hid (And.intro hR3 (And.intro hG4 (And.intro f1 f2)))
  clear hR hG e1 e2 k1 k2 hR3 hG3 hG2 f1 f2 hG4 zs H2
  go_wp2_with fail
  obtain ⟨hR, hG, e1, e2⟩ := HX.out
  clear HX
  obtain ⟨k1, k2⟩ := set_at e2 2 (.int .i64 c2) 0
  have k1 : (w3.setCell ⟨w.heap.size + 1, 2, none⟩ (.int .i64 c2)).heap[w.heap.size + 1]? = some (.cells #[.string ⟨s.toArray⟩, .int .i64 c1, .int .i64 c2, .int .i64 0, .int .i64 0] 41 (0, 0)) := k1
  refine (H3.out _ (rd_set hR ⟨w.heap.size + 1, 2, none⟩ (.int .i64 c2) (by simp; omega) (by simp; omega))).mono ?_; rintro e w4 ⟨rfl, hR3, hG3⟩
  have zs : (w3.setCell ⟨w.heap.size + 1, 2, none⟩ (.int .i64 c2)).heap.size = w3.heap.size := by simp [World.setCell]
  have hG2 := grown_set hG (p := ⟨w.heap.size + 1, 2, none⟩) (by simp) (.int .i64 c2)
  have f1 := (hG3.block w.heap.size (by omega) (by simp; omega)).trans ((Below.heap_setCell _ _ _ _ (by simp)).trans e1)
  have f2 := (hG3.block (w.heap.size + 1) (by omega) (by simp; omega)).trans k1
  have z4 : w.heap.size + 2 ≤ w4.heap.size := by have := hG3.size; omega
  have hG4 := grown_grown hG2 hG3
  clear cA fA
  have cA := cell_of f2 3 (v := .int .i64 0) rfl
  have fA := free_of f2 3
  have HX := Lib.hid (And.intro hR3 (And.intro hG4 (And.intro f1 f2)))
  clear hR hG e1 e2 k1 k2 hR3 hG3 hG2 f1 f2 hG4 zs H3
  go_wp2_with fail
  obtain ⟨hR, hG, e1, e2⟩ := HX.out
  clear HX
  obtain ⟨k1, k2⟩ := set_at e2 3 (.int .i64 c3) 0
  have k1 : (w4.setCell ⟨w.heap.size + 1, 3, none⟩ (.int .i64 c3)).heap[w.heap.size + 1]? = some (.cells #[.string ⟨s.toArray⟩, .int .i64 c1, .int .i64 c2, .int .i64 c3, .int .i64 0] 41 (0, 0)) := k1
  refine (H4.out _ (rd_set hR ⟨w.heap.size + 1, 3, none⟩ (.int .i64 c3) (by simp; omega) (by simp; omega))).mono ?_; rintro e w5 ⟨rfl, hR3, hG3⟩
  have zs : (w4.setCell ⟨w.heap.size + 1, 3, none⟩ (.int .i64 c3)).heap.size = w4.heap.size := by simp [World.setCell]
  have hG2 := grown_set hG (p := ⟨w.heap.size + 1, 3, none⟩) (by simp) (.int .i64 c3)
  have f1 := (hG3.block w.heap.size (by omega) (by simp; omega)).trans ((Below.heap_setCell _ _ _ _ (by simp)).trans e1)
  have f2 := (hG3.block (w.heap.size + 1) (by omega) (by simp; omega)).trans k1
  have z5 : w.heap.size + 2 ≤ w5.heap.size := by have := hG3.size; omega
  have hG4 := grown_grown hG2 hG3
  clear cA fA
  have fB := free_of f2 4
  have d0 := cell_of f2 0 (v := .string ⟨s.toArray⟩) rfl
  have p0 := cell_of f1 0 (v := .string ⟨#[]⟩) rfl
  have r0 := free_of f1 0
  have d1 := cell_of f2 1 (v := .int .i64 c1) rfl
  have p1 := cell_of f1 1 (v := .int .i64 0) rfl
  have r1 := free_of f1 1
  have d2 := cell_of f2 2 (v := .int .i64 c2) rfl
  have p2 := cell_of f1 2 (v := .int .i64 0) rfl
  have r2 := free_of f1 2
  have d3 := cell_of f2 3 (v := .int .i64 c3) rfl
  have p3 := cell_of f1 3 (v := .int .i64 0) rfl
  have r3 := free_of f1 3
  have d4 := cell_of f2 4 (v := .int .i64 0) rfl
  have p4 := cell_of f1 4 (v := .int .i64 0) rfl
  have r4 := free_of f1 4
  have x0 : (w5.setCell ⟨w.heap.size + 1, 4, none⟩ (.int .i64 c4)).heap[w.heap.size]? = some (.cells #[.string ⟨#[]⟩, .int .i64 0, .int .i64 0, .int .i64 0, .int .i64 0] 41 (0, 0)) := (Below.heap_setCell _ _ _ _ (by simp)).trans f1
  have x1 := set_at0 x0 0 (.string ⟨s.toArray⟩) #[.string ⟨s.toArray⟩, .int .i64 0, .int .i64 0, .int .i64 0, .int .i64 0] rfl
  have x2 := set_at0 x1 1 (.int .i64 c1) #[.string ⟨s.toArray⟩, .int .i64 c1, .int .i64 0, .int .i64 0, .int .i64 0] rfl
  have x3 := set_at0 x2 2 (.int .i64 c2) #[.string ⟨s.toArray⟩, .int .i64 c1, .int .i64 c2, .int .i64 0, .int .i64 0] rfl
  have x4 := set_at0 x3 3 (.int .i64 c3) #[.string ⟨s.toArray⟩, .int .i64 c1, .int .i64 c2, .int .i64 c3, .int .i64 0] rfl
  have x5 := set_at0 x4 4 (.int .i64 c4) #[.string ⟨s.toArray⟩, .int .i64 c1, .int .i64 c2, .int .i64 c3, .int .i64 c4] rfl
  have y0 := cell_of x5 0 (v := .string ⟨s.toArray⟩) rfl
  have y1 := cell_of x5 1 (v := .int .i64 c1) rfl
  have y2 := cell_of x5 2 (v := .int .i64 c2) rfl
  have y3 := cell_of x5 3 (v := .int .i64 c3) rfl
  have y4 := cell_of x5 4 (v := .int .i64 c4) rfl
  have H3 := Lib.hid (And.intro hR3 (And.intro hG4 (And.intro y0 (And.intro y1 (And.intro y2 (And.intro y3 y4))))))
  clear hR hG e1 e2 k1 k2 hR3 hG3 hG2 f1 f2 hG4 zs H4 x0 x1 x2 x3 x4 x5 y0 y1 y2 y3 y4
  go_wp2_with fail
  obtain ⟨hR3, hG4, y0, y1, y2, y3, y4⟩ := H3.out
  obtain ⟨W4, hW4⟩ : ∃ W4, W4 = ((((((w5.setCell ⟨w.heap.size + 1, 4, none⟩ (.int .i64 c4)).setCell ⟨w.heap.size, 0, none⟩ (.string ⟨s.toArray⟩)).setCell ⟨w.heap.size, 1, none⟩ (.int .i64 c1)).setCell ⟨w.heap.size, 2, none⟩ (.int .i64 c2)).setCell ⟨w.heap.size, 3, none⟩ (.int .i64 c3)).setCell ⟨w.heap.size, 4, none⟩ (.int .i64 c4)) := ⟨_, rfl⟩
  have y0 : W4.cell? ⟨w.heap.size, 0, none⟩ = some (.string ⟨s.toArray⟩) := by rw [hW4]; exact y0
  have y1 : W4.cell? ⟨w.heap.size, 1, none⟩ = some (.int .i64 c1) := by rw [hW4]; exact y1
  have y2 : W4.cell? ⟨w.heap.size, 2, none⟩ = some (.int .i64 c2) := by rw [hW4]; exact y2
  have y3 : W4.cell? ⟨w.heap.size, 3, none⟩ = some (.int .i64 c3) := by rw [hW4]; exact y3
  have y4 : W4.cell? ⟨w.heap.size, 4, none⟩ = some (.int .i64 c4) := by rw [hW4]; exact y4
  rw [← hW4]
  refine bodyPost_ret (by simp [results, Tryd.results99, go_sem, y0, y1, y2, y3, y4]; rfl) rfl ?_
  rw [hW4]
  exact ⟨rfl, (rd_set (rd_set (rd_set (rd_set (rd_set (rd_set hR3 _ _ (by simp; omega) (by simp; omega)) _ _ (by simp; omega) (by simp; omega)) _ _ (by simp; omega) (by simp; omega)) _ _ (by simp; omega) (by simp; omega)) _ _ (by simp; omega) (by simp; omega)) _ _ (by simp; omega) (by simp; omega)), (grown_set (grown_set (grown_set (grown_set (grown_set (grown_set hG4 (by simp) _) (by simp) _) (by simp) _) (by simp) _) (by simp) _) (by simp) _)⟩
def varCs (l : List Vr) : List Value := l.flatMap fun x => [.string ⟨x.name.toArray⟩, .int .i64 x.t, .int .i64 x.n, .int .i64 x.area, .int .i64 x.init]
theorem varCs_snoc (l : List Vr) (x : Vr) : varCs (l ++ [x]) = varCs l ++ [.string ⟨x.name.toArray⟩, .int .i64 x.t, .int .i64 x.n, .int .i64 x.area, .int .i64 x.init] := by simp [varCs]
set_option maxRecDepth 100000 in
set_option maxHeartbeats 4000000 in
theorem tab_get_vars (v : Value) (L : List UInt8) (w : World) (hv : RowAt w v L.length (byteV L)) (hL : L.length ≤ 1000000) :
    Calls Tryd.prog 98 #[v, .int .i64 64, .func (.func 99) #[] #[]] w fun e w' => ∃ r, e = .returned (.tuple #[r, .int .i64 (getR (rVar L) 64 L).2]) ∧ w'.ownsRow w.heap.size 41 5 r (getR (rVar L) 64 L).1.length (varCs (getR (rVar L) 64 L).1) ∧ Below w.heap.size w w' := by
  obtain ⟨i, hi, hz, hsize, hby⟩ : ∃ i, Tryd.prog.info? 41 = some i ∧ i.zero = some (.agg #[.string ⟨#[]⟩, .int .i64 0, .int .i64 0, .int .i64 0, .int .i64 0]) ∧ i.size = 5 ∧ i.bytes = 48 := ⟨(Tryd.prog.info? 41).get!, by kernel_rfl, by kernel_rfl, by kernel_rfl, by kernel_rfl⟩
  unfold getR
  obtain ⟨A, hA⟩ : ∃ A, rNum L 2 0 false = A := ⟨_, rfl⟩
  obtain ⟨k, hk⟩ := rNum2_fit L 0 false
  have hat := rNum_at L 2 0 false (Nat.zero_le _)
  have HN := Lib.hid (fun g q W hW => rd_Num g q L 0 2 false 2 W hW (by decide) (by omega))
  rw [hA] at HN hk hat ⊢
  obtain ⟨c, n, b⟩ := A
  dsimp only at HN hk hat ⊢
  subst hk
  rw [Int.toNat_natCast]
  clear hA
  have q1 := ownsRow_none'
  cases b
  · by_cases hlim : k ≤ 64
    · have q0 : (64 < (k : Int)) = False := eq_false (by omega)
      rw [if_neg (by simp), if_neg (by omega)]
      obtain ⟨X, hX⟩ : ∃ X : List Vr × Int, X = (if (rRows (rVar L) k n false).2.2 = true then ([], 1) else if 0 < leftOf L (rRows (rVar L) k n false).2.1 (rRows (rVar L) k n false).2.2 then ([], 4) else ((rRows (rVar L) k n false).1, 0)) := ⟨_, rfl⟩
      rw [← hX]
      have HX := Lib.hid hX
      have hrl := rRows_len (rVar L)
      have HRL := Lib.hid hrl
      have HRS := Lib.hid (show ∀ m, rRows (rVar L) (m + 1) n false = ((rRows (rVar L) m n false).1 ++ [(rVar L (rRows (rVar L) m n false).2.1 (rRows (rVar L) m n false).2.2).1], (rVar L (rRows (rVar L) m n false).2.1 (rRows (rVar L) m n false).2.2).2) from fun m => rfl)
      have HR0 := Lib.hid (show rRows (rVar L) 0 n false = ([], n, false) from rfl)
      generalize rRows (rVar L) = RR at HX HRL HRS HR0
      have HBk := Lib.hid (fun g q n b W hW hq => tab_GetVar g q L n b W hW hq)
      clear hX hrl
      go_enter Tryd.func98, Tryd.ntmps98
      go_wp2_with fail
      refine (rd_New v L _ hv (by omega)).mono ?_; rintro e w1 ⟨g, q, rfl, hR, hg, ⟨hq, hqg⟩, hb⟩
      have z1 := hb.size
      go_wp2_with fail
      refine (HN.out _ _ _ hR).mono ?_; rintro e w2 ⟨rfl, hR2, hG2⟩
      have hb2 := grownBelow hb hG2 hg z1
      have hz2 := hb2.size
      have hgl := rd_lt hR2
      clear hR hG2
      go_wp2_with fail
      refine (reader_Bad _ _ _ _ _ _ hR2).mono ?_; rintro e w' ⟨rfl, rfl⟩
      obtain ⟨w3, hmk, hO3, hG3⟩ := run_make_own (P := Tryd.prog) (w := w2) w2.heap.size 23 41 i _ 5 Tryd.underlying23 hi hz hsize .i64 .i64 k (by rw [hby]; omega) (by unfold maxLen; omega) (Nat.le_refl _)
      have hR3 := Lib.hid (rd_below hR2 (below_none hG3))
      have hb3 : Below w.heap.size w w3 := hb2.trans ((below_none hG3).mono hz2)
      have hz3 := hG3.size
      clear hR2 hG3
      go_wp2_with fail
      go_loopw [10, 23] (fun o j wr => ∃ m : Nat, m ≤ k ∧ j = .int .i64 m ∧ Hid (wr.ownsRow w2.heap.size 41 5 o m (varCs (RR m n false).1)) ∧ Hid (RdAt wr g q L (RR m n false).2.1 (RR m n false).2.2) ∧ Below w.heap.size w wr ∧ w2.heap.size ≤ wr.heap.size) (fun _ j _ => k - (intOf j).toNat)
      case atStart => exact ⟨0, by omega, rfl, Lib.hid (by rw [HR0.out]; exact hO3), Lib.hid (by rw [HR0.out]; exact hR3.out), hb3, hz3⟩
      case round =>
        obtain ⟨m, hm, rfl, hO, hR, hB, hzz⟩ := hrel
        by_cases hlt : m < k
        · have hRS := HRS.out m
          obtain ⟨Y, hY⟩ : ∃ Y, RR m n false = Y := ⟨_, rfl⟩
          obtain ⟨Z, hZ⟩ : ∃ Z, RR (m + 1) n false = Z := ⟨_, rfl⟩
          rw [hY] at hO hR hRS
          have HZ := Lib.hid hZ
          rw [hZ] at hRS
          clear hY hZ
          obtain ⟨y, ny, by'⟩ := Y
          dsimp only at hO hR hRS
          obtain ⟨T, hT⟩ : ∃ T, rVar L ny by' = T := ⟨_, rfl⟩
          have HB1 := Lib.hid (HBk.out g q ny by' wr hR.out (by omega))
          rw [hT] at HB1 hRS
          clear hT
          obtain ⟨x, nx, bx⟩ := T
          dsimp only at HB1 hRS
          have HRS2 := Lib.hid hRS
          clear hRS HN HX HRL HBk
          go_wp2_with fail
          refine HB1.out.mono ?_; rintro e w4 ⟨rfl, hR4, hG4⟩
          unfold varV
          have hB4 := grownBelow hB hG4 hg hB.size
          have hO4 := Lib.hid (owns_grown hO.out hG4 (fun gg hgg h => by have := (owns_lt hO.out hgg).1; have : g = gg := by simpa using h
                                                                         omega))
          have hz4 := hG4.size
          have hR4 := Lib.hid hR4
          have ze : (w4.alloc (.cells #[.string ⟨x.name.toArray⟩, .int .i64 x.t, .int .i64 x.n, .int .i64 x.area, .int .i64 x.init] 41)).heap.size = w4.heap.size + 1 := by simp
          have hR5 := Lib.hid (rd_below hR4.out ((Below.refl _ _).alloc (Nat.le_refl _) (.cells #[.string ⟨x.name.toArray⟩, .int .i64 x.t, .int .i64 x.n, .int .i64 x.area, .int .i64 x.init] 41)))
          have hO5 := Lib.hid (owns_below hO4.out ((Below.refl _ _).alloc (Nat.le_refl _) (.cells #[.string ⟨x.name.toArray⟩, .int .i64 x.t, .int .i64 x.n, .int .i64 x.area, .int .i64 x.init] 41)))
          have hB5 := Lib.hid (hB4.alloc hB4.size (.cells #[.string ⟨x.name.toArray⟩, .int .i64 x.t, .int .i64 x.n, .int .i64 x.area, .int .i64 x.init] 41))
          clear hG4
          go_wp2_with (first | (at_builtin; go_loud (refine wpList_append_src rfl (.tmp 25) (.tmp 29) 23 rfl w2.heap.size 41 i (.agg #[.string ⟨#[]⟩, .int .i64 0, .int .i64 0, .int .i64 0, .int .i64 0]) 5 48 Tryd.underlying23 hi hz hsize hby rfl (by omega) _ m _ rfl hO5.out _ 1 [.string ⟨x.name.toArray⟩, .int .i64 x.t, .int .i64 x.n, .int .i64 x.area, .int .i64 x.init] rfl (src_new _ _ _) rfl (by intro u hu; simp at hu; rcases hu with rfl | rfl | rfl | rfl | rfl <;> rfl) (by unfold maxLen; omega) (by omega) (by first | omega | (simp; omega)) ?_; intro v3 w3' hO6 hG6; have HO6 := Lib.hid hO6; have hR6 := Lib.hid (rd_stay hR5.out (hG6.block g (rd_lt hR5.out) (fun h => by have := (owns_lt hO5.out h.symm).1; omega)) (fun hql => hG6.block q hql (fun h => by have := (owns_lt hO5.out h.symm).1; omega))); have hB6 := grown3 (hB5.out) (hB5.out.size) (own_low hO5.out hz2) hG6; have hz6 := hG6.size; clear hO6 hG6)) | fail)
          go_roundw
          case rel => exact ⟨m + 1, by omega, by simp, Lib.hid (by rw [HZ.out, HRS2.out, varCs_snoc]; exact HO6.out), Lib.hid (by rw [HZ.out, HRS2.out]; exact hR6.out), hB6, by omega⟩
          case measure => first | (simp [intOf]; done) | (simp [intOf]; omega)
        · obtain rfl : m = k := by omega
          obtain ⟨Y, hY⟩ : ∃ Y, RR m n false = Y := ⟨_, rfl⟩
          rw [hY] at hO hR HX
          obtain ⟨y, ny, by'⟩ := Y
          have hyl := HRL.out m n false
          rw [hY] at hyl
          dsimp only at hO hR HX hyl
          have HY := Lib.hid hyl
          clear hY hyl
          go_wp2_with fail
          refine (reader_Bad _ _ _ _ _ _ hR.out).mono ?_; rintro e w' ⟨rfl, rfl⟩
          cases by'
          · have HX2 := Lib.hid (show X = if 0 < leftOf L ny false then ([], 4) else (y, 0) by rw [HX.out, if_neg (by simp)])
            have HLeft := Lib.hid (reader_Left g q L ny false _ hR.out)
            generalize leftOf L ny false = lf at HX2 HLeft
            by_cases hlf : 0 < lf
            · have q2 : (0 < lf) = True := eq_true hlf
              have HX3 := Lib.hid (show X = ([], 4) by rw [HX2.out, if_pos hlf])
              clear HX HX2
              go_wp2_with fail
              refine HLeft.out.mono ?_; rintro e w' ⟨rfl, md, rfl⟩
              go_wp2_with fail
              go_returns
              exact ⟨_, by rw [HX3.out]; rfl, by rw [HX3.out]; exact ownsRow_none' _ _ _ _, below_drewN hB md⟩
            · have q2 : (0 < lf) = False := eq_false hlf
              have HX3 := Lib.hid (show X = (y, 0) by rw [HX2.out, if_neg hlf])
              clear HX HX2
              go_wp2_with fail
              refine HLeft.out.mono ?_; rintro e w' ⟨rfl, md, rfl⟩
              go_wp2_with fail
              go_returns
              exact ⟨_, by rw [HX3.out]; rfl, by rw [HX3.out, HY.out]; exact own_low hO.out hz2, below_drewN hB md⟩
          · have HX2 := Lib.hid (show X = ([], 1) by rw [HX.out, if_pos rfl])
            clear HX
            go_wp2_with fail
            go_returns
            exact ⟨_, by rw [HX2.out]; rfl, by rw [HX2.out]; exact ownsRow_none' _ _ _ _, hB⟩
    · have q0 : (64 < (k : Int)) = True := eq_true (by omega)
      rw [if_neg (by simp), if_pos (by omega)]
      go_enter Tryd.func98, Tryd.ntmps98
      go_wp2_with fail
      refine (rd_New v L _ hv (by omega)).mono ?_; rintro e w1 ⟨g, q, rfl, hR, hg, ⟨hq, hqg⟩, hb⟩
      have z1 := hb.size
      go_wp2_with fail
      refine (HN.out _ _ _ hR).mono ?_; rintro e w2 ⟨rfl, hR2, hG2⟩
      have hb2 := grownBelow hb hG2 hg z1
      clear hR hG2
      go_wp2_with fail
      refine (reader_Bad _ _ _ _ _ _ hR2).mono ?_; rintro e w' ⟨rfl, rfl⟩
      go_wp2_with fail
      go_returns
      exact ⟨_, rfl, ownsRow_none' _ _ _ _, hb2⟩
  · rw [if_pos rfl]
    go_enter Tryd.func98, Tryd.ntmps98
    go_wp2_with fail
    refine (rd_New v L _ hv (by omega)).mono ?_; rintro e w1 ⟨g, q, rfl, hR, hg, ⟨hq, hqg⟩, hb⟩
    have z1 := hb.size
    go_wp2_with fail
    refine (HN.out _ _ _ hR).mono ?_; rintro e w2 ⟨rfl, hR2, hG2⟩
    have hb2 := grownBelow hb hG2 hg z1
    clear hR hG2
    go_wp2_with fail
    refine (reader_Bad _ _ _ _ _ _ hR2).mono ?_; rintro e w' ⟨rfl, rfl⟩
    go_wp2_with fail
    go_returns
    exact ⟨_, rfl, ownsRow_none' _ _ _ _, hb2⟩
/-- what reading a table tells -/
def GetsV (w : World) (L : List UInt8) (e : Ending) (w' : World) : Prop :=
  ∃ r, e = .returned (.tuple #[r, .int .i64 (getR (rVar L) 64 L).2]) ∧ w'.ownsRow w.heap.size 41 5 r (getR (rVar L) 64 L).1.length (varCs (getR (rVar L) 64 L).1) ∧ Below w.heap.size w w'
theorem rf_set {w : World} {g q : Nat} {L : List UInt8} {n : Nat} {bad : Bool} (h : RfAt w g q L n bad) (p : Addr) (v : Value) (hg : g ≠ p.block) (hq : q ≠ p.block) : RfAt (w.setCell p v) g q L n bad :=
  rf_stay h (by simp [World.setCell]) (Below.heap_setCell _ _ _ _ hg) (fun _ => Below.heap_setCell _ _ _ _ hq)
theorem vars_owned {w : World} {B : Nat} {v : Value} {L : List Vr} (h : w.ownsRow B 41 5 v L.length (varCs L)) (hL : ∀ x ∈ L, sz x.name ∧ I64 x.t ∧ I64 x.n ∧ I64 x.area ∧ I64 x.init) : RowR 5 varR w v L :=
  row_owned (enc := fun x => [.string ⟨x.name.toArray⟩, .int .i64 x.t, .int .i64 x.n, .int .i64 x.area, .int .i64 x.init]) (fun _ => rfl) h (fun x hx => ⟨rfl, hL x hx⟩)
end Go.Proofs.YtjikkipdmonndaaDoor

/- Layer 14: the reference's table of variables as bytes; the walk of TabVars. -/
namespace Go.Proofs.YtjikkipdmonndaaDoor
open Go.RowKit
set_option linter.unusedSimpArgs false
set_option linter.unusedVariables false
theorem ref03_Put8v (v : Value) (l : List UInt8) (z : Int) (w : World) (hv : RowAt w v l.length (byteV l)) (hm : l.length ≤ 100000000) :
    Calls Tryd.prog 28 #[v, .int .i64 8, .int .i64 z] w fun e w' => ∃ r, e = .returned r ∧ w'.ownsRow w.heap.size 5 1 r (l ++ putL 8 z).length (bytesV (l ++ putL 8 z)) ∧ Below w.heap.size w w' := by
  have h := ref03_Put v l 8 z w hv hm
  rw [show (near8 8).toNat = 8 from by decide] at h
  rw [List.length_append, putL_len]
  exact h
theorem cellBd {B : Nat} {a b : World} (k : Below B a b) {g o : Nat} {v : Value} (hc : a.cell? ⟨g, o, none⟩ = some v) (hp : g < B) : b.cell? ⟨g, o, none⟩ = some v := (k.cell (p := ⟨g, o, none⟩) hp).trans hc
set_option maxRecDepth 100000 in
set_option maxHeartbeats 4000000 in
theorem ref14_Vars_in (v : Value) (L : List Vr) (w : World) (hv : RowR 5 varR w v L) (hn : ∀ x ∈ L, x.name.length ≤ 1000000) (hlen : L.length ≤ 64) :
    Calls Tryd.prog 25 #[v] w (PutsV w L) := by
  obtain ⟨i, hi, hz, hsize, hby⟩ : ∃ i, Tryd.prog.info? 5 = some i ∧ i.zero = some (.int .u8 0) ∧ i.size = 1 ∧ i.bytes = 1 := ⟨(Tryd.prog.info? 5).get!, by kernel_rfl, by kernel_rfl, by kernel_rfl, by kernel_rfl⟩
  have ho : okVs L = L.all varOk := by unfold okVs; rw [decide_eq_true hlen]; rfl
  unfold PutsV
  rw [ho]
  obtain ⟨sa, ca, rfl⟩ := row_get hv
  have HY := Lib.hid (show L.take L.length = L from List.take_length)
  obtain ⟨n, hN⟩ : ∃ n, L.length = n := ⟨_, rfl⟩
  rw [hN] at hv hlen HY ⊢
  have q0 : (64 < (n : Int)) = False := eq_false (by omega)
  go_enter Tryd.func25, Tryd.ntmps25
  go_wp2_with fail
  refine (ref03_Put (.slice none 0 0) [] 2 (n : Int) _ (Or.inl ⟨none, 0, rfl, rfl, fun _ => rfl⟩) (by simp)).mono ?_; rintro e w1 ⟨r1, rfl, hO1, hb1⟩
  have hO1 : w1.ownsRow w.heap.size 5 1 r1 2 (bytesV (putL 2 n)) := hO1
  go_wp2_with fail
  go_loopw [4, 5, 6] (fun o j pv wr => ∃ k : Nat, k ≤ n ∧ j = .int .i64 k ∧ Hid ((L.take k).all varOk = true) ∧ Hid (wr.ownsRow w.heap.size 5 1 o (2 + (varsL (L.take k)).length) (bytesV (putL 2 n ++ varsL (L.take k)))) ∧ Below w.heap.size w wr) (fun _ j _ _ => n - (intOf j).toNat)
  case atStart => exact ⟨0, by omega, rfl, Lib.hid (by simp), Lib.hid (by simpa [varsL] using hO1), hb1⟩
  case round =>
    obtain ⟨k, hk, rfl, hall, hO, hB⟩ := hrel
    have hz' := hB.size
    by_cases hlt : k < n
    · obtain ⟨x, hx⟩ : ∃ x, L[k]? = some x := get_some (by omega)
      obtain ⟨bk, off, rfl, hbw, hc⟩ := var_at hv (k := k) (by omega)
      obtain ⟨d0, d1, d2, d3, d4, _, y1, y2, y3, y4⟩ := hc k x hx
      have c0 := (hB.cell (p := ⟨bk, off + k * 5, none⟩) hbw).trans d0
      have c1 := (hB.cell (p := ⟨bk, off + k * 5 + 1, none⟩) hbw).trans d1
      have c2 := (hB.cell (p := ⟨bk, off + k * 5 + 2, none⟩) hbw).trans d2
      have c3 := (hB.cell (p := ⟨bk, off + k * 5 + 3, none⟩) hbw).trans d3
      have c4 := (hB.cell (p := ⟨bk, off + k * 5 + 4, none⟩) hbw).trans d4
      clear hc d0 d1 d2 d3 d4
      have hn1 := hn x (List.mem_of_getElem? hx)
      have hts := Lib.hid (take_snoc hx)
      have hmem := Lib.hid (List.mem_of_getElem? hx)
      have hno := Lib.hid (fun h : varOk x = false => (show L.all varOk = false from List.all_eq_false.2 ⟨x, hmem.out, by simp [h]⟩))
      have hbl : (varsL (L.take k)).length ≤ 900000 := by have := varsL_len (L.take k) hall.out; rw [List.length_take] at this; omega
      have hsz : (⟨x.name.toArray⟩ : ByteArray).size = x.name.length := by simp [ByteArray.size]
      clear hx hmem hn
      by_cases hl255 : x.name.length ≤ 255
      · have q1 : (255 < (x.name.length : Int)) = False := eq_false (by omega)
        have HS := Lib.hid (fun z W => ref14_small z W)
        go_wp2_with fail
        refine (HS.out x.t _).mono ?_; rintro e w' ⟨rfl, rfl⟩
        have hb0 : Below wr.heap.size wr (wr.alloc (.cells #[.string ⟨x.name.toArray⟩, .int .i64 x.t, .int .i64 x.n, .int .i64 x.area, .int .i64 x.init] 41)) := (Below.refl _ _).alloc (Nat.le_refl _) _
        have hB0 := hB.trans (hb0.mono hz')
        have bx := Boxed.new wr [.string ⟨x.name.toArray⟩, .int .i64 x.t, .int .i64 x.n, .int .i64 x.area, .int .i64 x.init] 41 (Below.refl _ _)
        have e0 := bx 0 _ rfl
        have e1 := bx 1 _ rfl
        have e2 := bx 2 _ rfl
        have e3 := bx 3 _ rfl
        have e4 := bx 4 _ rfl
        have zb : wr.heap.size < (wr.alloc (.cells #[.string ⟨x.name.toArray⟩, .int .i64 x.t, .int .i64 x.n, .int .i64 x.area, .int .i64 x.init] 41)).heap.size := by simp
        have HO0 := Lib.hid (owns_below hO.out hb0)
        obtain ⟨W0, hW0⟩ : ∃ W0, W0 = wr.alloc (.cells #[.string ⟨x.name.toArray⟩, .int .i64 x.t, .int .i64 x.n, .int .i64 x.area, .int .i64 x.init] 41) := ⟨_, rfl⟩
        have e0 : W0.cell? ⟨wr.heap.size, 0, none⟩ = some (.string ⟨x.name.toArray⟩) := by rw [hW0]; simp
        have e1 : W0.cell? ⟨wr.heap.size, 1, none⟩ = some (.int .i64 x.t) := by rw [hW0]; simp
        have e2 : W0.cell? ⟨wr.heap.size, 2, none⟩ = some (.int .i64 x.n) := by rw [hW0]; simp
        have e3 : W0.cell? ⟨wr.heap.size, 3, none⟩ = some (.int .i64 x.area) := by rw [hW0]; simp
        have e4 : W0.cell? ⟨wr.heap.size, 4, none⟩ = some (.int .i64 x.init) := by rw [hW0]; simp
        rw [← hW0] at hb0 hB0 zb HO0 ⊢
        clear bx hW0
        cases hf1 : fitB x.t
        · have hA := Lib.hid (hno.out (show varOk x = false by unfold varOk; rw [hf1]; simp))
          go_wp2_with fail
          go_returns
          exact ⟨_, by rw [hA.out]; rfl, fun h => (by rw [hA.out] at h; cases h), fun _ => rfl, hB0⟩
        · go_wp2_with fail
          refine (HS.out x.n _).mono ?_; rintro e w' ⟨rfl, rfl⟩
          cases hf2 : fitB x.n
          · have hA := Lib.hid (hno.out (show varOk x = false by unfold varOk; rw [hf2]; simp))
            go_wp2_with fail
            go_returns
            exact ⟨_, by rw [hA.out]; rfl, fun h => (by rw [hA.out] at h; cases h), fun _ => rfl, hB0⟩
          · go_wp2_with fail
            refine (HS.out x.area _).mono ?_; rintro e w' ⟨rfl, rfl⟩
            cases hf3 : fitB x.area
            · have hA := Lib.hid (hno.out (show varOk x = false by unfold varOk; rw [hf3]; simp))
              go_wp2_with fail
              go_returns
              exact ⟨_, by rw [hA.out]; rfl, fun h => (by rw [hA.out] at h; cases h), fun _ => rfl, hB0⟩
            · have hok := Lib.hid (show varOk x = true by unfold varOk; rw [hf1, hf2, hf3, decide_eq_true hl255]; rfl)
              obtain ⟨l, hl⟩ : ∃ l, putL 2 (n : Int) ++ varsL (L.take k) = l := ⟨_, rfl⟩
              have hll : l.length = 2 + (varsL (L.take k)).length := by rw [← hl, List.length_append, putL_len]
              rw [hl, ← hll] at HO0
              obtain ⟨T, hT⟩ : ∃ T, T = l ++ [UInt8.ofNat (cut255 ⟨x.name.toArray⟩).size] ++ (cut255 ⟨x.name.toArray⟩).data.toList := ⟨_, rfl⟩
              obtain ⟨M, hM⟩ : ∃ M, M = l.length + 1 + (cut255 ⟨x.name.toArray⟩).size := ⟨_, rfl⟩
              have hM1 : M ≤ 2000000 := by rw [hM]; unfold cut255; rw [if_neg (by omega), hsz]; omega
              have HTX := Lib.hid ((ref03_Text _ l ⟨x.name.toArray⟩ W0 (RowAt.owns HO0.out (fun i hi => byteV_at hi)) (by omega)).mono (R' := fun e w' => ∃ r, e = .returned r ∧ w'.ownsRow W0.heap.size 5 1 r M (bytesV T) ∧ Below W0.heap.size W0 w') (by rintro e w' ⟨r, h1, h2, h3⟩; exact ⟨r, h1, by rw [hT, hM]; exact h2, h3⟩))
              have HD := Lib.hid (show (T ++ [byteO x.t, byteO x.n, byteO x.area]) ++ putL 8 x.init = l ++ varL x ∧ (T ++ [byteO x.t, byteO x.n, byteO x.area]).length = M + 3 by
                have hc : cut255 (⟨x.name.toArray⟩ : ByteArray) = ⟨x.name.toArray⟩ := by unfold cut255; rw [if_neg (by omega)]
                rw [hT, hM, hc, hsz]; unfold varL; refine ⟨by simp, ?_⟩
                simp; omega)
              have HL2 := Lib.hid (And.intro hl hll)
              clear hT hM hl hll HS
              go_wp2_with fail
              refine HTX.out.mono ?_; rintro e v1 ⟨r1', rfl, hO2, hb2⟩
              have hB2 := hB0.trans (hb2.mono hB0.size)
              have hz2 := hB2.size
              have g1 := cellB hb2 e1 zb
              have g2 := cellB hb2 e2 zb
              have g3 := cellB hb2 e3 zb
              have g4 := cellB hb2 e4 zb
              have hz0 := hB0.size
              have hzz2 := hb2.size
              have HO2 := Lib.hid hO2
              have HO3 := Lib.hid (owns_below hO2 ((Below.refl _ _).alloc (Nat.le_refl _) (.cells #[.int .u8 (x.t % 256), .int .u8 (x.n % 256), .int .u8 (x.area % 256)] 5)))
              have HB3 := Lib.hid ((Below.refl W0.heap.size v1).alloc hzz2 (.cells #[.int .u8 (x.t % 256), .int .u8 (x.n % 256), .int .u8 (x.area % 256)] 5))
              have HS3 := Lib.hid (show Src (v1.alloc (.cells #[.int .u8 (x.t % 256), .int .u8 (x.n % 256), .int .u8 (x.area % 256)] 5)) (.slice (some ⟨v1.heap.size, 0, none⟩) 3 3) 3 [.int .u8 (x.t % 256), .int .u8 (x.n % 256), .int .u8 (x.area % 256)] from Or.inr ⟨⟨v1.heap.size, 0, none⟩, 3, rfl, fun j u hu => by rw [add_at, Nat.zero_add]; exact cell_new v1 _ _ (0, 0) j (by simpa using hu)⟩)
              clear HTX hO2 e0 e1 e2 e3 e4 c0 c1 c2 c3 c4
              go_wp2_with (first | (at_builtin; go_loud (refine wpList_append_src rfl (.tmp 49) (.tmp 59) 30 rfl W0.heap.size 5 i (.int .u8 0) 1 1 Tryd.underlying30 hi hz hsize hby rfl (by omega) _ M _ rfl HO3.out _ 3 _ rfl HS3.out rfl (by intro u hu; simp at hu; rcases hu with rfl | rfl | rfl <;> rfl) (by unfold maxLen; omega) (by omega) (by first | omega | (simp; omega)) ?_; intro v3 w3 hO4 hG4; have HO4 := Lib.hid hO4; have hB4 := grown3 HB3.out (Nat.le_trans hzz2 (by simp)) HO3.out hG4; have g4 := cellBd hB4 g4 zb; clear hO4 hG4)) | fail)
              have hB5 := hB2.trans (hB4.mono hB0.size)
              have hO5 : w3.ownsRow W0.heap.size 5 1 v3 (T ++ [byteO x.t, byteO x.n, byteO x.area]).length (bytesV (T ++ [byteO x.t, byteO x.n, byteO x.area])) := own_eq2 HO4.out HD.out.2.symm (by simp [bytesV, byteO_val])
              refine (ref03_Put8v v3 (T ++ [byteO x.t, byteO x.n, byteO x.area]) x.init _ (RowAt.owns hO5 (fun i hi => byteV_at hi)) (by rw [HD.out.2]; omega)).mono ?_; rintro e v6 ⟨r6, rfl, hO6, hb6⟩
              rw [HD.out.1] at hO6
              have hB6 := hB5.trans (hb6.mono hB5.size)
              have HO6 := Lib.hid (own_low hO6 hB5.size)
              clear hO6 hO5
              go_wp2_with fail
              go_roundw
              case rel => exact ⟨k + 1, by omega, by simp, Lib.hid (by rw [hts.out, List.all_append, hall.out]; simp [hok.out]), Lib.hid (own_eq2 HO6.out (by rw [hts.out, varsL_snoc, List.length_append, List.length_append, HL2.out.2]; omega) (by rw [hts.out, varsL_snoc, ← List.append_assoc, HL2.out.1])), hB6⟩
              case measure => first | (simp [intOf]; done) | (simp [intOf]; omega)
      · have q1 : (255 < (x.name.length : Int)) = True := eq_true (by omega)
        have hA := Lib.hid (hno.out (show varOk x = false by unfold varOk; rw [decide_eq_false hl255]; rfl))
        go_wp2_with fail
        go_returns
        exact ⟨_, by rw [hA.out]; rfl, fun h => (by rw [hA.out] at h; cases h), fun _ => rfl, (by (repeat' (first | (with_reducible exact Below.refl _ _) | (with_reducible assumption) | (with_reducible refine below_drewN ?_ _) | (with_reducible refine Below.alloc ?_ ?_ _) | (with_reducible refine Below.drew ?_) | (with_reducible refine Below.setCell ?_ ?_ _) | go_size)))⟩
    · obtain rfl : k = n := by omega
      have hA := Lib.hid (show L.all varOk = true by have := hall.out; rwa [HY.out] at this)
      go_wp2_with fail
      go_returns
      exact ⟨_, by rw [hA.out]; rfl, fun _ => (by have := hO.out; rwa [HY.out] at this), fun h => (by rw [hA.out] at h; cases h), hB⟩
theorem ref14_Vars_long (v : Value) (L : List Vr) (w : World) (hv : RowR 5 varR w v L) (hlen : 64 < L.length) :
    Calls Tryd.prog 25 #[v] w fun e w' => e = .returned (.tuple #[.slice none 0 0, .bool false]) ∧ Below w.heap.size w w' := by
  have hl := hv.len
  obtain ⟨sa, ca, rfl⟩ := row_get hv
  obtain ⟨n, hN⟩ : ∃ n, L.length = n := ⟨_, rfl⟩
  rw [hN] at hv hlen hl ⊢
  have q0 : (64 < (n : Int)) = True := eq_true (by omega)
  go_enter Tryd.func25, Tryd.ntmps25
  go_wp2_with fail
  go_returns
  exact ⟨rfl, by (repeat' (first | (with_reducible exact Below.refl _ _) | (with_reducible assumption) | (with_reducible refine below_drewN ?_ _) | (with_reducible refine Below.alloc ?_ ?_ _) | (with_reducible refine Below.drew ?_) | (with_reducible refine Below.setCell ?_ ?_ _) | go_size))⟩
theorem ref14_Vars (v : Value) (L : List Vr) (w : World) (hv : RowR 5 varR w v L) (hn : ∀ x ∈ L, x.name.length ≤ 1000000) :
    Calls Tryd.prog 25 #[v] w (PutsV w L) := by
  by_cases h : L.length ≤ 64
  · exact ref14_Vars_in v L w hv hn h
  · have ho : okVs L = false := by unfold okVs; rw [decide_eq_false h]; rfl
    refine (ref14_Vars_long v L w hv (by omega)).mono ?_
    rintro e w' ⟨rfl, h3⟩
    exact ⟨_, by rw [ho], fun h => (by rw [ho] at h; cases h), fun _ => rfl, h3⟩
def putVs (L : List Vr) : List UInt8 := if okVs L = true then putL 2 L.length ++ varsL L else []
def getVs (L : List UInt8) : List Vr × Int := getR (rVar L) 64 L
theorem getsV_good (L : List UInt8) (hL : L.length ≤ 1000000) : ∀ x ∈ (getVs L).1, goodV x := by
  intro x hx
  by_cases h : (getVs L).2 = 0
  · obtain ⟨c, n, l, n', h1, h2, h3, h4, h5⟩ := getR_cases h
    have h6 : (getVs L).1 = l := by unfold getVs; rw [h5]
    obtain ⟨hz, hn, _⟩ := num2 h1 rfl
    have := (readsV.rows L (by omega) c.toNat n false (by omega)).2.2.2
    rw [h3] at this
    rw [h6] at hx
    exact this x hx
  · exfalso
    have : (getVs L).1 = [] := by
      unfold getVs getR at h ⊢
      split
      · rfl
      · split
        · rfl
        · split
          · rfl
          · split
            · rfl
            · rename_i h1 h2 h3 h4
              rw [if_neg h1, if_neg h2, if_neg h3, if_neg h4] at h
              exact absurd rfl h
    rw [this] at hx
    cases hx
theorem getsV_row {w : World} {L : List UInt8} {e : Ending} {w' : World} (hL : L.length ≤ 1000000) (h : GetsV w L e w') : ∃ r, e = .returned (.tuple #[r, .int .i64 (getVs L).2]) ∧ RowR 5 varR w' r (getVs L).1 ∧ Below w.heap.size w w' := by
  obtain ⟨r, h1, h2, h3⟩ := h
  exact ⟨r, h1, vars_owned h2 (fun x hx => ⟨by have := (getsV_good L hL x hx).1; unfold sz; omega, (getsV_good L hL x hx).2⟩), h3⟩
theorem vars_good {w : World} {v : Value} {L : List Vr} (h : RowR 5 varR w v L) : ∀ x ∈ L, I64 x.t ∧ I64 x.n ∧ I64 x.area ∧ I64 x.init := by
  intro x hx
  obtain ⟨k, hk, rfl⟩ := List.getElem_of_mem hx
  obtain ⟨a, cap, rfl⟩ := row_get h
  obtain ⟨b, off, _, _, hc⟩ := var_at h hk
  exact (hc k L[k] (by simp [hk])).2.2.2.2.2.2
end Go.Proofs.YtjikkipdmonndaaDoor

/- Layer 14: the reference's row of a block: one region. -/
namespace Go.Proofs.YtjikkipdmonndaaDoor
open Go.RowKit
set_option linter.unusedSimpArgs false
set_option linter.unusedVariables false
theorem owns_u8 (w : World) {B : Nat} (k : Int) (hB : B ≤ w.heap.size) : (w.alloc (.cells #[.int .u8 k] 5)).ownsRow B 5 1 (.slice (some ⟨w.heap.size, 0, none⟩) 1 1) 1 [.int .u8 k] :=
  ⟨rfl, Or.inr ⟨w.heap.size, 1, #[.int .u8 k], rfl, hB, by show (w.heap.push _)[w.heap.size]? = _; simp, by omega, by unfold maxLen; omega, by simp, by simp⟩⟩
set_option maxRecDepth 100000 in
set_option maxHeartbeats 4000000 in
theorem refBlks_r9 (L : List Bk) (i : TypeInfo) (wr : World) (n ca bk off k : Nat) (x : Bk) (r0 : Value) (M : Nat) (T l : List UInt8) (hi : Tryd.prog.info? 5 = some i) (hz : i.zero = some (.int .u8 0)) (hsize : i.size = 1) (hby : i.bytes = 1) (c0 : wr.cell? ⟨bk, off + k * 2, none⟩ = some (.string ⟨x.name.toArray⟩)) (c1 : wr.cell? ⟨bk, off + k * 2 + 1, none⟩ = some (.int .i64 x.kind)) (hbw2 : bk < wr.heap.size) (HTX : Hid (∀ W, Below wr.heap.size wr W → Calls Tryd.prog 59 #[r0, .string ⟨x.name.toArray⟩] W fun e w' => ∃ r, e = .returned r ∧ w'.ownsRow W.heap.size 5 1 r M (bytesV T) ∧ Below W.heap.size W w')) (hlt : k < n) (hni : n ≤ 32) (hM1 : M ≤ 2000000) (t1 t2 t3 t6 t7 t8 t9 t10 t11 t12 t13 t14 t15 t16 t17 t18 t19 t20 t21 t22 t23 t24 t25 t26 t27 t28 t29 t30 t31 t32 t33 t34 t35 t36 t37 t38 t39 t40 t41 t42 t43 t44 t45 t46 t47 t48 t49 : Value) :
    (Code.region 9 #[{ dst := some 34, op := Op.move (Operand.tmp 4), type := 30, pos := "ref.go:55", after := #[], guard := none }, { dst := some 35, op := Op.move (Operand.tmp 0), type := 24, pos := "ref.go:55", after := #[], guard := none }, { dst := some 36, op := Op.move (Operand.tmp 5), type := 3, pos := "ref.go:55", after := #[], guard := none }, { dst := some 37, op := Op.indexAddr 24 (Operand.tmp 35) (Operand.tmp 36), type := 0, pos := "ref.go:55", after := #[{ on := 1, ground := Ground.data }, { on := 2, ground := Ground.data }], guard := none }, { dst := some 38, op := Op.fieldAddr 43 (Operand.tmp 37) 0, type := 0, pos := "ref.go:55", after := #[{ on := 3, ground := Ground.data }], guard := none }, { dst := some 39, op := Op.load 9 (Operand.tmp 38), type := 9, pos := "ref.go:55", after := #[{ on := 4, ground := Ground.data }], guard := none }, { dst := some 40, op := Op.call { callee := Callee.value (Operand.func 59), args := #[Operand.tmp 34, Operand.tmp 39], argTypes := #[30, 9] }, type := 30, pos := "ref.go:55", after := #[{ on := 0, ground := Ground.data }, { on := 5, ground := Ground.data }], guard := none }, { dst := some 41, op := Op.move (Operand.tmp 0), type := 24, pos := "ref.go:55", after := #[], guard := none }, { dst := some 42, op := Op.move (Operand.tmp 5), type := 3, pos := "ref.go:55", after := #[], guard := none }, { dst := some 43, op := Op.indexAddr 24 (Operand.tmp 41) (Operand.tmp 42), type := 0, pos := "ref.go:55", after := #[{ on := 7, ground := Ground.data }, { on := 8, ground := Ground.data }], guard := none }, { dst := some 44, op := Op.fieldAddr 43 (Operand.tmp 43) 1, type := 0, pos := "ref.go:55", after := #[{ on := 9, ground := Ground.data }], guard := none }, { dst := some 45, op := Op.load 3 (Operand.tmp 44), type := 3, pos := "ref.go:55", after := #[{ on := 10, ground := Ground.data }], guard := none }, { dst := some 46, op := Op.convert 3 5 (Operand.tmp 45), type := 5, pos := "ref.go:55", after := #[{ on := 11, ground := Ground.data }], guard := none }, { dst := some 47, op := Op.buildSlice 30 1 #[(0, Operand.tmp 46)], type := 30, pos := "ref.go:55", after := #[{ on := 12, ground := Ground.data }], guard := none }, { dst := some 48, op := Op.call { callee := Callee.builtin Builtin.append, args := #[Operand.tmp 40, Operand.tmp 47], argTypes := #[30, 30] }, type := 30, pos := "ref.go:55", after := #[{ on := 6, ground := Ground.data }, { on := 13, ground := Ground.data }, { on := 6, ground := Ground.chain }], guard := none }, { dst := some 4, op := Op.assign (Operand.tmp 48), type := 30, pos := "ref.go:55", after := #[{ on := 14, ground := Ground.data }, { on := 14, ground := Ground.chain }, { on := 0, ground := Ground.phase }, { on := 1, ground := Ground.phase }, { on := 2, ground := Ground.phase }, { on := 3, ground := Ground.phase }, { on := 4, ground := Ground.phase }, { on := 5, ground := Ground.phase }, { on := 6, ground := Ground.phase }, { on := 7, ground := Ground.phase }, { on := 8, ground := Ground.phase }, { on := 9, ground := Ground.phase }, { on := 10, ground := Ground.phase }, { on := 11, ground := Ground.phase }, { on := 12, ground := Ground.phase }, { on := 13, ground := Ground.phase }, { on := 14, ground := Ground.phase }], guard := none }] true).wp Tryd.prog (fun e b v => e = Exit.normal ∧ ∃ u4 u34 u35 u36 u37 u38 u39 u40 u41 u42 u43 u44 u45 u46 u47 u48 : Value, b = ⟨#[.slice (some ⟨bk, off, none⟩) n ca, t1, t2, t3, u4, .int .i64 k, t6, t7, t8, t9, t10, t11, t12, t13, t14, t15, t16, t17, t18, t19, t20, t21, t22, t23, t24, t25, t26, t27, t28, t29, t30, t31, t32, t33, u34, u35, u36, u37, u38, u39, u40, u41, u42, u43, u44, u45, u46, u47, u48, t49], []⟩ ∧ Below wr.heap.size wr v ∧ (v.ownsRow wr.heap.size 5 1 u4 (M + 1) (bytesV T ++ [.int .u8 (x.kind % 256)]))) ⟨#[.slice (some ⟨bk, off, none⟩) n ca, t1, t2, t3, r0, .int .i64 k, t6, t7, t8, t9, t10, t11, t12, t13, t14, t15, t16, t17, t18, t19, t20, t21, t22, t23, t24, t25, t26, t27, t28, t29, t30, t31, t32, t33, t34, t35, t36, t37, t38, t39, t40, t41, t42, t43, t44, t45, t46, t47, t48, t49], []⟩ wr := by
  refine wp_region_facts (n := 16) (fun L b v => ∃ u4 u34 u35 u36 u37 u38 u39 u40 u41 u42 u43 u44 u45 u46 u47 u48 : Value, b = ⟨#[.slice (some ⟨bk, off, none⟩) n ca, t1, t2, t3, u4, .int .i64 k, t6, t7, t8, t9, t10, t11, t12, t13, t14, t15, t16, t17, t18, t19, t20, t21, t22, t23, t24, t25, t26, t27, t28, t29, t30, t31, t32, t33, u34, u35, u36, u37, u38, u39, u40, u41, u42, u43, u44, u45, u46, u47, u48, t49], []⟩ ∧ Below wr.heap.size wr v ∧ (L.getD 0 false = true → u34 = r0) ∧ (L.getD 1 false = true → u35 = .slice (some ⟨bk, off, none⟩) n ca) ∧ (L.getD 2 false = true → u36 = .int .i64 k) ∧ (L.getD 3 false = true → u37 = .pointer (some ⟨bk, off + k * 2, none⟩)) ∧ (L.getD 4 false = true → u38 = .pointer (some ⟨bk, off + k * 2, none⟩)) ∧ (L.getD 5 false = true → u39 = .string ⟨x.name.toArray⟩) ∧ (L.getD 6 false = true → L.getD 14 true = false → v.ownsRow wr.heap.size 5 1 u40 M (bytesV T)) ∧ (L.getD 7 false = true → u41 = .slice (some ⟨bk, off, none⟩) n ca) ∧ (L.getD 8 false = true → u42 = .int .i64 k) ∧ (L.getD 9 false = true → u43 = .pointer (some ⟨bk, off + k * 2, none⟩)) ∧ (L.getD 10 false = true → u44 = .pointer (some ⟨bk, off + k * 2 + 1, none⟩)) ∧ (L.getD 11 false = true → u45 = .int .i64 x.kind) ∧ (L.getD 12 false = true → u46 = .int .u8 (x.kind % 256)) ∧ (L.getD 13 false = true → L.getD 14 true = false → ∃ q, u47 = .slice (some ⟨q, 0, none⟩) 1 1 ∧ v.ownsRow wr.heap.size 5 1 (.slice (some ⟨q, 0, none⟩) 1 1) 1 [.int .u8 (x.kind % 256)]) ∧ (L.getD 14 false = true → v.ownsRow wr.heap.size 5 1 u48 (M + 1) (bytesV T ++ [.int .u8 (x.kind % 256)])) ∧ (L.getD 15 false = true → v.ownsRow wr.heap.size 5 1 u4 (M + 1) (bytesV T ++ [.int .u8 (x.kind % 256)])) ∧ (L.getD 15 false = false → u4 = r0)) (by kernel_rfl) (by kernel_rfl) (by kernel_rfl) ?_ ?_ ?_
  · refine ⟨_, _, _, _, _, _, _, _, _, _, _, _, _, _, _, _, rfl, (Below.refl _ _).drew, flag_new, flag_new, flag_new, flag_new, flag_new, flag_new, flag_new, flag_new, flag_new, flag_new, flag_new, flag_new, flag_new, flag_new, flag_new, flag_new, fun _ => (by first | rfl | assumption)⟩
  · refine AllSteps.succ (AllSteps.succ (AllSteps.succ (AllSteps.succ (AllSteps.succ (AllSteps.succ (AllSteps.succ (AllSteps.succ (AllSteps.succ (AllSteps.succ (AllSteps.succ (AllSteps.succ (AllSteps.succ (AllSteps.succ (AllSteps.succ (AllSteps.succ AllSteps.zero ?_) ?_) ?_) ?_) ?_) ?_) ?_) ?_) ?_) ?_) ?_) ?_) ?_) ?_) ?_) ?_
    · refine StepAt.mk (o := { dst := some 34, op := Op.move (Operand.tmp 4), type := 30, pos := _, after := #[], guard := none }) (ws := []) rfl (by kernel_rfl) ?_
      intro L b v hC h0 hA h
      refine h.elim ?_; clear h; intro u4 h
      refine h.elim ?_; clear h; intro u34 h
      refine h.elim ?_; clear h; intro u35 h
      refine h.elim ?_; clear h; intro u36 h
      refine h.elim ?_; clear h; intro u37 h
      refine h.elim ?_; clear h; intro u38 h
      refine h.elim ?_; clear h; intro u39 h
      refine h.elim ?_; clear h; intro u40 h
      refine h.elim ?_; clear h; intro u41 h
      refine h.elim ?_; clear h; intro u42 h
      refine h.elim ?_; clear h; intro u43 h
      refine h.elim ?_; clear h; intro u44 h
      refine h.elim ?_; clear h; intro u45 h
      refine h.elim ?_; clear h; intro u46 h
      refine h.elim ?_; clear h; intro u47 h
      refine h.elim ?_; clear h; intro u48 h
      have hbb := h.1; replace h := h.2; subst hbb
      have hHeld := h.1; replace h := h.2
      have f0 := h.1; replace h := h.2
      have f1 := h.1; replace h := h.2
      have f2 := h.1; replace h := h.2
      have f3 := h.1; replace h := h.2
      have f4 := h.1; replace h := h.2
      have f5 := h.1; replace h := h.2
      have f6 := h.1; replace h := h.2
      have f7 := h.1; replace h := h.2
      have f8 := h.1; replace h := h.2
      have f9 := h.1; replace h := h.2
      have f10 := h.1; replace h := h.2
      have f11 := h.1; replace h := h.2
      have f12 := h.1; replace h := h.2
      have f13 := h.1; replace h := h.2
      have f14 := h.1; replace h := h.2
      have f15 := h.1; replace h := h.2
      have er := h; clear h
      intro K hK
      have dr := er (Bool.eq_false_iff.2 (fun h => getD_no h0 (hC.step (j := 15) (k := 0) h (by kernel_rfl))))
      obtain rfl := dr
      rw [if_pos (by kernel_rfl)]
      have q0 := cellB hHeld c0 hbw2
      have q1 := cellB hHeld c1 hbw2
      go_simp
      try simp only [Act.put, List.setIfInBounds_toArray, List.set_cons_zero, List.set_cons_succ]
      refine hK.out _ _ ⟨_, _, _, _, _, _, _, _, _, _, _, _, _, _, _, _, rfl, ?_, ?_, ?_, ?_, ?_, ?_, ?_, ?_, ?_, ?_, ?_, ?_, ?_, ?_, ?_, ?_, ?_, ?_⟩
      · first | exact hHeld | exact hHeld.trans (hb.mono hHeld.size) | (trace_state; fail)
      · intro _; first | rfl | (trace_state; fail)
      · first | exact flag_ne (by decide) f1 | exact fun _ => rfl
      · first | exact flag_ne (by decide) f2 | exact fun _ => rfl
      · first | exact flag_ne (by decide) f3 | exact fun _ => rfl
      · first | exact flag_ne (by decide) f4 | exact fun _ => rfl
      · first | exact flag_ne (by decide) f5 | exact fun _ => rfl
      · intro h _; rw [getD_set_ne false (by decide)] at h; exact (getD_no h0 (hC.step (j := 6) (k := 0) h (by kernel_rfl))).elim
      · first | exact flag_ne (by decide) f7 | exact fun _ => rfl
      · first | exact flag_ne (by decide) f8 | exact fun _ => rfl
      · first | exact flag_ne (by decide) f9 | exact fun _ => rfl
      · first | exact flag_ne (by decide) f10 | exact fun _ => rfl
      · first | exact flag_ne (by decide) f11 | exact fun _ => rfl
      · first | exact flag_ne (by decide) f12 | exact fun _ => rfl
      · intro h h7; rw [getD_set_ne false (by decide)] at h; rw [getD_set_ne true (by decide)] at h7; have := f13 h h7; obtain ⟨q, e1, e2⟩ := this; exact (by first | exact ⟨q, e1, e2⟩ | exact ⟨q, e1, owns_below e2 hb⟩ | (trace_state; fail))
      · intro h; rw [getD_set_ne false (by decide)] at h; exact (getD_no h0 (hC.step (j := 6) (k := 0) (hC.step (j := 14) (k := 6) h (by kernel_rfl)) (by kernel_rfl))).elim
      · intro h; rw [getD_set_ne false (by decide)] at h; exact (getD_no h0 (hC.step (j := 15) (k := 0) h (by kernel_rfl))).elim
      · intro h; first | rfl | (rw [getD_set_ne false (by decide)] at h; have := er h; first | exact this | exact owns_below this hb | (trace_state; fail))
    · refine StepAt.mk (o := { dst := some 35, op := Op.move (Operand.tmp 0), type := 24, pos := _, after := #[], guard := none }) (ws := []) rfl (by kernel_rfl) ?_
      intro L b v hC h0 hA h
      refine h.elim ?_; clear h; intro u4 h
      refine h.elim ?_; clear h; intro u34 h
      refine h.elim ?_; clear h; intro u35 h
      refine h.elim ?_; clear h; intro u36 h
      refine h.elim ?_; clear h; intro u37 h
      refine h.elim ?_; clear h; intro u38 h
      refine h.elim ?_; clear h; intro u39 h
      refine h.elim ?_; clear h; intro u40 h
      refine h.elim ?_; clear h; intro u41 h
      refine h.elim ?_; clear h; intro u42 h
      refine h.elim ?_; clear h; intro u43 h
      refine h.elim ?_; clear h; intro u44 h
      refine h.elim ?_; clear h; intro u45 h
      refine h.elim ?_; clear h; intro u46 h
      refine h.elim ?_; clear h; intro u47 h
      refine h.elim ?_; clear h; intro u48 h
      have hbb := h.1; replace h := h.2; subst hbb
      have hHeld := h.1; replace h := h.2
      have f0 := h.1; replace h := h.2
      have f1 := h.1; replace h := h.2
      have f2 := h.1; replace h := h.2
      have f3 := h.1; replace h := h.2
      have f4 := h.1; replace h := h.2
      have f5 := h.1; replace h := h.2
      have f6 := h.1; replace h := h.2
      have f7 := h.1; replace h := h.2
      have f8 := h.1; replace h := h.2
      have f9 := h.1; replace h := h.2
      have f10 := h.1; replace h := h.2
      have f11 := h.1; replace h := h.2
      have f12 := h.1; replace h := h.2
      have f13 := h.1; replace h := h.2
      have f14 := h.1; replace h := h.2
      have f15 := h.1; replace h := h.2
      have er := h; clear h
      intro K hK
      rw [if_pos (by kernel_rfl)]
      have q0 := cellB hHeld c0 hbw2
      have q1 := cellB hHeld c1 hbw2
      go_simp
      try simp only [Act.put, List.setIfInBounds_toArray, List.set_cons_zero, List.set_cons_succ]
      refine hK.out _ _ ⟨_, _, _, _, _, _, _, _, _, _, _, _, _, _, _, _, rfl, ?_, ?_, ?_, ?_, ?_, ?_, ?_, ?_, ?_, ?_, ?_, ?_, ?_, ?_, ?_, ?_, ?_, ?_⟩
      · first | exact hHeld | exact hHeld.trans (hb.mono hHeld.size) | (trace_state; fail)
      · first | exact flag_ne (by decide) f0 | exact fun _ => rfl
      · intro _; first | rfl | (trace_state; fail)
      · first | exact flag_ne (by decide) f2 | exact fun _ => rfl
      · first | exact flag_ne (by decide) f3 | exact fun _ => rfl
      · first | exact flag_ne (by decide) f4 | exact fun _ => rfl
      · first | exact flag_ne (by decide) f5 | exact fun _ => rfl
      · intro h _; rw [getD_set_ne false (by decide)] at h; exact (getD_no h0 (hC.step (j := 3) (k := 1) (hC.step (j := 4) (k := 3) (hC.step (j := 5) (k := 4) (hC.step (j := 6) (k := 5) h (by kernel_rfl)) (by kernel_rfl)) (by kernel_rfl)) (by kernel_rfl))).elim
      · first | exact flag_ne (by decide) f7 | exact fun _ => rfl
      · first | exact flag_ne (by decide) f8 | exact fun _ => rfl
      · first | exact flag_ne (by decide) f9 | exact fun _ => rfl
      · first | exact flag_ne (by decide) f10 | exact fun _ => rfl
      · first | exact flag_ne (by decide) f11 | exact fun _ => rfl
      · first | exact flag_ne (by decide) f12 | exact fun _ => rfl
      · intro h h7; rw [getD_set_ne false (by decide)] at h; rw [getD_set_ne true (by decide)] at h7; have := f13 h h7; obtain ⟨q, e1, e2⟩ := this; exact (by first | exact ⟨q, e1, e2⟩ | exact ⟨q, e1, owns_below e2 hb⟩ | (trace_state; fail))
      · intro h; rw [getD_set_ne false (by decide)] at h; exact (getD_no h0 (hC.step (j := 3) (k := 1) (hC.step (j := 4) (k := 3) (hC.step (j := 5) (k := 4) (hC.step (j := 6) (k := 5) (hC.step (j := 14) (k := 6) h (by kernel_rfl)) (by kernel_rfl)) (by kernel_rfl)) (by kernel_rfl)) (by kernel_rfl))).elim
      · intro h; rw [getD_set_ne false (by decide)] at h; exact (getD_no h0 (hC.step (j := 15) (k := 1) h (by kernel_rfl))).elim
      · intro h; rw [getD_set_ne false (by decide)] at h; have := er h; first | exact this | exact owns_below this hb | (trace_state; fail)
    · refine StepAt.mk (o := { dst := some 36, op := Op.move (Operand.tmp 5), type := 3, pos := _, after := #[], guard := none }) (ws := []) rfl (by kernel_rfl) ?_
      intro L b v hC h0 hA h
      refine h.elim ?_; clear h; intro u4 h
      refine h.elim ?_; clear h; intro u34 h
      refine h.elim ?_; clear h; intro u35 h
      refine h.elim ?_; clear h; intro u36 h
      refine h.elim ?_; clear h; intro u37 h
      refine h.elim ?_; clear h; intro u38 h
      refine h.elim ?_; clear h; intro u39 h
      refine h.elim ?_; clear h; intro u40 h
      refine h.elim ?_; clear h; intro u41 h
      refine h.elim ?_; clear h; intro u42 h
      refine h.elim ?_; clear h; intro u43 h
      refine h.elim ?_; clear h; intro u44 h
      refine h.elim ?_; clear h; intro u45 h
      refine h.elim ?_; clear h; intro u46 h
      refine h.elim ?_; clear h; intro u47 h
      refine h.elim ?_; clear h; intro u48 h
      have hbb := h.1; replace h := h.2; subst hbb
      have hHeld := h.1; replace h := h.2
      have f0 := h.1; replace h := h.2
      have f1 := h.1; replace h := h.2
      have f2 := h.1; replace h := h.2
      have f3 := h.1; replace h := h.2
      have f4 := h.1; replace h := h.2
      have f5 := h.1; replace h := h.2
      have f6 := h.1; replace h := h.2
      have f7 := h.1; replace h := h.2
      have f8 := h.1; replace h := h.2
      have f9 := h.1; replace h := h.2
      have f10 := h.1; replace h := h.2
      have f11 := h.1; replace h := h.2
      have f12 := h.1; replace h := h.2
      have f13 := h.1; replace h := h.2
      have f14 := h.1; replace h := h.2
      have f15 := h.1; replace h := h.2
      have er := h; clear h
      intro K hK
      rw [if_pos (by kernel_rfl)]
      have q0 := cellB hHeld c0 hbw2
      have q1 := cellB hHeld c1 hbw2
      go_simp
      try simp only [Act.put, List.setIfInBounds_toArray, List.set_cons_zero, List.set_cons_succ]
      refine hK.out _ _ ⟨_, _, _, _, _, _, _, _, _, _, _, _, _, _, _, _, rfl, ?_, ?_, ?_, ?_, ?_, ?_, ?_, ?_, ?_, ?_, ?_, ?_, ?_, ?_, ?_, ?_, ?_, ?_⟩
      · first | exact hHeld | exact hHeld.trans (hb.mono hHeld.size) | (trace_state; fail)
      · first | exact flag_ne (by decide) f0 | exact fun _ => rfl
      · first | exact flag_ne (by decide) f1 | exact fun _ => rfl
      · intro _; first | rfl | (trace_state; fail)
      · first | exact flag_ne (by decide) f3 | exact fun _ => rfl
      · first | exact flag_ne (by decide) f4 | exact fun _ => rfl
      · first | exact flag_ne (by decide) f5 | exact fun _ => rfl
      · intro h _; rw [getD_set_ne false (by decide)] at h; exact (getD_no h0 (hC.step (j := 3) (k := 2) (hC.step (j := 4) (k := 3) (hC.step (j := 5) (k := 4) (hC.step (j := 6) (k := 5) h (by kernel_rfl)) (by kernel_rfl)) (by kernel_rfl)) (by kernel_rfl))).elim
      · first | exact flag_ne (by decide) f7 | exact fun _ => rfl
      · first | exact flag_ne (by decide) f8 | exact fun _ => rfl
      · first | exact flag_ne (by decide) f9 | exact fun _ => rfl
      · first | exact flag_ne (by decide) f10 | exact fun _ => rfl
      · first | exact flag_ne (by decide) f11 | exact fun _ => rfl
      · first | exact flag_ne (by decide) f12 | exact fun _ => rfl
      · intro h h7; rw [getD_set_ne false (by decide)] at h; rw [getD_set_ne true (by decide)] at h7; have := f13 h h7; obtain ⟨q, e1, e2⟩ := this; exact (by first | exact ⟨q, e1, e2⟩ | exact ⟨q, e1, owns_below e2 hb⟩ | (trace_state; fail))
      · intro h; rw [getD_set_ne false (by decide)] at h; exact (getD_no h0 (hC.step (j := 3) (k := 2) (hC.step (j := 4) (k := 3) (hC.step (j := 5) (k := 4) (hC.step (j := 6) (k := 5) (hC.step (j := 14) (k := 6) h (by kernel_rfl)) (by kernel_rfl)) (by kernel_rfl)) (by kernel_rfl)) (by kernel_rfl))).elim
      · intro h; rw [getD_set_ne false (by decide)] at h; exact (getD_no h0 (hC.step (j := 15) (k := 2) h (by kernel_rfl))).elim
      · intro h; rw [getD_set_ne false (by decide)] at h; have := er h; first | exact this | exact owns_below this hb | (trace_state; fail)
    · refine StepAt.mk (o := { dst := some 37, op := Op.indexAddr 24 (Operand.tmp 35) (Operand.tmp 36), type := 0, pos := _, after := #[{ on := 1, ground := Ground.data }, { on := 2, ground := Ground.data }], guard := none }) (ws := [1, 2]) rfl (by kernel_rfl) ?_
      intro L b v hC h0 hA h
      refine h.elim ?_; clear h; intro u4 h
      refine h.elim ?_; clear h; intro u34 h
      refine h.elim ?_; clear h; intro u35 h
      refine h.elim ?_; clear h; intro u36 h
      refine h.elim ?_; clear h; intro u37 h
      refine h.elim ?_; clear h; intro u38 h
      refine h.elim ?_; clear h; intro u39 h
      refine h.elim ?_; clear h; intro u40 h
      refine h.elim ?_; clear h; intro u41 h
      refine h.elim ?_; clear h; intro u42 h
      refine h.elim ?_; clear h; intro u43 h
      refine h.elim ?_; clear h; intro u44 h
      refine h.elim ?_; clear h; intro u45 h
      refine h.elim ?_; clear h; intro u46 h
      refine h.elim ?_; clear h; intro u47 h
      refine h.elim ?_; clear h; intro u48 h
      have hbb := h.1; replace h := h.2; subst hbb
      have hHeld := h.1; replace h := h.2
      have f0 := h.1; replace h := h.2
      have f1 := h.1; replace h := h.2
      have f2 := h.1; replace h := h.2
      have f3 := h.1; replace h := h.2
      have f4 := h.1; replace h := h.2
      have f5 := h.1; replace h := h.2
      have f6 := h.1; replace h := h.2
      have f7 := h.1; replace h := h.2
      have f8 := h.1; replace h := h.2
      have f9 := h.1; replace h := h.2
      have f10 := h.1; replace h := h.2
      have f11 := h.1; replace h := h.2
      have f12 := h.1; replace h := h.2
      have f13 := h.1; replace h := h.2
      have f14 := h.1; replace h := h.2
      have f15 := h.1; replace h := h.2
      have er := h; clear h
      intro K hK
      have g1 := f1 (hA 1 (by simp))
      obtain rfl := g1
      have g2 := f2 (hA 2 (by simp))
      obtain rfl := g2
      rw [if_pos (by kernel_rfl)]
      have q0 := cellB hHeld c0 hbw2
      have q1 := cellB hHeld c1 hbw2
      go_simp
      try simp only [Act.put, List.setIfInBounds_toArray, List.set_cons_zero, List.set_cons_succ]
      refine hK.out _ _ ⟨_, _, _, _, _, _, _, _, _, _, _, _, _, _, _, _, rfl, ?_, ?_, ?_, ?_, ?_, ?_, ?_, ?_, ?_, ?_, ?_, ?_, ?_, ?_, ?_, ?_, ?_, ?_⟩
      · first | exact hHeld | exact hHeld.trans (hb.mono hHeld.size) | (trace_state; fail)
      · first | exact flag_ne (by decide) f0 | exact fun _ => rfl
      · first | exact flag_ne (by decide) f1 | exact fun _ => rfl
      · first | exact flag_ne (by decide) f2 | exact fun _ => rfl
      · intro _; first | rfl | (trace_state; fail)
      · first | exact flag_ne (by decide) f4 | exact fun _ => rfl
      · first | exact flag_ne (by decide) f5 | exact fun _ => rfl
      · intro h _; rw [getD_set_ne false (by decide)] at h; exact (getD_no h0 (hC.step (j := 4) (k := 3) (hC.step (j := 5) (k := 4) (hC.step (j := 6) (k := 5) h (by kernel_rfl)) (by kernel_rfl)) (by kernel_rfl))).elim
      · first | exact flag_ne (by decide) f7 | exact fun _ => rfl
      · first | exact flag_ne (by decide) f8 | exact fun _ => rfl
      · first | exact flag_ne (by decide) f9 | exact fun _ => rfl
      · first | exact flag_ne (by decide) f10 | exact fun _ => rfl
      · first | exact flag_ne (by decide) f11 | exact fun _ => rfl
      · first | exact flag_ne (by decide) f12 | exact fun _ => rfl
      · intro h h7; rw [getD_set_ne false (by decide)] at h; rw [getD_set_ne true (by decide)] at h7; have := f13 h h7; obtain ⟨q, e1, e2⟩ := this; exact (by first | exact ⟨q, e1, e2⟩ | exact ⟨q, e1, owns_below e2 hb⟩ | (trace_state; fail))
      · intro h; rw [getD_set_ne false (by decide)] at h; exact (getD_no h0 (hC.step (j := 4) (k := 3) (hC.step (j := 5) (k := 4) (hC.step (j := 6) (k := 5) (hC.step (j := 14) (k := 6) h (by kernel_rfl)) (by kernel_rfl)) (by kernel_rfl)) (by kernel_rfl))).elim
      · intro h; rw [getD_set_ne false (by decide)] at h; exact (getD_no h0 (hC.step (j := 15) (k := 3) h (by kernel_rfl))).elim
      · intro h; rw [getD_set_ne false (by decide)] at h; have := er h; first | exact this | exact owns_below this hb | (trace_state; fail)
    · refine StepAt.mk (o := { dst := some 38, op := Op.fieldAddr 43 (Operand.tmp 37) 0, type := 0, pos := _, after := #[{ on := 3, ground := Ground.data }], guard := none }) (ws := [3]) rfl (by kernel_rfl) ?_
      intro L b v hC h0 hA h
      refine h.elim ?_; clear h; intro u4 h
      refine h.elim ?_; clear h; intro u34 h
      refine h.elim ?_; clear h; intro u35 h
      refine h.elim ?_; clear h; intro u36 h
      refine h.elim ?_; clear h; intro u37 h
      refine h.elim ?_; clear h; intro u38 h
      refine h.elim ?_; clear h; intro u39 h
      refine h.elim ?_; clear h; intro u40 h
      refine h.elim ?_; clear h; intro u41 h
      refine h.elim ?_; clear h; intro u42 h
      refine h.elim ?_; clear h; intro u43 h
      refine h.elim ?_; clear h; intro u44 h
      refine h.elim ?_; clear h; intro u45 h
      refine h.elim ?_; clear h; intro u46 h
      refine h.elim ?_; clear h; intro u47 h
      refine h.elim ?_; clear h; intro u48 h
      have hbb := h.1; replace h := h.2; subst hbb
      have hHeld := h.1; replace h := h.2
      have f0 := h.1; replace h := h.2
      have f1 := h.1; replace h := h.2
      have f2 := h.1; replace h := h.2
      have f3 := h.1; replace h := h.2
      have f4 := h.1; replace h := h.2
      have f5 := h.1; replace h := h.2
      have f6 := h.1; replace h := h.2
      have f7 := h.1; replace h := h.2
      have f8 := h.1; replace h := h.2
      have f9 := h.1; replace h := h.2
      have f10 := h.1; replace h := h.2
      have f11 := h.1; replace h := h.2
      have f12 := h.1; replace h := h.2
      have f13 := h.1; replace h := h.2
      have f14 := h.1; replace h := h.2
      have f15 := h.1; replace h := h.2
      have er := h; clear h
      intro K hK
      have g3 := f3 (hA 3 (by simp))
      obtain rfl := g3
      rw [if_pos (by kernel_rfl)]
      have q0 := cellB hHeld c0 hbw2
      have q1 := cellB hHeld c1 hbw2
      go_simp
      try simp only [Act.put, List.setIfInBounds_toArray, List.set_cons_zero, List.set_cons_succ]
      refine hK.out _ _ ⟨_, _, _, _, _, _, _, _, _, _, _, _, _, _, _, _, rfl, ?_, ?_, ?_, ?_, ?_, ?_, ?_, ?_, ?_, ?_, ?_, ?_, ?_, ?_, ?_, ?_, ?_, ?_⟩
      · first | exact hHeld | exact hHeld.trans (hb.mono hHeld.size) | (trace_state; fail)
      · first | exact flag_ne (by decide) f0 | exact fun _ => rfl
      · first | exact flag_ne (by decide) f1 | exact fun _ => rfl
      · first | exact flag_ne (by decide) f2 | exact fun _ => rfl
      · first | exact flag_ne (by decide) f3 | exact fun _ => rfl
      · intro _; first | rfl | (trace_state; fail)
      · first | exact flag_ne (by decide) f5 | exact fun _ => rfl
      · intro h _; rw [getD_set_ne false (by decide)] at h; exact (getD_no h0 (hC.step (j := 5) (k := 4) (hC.step (j := 6) (k := 5) h (by kernel_rfl)) (by kernel_rfl))).elim
      · first | exact flag_ne (by decide) f7 | exact fun _ => rfl
      · first | exact flag_ne (by decide) f8 | exact fun _ => rfl
      · first | exact flag_ne (by decide) f9 | exact fun _ => rfl
      · first | exact flag_ne (by decide) f10 | exact fun _ => rfl
      · first | exact flag_ne (by decide) f11 | exact fun _ => rfl
      · first | exact flag_ne (by decide) f12 | exact fun _ => rfl
      · intro h h7; rw [getD_set_ne false (by decide)] at h; rw [getD_set_ne true (by decide)] at h7; have := f13 h h7; obtain ⟨q, e1, e2⟩ := this; exact (by first | exact ⟨q, e1, e2⟩ | exact ⟨q, e1, owns_below e2 hb⟩ | (trace_state; fail))
      · intro h; rw [getD_set_ne false (by decide)] at h; exact (getD_no h0 (hC.step (j := 5) (k := 4) (hC.step (j := 6) (k := 5) (hC.step (j := 14) (k := 6) h (by kernel_rfl)) (by kernel_rfl)) (by kernel_rfl))).elim
      · intro h; rw [getD_set_ne false (by decide)] at h; exact (getD_no h0 (hC.step (j := 15) (k := 4) h (by kernel_rfl))).elim
      · intro h; rw [getD_set_ne false (by decide)] at h; have := er h; first | exact this | exact owns_below this hb | (trace_state; fail)
    · refine StepAt.mk (o := { dst := some 39, op := Op.load 9 (Operand.tmp 38), type := 9, pos := _, after := #[{ on := 4, ground := Ground.data }], guard := none }) (ws := [4]) rfl (by kernel_rfl) ?_
      intro L b v hC h0 hA h
      refine h.elim ?_; clear h; intro u4 h
      refine h.elim ?_; clear h; intro u34 h
      refine h.elim ?_; clear h; intro u35 h
      refine h.elim ?_; clear h; intro u36 h
      refine h.elim ?_; clear h; intro u37 h
      refine h.elim ?_; clear h; intro u38 h
      refine h.elim ?_; clear h; intro u39 h
      refine h.elim ?_; clear h; intro u40 h
      refine h.elim ?_; clear h; intro u41 h
      refine h.elim ?_; clear h; intro u42 h
      refine h.elim ?_; clear h; intro u43 h
      refine h.elim ?_; clear h; intro u44 h
      refine h.elim ?_; clear h; intro u45 h
      refine h.elim ?_; clear h; intro u46 h
      refine h.elim ?_; clear h; intro u47 h
      refine h.elim ?_; clear h; intro u48 h
      have hbb := h.1; replace h := h.2; subst hbb
      have hHeld := h.1; replace h := h.2
      have f0 := h.1; replace h := h.2
      have f1 := h.1; replace h := h.2
      have f2 := h.1; replace h := h.2
      have f3 := h.1; replace h := h.2
      have f4 := h.1; replace h := h.2
      have f5 := h.1; replace h := h.2
      have f6 := h.1; replace h := h.2
      have f7 := h.1; replace h := h.2
      have f8 := h.1; replace h := h.2
      have f9 := h.1; replace h := h.2
      have f10 := h.1; replace h := h.2
      have f11 := h.1; replace h := h.2
      have f12 := h.1; replace h := h.2
      have f13 := h.1; replace h := h.2
      have f14 := h.1; replace h := h.2
      have f15 := h.1; replace h := h.2
      have er := h; clear h
      intro K hK
      have g4 := f4 (hA 4 (by simp))
      obtain rfl := g4
      rw [if_pos (by kernel_rfl)]
      have q0 := cellB hHeld c0 hbw2
      have q1 := cellB hHeld c1 hbw2
      go_simp
      try simp only [Act.put, List.setIfInBounds_toArray, List.set_cons_zero, List.set_cons_succ]
      refine hK.out _ _ ⟨_, _, _, _, _, _, _, _, _, _, _, _, _, _, _, _, rfl, ?_, ?_, ?_, ?_, ?_, ?_, ?_, ?_, ?_, ?_, ?_, ?_, ?_, ?_, ?_, ?_, ?_, ?_⟩
      · first | exact hHeld | exact hHeld.trans (hb.mono hHeld.size) | (trace_state; fail)
      · first | exact flag_ne (by decide) f0 | exact fun _ => rfl
      · first | exact flag_ne (by decide) f1 | exact fun _ => rfl
      · first | exact flag_ne (by decide) f2 | exact fun _ => rfl
      · first | exact flag_ne (by decide) f3 | exact fun _ => rfl
      · first | exact flag_ne (by decide) f4 | exact fun _ => rfl
      · intro _; first | rfl | (trace_state; fail)
      · intro h _; rw [getD_set_ne false (by decide)] at h; exact (getD_no h0 (hC.step (j := 6) (k := 5) h (by kernel_rfl))).elim
      · first | exact flag_ne (by decide) f7 | exact fun _ => rfl
      · first | exact flag_ne (by decide) f8 | exact fun _ => rfl
      · first | exact flag_ne (by decide) f9 | exact fun _ => rfl
      · first | exact flag_ne (by decide) f10 | exact fun _ => rfl
      · first | exact flag_ne (by decide) f11 | exact fun _ => rfl
      · first | exact flag_ne (by decide) f12 | exact fun _ => rfl
      · intro h h7; rw [getD_set_ne false (by decide)] at h; rw [getD_set_ne true (by decide)] at h7; have := f13 h h7; obtain ⟨q, e1, e2⟩ := this; exact (by first | exact ⟨q, e1, e2⟩ | exact ⟨q, e1, owns_below e2 hb⟩ | (trace_state; fail))
      · intro h; rw [getD_set_ne false (by decide)] at h; exact (getD_no h0 (hC.step (j := 6) (k := 5) (hC.step (j := 14) (k := 6) h (by kernel_rfl)) (by kernel_rfl))).elim
      · intro h; rw [getD_set_ne false (by decide)] at h; exact (getD_no h0 (hC.step (j := 15) (k := 5) h (by kernel_rfl))).elim
      · intro h; rw [getD_set_ne false (by decide)] at h; have := er h; first | exact this | exact owns_below this hb | (trace_state; fail)
    · refine StepAt.mk (o := { dst := some 40, op := Op.call { callee := Callee.value (Operand.func 59), args := #[Operand.tmp 34, Operand.tmp 39], argTypes := #[30, 9] }, type := 30, pos := _, after := #[{ on := 0, ground := Ground.data }, { on := 5, ground := Ground.data }], guard := none }) (ws := [0, 5]) rfl (by kernel_rfl) ?_
      intro L b v hC h0 hA h
      refine h.elim ?_; clear h; intro u4 h
      refine h.elim ?_; clear h; intro u34 h
      refine h.elim ?_; clear h; intro u35 h
      refine h.elim ?_; clear h; intro u36 h
      refine h.elim ?_; clear h; intro u37 h
      refine h.elim ?_; clear h; intro u38 h
      refine h.elim ?_; clear h; intro u39 h
      refine h.elim ?_; clear h; intro u40 h
      refine h.elim ?_; clear h; intro u41 h
      refine h.elim ?_; clear h; intro u42 h
      refine h.elim ?_; clear h; intro u43 h
      refine h.elim ?_; clear h; intro u44 h
      refine h.elim ?_; clear h; intro u45 h
      refine h.elim ?_; clear h; intro u46 h
      refine h.elim ?_; clear h; intro u47 h
      refine h.elim ?_; clear h; intro u48 h
      have hbb := h.1; replace h := h.2; subst hbb
      have hHeld := h.1; replace h := h.2
      have f0 := h.1; replace h := h.2
      have f1 := h.1; replace h := h.2
      have f2 := h.1; replace h := h.2
      have f3 := h.1; replace h := h.2
      have f4 := h.1; replace h := h.2
      have f5 := h.1; replace h := h.2
      have f6 := h.1; replace h := h.2
      have f7 := h.1; replace h := h.2
      have f8 := h.1; replace h := h.2
      have f9 := h.1; replace h := h.2
      have f10 := h.1; replace h := h.2
      have f11 := h.1; replace h := h.2
      have f12 := h.1; replace h := h.2
      have f13 := h.1; replace h := h.2
      have f14 := h.1; replace h := h.2
      have f15 := h.1; replace h := h.2
      have er := h; clear h
      intro K hK
      have g0 := f0 (hA 0 (by simp))
      obtain rfl := g0
      have g5 := f5 (hA 5 (by simp))
      obtain rfl := g5
      rw [if_pos (by kernel_rfl)]
      have q0 := cellB hHeld c0 hbw2
      have q1 := cellB hHeld c1 hbw2
      go_simp
      refine (HTX.out v hHeld).mono ?_; rintro e v1 ⟨r, rfl, HO, hb⟩
      go_wp2_with fail
      try simp only [Act.put, List.setIfInBounds_toArray, List.set_cons_zero, List.set_cons_succ]
      refine hK.out _ _ ⟨_, _, _, _, _, _, _, _, _, _, _, _, _, _, _, _, rfl, ?_, ?_, ?_, ?_, ?_, ?_, ?_, ?_, ?_, ?_, ?_, ?_, ?_, ?_, ?_, ?_, ?_, ?_⟩
      · first | exact hHeld | exact hHeld.trans (hb.mono hHeld.size) | (trace_state; fail)
      · first | exact flag_ne (by decide) f0 | exact fun _ => rfl
      · first | exact flag_ne (by decide) f1 | exact fun _ => rfl
      · first | exact flag_ne (by decide) f2 | exact fun _ => rfl
      · first | exact flag_ne (by decide) f3 | exact fun _ => rfl
      · first | exact flag_ne (by decide) f4 | exact fun _ => rfl
      · first | exact flag_ne (by decide) f5 | exact fun _ => rfl
      · intro _ _; first | (exact own_low HO hHeld.size) | (trace_state; fail)
      · first | exact flag_ne (by decide) f7 | exact fun _ => rfl
      · first | exact flag_ne (by decide) f8 | exact fun _ => rfl
      · first | exact flag_ne (by decide) f9 | exact fun _ => rfl
      · first | exact flag_ne (by decide) f10 | exact fun _ => rfl
      · first | exact flag_ne (by decide) f11 | exact fun _ => rfl
      · first | exact flag_ne (by decide) f12 | exact fun _ => rfl
      · intro h h7; rw [getD_set_ne false (by decide)] at h; rw [getD_set_ne true (by decide)] at h7; have := f13 h h7; obtain ⟨q, e1, e2⟩ := this; exact (by first | exact ⟨q, e1, e2⟩ | exact ⟨q, e1, owns_below e2 hb⟩ | (trace_state; fail))
      · intro h; rw [getD_set_ne false (by decide)] at h; exact (getD_no h0 (hC.step (j := 14) (k := 6) h (by kernel_rfl))).elim
      · intro h; rw [getD_set_ne false (by decide)] at h; exact (getD_no h0 (hC.step (j := 15) (k := 6) h (by kernel_rfl))).elim
      · intro h; rw [getD_set_ne false (by decide)] at h; have := er h; first | exact this | exact owns_below this hb | (trace_state; fail)
    · refine StepAt.mk (o := { dst := some 41, op := Op.move (Operand.tmp 0), type := 24, pos := _, after := #[], guard := none }) (ws := []) rfl (by kernel_rfl) ?_
      intro L b v hC h0 hA h
      refine h.elim ?_; clear h; intro u4 h
      refine h.elim ?_; clear h; intro u34 h
      refine h.elim ?_; clear h; intro u35 h
      refine h.elim ?_; clear h; intro u36 h
      refine h.elim ?_; clear h; intro u37 h
      refine h.elim ?_; clear h; intro u38 h
      refine h.elim ?_; clear h; intro u39 h
      refine h.elim ?_; clear h; intro u40 h
      refine h.elim ?_; clear h; intro u41 h
      refine h.elim ?_; clear h; intro u42 h
      refine h.elim ?_; clear h; intro u43 h
      refine h.elim ?_; clear h; intro u44 h
      refine h.elim ?_; clear h; intro u45 h
      refine h.elim ?_; clear h; intro u46 h
      refine h.elim ?_; clear h; intro u47 h
      refine h.elim ?_; clear h; intro u48 h
      have hbb := h.1; replace h := h.2; subst hbb
      have hHeld := h.1; replace h := h.2
      have f0 := h.1; replace h := h.2
      have f1 := h.1; replace h := h.2
      have f2 := h.1; replace h := h.2
      have f3 := h.1; replace h := h.2
      have f4 := h.1; replace h := h.2
      have f5 := h.1; replace h := h.2
      have f6 := h.1; replace h := h.2
      have f7 := h.1; replace h := h.2
      have f8 := h.1; replace h := h.2
      have f9 := h.1; replace h := h.2
      have f10 := h.1; replace h := h.2
      have f11 := h.1; replace h := h.2
      have f12 := h.1; replace h := h.2
      have f13 := h.1; replace h := h.2
      have f14 := h.1; replace h := h.2
      have f15 := h.1; replace h := h.2
      have er := h; clear h
      intro K hK
      rw [if_pos (by kernel_rfl)]
      have q0 := cellB hHeld c0 hbw2
      have q1 := cellB hHeld c1 hbw2
      go_simp
      try simp only [Act.put, List.setIfInBounds_toArray, List.set_cons_zero, List.set_cons_succ]
      refine hK.out _ _ ⟨_, _, _, _, _, _, _, _, _, _, _, _, _, _, _, _, rfl, ?_, ?_, ?_, ?_, ?_, ?_, ?_, ?_, ?_, ?_, ?_, ?_, ?_, ?_, ?_, ?_, ?_, ?_⟩
      · first | exact hHeld | exact hHeld.trans (hb.mono hHeld.size) | (trace_state; fail)
      · first | exact flag_ne (by decide) f0 | exact fun _ => rfl
      · first | exact flag_ne (by decide) f1 | exact fun _ => rfl
      · first | exact flag_ne (by decide) f2 | exact fun _ => rfl
      · first | exact flag_ne (by decide) f3 | exact fun _ => rfl
      · first | exact flag_ne (by decide) f4 | exact fun _ => rfl
      · first | exact flag_ne (by decide) f5 | exact fun _ => rfl
      · intro h h7; rw [getD_set_ne false (by decide)] at h; rw [getD_set_ne true (by decide)] at h7; have := f6 h h7; first | exact this | exact owns_below this hb | (trace_state; fail)
      · intro _; first | rfl | (trace_state; fail)
      · first | exact flag_ne (by decide) f8 | exact fun _ => rfl
      · first | exact flag_ne (by decide) f9 | exact fun _ => rfl
      · first | exact flag_ne (by decide) f10 | exact fun _ => rfl
      · first | exact flag_ne (by decide) f11 | exact fun _ => rfl
      · first | exact flag_ne (by decide) f12 | exact fun _ => rfl
      · intro h _; rw [getD_set_ne false (by decide)] at h; exact (getD_no h0 (hC.step (j := 9) (k := 7) (hC.step (j := 10) (k := 9) (hC.step (j := 11) (k := 10) (hC.step (j := 12) (k := 11) (hC.step (j := 13) (k := 12) h (by kernel_rfl)) (by kernel_rfl)) (by kernel_rfl)) (by kernel_rfl)) (by kernel_rfl))).elim
      · intro h; rw [getD_set_ne false (by decide)] at h; exact (getD_no h0 (hC.step (j := 9) (k := 7) (hC.step (j := 10) (k := 9) (hC.step (j := 11) (k := 10) (hC.step (j := 12) (k := 11) (hC.step (j := 13) (k := 12) (hC.step (j := 14) (k := 13) h (by kernel_rfl)) (by kernel_rfl)) (by kernel_rfl)) (by kernel_rfl)) (by kernel_rfl)) (by kernel_rfl))).elim
      · intro h; rw [getD_set_ne false (by decide)] at h; exact (getD_no h0 (hC.step (j := 15) (k := 7) h (by kernel_rfl))).elim
      · intro h; rw [getD_set_ne false (by decide)] at h; have := er h; first | exact this | exact owns_below this hb | (trace_state; fail)
    · refine StepAt.mk (o := { dst := some 42, op := Op.move (Operand.tmp 5), type := 3, pos := _, after := #[], guard := none }) (ws := []) rfl (by kernel_rfl) ?_
      intro L b v hC h0 hA h
      refine h.elim ?_; clear h; intro u4 h
      refine h.elim ?_; clear h; intro u34 h
      refine h.elim ?_; clear h; intro u35 h
      refine h.elim ?_; clear h; intro u36 h
      refine h.elim ?_; clear h; intro u37 h
      refine h.elim ?_; clear h; intro u38 h
      refine h.elim ?_; clear h; intro u39 h
      refine h.elim ?_; clear h; intro u40 h
      refine h.elim ?_; clear h; intro u41 h
      refine h.elim ?_; clear h; intro u42 h
      refine h.elim ?_; clear h; intro u43 h
      refine h.elim ?_; clear h; intro u44 h
      refine h.elim ?_; clear h; intro u45 h
      refine h.elim ?_; clear h; intro u46 h
      refine h.elim ?_; clear h; intro u47 h
      refine h.elim ?_; clear h; intro u48 h
      have hbb := h.1; replace h := h.2; subst hbb
      have hHeld := h.1; replace h := h.2
      have f0 := h.1; replace h := h.2
      have f1 := h.1; replace h := h.2
      have f2 := h.1; replace h := h.2
      have f3 := h.1; replace h := h.2
      have f4 := h.1; replace h := h.2
      have f5 := h.1; replace h := h.2
      have f6 := h.1; replace h := h.2
      have f7 := h.1; replace h := h.2
      have f8 := h.1; replace h := h.2
      have f9 := h.1; replace h := h.2
      have f10 := h.1; replace h := h.2
      have f11 := h.1; replace h := h.2
      have f12 := h.1; replace h := h.2
      have f13 := h.1; replace h := h.2
      have f14 := h.1; replace h := h.2
      have f15 := h.1; replace h := h.2
      have er := h; clear h
      intro K hK
      rw [if_pos (by kernel_rfl)]
      have q0 := cellB hHeld c0 hbw2
      have q1 := cellB hHeld c1 hbw2
      go_simp
      try simp only [Act.put, List.setIfInBounds_toArray, List.set_cons_zero, List.set_cons_succ]
      refine hK.out _ _ ⟨_, _, _, _, _, _, _, _, _, _, _, _, _, _, _, _, rfl, ?_, ?_, ?_, ?_, ?_, ?_, ?_, ?_, ?_, ?_, ?_, ?_, ?_, ?_, ?_, ?_, ?_, ?_⟩
      · first | exact hHeld | exact hHeld.trans (hb.mono hHeld.size) | (trace_state; fail)
      · first | exact flag_ne (by decide) f0 | exact fun _ => rfl
      · first | exact flag_ne (by decide) f1 | exact fun _ => rfl
      · first | exact flag_ne (by decide) f2 | exact fun _ => rfl
      · first | exact flag_ne (by decide) f3 | exact fun _ => rfl
      · first | exact flag_ne (by decide) f4 | exact fun _ => rfl
      · first | exact flag_ne (by decide) f5 | exact fun _ => rfl
      · intro h h7; rw [getD_set_ne false (by decide)] at h; rw [getD_set_ne true (by decide)] at h7; have := f6 h h7; first | exact this | exact owns_below this hb | (trace_state; fail)
      · first | exact flag_ne (by decide) f7 | exact fun _ => rfl
      · intro _; first | rfl | (trace_state; fail)
      · first | exact flag_ne (by decide) f9 | exact fun _ => rfl
      · first | exact flag_ne (by decide) f10 | exact fun _ => rfl
      · first | exact flag_ne (by decide) f11 | exact fun _ => rfl
      · first | exact flag_ne (by decide) f12 | exact fun _ => rfl
      · intro h _; rw [getD_set_ne false (by decide)] at h; exact (getD_no h0 (hC.step (j := 9) (k := 8) (hC.step (j := 10) (k := 9) (hC.step (j := 11) (k := 10) (hC.step (j := 12) (k := 11) (hC.step (j := 13) (k := 12) h (by kernel_rfl)) (by kernel_rfl)) (by kernel_rfl)) (by kernel_rfl)) (by kernel_rfl))).elim
      · intro h; rw [getD_set_ne false (by decide)] at h; exact (getD_no h0 (hC.step (j := 9) (k := 8) (hC.step (j := 10) (k := 9) (hC.step (j := 11) (k := 10) (hC.step (j := 12) (k := 11) (hC.step (j := 13) (k := 12) (hC.step (j := 14) (k := 13) h (by kernel_rfl)) (by kernel_rfl)) (by kernel_rfl)) (by kernel_rfl)) (by kernel_rfl)) (by kernel_rfl))).elim
      · intro h; rw [getD_set_ne false (by decide)] at h; exact (getD_no h0 (hC.step (j := 15) (k := 8) h (by kernel_rfl))).elim
      · intro h; rw [getD_set_ne false (by decide)] at h; have := er h; first | exact this | exact owns_below this hb | (trace_state; fail)
    · refine StepAt.mk (o := { dst := some 43, op := Op.indexAddr 24 (Operand.tmp 41) (Operand.tmp 42), type := 0, pos := _, after := #[{ on := 7, ground := Ground.data }, { on := 8, ground := Ground.data }], guard := none }) (ws := [7, 8]) rfl (by kernel_rfl) ?_
      intro L b v hC h0 hA h
      refine h.elim ?_; clear h; intro u4 h
      refine h.elim ?_; clear h; intro u34 h
      refine h.elim ?_; clear h; intro u35 h
      refine h.elim ?_; clear h; intro u36 h
      refine h.elim ?_; clear h; intro u37 h
      refine h.elim ?_; clear h; intro u38 h
      refine h.elim ?_; clear h; intro u39 h
      refine h.elim ?_; clear h; intro u40 h
      refine h.elim ?_; clear h; intro u41 h
      refine h.elim ?_; clear h; intro u42 h
      refine h.elim ?_; clear h; intro u43 h
      refine h.elim ?_; clear h; intro u44 h
      refine h.elim ?_; clear h; intro u45 h
      refine h.elim ?_; clear h; intro u46 h
      refine h.elim ?_; clear h; intro u47 h
      refine h.elim ?_; clear h; intro u48 h
      have hbb := h.1; replace h := h.2; subst hbb
      have hHeld := h.1; replace h := h.2
      have f0 := h.1; replace h := h.2
      have f1 := h.1; replace h := h.2
      have f2 := h.1; replace h := h.2
      have f3 := h.1; replace h := h.2
      have f4 := h.1; replace h := h.2
      have f5 := h.1; replace h := h.2
      have f6 := h.1; replace h := h.2
      have f7 := h.1; replace h := h.2
      have f8 := h.1; replace h := h.2
      have f9 := h.1; replace h := h.2
      have f10 := h.1; replace h := h.2
      have f11 := h.1; replace h := h.2
      have f12 := h.1; replace h := h.2
      have f13 := h.1; replace h := h.2
      have f14 := h.1; replace h := h.2
      have f15 := h.1; replace h := h.2
      have er := h; clear h
      intro K hK
      have g7 := f7 (hA 7 (by simp))
      obtain rfl := g7
      have g8 := f8 (hA 8 (by simp))
      obtain rfl := g8
      rw [if_pos (by kernel_rfl)]
      have q0 := cellB hHeld c0 hbw2
      have q1 := cellB hHeld c1 hbw2
      go_simp
      try simp only [Act.put, List.setIfInBounds_toArray, List.set_cons_zero, List.set_cons_succ]
      refine hK.out _ _ ⟨_, _, _, _, _, _, _, _, _, _, _, _, _, _, _, _, rfl, ?_, ?_, ?_, ?_, ?_, ?_, ?_, ?_, ?_, ?_, ?_, ?_, ?_, ?_, ?_, ?_, ?_, ?_⟩
      · first | exact hHeld | exact hHeld.trans (hb.mono hHeld.size) | (trace_state; fail)
      · first | exact flag_ne (by decide) f0 | exact fun _ => rfl
      · first | exact flag_ne (by decide) f1 | exact fun _ => rfl
      · first | exact flag_ne (by decide) f2 | exact fun _ => rfl
      · first | exact flag_ne (by decide) f3 | exact fun _ => rfl
      · first | exact flag_ne (by decide) f4 | exact fun _ => rfl
      · first | exact flag_ne (by decide) f5 | exact fun _ => rfl
      · intro h h7; rw [getD_set_ne false (by decide)] at h; rw [getD_set_ne true (by decide)] at h7; have := f6 h h7; first | exact this | exact owns_below this hb | (trace_state; fail)
      · first | exact flag_ne (by decide) f7 | exact fun _ => rfl
      · first | exact flag_ne (by decide) f8 | exact fun _ => rfl
      · intro _; first | rfl | (trace_state; fail)
      · first | exact flag_ne (by decide) f10 | exact fun _ => rfl
      · first | exact flag_ne (by decide) f11 | exact fun _ => rfl
      · first | exact flag_ne (by decide) f12 | exact fun _ => rfl
      · intro h _; rw [getD_set_ne false (by decide)] at h; exact (getD_no h0 (hC.step (j := 10) (k := 9) (hC.step (j := 11) (k := 10) (hC.step (j := 12) (k := 11) (hC.step (j := 13) (k := 12) h (by kernel_rfl)) (by kernel_rfl)) (by kernel_rfl)) (by kernel_rfl))).elim
      · intro h; rw [getD_set_ne false (by decide)] at h; exact (getD_no h0 (hC.step (j := 10) (k := 9) (hC.step (j := 11) (k := 10) (hC.step (j := 12) (k := 11) (hC.step (j := 13) (k := 12) (hC.step (j := 14) (k := 13) h (by kernel_rfl)) (by kernel_rfl)) (by kernel_rfl)) (by kernel_rfl)) (by kernel_rfl))).elim
      · intro h; rw [getD_set_ne false (by decide)] at h; exact (getD_no h0 (hC.step (j := 15) (k := 9) h (by kernel_rfl))).elim
      · intro h; rw [getD_set_ne false (by decide)] at h; have := er h; first | exact this | exact owns_below this hb | (trace_state; fail)
    · refine StepAt.mk (o := { dst := some 44, op := Op.fieldAddr 43 (Operand.tmp 43) 1, type := 0, pos := _, after := #[{ on := 9, ground := Ground.data }], guard := none }) (ws := [9]) rfl (by kernel_rfl) ?_
      intro L b v hC h0 hA h
      refine h.elim ?_; clear h; intro u4 h
      refine h.elim ?_; clear h; intro u34 h
      refine h.elim ?_; clear h; intro u35 h
      refine h.elim ?_; clear h; intro u36 h
      refine h.elim ?_; clear h; intro u37 h
      refine h.elim ?_; clear h; intro u38 h
      refine h.elim ?_; clear h; intro u39 h
      refine h.elim ?_; clear h; intro u40 h
      refine h.elim ?_; clear h; intro u41 h
      refine h.elim ?_; clear h; intro u42 h
      refine h.elim ?_; clear h; intro u43 h
      refine h.elim ?_; clear h; intro u44 h
      refine h.elim ?_; clear h; intro u45 h
      refine h.elim ?_; clear h; intro u46 h
      refine h.elim ?_; clear h; intro u47 h
      refine h.elim ?_; clear h; intro u48 h
      have hbb := h.1; replace h := h.2; subst hbb
      have hHeld := h.1; replace h := h.2
      have f0 := h.1; replace h := h.2
      have f1 := h.1; replace h := h.2
      have f2 := h.1; replace h := h.2
      have f3 := h.1; replace h := h.2
      have f4 := h.1; replace h := h.2
      have f5 := h.1; replace h := h.2
      have f6 := h.1; replace h := h.2
      have f7 := h.1; replace h := h.2
      have f8 := h.1; replace h := h.2
      have f9 := h.1; replace h := h.2
      have f10 := h.1; replace h := h.2
      have f11 := h.1; replace h := h.2
      have f12 := h.1; replace h := h.2
      have f13 := h.1; replace h := h.2
      have f14 := h.1; replace h := h.2
      have f15 := h.1; replace h := h.2
      have er := h; clear h
      intro K hK
      have g9 := f9 (hA 9 (by simp))
      obtain rfl := g9
      rw [if_pos (by kernel_rfl)]
      have q0 := cellB hHeld c0 hbw2
      have q1 := cellB hHeld c1 hbw2
      go_simp
      try simp only [Act.put, List.setIfInBounds_toArray, List.set_cons_zero, List.set_cons_succ]
      refine hK.out _ _ ⟨_, _, _, _, _, _, _, _, _, _, _, _, _, _, _, _, rfl, ?_, ?_, ?_, ?_, ?_, ?_, ?_, ?_, ?_, ?_, ?_, ?_, ?_, ?_, ?_, ?_, ?_, ?_⟩
      · first | exact hHeld | exact hHeld.trans (hb.mono hHeld.size) | (trace_state; fail)
      · first | exact flag_ne (by decide) f0 | exact fun _ => rfl
      · first | exact flag_ne (by decide) f1 | exact fun _ => rfl
      · first | exact flag_ne (by decide) f2 | exact fun _ => rfl
      · first | exact flag_ne (by decide) f3 | exact fun _ => rfl
      · first | exact flag_ne (by decide) f4 | exact fun _ => rfl
      · first | exact flag_ne (by decide) f5 | exact fun _ => rfl
      · intro h h7; rw [getD_set_ne false (by decide)] at h; rw [getD_set_ne true (by decide)] at h7; have := f6 h h7; first | exact this | exact owns_below this hb | (trace_state; fail)
      · first | exact flag_ne (by decide) f7 | exact fun _ => rfl
      · first | exact flag_ne (by decide) f8 | exact fun _ => rfl
      · first | exact flag_ne (by decide) f9 | exact fun _ => rfl
      · intro _; first | rfl | (trace_state; fail)
      · first | exact flag_ne (by decide) f11 | exact fun _ => rfl
      · first | exact flag_ne (by decide) f12 | exact fun _ => rfl
      · intro h _; rw [getD_set_ne false (by decide)] at h; exact (getD_no h0 (hC.step (j := 11) (k := 10) (hC.step (j := 12) (k := 11) (hC.step (j := 13) (k := 12) h (by kernel_rfl)) (by kernel_rfl)) (by kernel_rfl))).elim
      · intro h; rw [getD_set_ne false (by decide)] at h; exact (getD_no h0 (hC.step (j := 11) (k := 10) (hC.step (j := 12) (k := 11) (hC.step (j := 13) (k := 12) (hC.step (j := 14) (k := 13) h (by kernel_rfl)) (by kernel_rfl)) (by kernel_rfl)) (by kernel_rfl))).elim
      · intro h; rw [getD_set_ne false (by decide)] at h; exact (getD_no h0 (hC.step (j := 15) (k := 10) h (by kernel_rfl))).elim
      · intro h; rw [getD_set_ne false (by decide)] at h; have := er h; first | exact this | exact owns_below this hb | (trace_state; fail)
    · refine StepAt.mk (o := { dst := some 45, op := Op.load 3 (Operand.tmp 44), type := 3, pos := _, after := #[{ on := 10, ground := Ground.data }], guard := none }) (ws := [10]) rfl (by kernel_rfl) ?_
      intro L b v hC h0 hA h
      refine h.elim ?_; clear h; intro u4 h
      refine h.elim ?_; clear h; intro u34 h
      refine h.elim ?_; clear h; intro u35 h
      refine h.elim ?_; clear h; intro u36 h
      refine h.elim ?_; clear h; intro u37 h
      refine h.elim ?_; clear h; intro u38 h
      refine h.elim ?_; clear h; intro u39 h
      refine h.elim ?_; clear h; intro u40 h
      refine h.elim ?_; clear h; intro u41 h
      refine h.elim ?_; clear h; intro u42 h
      refine h.elim ?_; clear h; intro u43 h
      refine h.elim ?_; clear h; intro u44 h
      refine h.elim ?_; clear h; intro u45 h
      refine h.elim ?_; clear h; intro u46 h
      refine h.elim ?_; clear h; intro u47 h
      refine h.elim ?_; clear h; intro u48 h
      have hbb := h.1; replace h := h.2; subst hbb
      have hHeld := h.1; replace h := h.2
      have f0 := h.1; replace h := h.2
      have f1 := h.1; replace h := h.2
      have f2 := h.1; replace h := h.2
      have f3 := h.1; replace h := h.2
      have f4 := h.1; replace h := h.2
      have f5 := h.1; replace h := h.2
      have f6 := h.1; replace h := h.2
      have f7 := h.1; replace h := h.2
      have f8 := h.1; replace h := h.2
      have f9 := h.1; replace h := h.2
      have f10 := h.1; replace h := h.2
      have f11 := h.1; replace h := h.2
      have f12 := h.1; replace h := h.2
      have f13 := h.1; replace h := h.2
      have f14 := h.1; replace h := h.2
      have f15 := h.1; replace h := h.2
      have er := h; clear h
      intro K hK
      have g10 := f10 (hA 10 (by simp))
      obtain rfl := g10
      rw [if_pos (by kernel_rfl)]
      have q0 := cellB hHeld c0 hbw2
      have q1 := cellB hHeld c1 hbw2
      go_simp
      try simp only [Act.put, List.setIfInBounds_toArray, List.set_cons_zero, List.set_cons_succ]
      refine hK.out _ _ ⟨_, _, _, _, _, _, _, _, _, _, _, _, _, _, _, _, rfl, ?_, ?_, ?_, ?_, ?_, ?_, ?_, ?_, ?_, ?_, ?_, ?_, ?_, ?_, ?_, ?_, ?_, ?_⟩
      · first | exact hHeld | exact hHeld.trans (hb.mono hHeld.size) | (trace_state; fail)
      · first | exact flag_ne (by decide) f0 | exact fun _ => rfl
      · first | exact flag_ne (by decide) f1 | exact fun _ => rfl
      · first | exact flag_ne (by decide) f2 | exact fun _ => rfl
      · first | exact flag_ne (by decide) f3 | exact fun _ => rfl
      · first | exact flag_ne (by decide) f4 | exact fun _ => rfl
      · first | exact flag_ne (by decide) f5 | exact fun _ => rfl
      · intro h h7; rw [getD_set_ne false (by decide)] at h; rw [getD_set_ne true (by decide)] at h7; have := f6 h h7; first | exact this | exact owns_below this hb | (trace_state; fail)
      · first | exact flag_ne (by decide) f7 | exact fun _ => rfl
      · first | exact flag_ne (by decide) f8 | exact fun _ => rfl
      · first | exact flag_ne (by decide) f9 | exact fun _ => rfl
      · first | exact flag_ne (by decide) f10 | exact fun _ => rfl
      · intro _; first | rfl | (trace_state; fail)
      · first | exact flag_ne (by decide) f12 | exact fun _ => rfl
      · intro h _; rw [getD_set_ne false (by decide)] at h; exact (getD_no h0 (hC.step (j := 12) (k := 11) (hC.step (j := 13) (k := 12) h (by kernel_rfl)) (by kernel_rfl))).elim
      · intro h; rw [getD_set_ne false (by decide)] at h; exact (getD_no h0 (hC.step (j := 12) (k := 11) (hC.step (j := 13) (k := 12) (hC.step (j := 14) (k := 13) h (by kernel_rfl)) (by kernel_rfl)) (by kernel_rfl))).elim
      · intro h; rw [getD_set_ne false (by decide)] at h; exact (getD_no h0 (hC.step (j := 15) (k := 11) h (by kernel_rfl))).elim
      · intro h; rw [getD_set_ne false (by decide)] at h; have := er h; first | exact this | exact owns_below this hb | (trace_state; fail)
    · refine StepAt.mk (o := { dst := some 46, op := Op.convert 3 5 (Operand.tmp 45), type := 5, pos := _, after := #[{ on := 11, ground := Ground.data }], guard := none }) (ws := [11]) rfl (by kernel_rfl) ?_
      intro L b v hC h0 hA h
      refine h.elim ?_; clear h; intro u4 h
      refine h.elim ?_; clear h; intro u34 h
      refine h.elim ?_; clear h; intro u35 h
      refine h.elim ?_; clear h; intro u36 h
      refine h.elim ?_; clear h; intro u37 h
      refine h.elim ?_; clear h; intro u38 h
      refine h.elim ?_; clear h; intro u39 h
      refine h.elim ?_; clear h; intro u40 h
      refine h.elim ?_; clear h; intro u41 h
      refine h.elim ?_; clear h; intro u42 h
      refine h.elim ?_; clear h; intro u43 h
      refine h.elim ?_; clear h; intro u44 h
      refine h.elim ?_; clear h; intro u45 h
      refine h.elim ?_; clear h; intro u46 h
      refine h.elim ?_; clear h; intro u47 h
      refine h.elim ?_; clear h; intro u48 h
      have hbb := h.1; replace h := h.2; subst hbb
      have hHeld := h.1; replace h := h.2
      have f0 := h.1; replace h := h.2
      have f1 := h.1; replace h := h.2
      have f2 := h.1; replace h := h.2
      have f3 := h.1; replace h := h.2
      have f4 := h.1; replace h := h.2
      have f5 := h.1; replace h := h.2
      have f6 := h.1; replace h := h.2
      have f7 := h.1; replace h := h.2
      have f8 := h.1; replace h := h.2
      have f9 := h.1; replace h := h.2
      have f10 := h.1; replace h := h.2
      have f11 := h.1; replace h := h.2
      have f12 := h.1; replace h := h.2
      have f13 := h.1; replace h := h.2
      have f14 := h.1; replace h := h.2
      have f15 := h.1; replace h := h.2
      have er := h; clear h
      intro K hK
      have g11 := f11 (hA 11 (by simp))
      obtain rfl := g11
      rw [if_pos (by kernel_rfl)]
      have q0 := cellB hHeld c0 hbw2
      have q1 := cellB hHeld c1 hbw2
      go_simp
      try simp only [Act.put, List.setIfInBounds_toArray, List.set_cons_zero, List.set_cons_succ]
      refine hK.out _ _ ⟨_, _, _, _, _, _, _, _, _, _, _, _, _, _, _, _, rfl, ?_, ?_, ?_, ?_, ?_, ?_, ?_, ?_, ?_, ?_, ?_, ?_, ?_, ?_, ?_, ?_, ?_, ?_⟩
      · first | exact hHeld | exact hHeld.trans (hb.mono hHeld.size) | (trace_state; fail)
      · first | exact flag_ne (by decide) f0 | exact fun _ => rfl
      · first | exact flag_ne (by decide) f1 | exact fun _ => rfl
      · first | exact flag_ne (by decide) f2 | exact fun _ => rfl
      · first | exact flag_ne (by decide) f3 | exact fun _ => rfl
      · first | exact flag_ne (by decide) f4 | exact fun _ => rfl
      · first | exact flag_ne (by decide) f5 | exact fun _ => rfl
      · intro h h7; rw [getD_set_ne false (by decide)] at h; rw [getD_set_ne true (by decide)] at h7; have := f6 h h7; first | exact this | exact owns_below this hb | (trace_state; fail)
      · first | exact flag_ne (by decide) f7 | exact fun _ => rfl
      · first | exact flag_ne (by decide) f8 | exact fun _ => rfl
      · first | exact flag_ne (by decide) f9 | exact fun _ => rfl
      · first | exact flag_ne (by decide) f10 | exact fun _ => rfl
      · first | exact flag_ne (by decide) f11 | exact fun _ => rfl
      · intro _; first | rfl | (trace_state; fail)
      · intro h _; rw [getD_set_ne false (by decide)] at h; exact (getD_no h0 (hC.step (j := 13) (k := 12) h (by kernel_rfl))).elim
      · intro h; rw [getD_set_ne false (by decide)] at h; exact (getD_no h0 (hC.step (j := 13) (k := 12) (hC.step (j := 14) (k := 13) h (by kernel_rfl)) (by kernel_rfl))).elim
      · intro h; rw [getD_set_ne false (by decide)] at h; exact (getD_no h0 (hC.step (j := 15) (k := 12) h (by kernel_rfl))).elim
      · intro h; rw [getD_set_ne false (by decide)] at h; have := er h; first | exact this | exact owns_below this hb | (trace_state; fail)
    · refine StepAt.mk (o := { dst := some 47, op := Op.buildSlice 30 1 #[(0, Operand.tmp 46)], type := 30, pos := _, after := #[{ on := 12, ground := Ground.data }], guard := none }) (ws := [12]) rfl (by kernel_rfl) ?_
      intro L b v hC h0 hA h
      refine h.elim ?_; clear h; intro u4 h
      refine h.elim ?_; clear h; intro u34 h
      refine h.elim ?_; clear h; intro u35 h
      refine h.elim ?_; clear h; intro u36 h
      refine h.elim ?_; clear h; intro u37 h
      refine h.elim ?_; clear h; intro u38 h
      refine h.elim ?_; clear h; intro u39 h
      refine h.elim ?_; clear h; intro u40 h
      refine h.elim ?_; clear h; intro u41 h
      refine h.elim ?_; clear h; intro u42 h
      refine h.elim ?_; clear h; intro u43 h
      refine h.elim ?_; clear h; intro u44 h
      refine h.elim ?_; clear h; intro u45 h
      refine h.elim ?_; clear h; intro u46 h
      refine h.elim ?_; clear h; intro u47 h
      refine h.elim ?_; clear h; intro u48 h
      have hbb := h.1; replace h := h.2; subst hbb
      have hHeld := h.1; replace h := h.2
      have f0 := h.1; replace h := h.2
      have f1 := h.1; replace h := h.2
      have f2 := h.1; replace h := h.2
      have f3 := h.1; replace h := h.2
      have f4 := h.1; replace h := h.2
      have f5 := h.1; replace h := h.2
      have f6 := h.1; replace h := h.2
      have f7 := h.1; replace h := h.2
      have f8 := h.1; replace h := h.2
      have f9 := h.1; replace h := h.2
      have f10 := h.1; replace h := h.2
      have f11 := h.1; replace h := h.2
      have f12 := h.1; replace h := h.2
      have f13 := h.1; replace h := h.2
      have f14 := h.1; replace h := h.2
      have f15 := h.1; replace h := h.2
      have er := h; clear h
      intro K hK
      have g12 := f12 (hA 12 (by simp))
      obtain rfl := g12
      rw [if_pos (by kernel_rfl)]
      have q0 := cellB hHeld c0 hbw2
      have q1 := cellB hHeld c1 hbw2
      go_simp
      try simp only [Act.put, List.setIfInBounds_toArray, List.set_cons_zero, List.set_cons_succ]
      have hb : Below v.heap.size v (v.alloc (.cells #[.int .u8 (x.kind % 256)] 5)) := (Below.refl _ _).alloc (Nat.le_refl _) _
      refine hK.out _ _ ⟨_, _, _, _, _, _, _, _, _, _, _, _, _, _, _, _, rfl, ?_, ?_, ?_, ?_, ?_, ?_, ?_, ?_, ?_, ?_, ?_, ?_, ?_, ?_, ?_, ?_, ?_, ?_⟩
      · first | exact hHeld | exact hHeld.trans (hb.mono hHeld.size) | (trace_state; fail)
      · first | exact flag_ne (by decide) f0 | exact fun _ => rfl
      · first | exact flag_ne (by decide) f1 | exact fun _ => rfl
      · first | exact flag_ne (by decide) f2 | exact fun _ => rfl
      · first | exact flag_ne (by decide) f3 | exact fun _ => rfl
      · first | exact flag_ne (by decide) f4 | exact fun _ => rfl
      · first | exact flag_ne (by decide) f5 | exact fun _ => rfl
      · intro h h7; rw [getD_set_ne false (by decide)] at h; rw [getD_set_ne true (by decide)] at h7; have := f6 h h7; first | exact this | exact owns_below this hb | (trace_state; fail)
      · first | exact flag_ne (by decide) f7 | exact fun _ => rfl
      · first | exact flag_ne (by decide) f8 | exact fun _ => rfl
      · first | exact flag_ne (by decide) f9 | exact fun _ => rfl
      · first | exact flag_ne (by decide) f10 | exact fun _ => rfl
      · first | exact flag_ne (by decide) f11 | exact fun _ => rfl
      · first | exact flag_ne (by decide) f12 | exact fun _ => rfl
      · intro _ _; first | (exact ⟨_, rfl, owns_u8 _ _ hHeld.size⟩) | (trace_state; fail)
      · intro h; rw [getD_set_ne false (by decide)] at h; exact (getD_no h0 (hC.step (j := 14) (k := 13) h (by kernel_rfl))).elim
      · intro h; rw [getD_set_ne false (by decide)] at h; exact (getD_no h0 (hC.step (j := 15) (k := 13) h (by kernel_rfl))).elim
      · intro h; rw [getD_set_ne false (by decide)] at h; have := er h; first | exact this | exact owns_below this hb | (trace_state; fail)
    · refine StepAt.mk (o := { dst := some 48, op := Op.call { callee := Callee.builtin Builtin.append, args := #[Operand.tmp 40, Operand.tmp 47], argTypes := #[30, 30] }, type := 30, pos := _, after := #[{ on := 6, ground := Ground.data }, { on := 13, ground := Ground.data }, { on := 6, ground := Ground.chain }], guard := none }) (ws := [6, 13, 6]) rfl (by kernel_rfl) ?_
      intro L b v hC h0 hA h
      refine h.elim ?_; clear h; intro u4 h
      refine h.elim ?_; clear h; intro u34 h
      refine h.elim ?_; clear h; intro u35 h
      refine h.elim ?_; clear h; intro u36 h
      refine h.elim ?_; clear h; intro u37 h
      refine h.elim ?_; clear h; intro u38 h
      refine h.elim ?_; clear h; intro u39 h
      refine h.elim ?_; clear h; intro u40 h
      refine h.elim ?_; clear h; intro u41 h
      refine h.elim ?_; clear h; intro u42 h
      refine h.elim ?_; clear h; intro u43 h
      refine h.elim ?_; clear h; intro u44 h
      refine h.elim ?_; clear h; intro u45 h
      refine h.elim ?_; clear h; intro u46 h
      refine h.elim ?_; clear h; intro u47 h
      refine h.elim ?_; clear h; intro u48 h
      have hbb := h.1; replace h := h.2; subst hbb
      have hHeld := h.1; replace h := h.2
      have f0 := h.1; replace h := h.2
      have f1 := h.1; replace h := h.2
      have f2 := h.1; replace h := h.2
      have f3 := h.1; replace h := h.2
      have f4 := h.1; replace h := h.2
      have f5 := h.1; replace h := h.2
      have f6 := h.1; replace h := h.2
      have f7 := h.1; replace h := h.2
      have f8 := h.1; replace h := h.2
      have f9 := h.1; replace h := h.2
      have f10 := h.1; replace h := h.2
      have f11 := h.1; replace h := h.2
      have f12 := h.1; replace h := h.2
      have f13 := h.1; replace h := h.2
      have f14 := h.1; replace h := h.2
      have f15 := h.1; replace h := h.2
      have er := h; clear h
      intro K hK
      have g6 := f6 (hA 6 (by simp)) h0
      have g13 := f13 (hA 13 (by simp)) h0
      rw [if_pos (by kernel_rfl)]
      have q0 := cellB hHeld c0 hbw2
      have q1 := cellB hHeld c1 hbw2
      obtain ⟨q13, rfl, H13⟩ := g13; refine wp_append_src (.tmp 40) (.tmp 47) 30 rfl wr.heap.size 5 i (.int .u8 0) 1 1 Tryd.underlying30 hi hz hsize hby rfl (by omega) u40 M _ rfl g6 _ 1 _ rfl (src_own H13) rfl (by intro u hu; simp at hu; rw [hu]; rfl) (by unfold maxLen; omega) (by omega) hHeld.size ?_; intro v' w' HO hG
      try simp only [Act.put, List.setIfInBounds_toArray, List.set_cons_zero, List.set_cons_succ]
      refine hK.out _ _ ⟨_, _, _, _, _, _, _, _, _, _, _, _, _, _, _, _, rfl, ?_, ?_, ?_, ?_, ?_, ?_, ?_, ?_, ?_, ?_, ?_, ?_, ?_, ?_, ?_, ?_, ?_, ?_⟩
      · exact grown3 hHeld hHeld.size g6 hG
      · first | exact flag_ne (by decide) f0 | exact fun _ => rfl
      · first | exact flag_ne (by decide) f1 | exact fun _ => rfl
      · first | exact flag_ne (by decide) f2 | exact fun _ => rfl
      · first | exact flag_ne (by decide) f3 | exact fun _ => rfl
      · first | exact flag_ne (by decide) f4 | exact fun _ => rfl
      · first | exact flag_ne (by decide) f5 | exact fun _ => rfl
      · intro _ h7; rw [getD_set_self] at h7; cases h7
      · first | exact flag_ne (by decide) f7 | exact fun _ => rfl
      · first | exact flag_ne (by decide) f8 | exact fun _ => rfl
      · first | exact flag_ne (by decide) f9 | exact fun _ => rfl
      · first | exact flag_ne (by decide) f10 | exact fun _ => rfl
      · first | exact flag_ne (by decide) f11 | exact fun _ => rfl
      · first | exact flag_ne (by decide) f12 | exact fun _ => rfl
      · intro _ h7; rw [getD_set_self] at h7; cases h7
      · intro _; first | exact HO | (trace_state; fail)
      · intro h; rw [getD_set_ne false (by decide)] at h; exact (getD_no h0 (hC.step (j := 15) (k := 14) h (by kernel_rfl))).elim
      · intro h; rw [getD_set_ne false (by decide)] at h; have := er h; first | exact this | exact owns_below this hb | (trace_state; fail)
    · refine StepAt.mk (o := { dst := some 4, op := Op.assign (Operand.tmp 48), type := 30, pos := _, after := #[{ on := 14, ground := Ground.data }, { on := 14, ground := Ground.chain }, { on := 0, ground := Ground.phase }, { on := 1, ground := Ground.phase }, { on := 2, ground := Ground.phase }, { on := 3, ground := Ground.phase }, { on := 4, ground := Ground.phase }, { on := 5, ground := Ground.phase }, { on := 6, ground := Ground.phase }, { on := 7, ground := Ground.phase }, { on := 8, ground := Ground.phase }, { on := 9, ground := Ground.phase }, { on := 10, ground := Ground.phase }, { on := 11, ground := Ground.phase }, { on := 12, ground := Ground.phase }, { on := 13, ground := Ground.phase }, { on := 14, ground := Ground.phase }], guard := none }) (ws := [14, 14, 0, 1, 2, 3, 4, 5, 6, 7, 8, 9, 10, 11, 12, 13, 14]) rfl (by kernel_rfl) ?_
      intro L b v hC h0 hA h
      refine h.elim ?_; clear h; intro u4 h
      refine h.elim ?_; clear h; intro u34 h
      refine h.elim ?_; clear h; intro u35 h
      refine h.elim ?_; clear h; intro u36 h
      refine h.elim ?_; clear h; intro u37 h
      refine h.elim ?_; clear h; intro u38 h
      refine h.elim ?_; clear h; intro u39 h
      refine h.elim ?_; clear h; intro u40 h
      refine h.elim ?_; clear h; intro u41 h
      refine h.elim ?_; clear h; intro u42 h
      refine h.elim ?_; clear h; intro u43 h
      refine h.elim ?_; clear h; intro u44 h
      refine h.elim ?_; clear h; intro u45 h
      refine h.elim ?_; clear h; intro u46 h
      refine h.elim ?_; clear h; intro u47 h
      refine h.elim ?_; clear h; intro u48 h
      have hbb := h.1; replace h := h.2; subst hbb
      have hHeld := h.1; replace h := h.2
      have f0 := h.1; replace h := h.2
      have f1 := h.1; replace h := h.2
      have f2 := h.1; replace h := h.2
      have f3 := h.1; replace h := h.2
      have f4 := h.1; replace h := h.2
      have f5 := h.1; replace h := h.2
      have f6 := h.1; replace h := h.2
      have f7 := h.1; replace h := h.2
      have f8 := h.1; replace h := h.2
      have f9 := h.1; replace h := h.2
      have f10 := h.1; replace h := h.2
      have f11 := h.1; replace h := h.2
      have f12 := h.1; replace h := h.2
      have f13 := h.1; replace h := h.2
      have f14 := h.1; replace h := h.2
      have f15 := h.1; replace h := h.2
      have er := h; clear h
      intro K hK
      have g14 := f14 (hA 14 (by simp))
      have g0 := f0 (hA 0 (by simp))
      obtain rfl := g0
      have g1 := f1 (hA 1 (by simp))
      obtain rfl := g1
      have g2 := f2 (hA 2 (by simp))
      obtain rfl := g2
      have g3 := f3 (hA 3 (by simp))
      obtain rfl := g3
      have g4 := f4 (hA 4 (by simp))
      obtain rfl := g4
      have g5 := f5 (hA 5 (by simp))
      obtain rfl := g5
      have g6 := f6 (hA 6 (by simp))
      have g7 := f7 (hA 7 (by simp))
      obtain rfl := g7
      have g8 := f8 (hA 8 (by simp))
      obtain rfl := g8
      have g9 := f9 (hA 9 (by simp))
      obtain rfl := g9
      have g10 := f10 (hA 10 (by simp))
      obtain rfl := g10
      have g11 := f11 (hA 11 (by simp))
      obtain rfl := g11
      have g12 := f12 (hA 12 (by simp))
      obtain rfl := g12
      have g13 := f13 (hA 13 (by simp))
      rw [if_pos (by kernel_rfl)]
      have q0 := cellB hHeld c0 hbw2
      have q1 := cellB hHeld c1 hbw2
      go_simp
      try simp only [Act.put, List.setIfInBounds_toArray, List.set_cons_zero, List.set_cons_succ]
      refine hK.out _ _ ⟨_, _, _, _, _, _, _, _, _, _, _, _, _, _, _, _, rfl, ?_, ?_, ?_, ?_, ?_, ?_, ?_, ?_, ?_, ?_, ?_, ?_, ?_, ?_, ?_, ?_, ?_, ?_⟩
      · first | exact hHeld | exact hHeld.trans (hb.mono hHeld.size) | (trace_state; fail)
      · first | exact flag_ne (by decide) f0 | exact fun _ => rfl
      · first | exact flag_ne (by decide) f1 | exact fun _ => rfl
      · first | exact flag_ne (by decide) f2 | exact fun _ => rfl
      · first | exact flag_ne (by decide) f3 | exact fun _ => rfl
      · first | exact flag_ne (by decide) f4 | exact fun _ => rfl
      · first | exact flag_ne (by decide) f5 | exact fun _ => rfl
      · intro _ h7; rw [getD_set_ne true (by decide)] at h7; exact (getD_no h7 (hA 14 (by simp))).elim
      · first | exact flag_ne (by decide) f7 | exact fun _ => rfl
      · first | exact flag_ne (by decide) f8 | exact fun _ => rfl
      · first | exact flag_ne (by decide) f9 | exact fun _ => rfl
      · first | exact flag_ne (by decide) f10 | exact fun _ => rfl
      · first | exact flag_ne (by decide) f11 | exact fun _ => rfl
      · first | exact flag_ne (by decide) f12 | exact fun _ => rfl
      · intro _ h7; rw [getD_set_ne true (by decide)] at h7; exact (getD_no h7 (hA 14 (by simp))).elim
      · intro h; rw [getD_set_ne false (by decide)] at h; have := f14 h; first | exact this | exact owns_below this hb | (trace_state; fail)
      · intro _; first | exact g14 | (trace_state; fail)
      · intro h; rw [getD_set_done h0] at h; cases h
  intro L b v hA h
  refine h.elim ?_; clear h; intro u4 h
  refine h.elim ?_; clear h; intro u34 h
  refine h.elim ?_; clear h; intro u35 h
  refine h.elim ?_; clear h; intro u36 h
  refine h.elim ?_; clear h; intro u37 h
  refine h.elim ?_; clear h; intro u38 h
  refine h.elim ?_; clear h; intro u39 h
  refine h.elim ?_; clear h; intro u40 h
  refine h.elim ?_; clear h; intro u41 h
  refine h.elim ?_; clear h; intro u42 h
  refine h.elim ?_; clear h; intro u43 h
  refine h.elim ?_; clear h; intro u44 h
  refine h.elim ?_; clear h; intro u45 h
  refine h.elim ?_; clear h; intro u46 h
  refine h.elim ?_; clear h; intro u47 h
  refine h.elim ?_; clear h; intro u48 h
  have hbb := h.1; replace h := h.2; subst hbb
  have hHeld := h.1; replace h := h.2
  have f0 := h.1; replace h := h.2
  have f1 := h.1; replace h := h.2
  have f2 := h.1; replace h := h.2
  have f3 := h.1; replace h := h.2
  have f4 := h.1; replace h := h.2
  have f5 := h.1; replace h := h.2
  have f6 := h.1; replace h := h.2
  have f7 := h.1; replace h := h.2
  have f8 := h.1; replace h := h.2
  have f9 := h.1; replace h := h.2
  have f10 := h.1; replace h := h.2
  have f11 := h.1; replace h := h.2
  have f12 := h.1; replace h := h.2
  have f13 := h.1; replace h := h.2
  have f14 := h.1; replace h := h.2
  have f15 := h.1; replace h := h.2
  have er := h; clear h
  clear er
  have g0 := f0 (hA 0 (by omega))
  clear f0
  obtain rfl := g0
  have g1 := f1 (hA 1 (by omega))
  clear f1
  obtain rfl := g1
  have g2 := f2 (hA 2 (by omega))
  clear f2
  obtain rfl := g2
  have g3 := f3 (hA 3 (by omega))
  clear f3
  obtain rfl := g3
  have g4 := f4 (hA 4 (by omega))
  clear f4
  obtain rfl := g4
  have g5 := f5 (hA 5 (by omega))
  clear f5
  obtain rfl := g5
  clear f6
  have g7 := f7 (hA 7 (by omega))
  clear f7
  obtain rfl := g7
  have g8 := f8 (hA 8 (by omega))
  clear f8
  obtain rfl := g8
  have g9 := f9 (hA 9 (by omega))
  clear f9
  obtain rfl := g9
  have g10 := f10 (hA 10 (by omega))
  clear f10
  obtain rfl := g10
  have g11 := f11 (hA 11 (by omega))
  clear f11
  obtain rfl := g11
  have g12 := f12 (hA 12 (by omega))
  clear f12
  obtain rfl := g12
  clear f13
  have g14 := f14 (hA 14 (by omega))
  clear f14
  have g15 := f15 (hA 15 (by omega))
  clear f15
  clear hA
  exact ⟨rfl, _, _, _, _, _, _, _, _, _, _, _, _, _, _, _, _, rfl, hHeld, g15⟩
end Go.Proofs.YtjikkipdmonndaaDoor

/- Layer 14: the reference's table of blocks as bytes. -/
namespace Go.Proofs.YtjikkipdmonndaaDoor
open Go.RowKit
set_option linter.unusedSimpArgs false
set_option linter.unusedVariables false
set_option maxRecDepth 100000 in
set_option maxHeartbeats 4000000 in
theorem ref14_Blocks_in (v : Value) (L : List Bk) (w : World) (hv : RowR 2 blkR w v L) (hn : ∀ x ∈ L, x.name.length ≤ 1000000) (hlen : L.length ≤ 32) :
    Calls Tryd.prog 26 #[v] w (PutsB w L) := by
  obtain ⟨i, hi, hz, hsize, hby⟩ : ∃ i, Tryd.prog.info? 5 = some i ∧ i.zero = some (.int .u8 0) ∧ i.size = 1 ∧ i.bytes = 1 := ⟨(Tryd.prog.info? 5).get!, by kernel_rfl, by kernel_rfl, by kernel_rfl, by kernel_rfl⟩
  have ho : okBs L = L.all blkOk := by unfold okBs; rw [decide_eq_true hlen]; rfl
  unfold PutsB
  rw [ho]
  obtain ⟨sa, ca, rfl⟩ := row_get hv
  have HY := Lib.hid (show L.take L.length = L from List.take_length)
  obtain ⟨n, hN⟩ : ∃ n, L.length = n := ⟨_, rfl⟩
  rw [hN] at hv hlen HY ⊢
  have q0 : (32 < (n : Int)) = False := eq_false (by omega)
  go_enter Tryd.func26, Tryd.ntmps26
  go_wp2_with fail
  refine (ref03_Put (.slice none 0 0) [] 2 (n : Int) _ (Or.inl ⟨none, 0, rfl, rfl, fun _ => rfl⟩) (by simp)).mono ?_; rintro e w1 ⟨r1, rfl, hO1, hb1⟩
  have hO1 : w1.ownsRow w.heap.size 5 1 r1 2 (bytesV (putL 2 n)) := hO1
  go_wp2_with fail
  go_loopw [4, 5] (fun o j wr => ∃ k : Nat, k ≤ n ∧ j = .int .i64 k ∧ Hid ((L.take k).all blkOk = true) ∧ Hid (wr.ownsRow w.heap.size 5 1 o (2 + (blksL (L.take k)).length) (bytesV (putL 2 n ++ blksL (L.take k)))) ∧ Below w.heap.size w wr) (fun _ j _ => n - (intOf j).toNat)
  case atStart => exact ⟨0, by omega, rfl, Lib.hid (by simp), Lib.hid (by simpa [blksL] using hO1), hb1⟩
  case round =>
    obtain ⟨k, hk, rfl, hall, hO, hB⟩ := hrel
    have hz' := hB.size
    by_cases hlt : k < n
    · obtain ⟨x, hx⟩ : ∃ x, L[k]? = some x := get_some (by omega)
      obtain ⟨bk, off, rfl, hbw, hc⟩ := blk_at hv (k := k) (by omega)
      obtain ⟨c0, c1, c2, c3⟩ := hc k x hx
      have c0 := (hB.cell (p := ⟨bk, off + k * 2, none⟩) hbw).trans c0
      have c1 := (hB.cell (p := ⟨bk, off + k * 2 + 1, none⟩) hbw).trans c1
      clear hc
      have hn1 := hn x (List.mem_of_getElem? hx)
      have hts := Lib.hid (take_snoc hx)
      have hmem := Lib.hid (List.mem_of_getElem? hx)
      have hno := Lib.hid (fun h : blkOk x = false => (show L.all blkOk = false from List.all_eq_false.2 ⟨x, hmem.out, by simp [h]⟩))
      have hbl : (blksL (L.take k)).length ≤ 1000000 := by have := blksL_len (L.take k) hall.out; rw [List.length_take] at this; omega
      have hsz : (⟨x.name.toArray⟩ : ByteArray).size = x.name.length := by simp [ByteArray.size]
      have hbw2 : bk < wr.heap.size := by omega
      clear hx hmem hn
      by_cases hl255 : x.name.length ≤ 255
      · have q1 : (255 < (x.name.length : Int)) = False := eq_false (by omega)
        cases hf : fitB x.kind
        · have hA := Lib.hid (hno.out (show blkOk x = false by unfold blkOk; rw [hf]; simp))
          have HS := Lib.hid (fun W => ref14_small x.kind W)
          rw [hf] at HS
          go_wp2_with fail
          refine (HS.out _).mono ?_; rintro e w' ⟨rfl, rfl⟩
          go_wp2_with fail
          go_returns
          exact ⟨_, by rw [hA.out]; rfl, fun h => (by rw [hA.out] at h; cases h), fun _ => rfl, hB⟩
        · have HS := Lib.hid (fun W => ref14_small x.kind W)
          rw [hf] at HS
          have hok := Lib.hid (show blkOk x = true by unfold blkOk; rw [hf, decide_eq_true hl255]; rfl)
          go_wp2_with fail
          refine (HS.out _).mono ?_; rintro e w' ⟨rfl, rfl⟩
          go_wp2
          obtain ⟨r0, hr0⟩ : ∃ r0 : Value, r0 = u4 := ⟨_, rfl⟩
          subst hr0
          obtain ⟨l, hl⟩ : ∃ l, putL 2 (n : Int) ++ blksL (L.take k) = l := ⟨_, rfl⟩
          have hll : l.length = 2 + (blksL (L.take k)).length := by rw [← hl, List.length_append, putL_len]
          rw [hl, ← hll] at hO
          obtain ⟨T, hT⟩ : ∃ T, T = l ++ [UInt8.ofNat (cut255 ⟨x.name.toArray⟩).size] ++ (cut255 ⟨x.name.toArray⟩).data.toList := ⟨_, rfl⟩
          obtain ⟨M, hM⟩ : ∃ M, M = l.length + 1 + (cut255 ⟨x.name.toArray⟩).size := ⟨_, rfl⟩
          have hM1 : M ≤ 2000000 := by rw [hM]; unfold cut255; rw [if_neg (by omega), hsz]; omega
          have HTX := Lib.hid (fun W (hW : Below wr.heap.size wr W) => (ref03_Text r0 l ⟨x.name.toArray⟩ W (RowAt.owns (owns_below hO.out hW) (fun i hi => byteV_at hi)) (by omega)).mono (R' := fun e w' => ∃ r, e = .returned r ∧ w'.ownsRow W.heap.size 5 1 r M (bytesV T) ∧ Below W.heap.size W w') (by rintro e w' ⟨r, h1, h2, h3⟩; exact ⟨r, h1, by rw [hT, hM]; exact h2, h3⟩))
          have HD := Lib.hid (show T ++ [byteO x.kind] = l ++ blkL x ∧ M + 1 = l.length + (blkL x).length by rw [hT, hM]; unfold blkL blkB; simp; omega)
          have HL2 := Lib.hid (And.intro hl hll)
          clear hT hM hl hll HS
          refine Code.wp_mono ?_ (refBlks_r9 L i wr n ca bk off k x r0 M T l hi hz hsize hby c0 c1 hbw2 HTX hlt hlen hM1 _ _ _ _ _ _ _ _ _ _ _ _ _ _ _ _ _ _ _ _ _ _ _ _ _ _ _ _ _ _ _ _ _ _ _ _ _ _ _ _ _ _ _ _ _ _ _)
          rintro e b v ⟨rfl, u4, u34, u35, u36, u37, u38, u39, u40, u41, u42, u43, u44, u45, u46, u47, u48, rfl, hHeld, g15⟩
          go_wp2_with fail
          go_roundw
          case rel => exact ⟨k + 1, by omega, by simp, Lib.hid (by rw [hts.out, List.all_append, hall.out]; simp [hok.out]), Lib.hid (own_eq2 (own_low g15 hz') (by rw [hts.out, blksL_snoc, List.length_append, HD.out.2, HL2.out.2]; omega) (by rw [hts.out, blksL_snoc, ← List.append_assoc, HL2.out.1, ← HD.out.1, ← byteO_val]; simp [bytesV])), hB.trans (hHeld.mono hz')⟩
          case measure => first | (simp [intOf]; done) | (simp [intOf]; omega)
      · have q1 : (255 < (x.name.length : Int)) = True := eq_true (by omega)
        have hA := Lib.hid (hno.out (show blkOk x = false by unfold blkOk; rw [decide_eq_false hl255]; rfl))
        go_wp2_with fail
        go_returns
        exact ⟨_, by rw [hA.out]; rfl, fun h => (by rw [hA.out] at h; cases h), fun _ => rfl, hB⟩
    · obtain rfl : k = n := by omega
      have hA := Lib.hid (show L.all blkOk = true by have := hall.out; rwa [HY.out] at this)
      go_wp2_with fail
      go_returns
      exact ⟨_, by rw [hA.out]; rfl, fun _ => (by have := hO.out; rwa [HY.out] at this), fun h => (by rw [hA.out] at h; cases h), hB⟩
end Go.Proofs.YtjikkipdmonndaaDoor

/- Layer 14: the reference's table of blocks as bytes, however long. -/
namespace Go.Proofs.YtjikkipdmonndaaDoor
open Go.RowKit
set_option linter.unusedSimpArgs false
set_option linter.unusedVariables false
theorem ref14_Blocks_long (v : Value) (L : List Bk) (w : World) (hv : RowR 2 blkR w v L) (hlen : 32 < L.length) :
    Calls Tryd.prog 26 #[v] w fun e w' => e = .returned (.tuple #[.slice none 0 0, .bool false]) ∧ Below w.heap.size w w' := by
  have hl := hv.len
  obtain ⟨sa, ca, rfl⟩ := row_get hv
  obtain ⟨n, hN⟩ : ∃ n, L.length = n := ⟨_, rfl⟩
  rw [hN] at hv hlen hl ⊢
  have q0 : (32 < (n : Int)) = True := eq_true (by omega)
  go_enter Tryd.func26, Tryd.ntmps26
  go_wp2_with fail
  go_returns
  exact ⟨rfl, by (repeat' (first | (with_reducible exact Below.refl _ _) | (with_reducible assumption) | (with_reducible refine below_drewN ?_ _) | (with_reducible refine Below.alloc ?_ ?_ _) | (with_reducible refine Below.drew ?_) | (with_reducible refine Below.setCell ?_ ?_ _) | go_size))⟩
theorem ref14_Blocks (v : Value) (L : List Bk) (w : World) (hv : RowR 2 blkR w v L) (hn : ∀ x ∈ L, x.name.length ≤ 1000000) :
    Calls Tryd.prog 26 #[v] w (PutsB w L) := by
  by_cases h : L.length ≤ 32
  · exact ref14_Blocks_in v L w hv hn h
  · have ho : okBs L = false := by unfold okBs; rw [decide_eq_false h]; rfl
    refine (ref14_Blocks_long v L w hv (by omega)).mono ?_
    rintro e w' ⟨rfl, h3⟩
    exact ⟨_, by rw [ho], fun h => (by rw [ho] at h; cases h), fun _ => rfl, h3⟩
end Go.Proofs.YtjikkipdmonndaaDoor

/- Layer 16: the container, by the answer. -/
namespace Go.Proofs.YtjikkipdmonndaaDoor
open Go.RowKit
set_option linter.unusedSimpArgs false
set_option linter.unusedVariables false
theorem okUs_long {L : List Un} (h : 8 < L.length) : okUs L = false := by unfold okUs; rw [decide_eq_false (by omega)]; rfl
theorem small_len {p : Pr} (h : fewP p = true) : (boxL p).length ≤ 1048576 ∧ (bodyL p).length ≤ 100000 := by
  have hb := body_len h
  unfold boxL
  rw [List.length_append, putL_len]
  omega
set_option maxRecDepth 100000 in
set_option maxHeartbeats 8000000 in
theorem ref16_Encode (vc vv vb vu : Value) (p : Pr) (w : World) (h : PrAt w vc vv vb vu p) (hf : fewP p = true) : Calls Tryd.prog 10 #[.agg #[vc, vv, vb, vu]] w (PutsP w p) := by
  obtain ⟨i, hi, hz, hsize, hby⟩ : ∃ i, Tryd.prog.info? 5 = some i ∧ i.zero = some (.int .u8 0) ∧ i.size = 1 ∧ i.bytes = 1 := ⟨(Tryd.prog.info? 5).get!, by kernel_rfl, by kernel_rfl, by kernel_rfl, by kernel_rfl⟩
  obtain ⟨⟨g1, g2, g3, g4⟩, g5, g6, g7⟩ := fewP_parts hf
  have HC := Lib.hid (fun W (hb : Below w.heap.size w W) => ref14_Consts vc p.consts W (h.cs.below constR_stable hb))
  have HV := Lib.hid (fun W (hb : Below w.heap.size w W) => ref14_Vars vv p.vars W (h.vs.below varR_stable hb) (fun x hx => by have := g5 x hx; omega))
  have HB := Lib.hid (fun W (hb : Below w.heap.size w W) => ref14_Blocks vb p.blocks W (h.bs.below blkR_stable hb) (fun x hx => by have := g6 x hx; omega))
  have hus := h.us
  have hul := h.us.len
  obtain ⟨sc, tc, rfl⟩ := row_get h.cs
  obtain ⟨sv, tv, rfl⟩ := row_get h.vs
  obtain ⟨sb, tb, rfl⟩ := row_get h.bs
  obtain ⟨su, tu, rfl⟩ := row_get h.us
  clear h
  have HFit := Lib.hid (fun a b c d => fit_no (p := p) (a := a) (b := b) (c := c) (d := d))
  have HSm := Lib.hid (small_len hf)
  have HPL := Lib.hid (parts_len hf)
  obtain ⟨L, hL⟩ : ∃ L, p.units = L := ⟨_, rfl⟩
  have HL := Lib.hid hL
  rw [hL] at hus hul g4 g7
  have HLen := Lib.hid (fun k => unsL_len (L := L.take k) (fun x hx => g7 x (List.mem_of_mem_take hx)))
  obtain ⟨N, hN⟩ : ∃ N, L.length = N := ⟨_, rfl⟩
  have HN := Lib.hid hN
  rw [hN] at hus hul g4
  rw [hL, hN]
  clear hL hN
  have q8 : (8 < (N : Int)) = True ∨ (8 < (N : Int)) = False := by
    by_cases h : 8 < (N : Int)
    · exact Or.inl (eq_true h)
    · exact Or.inr (eq_false h)
  obtain ⟨W0, hW0⟩ : ∃ W0, W0 = w.alloc (.cells #[.slice sc p.consts.length tc, .slice sv p.vars.length tv, .slice sb p.blocks.length tb, .slice su N tu] 27) := ⟨_, rfl⟩
  have hb0 : Below w.heap.size w W0 := by rw [hW0]; exact by (repeat' (first | (with_reducible exact Below.refl _ _) | (with_reducible assumption) | (with_reducible refine below_drewN ?_ _) | (with_reducible refine Below.alloc ?_ ?_ _) | (with_reducible refine Below.drew ?_) | (with_reducible refine Below.setCell ?_ ?_ _) | go_size))
  have k0 : Boxed W0 w.heap.size [.slice sc p.consts.length tc, .slice sv p.vars.length tv, .slice sb p.blocks.length tb, .slice su N tu] := by rw [hW0]; exact Boxed.new w _ 27 (Below.refl _ _)
  have z0 : w.heap.size < W0.heap.size := by rw [hW0]; simp
  have K0 := Lib.hid k0
  have HW0 := Lib.hid hW0
  have e0 := k0 0 _ rfl
  clear hW0 k0
  go_enter Tryd.func10, Tryd.ntmps10
  go_upto_region 1 with fail
  rw [← HW0.out]
  go_wp2_with fail
  refine (HC.out _ hb0).mono ?_; rintro e A1 ⟨r1, rfl, hr1, _, hb1⟩
  have e1 := K0.out.keep z0 hb1 1 _ rfl
  have y1 := hb0.trans (hb1.mono hb0.size)
  go_wp2_with fail
  refine (HV.out _ y1).mono ?_; rintro e A2 ⟨r2, rfl, hr2, _, hb2⟩
  have hb12 := hb1.trans (hb2.mono hb1.size)
  have e2 := K0.out.keep z0 hb12 2 _ rfl
  have y2 := hb0.trans (hb12.mono hb0.size)
  clear e1
  go_wp2_with fail
  refine (HB.out _ y2).mono ?_; rintro e A3 ⟨r3, rfl, hr3, _, hb3⟩
  have hb13 := hb12.trans (hb3.mono hb12.size)
  have e3 := K0.out.keep z0 hb13 3 _ rfl
  have y3 := Lib.hid (hb0.trans (hb13.mono hb0.size))
  have hR1 := Lib.hid (fun h => bytes_at (owns_below (hr1 h) (hb2.trans (hb3.mono hb2.size))))
  have hR2 := Lib.hid (fun h => bytes_at (owns_below (hr2 h) hb3))
  have hR3 := Lib.hid (fun h => bytes_at (hr3 h))
  have K3 := Lib.hid (fun W (hW : Below A3.heap.size A3 W) => K0.out.keep z0 (hb13.trans (hW.mono hb13.size)) 3 _ rfl)
  have zA : w.heap.size < A3.heap.size := Nat.lt_of_lt_of_le z0 hb13.size
  clear hr1 hr2 hr3 hb1 hb2 hb3 hb12 hb13 y1 y2 e0 e2
  cases h1 : okCs p.consts
  · have hno := Lib.hid (HFit.out _ _ _ _ h1 rfl rfl rfl)
    clear h1
    go_wp2_with fail
    go_returns
    exact ⟨_, by rw [hno.out]; rfl, fun h => (by rw [hno.out] at h; cases h), fun _ => rfl, y3.out⟩
  cases h2 : okVs p.vars
  · have hno := Lib.hid (HFit.out _ _ _ _ h1 h2 rfl rfl)
    clear h1 h2
    go_wp2_with fail
    go_returns
    exact ⟨_, by rw [hno.out]; rfl, fun h => (by rw [hno.out] at h; cases h), fun _ => rfl, y3.out⟩
  cases h3 : okBs p.blocks
  · have hno := Lib.hid (HFit.out _ _ _ _ h1 h2 h3 rfl)
    clear h1 h2 h3
    go_wp2_with fail
    go_returns
    exact ⟨_, by rw [hno.out]; rfl, fun h => (by rw [hno.out] at h; cases h), fun _ => rfl, y3.out⟩
  have HF4 := Lib.hid (fun d => HFit.out _ _ _ d h1 h2 h3)
  have hR1 := Lib.hid (hR1.out h1)
  have hR2 := Lib.hid (hR2.out h2)
  have hR3 := Lib.hid (hR3.out h3)
  clear h1 h2 h3
  by_cases h8 : 8 < N
  · have q8' : (8 < (N : Int)) = True := eq_true (by omega)
    have hno := Lib.hid (HF4.out false (okUs_long (by rw [HL.out, HN.out]; exact h8)))
    clear q8 h8
    go_wp2_with fail
    go_returns
    exact ⟨_, by rw [hno.out]; rfl, fun h => (by rw [hno.out] at h; cases h), fun _ => rfl, y3.out⟩
  have q8' : (8 < (N : Int)) = False := eq_false (by omega)
  have hw8 : IntKind.u8.wrap (N : Int) = (N : Int) := by unfold IntKind.wrap; simp [IntKind.signed, IntKind.bits]; omega
  have hw9 : (N : Int) % 256 = (N : Int) := by omega
  clear q8
  obtain ⟨a1, d1, rfl⟩ := box_form hR1.out
  obtain ⟨a2, d2, rfl⟩ := box_form hR2.out
  obtain ⟨a3, d3, rfl⟩ := box_form hR3.out
  have hR1 := Lib.hid (show RowAt A3 _ (csB p).length (byteV (csB p)) from hR1.out)
  have hR2 := Lib.hid (show RowAt A3 _ (vsB p).length (byteV (vsB p)) from hR2.out)
  have hR3 := Lib.hid (show RowAt A3 _ (bsB p).length (byteV (bsB p)) from hR3.out)
  rw [show putL 2 (p.consts.length : Int) ++ cstsL p.consts = csB p from rfl] at *
  rw [show putL 2 (p.vars.length : Int) ++ varsL p.vars = vsB p from rfl] at *
  rw [show putL 2 (p.blocks.length : Int) ++ blksL p.blocks = bsB p from rfl] at *
  obtain ⟨l1, l2, l3, l4⟩ := HPL.out
  obtain ⟨n1, e1⟩ : ∃ n, (csB p).length = n := ⟨_, rfl⟩
  obtain ⟨n2, e2⟩ : ∃ n, (vsB p).length = n := ⟨_, rfl⟩
  obtain ⟨n3, e3'⟩ : ∃ n, (bsB p).length = n := ⟨_, rfl⟩
  have HE := Lib.hid (And.intro e1 (And.intro e2 e3'))
  rw [e1] at l1 hR1 ⊢
  rw [e2] at l2 hR2 ⊢
  rw [e3'] at l3 hR3 ⊢
  clear e1 e2 e3'
  go_wp2_with fail
  go_loopw [10, 11] (fun o jj wr => ∃ (k : Nat), k ≤ N ∧ jj = .int .i64 k ∧ Hid ((L.take k).all fitU = true) ∧ Hid (wr.ownsRow A3.heap.size 5 1 o (byteO (N : Int) :: unsL (L.take k)).length (bytesV (byteO (N : Int) :: unsL (L.take k)))) ∧ Hid (Below A3.heap.size A3 wr)) (fun _ jj _ => N - (intOf jj).toNat)
  case atStart =>
    refine ⟨0, by omega, rfl, Lib.hid (by simp), Lib.hid ?_, Lib.hid (by (repeat' (first | (with_reducible exact Below.refl _ _) | (with_reducible assumption) | (with_reducible refine below_drewN ?_ _) | (with_reducible refine Below.alloc ?_ ?_ _) | (with_reducible refine Below.drew ?_) | (with_reducible refine Below.setCell ?_ ?_ _) | go_size)))⟩
    have := World.ownsRow_lit (e := 5) (size := 1) A3 #[.int .u8 (N : Int)] 1 (Nat.le_refl _) (by unfold maxLen; omega) (by simp)
    simpa [unsL, bytesV, wrap_u8 N (by omega)] using this
  case round =>
    obtain ⟨k, hk, rfl, hall, hO, hB⟩ := hrel
    have e3 := K3.out wr hB.out
    have hBw := Lib.hid (y3.out.trans (hB.out.mono y3.out.size))
    by_cases hlt : k < N
    · have qk : ((k : Int) < (N : Int)) = True := eq_true (by omega)
      obtain ⟨x, hx⟩ := get_some (L := L) (n := k) (by rw [HN.out]; exact hlt)
      obtain ⟨bb, off, rfl, hbw, hc⟩ := unit_at hus (k := k) (by rw [HN.out]; exact hlt)
      obtain ⟨u1, u3, u4, c0, c1, c2, c3, c4, hU⟩ := hc k x hx
      obtain ⟨s1, t1, rfl⟩ := row_get hU.ps
      obtain ⟨s3, t3, rfl⟩ := row_get hU.ls
      obtain ⟨s4, t4, rfl⟩ := row_get hU.cs
      have hfx := g7 x (List.mem_of_getElem? hx)
      have HP := ref15_Put _ _ _ x wr (hU.below hBw.out) (few_parts hfx)
      have c0 := (hBw.out.cell (p := ⟨bb, off + k * 5, none⟩) hbw).trans c0
      have c1 := (hBw.out.cell (p := ⟨bb, off + k * 5 + 1, none⟩) hbw).trans c1
      have c2 := (hBw.out.cell (p := ⟨bb, off + k * 5 + 2, none⟩) hbw).trans c2
      have c3 := (hBw.out.cell (p := ⟨bb, off + k * 5 + 3, none⟩) hbw).trans c3
      have c4 := (hBw.out.cell (p := ⟨bb, off + k * 5 + 4, none⟩) hbw).trans c4
      have HS := Lib.hid (unsB_snoc hx)
      have HM := Lib.hid (List.mem_of_getElem? hx)
      have HT := Lib.hid (take_snoc hx)
      have HPU := Lib.hid (putU_len hfx)
      have hun : (byteO (N : Int) :: unsL (L.take k)).length ≤ 40000 := by
        have h1 := HLen.out k
        rw [List.length_take] at h1
        have h2 : min k L.length * 3204 ≤ 8 * 3204 := Nat.mul_le_mul_right _ (by have := HN.out; omega)
        simp only [List.length_cons]
        omega
      obtain ⟨T, hTT⟩ : ∃ T, byteO (N : Int) :: unsL (L.take k) = T := ⟨_, rfl⟩
      have HTT := Lib.hid hTT
      rw [hTT] at hO hun
      obtain ⟨n, hn⟩ : ∃ n, T.length = n := ⟨_, rfl⟩
      have Hn := Lib.hid hn
      rw [hn] at hO hun
      clear hc hx hU hfx hTT hn
      obtain ⟨p1, x1⟩ : ∃ n, x.params.length = n := ⟨_, rfl⟩
      obtain ⟨p3, x3⟩ : ∃ n, x.locals.length = n := ⟨_, rfl⟩
      obtain ⟨p4, x4⟩ : ∃ n, x.code.length = n := ⟨_, rfl⟩
      rw [x1] at c1 HP
      rw [x3] at c3 HP
      rw [x4] at c4 HP
      clear x1 x3 x4
      generalize (⟨x.name.toArray⟩ : ByteArray) = nm at *
      cases hfit : fitU x
      · have hno := Lib.hid (HF4.out false (by rw [HL.out]; exact okUs_no HM.out hfit))
        rw [hfit] at HP
        clear hfit
        go_wp2_with fail
        refine HP.mono ?_; rintro e W1 ⟨r, rfl, _, hb1⟩
        go_wp2_with fail
        go_returns
        exact ⟨_, by rw [hno.out]; rfl, fun h => (by rw [hno.out] at h; cases h), fun _ => rfl, hBw.out.trans (hb1.mono hBw.out.size)⟩
      · rw [hfit, putO_yes hfit] at HP
        have HFt := Lib.hid hfit
        clear hfit
        go_wp2_with fail
        refine HP.mono ?_; rintro e W1 ⟨r, rfl, hr, hb1⟩
        have hB1 := Lib.hid hb1
        have hr2 := Lib.hid (fun W (hb : Below W1.heap.size W1 W) => hr.below hb)
        obtain ⟨P, hP⟩ : ∃ P, putU x = P := ⟨_, rfl⟩
        rw [hP] at hr2 HPU HS
        obtain ⟨ar, cr, rfl⟩ : ∃ a c, r = .slice a P.length c := by
          rw [hP] at hr
          exact box_form hr
        obtain ⟨np, hnp⟩ : ∃ n, P.length = n := ⟨_, rfl⟩
        have Hnp := Lib.hid hnp
        have hpl := HPU.out
        rw [hnp] at hr2 HS hpl ⊢
        have hO1 := Lib.hid (owns_below hO.out hB1.out)
        have HP1 := Lib.hid (ref03_Put _ T 4 (np : Int) W1 (bytes_at hO1.out) (by rw [Hn.out]; omega))
        rw [near4, Hn.out] at HP1
        clear hr hP hnp hb1
        have hsz : A3.heap.size ≤ wr.heap.size := hB.out.size
        go_wp2_with fail
        refine HP1.out.mono ?_; rintro e W2 ⟨r2, rfl, hO2, hb2⟩
        have hB2 := Lib.hid (hB1.out.trans (hb2.mono hB1.out.size))
        have hr3 := Lib.hid (hr2.out _ hb2)
        have hw2 : A3.heap.size ≤ W1.heap.size := Nat.le_trans hsz hB1.out.size
        have hO3 := Lib.hid (own_low hO2 hw2)
        obtain ⟨b2, c2', rfl⟩ := owns_form hO2
        have hbw2 := Lib.hid (hB.out.trans (hB2.out.mono hsz))
        clear hO2 hb2
        go_wp2_with (first | (at_builtin; go_loud (refine wpList_append_row1 rfl (.tmp 75) (.tmp 76) 30 rfl A3.heap.size 5 i (.int .u8 0) 1 Tryd.underlying30 hi hz hsize hby rfl _ (n + 4) _ rfl hO3.out _ np (byteV P) rfl hr3.out (fun _ _ => rfl) (by unfold maxLen; omega) (by omega) hbw2.out.size ?_; intro v3 w3 hO4 hG4; have hB4 := Lib.hid (grown3 hbw2.out hbw2.out.size hO3.out hG4); have HO4 := Lib.hid hO4; clear hO4 hG4)) | fail)
        go_roundw
        case rel =>
          refine ⟨k + 1, by omega, by simp, Lib.hid (by rw [HT.out, List.all_append, hall.out]; simp [HFt.out]), Lib.hid ?_, hB4⟩
          have h4 := HO4.out
          have e : (List.range np).map (byteV P) = bytesV P := by rw [← Hnp.out]; exact map_byteV P
          rw [e, ← bytesV_app] at h4
          exact own_bytes h4 (by rw [HS.out, ← HTT.out]; simp)
        case measure => first | (simp [intOf]; done) | (simp [intOf]; omega)
    · obtain rfl : k = N := by omega
      have qk : ((k : Int) < (k : Int)) = False := eq_false (by omega)
      have hyes := Lib.hid (HF4.out true (by
        rw [HL.out]
        unfold okUs
        have := hall.out
        rw [List.take_of_length_le (by have := HN.out; omega)] at this
        rw [HN.out, decide_eq_true (by omega), this]; rfl))
      have hO4 := hO.out
      rw [List.take_of_length_le (by have := HN.out; omega)] at hO4
      have hR4 := bytes_at hO4
      rw [show byteO (k : Int) :: unsL L = unsB p.units by rw [HL.out]; unfold unsB; rw [HN.out]] at hR4
      have hR4 := Lib.hid hR4
      obtain ⟨a4, d4, rfl⟩ := box_form hR4.out
      obtain ⟨n4, e4⟩ : ∃ n, (unsB p.units).length = n := ⟨_, rfl⟩
      have HE4 := Lib.hid e4
      rw [e4] at l4 hR4 ⊢
      clear e4 hall hO hO4
      have HR := Lib.hid (fun W (hW : Below wr.heap.size wr W) => (And.intro (hR1.out.below (hB.out.trans (hW.mono hB.out.size))) (And.intro (hR2.out.below (hB.out.trans (hW.mono hB.out.size))) (And.intro (hR3.out.below (hB.out.trans (hW.mono hB.out.size))) (hR4.out.below hW)))))
      have hpl := fun k => preL_len hf k
      have hsec : ∀ (W : World) (v u : Value) (l m lm : List UInt8) (z : Int), Below wr.heap.size wr W → RowAt W v l.length (byteV l) → RowAt wr u m.length (byteV m) → l.length ≤ 100000 → m.length ≤ 100000 → lm = l ++ secL z m → Calls Tryd.prog 29 #[v, .int .i64 z, u] W fun e w' => ∃ r, e = .returned r ∧ RowAt w' r lm.length (byteV lm) ∧ Below W.heap.size W w' := by
        intro W v u l m lm z hW hv hu hl hm he
        refine (ref16_section v u l m z W hv (hu.below hW) (by omega) (by omega)).mono ?_
        rintro e w' ⟨r, he', hr, hb⟩
        rw [he]
        exact ⟨r, he', bytes_at hr, hb⟩
      have Hsec := Lib.hid hsec
      obtain ⟨W5, hW5⟩ : ∃ W5, W5 = wr.alloc (.cells #[.int .u8 76, .int .u8 66, .int .u8 75, .int .u8 49] 5) := ⟨_, rfl⟩
      have hb5 : Below wr.heap.size wr W5 := by rw [hW5]; exact by (repeat' (first | (with_reducible exact Below.refl _ _) | (with_reducible assumption) | (with_reducible refine below_drewN ?_ _) | (with_reducible refine Below.alloc ?_ ?_ _) | (with_reducible refine Below.drew ?_) | (with_reducible refine Below.setCell ?_ ?_ _) | go_size))
      have hm0 : RowAt W5 (.slice (some ⟨wr.heap.size, 0, none⟩) 4 4) (preL p 0).length (byteV (preL p 0)) := by
        rw [hW5]
        refine RowAt.new wr _ _ _ _ 4 4 (by omega) (by omega) (by omega) (fun i hi => ?_)
        obtain rfl | rfl | rfl | rfl : i = 0 ∨ i = 1 ∨ i = 2 ∨ i = 3 := by omega
        all_goals rfl
      have HW5 := Lib.hid hW5
      have G1 := Lib.hid (Hsec.out W5 _ (.slice a1 n1 d1) (preL p 0) (csB p) (preL p 1) 1 hb5 hm0 (HR.out _ (Below.refl _ _) |>.1 |> fun h => by rw [HE.out.1]; exact h) (hpl 0) (by rw [HE.out.1]; exact l1) rfl)
      clear hW5 hm0 hsec
      go_upto_region 15 with fail
      rw [← HW5.out]
      go_wp2_with fail
      refine G1.out.mono ?_; rintro e X1 ⟨r1, rfl, hr1, hx1⟩
      have hX1 := hb5.trans (hx1.mono hb5.size)
      obtain ⟨m1, hm1⟩ : ∃ m, (preL p 1).length = m := ⟨_, rfl⟩
      obtain ⟨f1, k1, rfl⟩ := box_form hr1
      have G2 := Lib.hid (Hsec.out X1 _ (.slice a2 n2 d2) (preL p 1) (vsB p) (preL p 2) 2 hX1 hr1 (HR.out _ (Below.refl _ _) |>.2.1 |> fun h => by rw [HE.out.2.1]; exact h) (hpl 1) (by rw [HE.out.2.1]; exact l2) rfl)
      rw [hm1] at G2 ⊢
      clear hr1 hm1 G1
      go_wp2_with fail
      refine G2.out.mono ?_; rintro e X2 ⟨r2, rfl, hr2, hx2⟩
      have hX2 := hX1.trans (hx2.mono hX1.size)
      obtain ⟨m2, hm2⟩ : ∃ m, (preL p 2).length = m := ⟨_, rfl⟩
      obtain ⟨f2, k2, rfl⟩ := box_form hr2
      have G3 := Lib.hid (Hsec.out X2 _ (.slice a3 n3 d3) (preL p 2) (bsB p) (preL p 3) 3 hX2 hr2 (HR.out _ (Below.refl _ _) |>.2.2.1 |> fun h => by rw [HE.out.2.2]; exact h) (hpl 2) (by rw [HE.out.2.2]; exact l3) rfl)
      rw [hm2] at G3 ⊢
      clear hr2 hm2 G2
      go_wp2_with fail
      refine G3.out.mono ?_; rintro e X3 ⟨r3, rfl, hr3, hx3⟩
      have hX3 := hX2.trans (hx3.mono hX2.size)
      obtain ⟨m3, hm3⟩ : ∃ m, (preL p 3).length = m := ⟨_, rfl⟩
      obtain ⟨f3, k3, rfl⟩ := box_form hr3
      have G4 := Lib.hid (Hsec.out X3 _ (.slice a4 n4 d4) (preL p 3) (unsB p.units) (bodyL p) 4 hX3 hr3 (HR.out _ (Below.refl _ _) |>.2.2.2 |> fun h => by rw [HE4.out]; exact h) (hpl 3) (by rw [HE4.out]; exact l4) rfl)
      rw [hm3] at G4 ⊢
      clear hr3 hm3 G3
      go_wp2_with fail
      refine G4.out.mono ?_; rintro e X4 ⟨r4, rfl, hr4, hx4⟩
      have hX4 := hX3.trans (hx4.mono hX3.size)
      have hXw := Lib.hid (hBw.out.trans (hX4.mono hBw.out.size))
      obtain ⟨f4, k4, rfl⟩ := box_form hr4
      have hlb := (HSm.out).2
      have HCrc := Lib.hid (ref02_Of _ (bodyL p) X4 hr4)
      have HPut := Lib.hid (ref03_Put _ (bodyL p) 4 (crcF (bodyL p) : Int) X4 hr4 (by omega))
      have hcl : crcF (bodyL p) ≤ 4294967295 := by unfold crcF; omega
      have HX := Lib.hid (show boxL p = bodyL p ++ putL 4 (crcF (bodyL p)) from rfl)
      rw [near4] at HPut
      obtain ⟨cr, hcr⟩ : ∃ c, crcF (bodyL p) = c := ⟨_, rfl⟩
      obtain ⟨nb, hnb⟩ : ∃ n, (bodyL p).length = n := ⟨_, rfl⟩
      rw [hcr] at HCrc HPut hcl HX
      rw [hnb] at HCrc HPut hlb ⊢
      clear hr4 hcr hpl G4 hx1 hx2 hx3 hx4 hX1 hX2 hX3 hX4 hb5
      go_wp2_with fail
      refine HCrc.out.mono ?_; rintro e X5 ⟨rfl, rfl⟩
      go_wp2_with fail
      refine HPut.out.mono ?_; rintro e X6 ⟨r5, rfl, hr5, hb6⟩
      obtain ⟨a5, d5, rfl⟩ := owns_form hr5
      have hr6 := Lib.hid (own_low hr5 hXw.out.size)
      have hB6 := Lib.hid (hXw.out.trans (hb6.mono hXw.out.size))
      clear hr5
      have q5 : (1048576 < ((nb + 4 : Nat) : Int)) = False := eq_false (by omega)
      have q6 : (1048576 < ((nb : Int) + 4)) = False := eq_false (by omega)
      clear hcl hlb HCrc HPut l1 l2 l3 l4 g1 g2 g3 g4
      go_wp2_with fail
      go_returns
      exact ⟨_, by rw [hyes.out]; rfl, fun _ => (by rw [HX.out]; exact own_bytes hr6.out rfl), fun h => (by rw [hyes.out] at h; cases h), hB6.out⟩
end Go.Proofs.YtjikkipdmonndaaDoor

/- Whether two lists of numbers are the same. -/
namespace Go.Proofs.YtjikkipdmonndaaDoor
open Go.RowKit
set_option linter.unusedSimpArgs false
set_option linter.unusedVariables false
set_option maxHeartbeats 2000000 in
theorem ref15_Ints (v u : Value) (L M : List Int) (w : World) (hv : RowR 1 intR w v L) (hu : RowR 1 intR w u M) :
    Calls Tryd.prog 66 #[v, u] w fun e w' => e = .returned (.bool (decide (L = M))) ∧ ∃ m, w' = w.drewN m := by
  have hL := hv.len
  obtain ⟨sa, ca, rfl⟩ := row_get hv
  obtain ⟨sb, cb, rfl⟩ := row_get hu
  by_cases hlen : L.length = M.length
  · have hb : (((L.length : Nat) : Int) != ((M.length : Nat) : Int)) = false := by rw [hlen]; simp
    have HY := Lib.hid (fun h : L = M => (decide_eq_true h : decide (L = M) = true))
    have HN := Lib.hid (fun h : ¬ L = M => (decide_eq_false h : decide (L = M) = false))
    obtain ⟨N, hN⟩ : ∃ N, L.length = N := ⟨_, rfl⟩
    have hM : M.length = N := hlen.symm.trans hN
    rw [hN] at hv hL
    rw [hM] at hu
    rw [hN, hM] at hb
    rw [hN, hM]
    clear hlen
    go_enter Tryd.func66, Tryd.ntmps66
    go_wp2_with fail
    go_loopw [5] (fun j wr => ∃ k m : Nat, k ≤ N ∧ j = .int .i64 k ∧ Hid (L.take k = M.take k) ∧ wr = w.drewN m) (fun j _ => N - (intOf j).toNat)
    case atStart => exact ⟨0, 0, by omega, rfl, Lib.hid (by simp), rfl⟩
    case round =>
      obtain ⟨k, m, hk, rfl, heq, rfl⟩ := hrel
      by_cases hlt : k < N
      · obtain ⟨b, off, rfl, hbw, hc⟩ := ints_at hv (k := k) (by omega)
        obtain ⟨b2, off2, rfl, hbw2, hd⟩ := ints_at hu (k := k) (by omega)
        obtain ⟨x, hx⟩ : ∃ x, L[k]? = some x := ⟨L[k]'(by omega), by simp [hN, hlt]⟩
        obtain ⟨y, hy⟩ : ∃ y, M[k]? = some y := ⟨M[k]'(by omega), by simp [hlt, hM]⟩
        obtain ⟨c0, _⟩ := hc k x hx
        obtain ⟨d0, _⟩ := hd k y hy
        clear hc hd
        by_cases hxy : x = y
        · have hs := Lib.hid (show L.take (k + 1) = M.take (k + 1) by rw [take_snoc hx, take_snoc hy, heq.out, hxy])
          have hq : (x != y) = false := by simp [hxy]
          clear hxy hx hy heq
          go_wp2_with fail
          go_quiet (fail)
          go_wp2_with fail
          go_roundw
          case rel => exact ⟨k + 1, _, by omega, by simp, hs, rfl⟩
          case measure => first | (simp [intOf]; done) | (simp [intOf]; omega)
        · have hs := Lib.hid (HN.out (fun h => hxy (by rw [h, hy] at hx; exact (Option.some.inj hx).symm)))
          have hq : (x != y) = true := by simpa using hxy
          clear hxy hx hy heq
          go_wp2_with fail
          go_quiet (fail)
          go_wp2_with fail
          go_ret
          exact ⟨by rw [hs.out]; rfl, _, World.drewN_drewN _ _ _⟩
      · obtain rfl : k = N := by omega
        have hs := Lib.hid (HY.out (by have := heq.out; rw [List.take_of_length_le (by omega), List.take_of_length_le (by omega)] at this; exact this))
        clear heq
        go_wp2_with fail
        go_ret
        exact ⟨by rw [hs.out]; rfl, _, rfl⟩
  · have hb : (((L.length : Nat) : Int) != ((M.length : Nat) : Int)) = true := by simp; omega
    have hs := Lib.hid (show decide (L = M) = false from decide_eq_false (fun h => hlen (by rw [h])))
    clear hlen
    go_enter Tryd.func66, Tryd.ntmps66
    go_wp2_with fail
    go_ret
    exact ⟨by rw [hs.out]; rfl, 0, rfl⟩
end Go.Proofs.YtjikkipdmonndaaDoor
