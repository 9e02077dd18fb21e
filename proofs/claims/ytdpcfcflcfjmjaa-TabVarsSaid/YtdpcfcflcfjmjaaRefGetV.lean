/- Layer 14: variables are read, one and tables, by the program and by the reference; the same variables are the same. -/
import Derived.Test.YtdpcfcflcfjmjaaRdVar
import Derived.Test.YtdpcfcflcfjmjaaTabGetB
import Derived.Test.YtdpcfcflcfjmjaaRefTab
import Derived.Test.YtdpcfcflcfjmjaaRowOwn
namespace Go.Proofs.Ytdpcfcflcfjmjaa
open Go.RowKit
set_option linter.unusedSimpArgs false
set_option linter.unusedVariables false
theorem set_at0 {w : World} {g : Nat} {C : Array Value} {t : TypeId} {fr : Nat × Nat} (h : w.heap[g]? = some (.cells C t fr)) (i : Nat) (v : Value) (D : Array Value) (hD : C.setIfInBounds i v = D) : (w.setCell ⟨g, i, none⟩ v).heap[g]? = some (.cells D t fr) := by subst hD; exact (set_at h i v 0).1
def varV (x : Vr) : Value := .agg #[.string ⟨x.name.toArray⟩, .int .i64 x.t, .int .i64 x.n, .int .i64 x.area, .int .i64 x.init]
set_option maxHeartbeats 1000000 in
theorem tab_GetVar (g q : Nat) (L : List UInt8) (n : Nat) (bad : Bool) (w : World) (h : RdAt w g q L n bad) (hq : q < w.heap.size) :
    Calls Try.prog 40 #[.pointer (some ⟨g, 0, none⟩)] w fun e w' => e = .returned (varV (rVar L n bad).1) ∧ RdAt w' g q L (rVar L n bad).2.1 (rVar L n bad).2.2 ∧ w.grownBy w' (some g) := by
  unfold rVar rV5 rV4 rV3 rV2 rV1
  have hgl := rd_lt h
  obtain ⟨A, hA⟩ : ∃ A, rText L n bad = A := ⟨_, rfl⟩
  have HT := Lib.hid (fun W hW => rd_Text g q L n bad W hW)
  rw [hA] at HT ⊢
  clear hA
  obtain ⟨s, n0, b0⟩ := A
  dsimp only at HT ⊢
  obtain ⟨A, hA⟩ : ∃ A, rNum L 1 n0 b0 = A := ⟨_, rfl⟩
  have H1 := Lib.hid (fun W hW => rd_Num g q L n0 1 b0 1 W hW (by decide) (by omega))
  rw [hA] at H1 ⊢
  clear hA
  obtain ⟨c1, n1, b1⟩ := A
  dsimp only at H1 ⊢
  obtain ⟨A, hA⟩ : ∃ A, rNum L 1 n1 b1 = A := ⟨_, rfl⟩
  have H2 := Lib.hid (fun W hW => rd_Num g q L n1 1 b1 1 W hW (by decide) (by omega))
  rw [hA] at H2 ⊢
  clear hA
  obtain ⟨c2, n2, b2⟩ := A
  dsimp only at H2 ⊢
  obtain ⟨A, hA⟩ : ∃ A, rNum L 1 n2 b2 = A := ⟨_, rfl⟩
  have H3 := Lib.hid (fun W hW => rd_Num g q L n2 1 b2 1 W hW (by decide) (by omega))
  rw [hA] at H3 ⊢
  clear hA
  obtain ⟨c3, n3, b3⟩ := A
  dsimp only at H3 ⊢
  obtain ⟨A, hA⟩ : ∃ A, rNum L 8 n3 b3 = A := ⟨_, rfl⟩
  have H4 := Lib.hid (fun W hW => rd_Num g q L n3 8 b3 8 W hW (by decide) (by omega))
  rw [hA] at H4 ⊢
  clear hA
  obtain ⟨c4, n4, b4⟩ := A
  dsimp only at H4 ⊢
  have h0 : RdAt ((w.alloc (.cells #[.string ⟨#[]⟩, .int .i64 0, .int .i64 0, .int .i64 0, .int .i64 0] 34)).alloc (.cells #[.string ⟨#[]⟩, .int .i64 0, .int .i64 0, .int .i64 0, .int .i64 0] 34)) g q L n bad := rd_below (rd_below h ((Below.refl _ _).alloc (Nat.le_refl _) _)) ((Below.refl _ _).alloc (Nat.le_refl _) _)
  have g0 : w.grownBy ((w.alloc (.cells #[.string ⟨#[]⟩, .int .i64 0, .int .i64 0, .int .i64 0, .int .i64 0] 34)).alloc (.cells #[.string ⟨#[]⟩, .int .i64 0, .int .i64 0, .int .i64 0, .int .i64 0] 34)) (some g) := grown_alloc (grown_alloc (World.grownBy.refl _ _) _) _
  have a1 : ((w.alloc (.cells #[.string ⟨#[]⟩, .int .i64 0, .int .i64 0, .int .i64 0, .int .i64 0] 34)).alloc (.cells #[.string ⟨#[]⟩, .int .i64 0, .int .i64 0, .int .i64 0, .int .i64 0] 34)).heap[w.heap.size]? = some (.cells #[.string ⟨#[]⟩, .int .i64 0, .int .i64 0, .int .i64 0, .int .i64 0] 34 (0, 0)) := by
    rw [Below.heap_alloc _ _ _ (by simp)]; exact heap_alloc_new w _
  have a2 : ((w.alloc (.cells #[.string ⟨#[]⟩, .int .i64 0, .int .i64 0, .int .i64 0, .int .i64 0] 34)).alloc (.cells #[.string ⟨#[]⟩, .int .i64 0, .int .i64 0, .int .i64 0, .int .i64 0] 34)).heap[w.heap.size + 1]? = some (.cells #[.string ⟨#[]⟩, .int .i64 0, .int .i64 0, .int .i64 0, .int .i64 0] 34 (0, 0)) := alloc_get (by simp)
  have HT1 := Lib.hid (HT.out _ h0)
  clear HT
  have G0 := Lib.hid (And.intro a1 (And.intro a2 (And.intro h0 g0)))
  clear a1 a2 h0 g0 h
  go_enter Try.func40, Try.ntmps40
  go_wp2_with fail
  refine HT1.out.mono ?_; rintro e w1 ⟨rfl, hR, hG1⟩
  obtain ⟨W0, hW0⟩ : ∃ W0, W0 = ((w.alloc (.cells #[.string ⟨#[]⟩, .int .i64 0, .int .i64 0, .int .i64 0, .int .i64 0] 34)).alloc (.cells #[.string ⟨#[]⟩, .int .i64 0, .int .i64 0, .int .i64 0, .int .i64 0] 34)) := ⟨_, rfl⟩
  rw [← hW0] at G0 hG1
  obtain ⟨a1, a2, h0, g0⟩ := G0.out
  have z0 : W0.heap.size = w.heap.size + 2 := by rw [hW0]; simp
  have e1 := (hG1.block w.heap.size (by omega) (by simp; omega)).trans a1
  have e2 := (hG1.block (w.heap.size + 1) (by omega) (by simp; omega)).trans a2
  have z1 : w.heap.size + 2 ≤ w1.heap.size := by have := hG1.size; omega
  have hG := grown_grown g0 hG1
  have cA := cell_of e2 0 (v := .string ⟨#[]⟩) rfl
  have fA := free_of e2 0
  have HX := Lib.hid (And.intro hR (And.intro hG (And.intro e1 e2)))
  clear hR hG hG1 G0 HT1 a1 a2 h0 g0 e1 e2 hW0
  go_wp2_with fail
  obtain ⟨hR, hG, e1, e2⟩ := HX.out
  clear HX
  obtain ⟨k1, k2⟩ := set_at e2 0 (.string ⟨s.toArray⟩) 0
  have k1 : (w1.setCell ⟨w.heap.size + 1, 0, none⟩ (.string ⟨s.toArray⟩)).heap[w.heap.size + 1]? = some (.cells #[.string ⟨s.toArray⟩, .int .i64 0, .int .i64 0, .int .i64 0, .int .i64 0] 34 (0, 0)) := k1
  refine (H1.out _ (rd_set hR ⟨w.heap.size + 1, 0, none⟩ (.string ⟨s.toArray⟩) (by simp; omega) (by simp; omega))).mono ?_; rintro e w2 ⟨rfl, hR3, hG3⟩
  have zs : (w1.setCell ⟨w.heap.size + 1, 0, none⟩ (.string ⟨s.toArray⟩)).heap.size = w1.heap.size := by simp [World.setCell]
  have hG2 := grown_set hG (p := ⟨w.heap.size + 1, 0, none⟩) (by simp) (.string ⟨s.toArray⟩)
  have f1 := (hG3.block w.heap.size (by omega) (by simp; omega)).trans ((Below.heap_setCell _ _ _ _ (by simp)).trans e1)
  have f2 := (hG3.block (w.heap.size + 1) (by omega) (by simp; omega)).trans k1
  have z2 : w.heap.size + 2 ≤ w2.heap.size := by have := hG3.size; omega
  have hG4 := grown_grown hG2 hG3
  clear cA fA
  have cA := cell_of f2 1 (v := .int .i64 0) rfl
  have fA := free_of f2 1
  have HX := Lib.hid (And.intro hR3 (And.intro hG4 (And.intro f1 f2)))
  clear hR hG e1 e2 k1 k2 hR3 hG3 hG2 f1 f2 hG4 zs H1
  go_wp2_with fail
  obtain ⟨hR, hG, e1, e2⟩ := HX.out
  clear HX
  obtain ⟨k1, k2⟩ := set_at e2 1 (.int .i64 c1) 0
  have k1 : (w2.setCell ⟨w.heap.size + 1, 1, none⟩ (.int .i64 c1)).heap[w.heap.size + 1]? = some (.cells #[.string ⟨s.toArray⟩, .int .i64 c1, .int .i64 0, .int .i64 0, .int .i64 0] 34 (0, 0)) := k1
  refine (H2.out _ (rd_set hR ⟨w.heap.size + 1, 1, none⟩ (.int .i64 c1) (by simp; omega) (by simp; omega))).mono ?_; rintro e w3 ⟨rfl, hR3, hG3⟩
  have zs : (w2.setCell ⟨w.heap.size + 1, 1, none⟩ (.int .i64 c1)).heap.size = w2.heap.size := by simp [World.setCell]
  have hG2 := grown_set hG (p := ⟨w.heap.size + 1, 1, none⟩) (by simp) (.int .i64 c1)
  have f1 := (hG3.block w.heap.size (by omega) (by simp; omega)).trans ((Below.heap_setCell _ _ _ _ (by simp)).trans e1)
  have f2 := (hG3.block (w.heap.size + 1) (by omega) (by simp; omega)).trans k1
  have z3 : w.heap.size + 2 ≤ w3.heap.size := by have := hG3.size; omega
  have hG4 := grown_grown hG2 hG3
  clear cA fA
  have cA := cell_of f2 2 (v := .int .i64 0) rfl
  have fA := free_of f2 2
  have HX := Lib.hid (And.intro hR3 (And.intro hG4 (And.intro f1 f2)))
  clear hR hG e1 e2 k1 k2 hR3 hG3 hG2 f1 f2 hG4 zs H2
  go_wp2_with fail
  obtain ⟨hR, hG, e1, e2⟩ := HX.out
  clear HX
  obtain ⟨k1, k2⟩ := set_at e2 2 (.int .i64 c2) 0
  have k1 : (w3.setCell ⟨w.heap.size + 1, 2, none⟩ (.int .i64 c2)).heap[w.heap.size + 1]? = some (.cells #[.string ⟨s.toArray⟩, .int .i64 c1, .int .i64 c2, .int .i64 0, .int .i64 0] 34 (0, 0)) := k1
  refine (H3.out _ (rd_set hR ⟨w.heap.size + 1, 2, none⟩ (.int .i64 c2) (by simp; omega) (by simp; omega))).mono ?_; rintro e w4 ⟨rfl, hR3, hG3⟩
  have zs : (w3.setCell ⟨w.heap.size + 1, 2, none⟩ (.int .i64 c2)).heap.size = w3.heap.size := by simp [World.setCell]
  have hG2 := grown_set hG (p := ⟨w.heap.size + 1, 2, none⟩) (by simp) (.int .i64 c2)
  have f1 := (hG3.block w.heap.size (by omega) (by simp; omega)).trans ((Below.heap_setCell _ _ _ _ (by simp)).trans e1)
  have f2 := (hG3.block (w.heap.size + 1) (by omega) (by simp; omega)).trans k1
  have z4 : w.heap.size + 2 ≤ w4.heap.size := by have := hG3.size; omega
  have hG4 := grown_grown hG2 hG3
  clear cA fA
  have cA := cell_of f2 3 (v := .int .i64 0) rfl
  have fA := free_of f2 3
  have HX := Lib.hid (And.intro hR3 (And.intro hG4 (And.intro f1 f2)))
  clear hR hG e1 e2 k1 k2 hR3 hG3 hG2 f1 f2 hG4 zs H3
  go_wp2_with fail
  obtain ⟨hR, hG, e1, e2⟩ := HX.out
  clear HX
  obtain ⟨k1, k2⟩ := set_at e2 3 (.int .i64 c3) 0
  have k1 : (w4.setCell ⟨w.heap.size + 1, 3, none⟩ (.int .i64 c3)).heap[w.heap.size + 1]? = some (.cells #[.string ⟨s.toArray⟩, .int .i64 c1, .int .i64 c2, .int .i64 c3, .int .i64 0] 34 (0, 0)) := k1
  refine (H4.out _ (rd_set hR ⟨w.heap.size + 1, 3, none⟩ (.int .i64 c3) (by simp; omega) (by simp; omega))).mono ?_; rintro e w5 ⟨rfl, hR3, hG3⟩
  have zs : (w4.setCell ⟨w.heap.size + 1, 3, none⟩ (.int .i64 c3)).heap.size = w4.heap.size := by simp [World.setCell]
  have hG2 := grown_set hG (p := ⟨w.heap.size + 1, 3, none⟩) (by simp) (.int .i64 c3)
  have f1 := (hG3.block w.heap.size (by omega) (by simp; omega)).trans ((Below.heap_setCell _ _ _ _ (by simp)).trans e1)
  have f2 := (hG3.block (w.heap.size + 1) (by omega) (by simp; omega)).trans k1
  have z5 : w.heap.size + 2 ≤ w5.heap.size := by have := hG3.size; omega
  have hG4 := grown_grown hG2 hG3
  clear cA fA
  have fB := free_of f2 4
  have d0 := cell_of f2 0 (v := .string ⟨s.toArray⟩) rfl
  have p0 := cell_of f1 0 (v := .string ⟨#[]⟩) rfl
  have r0 := free_of f1 0
  have d1 := cell_of f2 1 (v := .int .i64 c1) rfl
  have p1 := cell_of f1 1 (v := .int .i64 0) rfl
  have r1 := free_of f1 1
  have d2 := cell_of f2 2 (v := .int .i64 c2) rfl
  have p2 := cell_of f1 2 (v := .int .i64 0) rfl
  have r2 := free_of f1 2
  have d3 := cell_of f2 3 (v := .int .i64 c3) rfl
  have p3 := cell_of f1 3 (v := .int .i64 0) rfl
  have r3 := free_of f1 3
  have d4 := cell_of f2 4 (v := .int .i64 0) rfl
  have p4 := cell_of f1 4 (v := .int .i64 0) rfl
  have r4 := free_of f1 4
  have x0 : (w5.setCell ⟨w.heap.size + 1, 4, none⟩ (.int .i64 c4)).heap[w.heap.size]? = some (.cells #[.string ⟨#[]⟩, .int .i64 0, .int .i64 0, .int .i64 0, .int .i64 0] 34 (0, 0)) := (Below.heap_setCell _ _ _ _ (by simp)).trans f1
  have x1 := set_at0 x0 0 (.string ⟨s.toArray⟩) #[.string ⟨s.toArray⟩, .int .i64 0, .int .i64 0, .int .i64 0, .int .i64 0] rfl
  have x2 := set_at0 x1 1 (.int .i64 c1) #[.string ⟨s.toArray⟩, .int .i64 c1, .int .i64 0, .int .i64 0, .int .i64 0] rfl
  have x3 := set_at0 x2 2 (.int .i64 c2) #[.string ⟨s.toArray⟩, .int .i64 c1, .int .i64 c2, .int .i64 0, .int .i64 0] rfl
  have x4 := set_at0 x3 3 (.int .i64 c3) #[.string ⟨s.toArray⟩, .int .i64 c1, .int .i64 c2, .int .i64 c3, .int .i64 0] rfl
  have x5 := set_at0 x4 4 (.int .i64 c4) #[.string ⟨s.toArray⟩, .int .i64 c1, .int .i64 c2, .int .i64 c3, .int .i64 c4] rfl
  have y0 := cell_of x5 0 (v := .string ⟨s.toArray⟩) rfl
  have y1 := cell_of x5 1 (v := .int .i64 c1) rfl
  have y2 := cell_of x5 2 (v := .int .i64 c2) rfl
  have y3 := cell_of x5 3 (v := .int .i64 c3) rfl
  have y4 := cell_of x5 4 (v := .int .i64 c4) rfl
  have H3 := Lib.hid (And.intro hR3 (And.intro hG4 (And.intro y0 (And.intro y1 (And.intro y2 (And.intro y3 y4))))))
  clear hR hG e1 e2 k1 k2 hR3 hG3 hG2 f1 f2 hG4 zs H4 x0 x1 x2 x3 x4 x5 y0 y1 y2 y3 y4
  go_wp2_with fail
  obtain ⟨hR3, hG4, y0, y1, y2, y3, y4⟩ := H3.out
  obtain ⟨W4, hW4⟩ : ∃ W4, W4 = ((((((w5.setCell ⟨w.heap.size + 1, 4, none⟩ (.int .i64 c4)).setCell ⟨w.heap.size, 0, none⟩ (.string ⟨s.toArray⟩)).setCell ⟨w.heap.size, 1, none⟩ (.int .i64 c1)).setCell ⟨w.heap.size, 2, none⟩ (.int .i64 c2)).setCell ⟨w.heap.size, 3, none⟩ (.int .i64 c3)).setCell ⟨w.heap.size, 4, none⟩ (.int .i64 c4)) := ⟨_, rfl⟩
  have y0 : W4.cell? ⟨w.heap.size, 0, none⟩ = some (.string ⟨s.toArray⟩) := by rw [hW4]; exact y0
  have y1 : W4.cell? ⟨w.heap.size, 1, none⟩ = some (.int .i64 c1) := by rw [hW4]; exact y1
  have y2 : W4.cell? ⟨w.heap.size, 2, none⟩ = some (.int .i64 c2) := by rw [hW4]; exact y2
  have y3 : W4.cell? ⟨w.heap.size, 3, none⟩ = some (.int .i64 c3) := by rw [hW4]; exact y3
  have y4 : W4.cell? ⟨w.heap.size, 4, none⟩ = some (.int .i64 c4) := by rw [hW4]; exact y4
  rw [← hW4]
  refine bodyPost_ret (by simp [results, Try.results40, go_sem, y0, y1, y2, y3, y4]; rfl) rfl ?_
  rw [hW4]
  exact ⟨rfl, (rd_set (rd_set (rd_set (rd_set (rd_set (rd_set hR3 _ _ (by simp; omega) (by simp; omega)) _ _ (by simp; omega) (by simp; omega)) _ _ (by simp; omega) (by simp; omega)) _ _ (by simp; omega) (by simp; omega)) _ _ (by simp; omega) (by simp; omega)) _ _ (by simp; omega) (by simp; omega)), (grown_set (grown_set (grown_set (grown_set (grown_set (grown_set hG4 (by simp) _) (by simp) _) (by simp) _) (by simp) _) (by simp) _) (by simp) _)⟩
def varCs (l : List Vr) : List Value := l.flatMap fun x => [.string ⟨x.name.toArray⟩, .int .i64 x.t, .int .i64 x.n, .int .i64 x.area, .int .i64 x.init]
theorem varCs_snoc (l : List Vr) (x : Vr) : varCs (l ++ [x]) = varCs l ++ [.string ⟨x.name.toArray⟩, .int .i64 x.t, .int .i64 x.n, .int .i64 x.area, .int .i64 x.init] := by simp [varCs]
set_option maxHeartbeats 4000000 in
theorem tab_get_vars (v : Value) (L : List UInt8) (w : World) (hv : RowAt w v L.length (byteV L)) (hL : L.length ≤ 1000000) :
    Calls Try.prog 39 #[v, .int .i64 64, .func (.func 40) #[] #[]] w fun e w' => ∃ r, e = .returned (.tuple #[r, .int .i64 (getR (rVar L) 64 L).2]) ∧ w'.ownsRow w.heap.size 34 5 r (getR (rVar L) 64 L).1.length (varCs (getR (rVar L) 64 L).1) ∧ Below w.heap.size w w' := by
  obtain ⟨i, hi, hz, hsize, hby⟩ : ∃ i, Try.prog.info? 34 = some i ∧ i.zero = some (.agg #[.string ⟨#[]⟩, .int .i64 0, .int .i64 0, .int .i64 0, .int .i64 0]) ∧ i.size = 5 ∧ i.bytes = 48 := ⟨(Try.prog.info? 34).get!, by kernel_rfl, by kernel_rfl, by kernel_rfl, by kernel_rfl⟩
  unfold getR
  obtain ⟨A, hA⟩ : ∃ A, rNum L 2 0 false = A := ⟨_, rfl⟩
  obtain ⟨k, hk⟩ := rNum2_fit L 0 false
  have hat := rNum_at L 2 0 false (Nat.zero_le _)
  have HN := Lib.hid (fun g q W hW => rd_Num g q L 0 2 false 2 W hW (by decide) (by omega))
  rw [hA] at HN hk hat ⊢
  obtain ⟨c, n, b⟩ := A
  dsimp only at HN hk hat ⊢
  subst hk
  rw [Int.toNat_natCast]
  clear hA
  have q1 := ownsRow_none'
  cases b
  · by_cases hlim : k ≤ 64
    · have q0 : (64 < (k : Int)) = False := eq_false (by omega)
      rw [if_neg (by simp), if_neg (by omega)]
      obtain ⟨X, hX⟩ : ∃ X : List Vr × Int, X = (if (rRows (rVar L) k n false).2.2 = true then ([], 1) else if 0 < leftOf L (rRows (rVar L) k n false).2.1 (rRows (rVar L) k n false).2.2 then ([], 4) else ((rRows (rVar L) k n false).1, 0)) := ⟨_, rfl⟩
      rw [← hX]
      have HX := Lib.hid hX
      have hrl := rRows_len (rVar L)
      have HRL := Lib.hid hrl
      have HRS := Lib.hid (show ∀ m, rRows (rVar L) (m + 1) n false = ((rRows (rVar L) m n false).1 ++ [(rVar L (rRows (rVar L) m n false).2.1 (rRows (rVar L) m n false).2.2).1], (rVar L (rRows (rVar L) m n false).2.1 (rRows (rVar L) m n false).2.2).2) from fun m => rfl)
      have HR0 := Lib.hid (show rRows (rVar L) 0 n false = ([], n, false) from rfl)
      generalize rRows (rVar L) = RR at HX HRL HRS HR0
      have HBk := Lib.hid (fun g q n b W hW hq => tab_GetVar g q L n b W hW hq)
      clear hX hrl
      go_enter Try.func39, Try.ntmps39
      go_wp2_with fail
      refine (rd_New v L _ hv (by omega)).mono ?_; rintro e w1 ⟨g, q, rfl, hR, hg, ⟨hq, hqg⟩, hb⟩
      have z1 := hb.size
      go_wp2_with fail
      refine (HN.out _ _ _ hR).mono ?_; rintro e w2 ⟨rfl, hR2, hG2⟩
      have hb2 := grownBelow hb hG2 hg z1
      have hz2 := hb2.size
      have hgl := rd_lt hR2
      clear hR hG2
      go_wp2_with fail
      refine (reader_Bad _ _ _ _ _ _ hR2).mono ?_; rintro e w' ⟨rfl, rfl⟩
      obtain ⟨w3, hmk, hO3, hG3⟩ := run_make_own (P := Try.prog) (w := w2) w2.heap.size 32 34 i _ 5 Try.underlying32 hi hz hsize .i64 .i64 k (by rw [hby]; omega) (by unfold maxLen; omega) (Nat.le_refl _)
      have hR3 := Lib.hid (rd_below hR2 (below_none hG3))
      have hb3 : Below w.heap.size w w3 := hb2.trans ((below_none hG3).mono hz2)
      have hz3 := hG3.size
      clear hR2 hG3
      go_wp2_with fail
      go_loopw [10, 23] (fun o j wr => ∃ m : Nat, m ≤ k ∧ j = .int .i64 m ∧ Hid (wr.ownsRow w2.heap.size 34 5 o m (varCs (RR m n false).1)) ∧ Hid (RdAt wr g q L (RR m n false).2.1 (RR m n false).2.2) ∧ Below w.heap.size w wr ∧ w2.heap.size ≤ wr.heap.size) (fun _ j _ => k - (intOf j).toNat)
      case atStart => exact ⟨0, by omega, rfl, Lib.hid (by rw [HR0.out]; exact hO3), Lib.hid (by rw [HR0.out]; exact hR3.out), hb3, hz3⟩
      case round =>
        obtain ⟨m, hm, rfl, hO, hR, hB, hzz⟩ := hrel
        by_cases hlt : m < k
        · have hRS := HRS.out m
          obtain ⟨Y, hY⟩ : ∃ Y, RR m n false = Y := ⟨_, rfl⟩
          obtain ⟨Z, hZ⟩ : ∃ Z, RR (m + 1) n false = Z := ⟨_, rfl⟩
          rw [hY] at hO hR hRS
          have HZ := Lib.hid hZ
          rw [hZ] at hRS
          clear hY hZ
          obtain ⟨y, ny, by'⟩ := Y
          dsimp only at hO hR hRS
          obtain ⟨T, hT⟩ : ∃ T, rVar L ny by' = T := ⟨_, rfl⟩
          have HB1 := Lib.hid (HBk.out g q ny by' wr hR.out (by omega))
          rw [hT] at HB1 hRS
          clear hT
          obtain ⟨x, nx, bx⟩ := T
          dsimp only at HB1 hRS
          have HRS2 := Lib.hid hRS
          clear hRS HN HX HRL HBk
          go_wp2_with fail
          refine HB1.out.mono ?_; rintro e w4 ⟨rfl, hR4, hG4⟩
          unfold varV
          have hB4 := grownBelow hB hG4 hg hB.size
          have hO4 := Lib.hid (owns_grown hO.out hG4 (fun gg hgg h => by have := (owns_lt hO.out hgg).1; have : g = gg := by simpa using h
                                                                         omega))
          have hz4 := hG4.size
          have hR4 := Lib.hid hR4
          have ze : (w4.alloc (.cells #[.string ⟨x.name.toArray⟩, .int .i64 x.t, .int .i64 x.n, .int .i64 x.area, .int .i64 x.init] 34)).heap.size = w4.heap.size + 1 := by simp
          have hR5 := Lib.hid (rd_below hR4.out ((Below.refl _ _).alloc (Nat.le_refl _) (.cells #[.string ⟨x.name.toArray⟩, .int .i64 x.t, .int .i64 x.n, .int .i64 x.area, .int .i64 x.init] 34)))
          have hO5 := Lib.hid (owns_below hO4.out ((Below.refl _ _).alloc (Nat.le_refl _) (.cells #[.string ⟨x.name.toArray⟩, .int .i64 x.t, .int .i64 x.n, .int .i64 x.area, .int .i64 x.init] 34)))
          have hB5 := Lib.hid (hB4.alloc hB4.size (.cells #[.string ⟨x.name.toArray⟩, .int .i64 x.t, .int .i64 x.n, .int .i64 x.area, .int .i64 x.init] 34))
          clear hG4
          go_wp2_with (first | (at_builtin; go_loud (refine wpList_append_src rfl (.tmp 25) (.tmp 29) 32 rfl w2.heap.size 34 i (.agg #[.string ⟨#[]⟩, .int .i64 0, .int .i64 0, .int .i64 0, .int .i64 0]) 5 48 Try.underlying32 hi hz hsize hby rfl (by omega) _ m _ rfl hO5.out _ 1 [.string ⟨x.name.toArray⟩, .int .i64 x.t, .int .i64 x.n, .int .i64 x.area, .int .i64 x.init] rfl (src_new _ _ _) rfl (by intro u hu; simp at hu; rcases hu with rfl | rfl | rfl | rfl | rfl <;> rfl) (by unfold maxLen; omega) (by omega) (by first | omega | (simp; omega)) ?_; intro v3 w3' hO6 hG6; have HO6 := Lib.hid hO6; have hR6 := Lib.hid (rd_stay hR5.out (hG6.block g (rd_lt hR5.out) (fun h => by have := (owns_lt hO5.out h.symm).1; omega)) (fun hql => hG6.block q hql (fun h => by have := (owns_lt hO5.out h.symm).1; omega))); have hB6 := grown3 (hB5.out) (hB5.out.size) (own_low hO5.out hz2) hG6; have hz6 := hG6.size; clear hO6 hG6)) | fail)
          go_roundw
          case rel => exact ⟨m + 1, by omega, by simp, Lib.hid (by rw [HZ.out, HRS2.out, varCs_snoc]; exact HO6.out), Lib.hid (by rw [HZ.out, HRS2.out]; exact hR6.out), hB6, by omega⟩
          case measure => first | (simp [intOf]; done) | (simp [intOf]; omega)
        · obtain rfl : m = k := by omega
          obtain ⟨Y, hY⟩ : ∃ Y, RR m n false = Y := ⟨_, rfl⟩
          rw [hY] at hO hR HX
          obtain ⟨y, ny, by'⟩ := Y
          have hyl := HRL.out m n false
          rw [hY] at hyl
          dsimp only at hO hR HX hyl
          have HY := Lib.hid hyl
          clear hY hyl
          go_wp2_with fail
          refine (reader_Bad _ _ _ _ _ _ hR.out).mono ?_; rintro e w' ⟨rfl, rfl⟩
          cases by'
          · have HX2 := Lib.hid (show X = if 0 < leftOf L ny false then ([], 4) else (y, 0) by rw [HX.out, if_neg (by simp)])
            have HLeft := Lib.hid (reader_Left g q L ny false _ hR.out)
            generalize leftOf L ny false = lf at HX2 HLeft
            by_cases hlf : 0 < lf
            · have q2 : (0 < lf) = True := eq_true hlf
              have HX3 := Lib.hid (show X = ([], 4) by rw [HX2.out, if_pos hlf])
              clear HX HX2
              go_wp2_with fail
              refine HLeft.out.mono ?_; rintro e w' ⟨rfl, md, rfl⟩
              go_wp2_with fail
              go_returns
              exact ⟨_, by rw [HX3.out]; rfl, by rw [HX3.out]; exact ownsRow_none' _ _ _ _, below_drewN hB md⟩
            · have q2 : (0 < lf) = False := eq_false hlf
              have HX3 := Lib.hid (show X = (y, 0) by rw [HX2.out, if_neg hlf])
              clear HX HX2
              go_wp2_with fail
              refine HLeft.out.mono ?_; rintro e w' ⟨rfl, md, rfl⟩
              go_wp2_with fail
              go_returns
              exact ⟨_, by rw [HX3.out]; rfl, by rw [HX3.out, HY.out]; exact own_low hO.out hz2, below_drewN hB md⟩
          · have HX2 := Lib.hid (show X = ([], 1) by rw [HX.out, if_pos rfl])
            clear HX
            go_wp2_with fail
            go_returns
            exact ⟨_, by rw [HX2.out]; rfl, by rw [HX2.out]; exact ownsRow_none' _ _ _ _, hB⟩
    · have q0 : (64 < (k : Int)) = True := eq_true (by omega)
      rw [if_neg (by simp), if_pos (by omega)]
      go_enter Try.func39, Try.ntmps39
      go_wp2_with fail
      refine (rd_New v L _ hv (by omega)).mono ?_; rintro e w1 ⟨g, q, rfl, hR, hg, ⟨hq, hqg⟩, hb⟩
      have z1 := hb.size
      go_wp2_with fail
      refine (HN.out _ _ _ hR).mono ?_; rintro e w2 ⟨rfl, hR2, hG2⟩
      have hb2 := grownBelow hb hG2 hg z1
      clear hR hG2
      go_wp2_with fail
      refine (reader_Bad _ _ _ _ _ _ hR2).mono ?_; rintro e w' ⟨rfl, rfl⟩
      go_wp2_with fail
      go_returns
      exact ⟨_, rfl, ownsRow_none' _ _ _ _, hb2⟩
  · rw [if_pos rfl]
    go_enter Try.func39, Try.ntmps39
    go_wp2_with fail
    refine (rd_New v L _ hv (by omega)).mono ?_; rintro e w1 ⟨g, q, rfl, hR, hg, ⟨hq, hqg⟩, hb⟩
    have z1 := hb.size
    go_wp2_with fail
    refine (HN.out _ _ _ hR).mono ?_; rintro e w2 ⟨rfl, hR2, hG2⟩
    have hb2 := grownBelow hb hG2 hg z1
    clear hR hG2
    go_wp2_with fail
    refine (reader_Bad _ _ _ _ _ _ hR2).mono ?_; rintro e w' ⟨rfl, rfl⟩
    go_wp2_with fail
    go_returns
    exact ⟨_, rfl, ownsRow_none' _ _ _ _, hb2⟩
/-- what reading a table tells -/
def GetsV (w : World) (L : List UInt8) (e : Ending) (w' : World) : Prop :=
  ∃ r, e = .returned (.tuple #[r, .int .i64 (getR (rVar L) 64 L).2]) ∧ w'.ownsRow w.heap.size 34 5 r (getR (rVar L) 64 L).1.length (varCs (getR (rVar L) 64 L).1) ∧ Below w.heap.size w w'
theorem rf_set {w : World} {g q : Nat} {L : List UInt8} {n : Nat} {bad : Bool} (h : RfAt w g q L n bad) (p : Addr) (v : Value) (hg : g ≠ p.block) (hq : q ≠ p.block) : RfAt (w.setCell p v) g q L n bad :=
  rf_stay h (by simp [World.setCell]) (Below.heap_setCell _ _ _ _ hg) (fun _ => Below.heap_setCell _ _ _ _ hq)
set_option maxHeartbeats 4000000 in
theorem ref14_GetVars (v : Value) (L : List UInt8) (w : World) (hv : RowAt w v L.length (byteV L)) (hL : L.length ≤ 1000000) :
    Calls Try.prog 15 #[v] w (GetsV w L) := by
  obtain ⟨i, hi, hz, hsize, hby⟩ : ∃ i, Try.prog.info? 34 = some i ∧ i.zero = some (.agg #[.string ⟨#[]⟩, .int .i64 0, .int .i64 0, .int .i64 0, .int .i64 0]) ∧ i.size = 5 ∧ i.bytes = 48 := ⟨(Try.prog.info? 34).get!, by kernel_rfl, by kernel_rfl, by kernel_rfl, by kernel_rfl⟩
  have HRows := Lib.hid (ref14_Rows v L 64 w hv hL)
  unfold GetsV getR
  unfold rowsN at HRows
  have hpos : (rNum L 2 0 false).2.2 = false → 0 < L.length := by
    intro h
    have := (rNum_forth h).1
    omega
  obtain ⟨A, hA⟩ : ∃ A, rNum L 2 0 false = A := ⟨_, rfl⟩
  obtain ⟨k, hk⟩ := rNum2_fit L 0 false
  rw [hA] at HRows hk hpos ⊢
  obtain ⟨c, n, b⟩ := A
  dsimp only at HRows hk hpos ⊢
  subst hk
  rw [Int.toNat_natCast]
  clear hA hv
  cases b
  · by_cases hlim : k ≤ 64
    · rw [if_neg (by simp), if_neg (by omega)] at HRows
      rw [if_neg (by simp), if_neg (by omega)]
      obtain ⟨X, hX⟩ : ∃ X : List Vr × Int, X = (if (rRows (rVar L) k n false).2.2 = true then ([], 1) else if 0 < leftOf L (rRows (rVar L) k n false).2.1 (rRows (rVar L) k n false).2.2 then ([], 4) else ((rRows (rVar L) k n false).1, 0)) := ⟨_, rfl⟩
      rw [← hX]
      have HX := Lib.hid hX
      have hrl := rRows_len (rVar L)
      have HRL := Lib.hid hrl
      have HRS := Lib.hid (show ∀ m, rRows (rVar L) (m + 1) n false = ((rRows (rVar L) m n false).1 ++ [(rVar L (rRows (rVar L) m n false).2.1 (rRows (rVar L) m n false).2.2).1], (rVar L (rRows (rVar L) m n false).2.1 (rRows (rVar L) m n false).2.2).2) from fun m => rfl)
      have HR0 := Lib.hid (show rRows (rVar L) 0 n false = ([], n, false) from rfl)
      generalize rRows (rVar L) = RR at HX HRL HRS HR0
      have HT := Lib.hid (fun g q n b W hW => rf_Text g q L n b W hW)
      have HN := Lib.hid (fun g q n b W hW => rf_Num g q L n 1 b 1 W hW (by decide) (by omega))
      have HM := Lib.hid (fun g q n b W hW => rf_Num g q L n 8 b 8 W hW (by decide) (by omega))
      clear hX hrl
      have hp := hpos rfl
      go_enter Try.func15, Try.ntmps15
      go_wp2_with fail
      refine HRows.out.mono ?_; rintro e w2 ⟨g, q, rfl, hR, hq, hg, hb2⟩
      have hz2 := hb2.size
      have hq := hq hp
      have hgl := (rf_here hR).2.2
      have hR := Lib.hid hR
      clear HRows
      go_wp2_with fail
      go_loopw [7, 8, 9] (fun o j nm wr => ∃ m : Nat, m ≤ k ∧ j = .int .i64 m ∧ Hid (wr.ownsRow w2.heap.size 34 5 o m (varCs (RR m n false).1)) ∧ Hid (RfAt wr g q L (RR m n false).2.1 (RR m n false).2.2) ∧ Below w.heap.size w wr ∧ w2.heap.size ≤ wr.heap.size) (fun _ j _ _ => k - (intOf j).toNat)
      case atStart => exact ⟨0, by omega, rfl, Lib.hid (by rw [HR0.out]; exact ownsRow_none' _ _ _ _), Lib.hid (by rw [HR0.out]; exact hR.out), hb2, Nat.le_refl _⟩
      case round =>
        obtain ⟨m, hm, rfl, hO, hR, hB, hzz⟩ := hrel
        by_cases hlt : m < k
        · have hRS := HRS.out m
          obtain ⟨Y, hY⟩ : ∃ Y, RR m n false = Y := ⟨_, rfl⟩
          obtain ⟨Z, hZ⟩ : ∃ Z, RR (m + 1) n false = Z := ⟨_, rfl⟩
          rw [hY] at hO hR hRS
          have HZ := Lib.hid hZ
          rw [hZ] at hRS
          clear hY hZ
          obtain ⟨y, ny, by'⟩ := Y
          dsimp only at hO hR hRS
          unfold rVar rV5 rV4 rV3 rV2 rV1 at hRS
          obtain ⟨T, hT⟩ : ∃ T, rText L ny by' = T := ⟨_, rfl⟩
          have HT1 := Lib.hid (fun W hW => HT.out g q ny by' W hW)
          rw [hT] at HT1 hRS
          clear hT
          obtain ⟨s, n0, b0⟩ := T
          dsimp only at HT1 hRS
          obtain ⟨U, hU⟩ : ∃ U, rNum L 1 n0 b0 = U := ⟨_, rfl⟩
          have H1 := Lib.hid (fun W hW => HN.out g q n0 b0 W hW)
          rw [hU] at H1 hRS
          clear hU
          obtain ⟨c1, n1, b1⟩ := U
          dsimp only at H1 hRS
          obtain ⟨U, hU⟩ : ∃ U, rNum L 1 n1 b1 = U := ⟨_, rfl⟩
          have H2 := Lib.hid (fun W hW => HN.out g q n1 b1 W hW)
          rw [hU] at H2 hRS
          clear hU
          obtain ⟨c2, n2, b2⟩ := U
          dsimp only at H2 hRS
          obtain ⟨U, hU⟩ : ∃ U, rNum L 1 n2 b2 = U := ⟨_, rfl⟩
          have H3 := Lib.hid (fun W hW => HN.out g q n2 b2 W hW)
          rw [hU] at H3 hRS
          clear hU
          obtain ⟨c3, n3, b3⟩ := U
          dsimp only at H3 hRS
          obtain ⟨U, hU⟩ : ∃ U, rNum L 8 n3 b3 = U := ⟨_, rfl⟩
          have H4 := Lib.hid (fun W hW => HM.out g q n3 b3 W hW)
          rw [hU] at H4 hRS
          clear hU
          obtain ⟨c4, n4, b4⟩ := U
          dsimp only at H4 hRS
          have HRS2 := Lib.hid hRS
          clear hRS HN HM HX HRL HT
          have hne := own_ne hO.out (Nat.le_refl _)
          have hgr := (rf_here hR.out).2.2
          have hqr : q < wr.heap.size := by omega
          have x0 : (wr.alloc (.cells #[.string ⟨#[]⟩, .int .i64 0, .int .i64 0, .int .i64 0, .int .i64 0] 34)).heap[wr.heap.size]? = some (.cells #[.string ⟨#[]⟩, .int .i64 0, .int .i64 0, .int .i64 0, .int .i64 0] 34 (0, 0)) := heap_alloc_new wr _
          have hBc : Below wr.heap.size wr (wr.alloc (.cells #[.string ⟨#[]⟩, .int .i64 0, .int .i64 0, .int .i64 0, .int .i64 0] 34)) := ((Below.refl wr.heap.size wr).alloc (Nat.le_refl _) _)
          have hRc : RfAt (wr.alloc (.cells #[.string ⟨#[]⟩, .int .i64 0, .int .i64 0, .int .i64 0, .int .i64 0] 34)) g q L ny by' := (rf_below hR.out ((Below.refl _ _).alloc (Nat.le_refl _) _))
          have hOc := Lib.hid (owns_below hO.out hBc)
          have zc : (wr.alloc (.cells #[.string ⟨#[]⟩, .int .i64 0, .int .i64 0, .int .i64 0, .int .i64 0] 34)).heap.size = wr.heap.size + 1 := by simp [World.setCell]
          obtain ⟨W0, hW0⟩ : ∃ W0, W0 = (wr.alloc (.cells #[.string ⟨#[]⟩, .int .i64 0, .int .i64 0, .int .i64 0, .int .i64 0] 34)) := ⟨_, rfl⟩
          rw [← hW0] at hBc hRc hOc zc x0
          have HC := Lib.hid (And.intro (HT1.out _ hRc) x0)
          have HW := Lib.hid hW0
          have HBc := Lib.hid hBc
          clear x0 hRc HT1 hW0 hBc
          go_wp2_with fail
          rw [← HW.out]
          obtain ⟨HT2, e0⟩ := HC.out
          clear HC
          refine HT2.mono ?_; rintro e w1' ⟨rfl, hR1, hG1⟩
          have hB1 := grownBelow (hB.trans (HBc.out.mono hB.size)) hG1 hg (by omega)
          have hO1 := Lib.hid (owns_grown hOc.out hG1 (fun gg hgg h => (by have h1 := (owns_lt hOc.out hgg).1; have h2 : g = gg := (by simpa using h); omega)))
          have e1 := (hG1.block wr.heap.size (by omega) (by simp; omega)).trans e0
          have z1 : wr.heap.size + 1 ≤ w1'.heap.size := by have := hG1.size; omega
          have cA := cell_of e1 0 (v := .string ⟨#[]⟩) rfl
          have fA := free_of e1 0
          have HX := Lib.hid (And.intro hR1 e1)
          clear hG1 hR1 e1 e0 HT2
          go_wp2_with fail
          obtain ⟨hR1, e1⟩ := HX.out
          clear HX cA fA
          have k1 := set_at0 e1 0 (.string ⟨s.toArray⟩) #[.string ⟨s.toArray⟩, .int .i64 0, .int .i64 0, .int .i64 0, .int .i64 0] rfl
          have zs : (w1'.setCell ⟨wr.heap.size, 0, none⟩ (.string ⟨s.toArray⟩)).heap.size = w1'.heap.size := by simp [World.setCell]
          have hOs := owns_set (g := wr.heap.size) (o := 0) (x := .string ⟨s.toArray⟩) hO1.out hne
          have hBs := Below.setCell hB1 (p := ⟨wr.heap.size, 0, none⟩) hB.size (.string ⟨s.toArray⟩)
          refine (H1.out _ (rf_set hR1 ⟨wr.heap.size, 0, none⟩ (.string ⟨s.toArray⟩) (by simp; omega) (by simp; omega))).mono ?_; rintro e w2' ⟨rfl, hR2, hG2⟩
          have hB2 := grownBelow hBs hG2 hg (by omega)
          have hO2 := Lib.hid (owns_grown hOs hG2 (fun gg hgg h => (by have h1 := (owns_lt hOs hgg).1; have h2 : g = gg := (by simpa using h); omega)))
          have e2 := (hG2.block wr.heap.size (by omega) (by simp; omega)).trans k1
          have z2 : wr.heap.size + 1 ≤ w2'.heap.size := by have := hG2.size; omega
          have cA := cell_of e2 1 (v := .int .i64 0) rfl
          have fA := free_of e2 1
          have HX := Lib.hid (And.intro hR2 e2)
          clear hG2 hR1 hR2 e1 e2 k1 zs hOs hBs H1
          go_wp2_with fail
          obtain ⟨hR1, e1⟩ := HX.out
          clear HX cA fA
          have k1 := set_at0 e1 1 (.int .i64 c1) #[.string ⟨s.toArray⟩, .int .i64 c1, .int .i64 0, .int .i64 0, .int .i64 0] rfl
          have zs : (w2'.setCell ⟨wr.heap.size, 1, none⟩ (.int .i64 c1)).heap.size = w2'.heap.size := by simp [World.setCell]
          have hOs := owns_set (g := wr.heap.size) (o := 1) (x := .int .i64 c1) hO2.out hne
          have hBs := Below.setCell hB2 (p := ⟨wr.heap.size, 1, none⟩) hB.size (.int .i64 c1)
          refine (H2.out _ (rf_set hR1 ⟨wr.heap.size, 1, none⟩ (.int .i64 c1) (by simp; omega) (by simp; omega))).mono ?_; rintro e w3' ⟨rfl, hR2, hG2⟩
          have hB3 := grownBelow hBs hG2 hg (by omega)
          have hO3 := Lib.hid (owns_grown hOs hG2 (fun gg hgg h => (by have h1 := (owns_lt hOs hgg).1; have h2 : g = gg := (by simpa using h); omega)))
          have e2 := (hG2.block wr.heap.size (by omega) (by simp; omega)).trans k1
          have z3 : wr.heap.size + 1 ≤ w3'.heap.size := by have := hG2.size; omega
          have cA := cell_of e2 2 (v := .int .i64 0) rfl
          have fA := free_of e2 2
          have HX := Lib.hid (And.intro hR2 e2)
          clear hG2 hR1 hR2 e1 e2 k1 zs hOs hBs H2
          go_wp2_with fail
          obtain ⟨hR1, e1⟩ := HX.out
          clear HX cA fA
          have k1 := set_at0 e1 2 (.int .i64 c2) #[.string ⟨s.toArray⟩, .int .i64 c1, .int .i64 c2, .int .i64 0, .int .i64 0] rfl
          have zs : (w3'.setCell ⟨wr.heap.size, 2, none⟩ (.int .i64 c2)).heap.size = w3'.heap.size := by simp [World.setCell]
          have hOs := owns_set (g := wr.heap.size) (o := 2) (x := .int .i64 c2) hO3.out hne
          have hBs := Below.setCell hB3 (p := ⟨wr.heap.size, 2, none⟩) hB.size (.int .i64 c2)
          refine (H3.out _ (rf_set hR1 ⟨wr.heap.size, 2, none⟩ (.int .i64 c2) (by simp; omega) (by simp; omega))).mono ?_; rintro e w4' ⟨rfl, hR2, hG2⟩
          have hB4 := grownBelow hBs hG2 hg (by omega)
          have hO4 := Lib.hid (owns_grown hOs hG2 (fun gg hgg h => (by have h1 := (owns_lt hOs hgg).1; have h2 : g = gg := (by simpa using h); omega)))
          have e2 := (hG2.block wr.heap.size (by omega) (by simp; omega)).trans k1
          have z4 : wr.heap.size + 1 ≤ w4'.heap.size := by have := hG2.size; omega
          have cA := cell_of e2 3 (v := .int .i64 0) rfl
          have fA := free_of e2 3
          have HX := Lib.hid (And.intro hR2 e2)
          clear hG2 hR1 hR2 e1 e2 k1 zs hOs hBs H3
          go_wp2_with fail
          obtain ⟨hR1, e1⟩ := HX.out
          clear HX cA fA
          have k1 := set_at0 e1 3 (.int .i64 c3) #[.string ⟨s.toArray⟩, .int .i64 c1, .int .i64 c2, .int .i64 c3, .int .i64 0] rfl
          have zs : (w4'.setCell ⟨wr.heap.size, 3, none⟩ (.int .i64 c3)).heap.size = w4'.heap.size := by simp [World.setCell]
          have hOs := owns_set (g := wr.heap.size) (o := 3) (x := .int .i64 c3) hO4.out hne
          have hBs := Below.setCell hB4 (p := ⟨wr.heap.size, 3, none⟩) hB.size (.int .i64 c3)
          refine (H4.out _ (rf_set hR1 ⟨wr.heap.size, 3, none⟩ (.int .i64 c3) (by simp; omega) (by simp; omega))).mono ?_; rintro e w5' ⟨rfl, hR2, hG2⟩
          have hB5 := grownBelow hBs hG2 hg (by omega)
          have hO5 := Lib.hid (owns_grown hOs hG2 (fun gg hgg h => (by have h1 := (owns_lt hOs hgg).1; have h2 : g = gg := (by simpa using h); omega)))
          have e2 := (hG2.block wr.heap.size (by omega) (by simp; omega)).trans k1
          have z5 : wr.heap.size + 1 ≤ w5'.heap.size := by have := hG2.size; omega
          have fB := free_of e2 4
          have d0 := cell_of e2 0 (v := .string ⟨s.toArray⟩) rfl
          have d1 := cell_of e2 1 (v := .int .i64 c1) rfl
          have d2 := cell_of e2 2 (v := .int .i64 c2) rfl
          have d3 := cell_of e2 3 (v := .int .i64 c3) rfl
          have d4 := cell_of e2 4 (v := .int .i64 0) rfl
          have hO6 := Lib.hid (owns_below (owns_set (g := wr.heap.size) (o := 4) (x := .int .i64 c4) hO5.out hne) ((Below.refl _ _).alloc (Nat.le_refl _) (.cells #[.string ⟨s.toArray⟩, .int .i64 c1, .int .i64 c2, .int .i64 c3, .int .i64 c4] 34)))
          have hR6 := Lib.hid (rf_below (rf_set hR2 ⟨wr.heap.size, 4, none⟩ (.int .i64 c4) (by simp; omega) (by simp; omega)) ((Below.refl _ _).alloc (Nat.le_refl _) (.cells #[.string ⟨s.toArray⟩, .int .i64 c1, .int .i64 c2, .int .i64 c3, .int .i64 c4] 34)))
          have hB6 := Lib.hid ((Below.setCell hB5 (p := ⟨wr.heap.size, 4, none⟩) hB.size (.int .i64 c4)).alloc (by have := hB5.size; simp [World.setCell]; exact this) (.cells #[.string ⟨s.toArray⟩, .int .i64 c1, .int .i64 c2, .int .i64 c3, .int .i64 c4] 34))
          have HS6 := Lib.hid (show Src ((w5'.setCell ⟨wr.heap.size, 4, none⟩ (.int .i64 c4)).alloc (.cells #[.string ⟨s.toArray⟩, .int .i64 c1, .int .i64 c2, .int .i64 c3, .int .i64 c4] 34)) (.slice (some ⟨w5'.heap.size, 0, none⟩) 1 1) 1 [.string ⟨s.toArray⟩, .int .i64 c1, .int .i64 c2, .int .i64 c3, .int .i64 c4] by
            have h := src_new (w5'.setCell ⟨wr.heap.size, 4, none⟩ (.int .i64 c4)) [.string ⟨s.toArray⟩, .int .i64 c1, .int .i64 c2, .int .i64 c3, .int .i64 c4] 34
            rw [show (w5'.setCell ⟨wr.heap.size, 4, none⟩ (.int .i64 c4)).heap.size = w5'.heap.size by simp [World.setCell]] at h
            exact h)
          clear hG2 hR1 hR2 e1 e2 k1 zs hOs hBs H4
          go_wp2_with (first | (at_builtin; go_loud (refine wpList_append_src rfl (.tmp 37) (.tmp 39) 32 rfl w2.heap.size 34 i (.agg #[.string ⟨#[]⟩, .int .i64 0, .int .i64 0, .int .i64 0, .int .i64 0]) 5 48 Try.underlying32 hi hz hsize hby rfl (by omega) _ m _ rfl hO6.out _ 1 [.string ⟨s.toArray⟩, .int .i64 c1, .int .i64 c2, .int .i64 c3, .int .i64 c4] rfl HS6.out rfl (by intro u hu; simp at hu; rcases hu with rfl | rfl | rfl | rfl | rfl <;> rfl) (by unfold maxLen; omega) (by omega) (by first | omega | (simp [World.setCell]; omega)) ?_; intro v3 w3' hO7 hG7; have HO7 := Lib.hid hO7; have hR7 := Lib.hid (rf_grown hR6.out hG7 (fun h => by have := (owns_lt hO6.out h.symm).1; omega) (fun h => by have := (owns_lt hO6.out h.symm).1; omega)); have hB7 := grown3 (hB6.out) (hB6.out.size) (own_low hO6.out hz2) hG7; have hz7 := hG7.size; clear hO7 hG7)) | fail)
          go_roundw
          case rel => exact ⟨m + 1, by omega, by simp, Lib.hid (by rw [HZ.out, HRS2.out, varCs_snoc]; exact HO7.out), Lib.hid (by rw [HZ.out, HRS2.out]; exact hR7.out), hB7, by first | omega | (simp [World.setCell] at hz7; omega)⟩
          case measure => first | (simp [intOf]; done) | (simp [intOf]; omega)
        · obtain rfl : m = k := by omega
          obtain ⟨Y, hY⟩ : ∃ Y, RR m n false = Y := ⟨_, rfl⟩
          rw [hY] at hO hR HX
          obtain ⟨y, ny, by'⟩ := Y
          have hyl := HRL.out m n false
          rw [hY] at hyl
          dsimp only at hO hR HX hyl
          have HY := Lib.hid hyl
          clear hY hyl
          have HE := Lib.hid (ref14_End g q L ny by' _ hR.out)
          unfold endE at HE
          have HX1 := Lib.hid (show X.2 = (if by' = true then 1 else if 0 < leftOf L ny by' then 4 else 0) ∧ (X.2 = 0 → X.1 = y) ∧ (X.2 ≠ 0 → X.1 = []) by
            rw [HX.out]
            split
            · exact ⟨rfl, fun h => by simp at h, fun _ => rfl⟩
            · split
              · exact ⟨rfl, fun h => by simp at h, fun _ => rfl⟩
              · exact ⟨rfl, fun _ => rfl, fun h => by simp at h⟩)
          rw [← HX1.out.1] at HE
          clear HX
          by_cases hx0 : X.2 = 0
          · have HX3 := Lib.hid (HX1.out.2.1 hx0)
            have HX4 := Lib.hid hx0
            rw [hx0] at HE
            clear HX1 hx0
            go_wp2_with fail
            refine HE.out.mono ?_; rintro e w' ⟨rfl, rfl⟩
            go_wp2_with fail
            go_returns
            exact ⟨_, by rw [HX4.out]; rfl, by rw [HX3.out, HY.out]; exact own_low hO.out hz2, hB⟩
          · have HX3 := Lib.hid (HX1.out.2.2 hx0)
            have q3 : X.2 ≠ 0 := hx0
            clear HX1
            generalize hxx : X.2 = xe at *
            go_wp2_with fail
            refine HE.out.mono ?_; rintro e w' ⟨rfl, rfl⟩
            go_wp2_with fail
            go_returns
            exact ⟨_, by rw [hxx]; rfl, by rw [HX3.out]; exact ownsRow_none' _ _ _ _, hB⟩
    · rw [if_neg (by simp), if_pos (by omega)] at HRows
      rw [if_neg (by simp), if_pos (by omega)]
      go_enter Try.func15, Try.ntmps15
      go_wp2_with fail
      refine HRows.out.mono ?_; rintro e w2 ⟨g, q, rfl, hR, hq, hg, hb2⟩
      go_wp2_with fail
      refine wp_loop_rounds 1 ?_
      rw [rounds_succ]
      go_wp2_with fail
      go_returns
      exact ⟨_, rfl, ownsRow_none' _ _ _ _, hb2⟩
  · rw [if_pos rfl] at HRows
    rw [if_pos rfl]
    go_enter Try.func15, Try.ntmps15
    go_wp2_with fail
    refine HRows.out.mono ?_; rintro e w2 ⟨g, q, rfl, hR, hq, hg, hb2⟩
    go_wp2_with fail
    refine wp_loop_rounds 1 ?_
    rw [rounds_succ]
    go_wp2_with fail
    go_returns
    exact ⟨_, rfl, ownsRow_none' _ _ _ _, hb2⟩
theorem tab_GetVars (v : Value) (L : List UInt8) (w : World) (hv : RowAt w v L.length (byteV L)) (hL : L.length ≤ 1000000) :
    Calls Try.prog 14 #[v] w (GetsV w L) := by
  unfold GetsV
  have HP := Lib.hid (tab_get_vars v L w hv hL)
  generalize getR (rVar L) 64 L = X at *
  clear hv
  go_enter Try.func14, Try.ntmps14
  go_wp2_with fail
  refine HP.out.mono ?_; rintro e w1 ⟨r, rfl, h1, h2⟩
  have H1 := Lib.hid h1
  clear h1 HP
  go_wp2_with fail
  go_returns
  exact ⟨r, rfl, H1.out, h2⟩
theorem vars_owned {w : World} {B : Nat} {v : Value} {L : List Vr} (h : w.ownsRow B 34 5 v L.length (varCs L)) (hL : ∀ x ∈ L, sz x.name ∧ I64 x.t ∧ I64 x.n ∧ I64 x.area ∧ I64 x.init) : RowR 5 varR w v L :=
  row_owned (enc := fun x => [.string ⟨x.name.toArray⟩, .int .i64 x.t, .int .i64 x.n, .int .i64 x.area, .int .i64 x.init]) (fun _ => rfl) h (fun x hx => ⟨rfl, hL x hx⟩)
set_option maxHeartbeats 2000000 in
theorem ref14_SameVars (u v : Value) (A : List Vr) (w : World) (hu : RowR 5 varR w u A) (hv : RowR 5 varR w v A) :
    Calls Try.prog 16 #[u, v] w fun e w' => e = .returned (.bool true) ∧ ∃ m, w' = w.drewN m := by
  have hl := hu.len
  obtain ⟨ua, uc, rfl⟩ := row_get hu
  obtain ⟨va, vc, rfl⟩ := row_get hv
  obtain ⟨n, hN⟩ : ∃ n, A.length = n := ⟨_, rfl⟩
  rw [hN] at hu hv hl ⊢
  go_enter Try.func16, Try.ntmps16
  go_wp2_with fail
  go_loopw [5] (fun j wr => ∃ k m : Nat, k ≤ n ∧ j = .int .i64 k ∧ wr = w.drewN m) (fun j _ => n - (intOf j).toNat)
  case atStart => exact ⟨0, 0, by omega, rfl, rfl⟩
  case round =>
    obtain ⟨k, m, hk, rfl, rfl⟩ := hrel
    by_cases hlt : k < n
    · obtain ⟨x, hx⟩ : ∃ x, A[k]? = some x := get_some (by omega)
      obtain ⟨b1, o1, rfl, hb1, hc1⟩ := var_at hu (k := k) (by omega)
      obtain ⟨b2, o2, rfl, hb2, hc2⟩ := var_at hv (k := k) (by omega)
      obtain ⟨c0, c1, c2, c3, c4, _⟩ := hc1 k x hx
      obtain ⟨d0, d1, d2, d3, d4, _⟩ := hc2 k x hx
      clear hc1 hc2 hx
      go_wp2_with fail
      go_quiet (fail)
      go_wp2_with fail
      go_roundw
      case rel => exact ⟨k + 1, _, by omega, by simp, rfl⟩
      case measure => first | (simp [intOf]; done) | (simp [intOf]; omega)
    · obtain rfl : k = n := by omega
      go_wp2_with fail
      go_ret
      exact ⟨rfl, _, rfl⟩
end Go.Proofs.Ytdpcfcflcfjmjaa
