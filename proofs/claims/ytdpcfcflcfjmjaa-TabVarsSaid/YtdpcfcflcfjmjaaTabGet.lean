/- Layer 14: one block is read. -/
import Derived.Test.YtdpcfcflcfjmjaaRdBlk
namespace Go.Proofs.Ytdpcfcflcfjmjaa
open Go.RowKit
set_option linter.unusedSimpArgs false
set_option linter.unusedVariables false
theorem rd_stay {w w' : World} {g q : Nat} {L : List UInt8} {n : Nat} {bad : Bool} (h : RdAt w g q L n bad) (hg : w'.heap[g]? = w.heap[g]?) (hq : q < w.heap.size → w'.heap[q]? = w.heap[q]?) : RdAt w' g q L n bad :=
  ⟨hg.trans h.1, h.2.1, h.2.2.1, h.2.2.2.1, fun i hi => by
    have hc := h.2.2.2.2 i hi
    exact (World.cell?_of_block (a := ⟨q, i, none⟩) (hq (World.block_lt_of_cell? w _ hc))).trans hc⟩
theorem rd_lt {w : World} {g q : Nat} {L : List UInt8} {n : Nat} {bad : Bool} (h : RdAt w g q L n bad) : g < w.heap.size := by
  by_cases hg : g < w.heap.size
  · exact hg
  · have := h.1; rw [Array.getElem?_eq_none (by omega)] at this; cases this
theorem grown_set {w w1 : World} {o : Option Nat} (h : w.grownBy w1 o) {p : Addr} (hp : w.heap.size ≤ p.block) (v : Value) : w.grownBy (w1.setCell p v) o :=
  ⟨h.os, h.tape, h.output, by simpa [World.setCell] using h.size, fun k hk hne => (Below.heap_setCell _ _ _ _ (by omega)).trans (h.block k hk hne)⟩
theorem grown_alloc {w w1 : World} {o : Option Nat} (h : w.grownBy w1 o) (x : Obj) : w.grownBy (w1.alloc x) o :=
  ⟨h.os, h.tape, h.output, Nat.le_trans h.size (by simp), fun k hk hne => (Below.heap_alloc _ _ _ (Nat.lt_of_lt_of_le hk h.size)).trans (h.block k hk hne)⟩
theorem rd_set {w : World} {g q : Nat} {L : List UInt8} {n : Nat} {bad : Bool} (h : RdAt w g q L n bad) (p : Addr) (v : Value) (hg : g ≠ p.block) (hq : q ≠ p.block) : RdAt (w.setCell p v) g q L n bad :=
  rd_stay h (Below.heap_setCell _ _ _ _ hg) (fun _ => Below.heap_setCell _ _ _ _ hq)
def blkV (x : Bk) : Value := .agg #[.string ⟨x.name.toArray⟩, .int .i64 x.kind]
theorem tab_GetBlock (g q : Nat) (L : List UInt8) (n : Nat) (bad : Bool) (w : World) (h : RdAt w g q L n bad) (hq : q < w.heap.size) :
    Calls Try.prog 46 #[.pointer (some ⟨g, 0, none⟩)] w fun e w' => e = .returned (blkV (rBlk L n bad).1) ∧ RdAt w' g q L (rBlk L n bad).2.1 (rBlk L n bad).2.2 ∧ w.grownBy w' (some g) := by
  unfold rBlk
  have hgl := rd_lt h
  obtain ⟨A, hA⟩ : ∃ A, rText L n bad = A := ⟨_, rfl⟩
  have HT := Lib.hid (fun W hW => rd_Text g q L n bad W hW)
  rw [hA] at HT ⊢
  clear hA
  obtain ⟨s, n1, b1⟩ := A
  obtain ⟨B, hB⟩ : ∃ B, rNum L 1 n1 b1 = B := ⟨_, rfl⟩
  have HN := Lib.hid (fun W hW => rd_Num g q L n1 1 b1 1 W hW (by decide) (by omega))
  dsimp only
  rw [hB] at HN ⊢
  clear hB
  obtain ⟨c, n2, b2⟩ := B
  dsimp only at HT HN ⊢
  have h0 : RdAt ((w.alloc (.cells #[.string ⟨#[]⟩, .int .i64 0] 42)).alloc (.cells #[.string ⟨#[]⟩, .int .i64 0] 42)) g q L n bad := rd_below (rd_below h ((Below.refl _ _).alloc (Nat.le_refl _) _)) ((Below.refl _ _).alloc (Nat.le_refl _) _)
  have g0 : w.grownBy ((w.alloc (.cells #[.string ⟨#[]⟩, .int .i64 0] 42)).alloc (.cells #[.string ⟨#[]⟩, .int .i64 0] 42)) (some g) := grown_alloc (grown_alloc (World.grownBy.refl _ _) _) _
  have a1 : ((w.alloc (.cells #[.string ⟨#[]⟩, .int .i64 0] 42)).alloc (.cells #[.string ⟨#[]⟩, .int .i64 0] 42)).heap[w.heap.size]? = some (.cells #[.string ⟨#[]⟩, .int .i64 0] 42 (0, 0)) := by
    rw [Below.heap_alloc _ _ _ (by simp)]; exact heap_alloc_new w _
  have a2 : ((w.alloc (.cells #[.string ⟨#[]⟩, .int .i64 0] 42)).alloc (.cells #[.string ⟨#[]⟩, .int .i64 0] 42)).heap[w.heap.size + 1]? = some (.cells #[.string ⟨#[]⟩, .int .i64 0] 42 (0, 0)) := alloc_get (by simp)
  have HT1 := Lib.hid (HT.out _ h0)
  clear HT
  have G0 := Lib.hid (And.intro a1 (And.intro a2 (And.intro h0 g0)))
  clear a1 a2 h0 g0 h
  go_enter Try.func46, Try.ntmps46
  go_wp2_with fail
  refine HT1.out.mono ?_; rintro e w1 ⟨rfl, hR1, hG1⟩
  obtain ⟨W0, hW0⟩ : ∃ W0, W0 = ((w.alloc (.cells #[.string ⟨#[]⟩, .int .i64 0] 42)).alloc (.cells #[.string ⟨#[]⟩, .int .i64 0] 42)) := ⟨_, rfl⟩
  rw [← hW0] at G0 hG1
  obtain ⟨a1, a2, h0, g0⟩ := G0.out
  have z0 : W0.heap.size = w.heap.size + 2 := by rw [hW0]; simp
  have b1' := (hG1.block w.heap.size (by omega) (by simp; omega)).trans a1
  have b2' := (hG1.block (w.heap.size + 1) (by omega) (by simp; omega)).trans a2
  have z1 := hG1.size
  have cA := cell_of b2' 0 rfl
  have fA := free_of b2' 0
  have HX := Lib.hid (And.intro hR1 (And.intro (grown_grown g0 hG1) (And.intro b1' b2')))
  clear hR1 hG1 G0 HT1 a1 a2 h0 g0 b1' b2' hW0
  go_wp2_with fail
  obtain ⟨hR1, hG1, d1, d2⟩ := HX.out
  obtain ⟨k1, k2⟩ := set_at d2 0 (.string ⟨s.toArray⟩) 0
  have hlt1 := rd_lt hR1
  have hR2 : RdAt (w1.setCell ⟨w.heap.size + 1, 0, none⟩ (.string ⟨s.toArray⟩)) g q L n1 b1 := rd_stay hR1 (Below.heap_setCell _ _ _ _ (by simp; omega)) (fun _ => Below.heap_setCell _ _ _ _ (by simp; omega))
  refine (HN.out _ hR2).mono ?_; rintro e w2 ⟨rfl, hR3, hG3⟩
  have hG2 := grown_set hG1 (p := ⟨w.heap.size + 1, 0, none⟩) (by simp) (.string ⟨s.toArray⟩)
  have zs : (w1.setCell ⟨w.heap.size + 1, 0, none⟩ (.string ⟨s.toArray⟩)).heap.size = w1.heap.size := by simp [World.setCell]
  have e1 := (hG3.block w.heap.size (by omega) (by simp; omega)).trans ((Below.heap_setCell _ _ _ _ (by simp)).trans d1)
  have e2 := (hG3.block (w.heap.size + 1) (by omega) (by simp; omega)).trans k1
  have cB := cell_of e2 1 (v := .int .i64 0) rfl
  have cB0 := cell_of e2 0 (v := .string ⟨s.toArray⟩) rfl
  have fB := free_of e2 1
  have c10 := cell_of e1 0 (v := .string ⟨#[]⟩) rfl
  have c11 := cell_of e1 1 (v := .int .i64 0) rfl
  have f10 := free_of e1 0
  have f11 := free_of e1 1
  have z2 := hG3.size
  have hG4 := grown_grown hG2 hG3
  have hlt2 := rd_lt hR3
  have e4 : (w2.setCell ⟨w.heap.size + 1, 1, none⟩ (.int .i64 c)).heap[w.heap.size]? = some (.cells #[.string ⟨#[]⟩, .int .i64 0] 42 (0, 0)) := (Below.heap_setCell _ _ _ _ (by simp)).trans e1
  obtain ⟨m1, m2⟩ := set_at e4 0 (.string ⟨s.toArray⟩) 0
  obtain ⟨n1', n2'⟩ := set_at m1 1 (.int .i64 c) 0
  have r0 := cell_of n1' 0 (v := .string ⟨s.toArray⟩) rfl
  have r1 := cell_of n1' 1 (v := .int .i64 c) rfl
  have H3 := Lib.hid (And.intro hR3 (And.intro hG4 (And.intro r0 r1)))
  clear HN HX hR1 hG1 d1 d2 k1 k2 hR2 hG2 hR3 hG3 hG4 e1 e2 cA fA e4 m1 m2 n1' n2' r0 r1
  go_wp2_with fail
  obtain ⟨hR3, hG4, r0, r1⟩ := H3.out
  obtain ⟨W4, hW4⟩ : ∃ W4, W4 = ((w2.setCell ⟨w.heap.size + 1, 1, none⟩ (.int .i64 c)).setCell ⟨w.heap.size, 0, none⟩ (.string ⟨s.toArray⟩)).setCell ⟨w.heap.size, 1, none⟩ (.int .i64 c) := ⟨_, rfl⟩
  have r0 : W4.cell? ⟨w.heap.size, 0, none⟩ = some (.string ⟨s.toArray⟩) := by rw [hW4]; exact r0
  have r1 : W4.cell? ⟨w.heap.size, 1, none⟩ = some (.int .i64 c) := by rw [hW4]; exact r1
  rw [← hW4]
  refine bodyPost_ret (by simp [results, Try.results46, go_sem, r0, r1]; rfl) rfl ?_
  rw [hW4]
  exact ⟨rfl, rd_set (rd_set (rd_set hR3 _ _ (by simp; omega) (by simp; omega)) _ _ (by simp; omega) (by simp; omega)) _ _ (by simp; omega) (by simp; omega), grown_set (grown_set (grown_set hG4 (by simp) _) (by simp) _) (by simp) _⟩
end Go.Proofs.Ytdpcfcflcfjmjaa
