/- stack.put: its answer lies in a new block. -/
import Derived.Test.YtnkmnmlhjanplaaDoorStack
namespace Go.Proofs.YtnkmnmlhjanplaaDoor
open Go.RowKit
set_option linter.unusedSimpArgs false
set_option linter.unusedVariables false
/-- a slice that lies in a block that wasn't there -/
def NewIn (w : World) (r : Value) : Prop := ∀ a n c, r = .slice (some a) n c → w.heap.size ≤ a.block
theorem new_none (w : World) (n c : Nat) : NewIn w (.slice none n c) := fun a n c h => by cases h
theorem new_of {w w' : World} {e : TypeId} {q n : Nat} {v : Value} {xs : List Value} (h : w'.ownsRow w.heap.size e q v n xs) : NewIn w v := by
  intro a m c hv
  rcases h.2 with ⟨h1, _⟩ | ⟨g, cap, cur, h1, hB, _⟩
  · rw [h1] at hv; cases hv
  · rw [h1] at hv; cases hv; exact hB
theorem NewIn.low {w w' : World} {r : Value} (h : NewIn w' r) (hs : w.heap.size ≤ w'.heap.size) : NewIn w r := fun a n c e => Nat.le_trans hs (h a n c e)
set_option maxHeartbeats 2000000 in
theorem stack_putN (v u : Value) (L M : List Int) (w : World) (hv : RowR 1 intR w v L) (hu : RowR 1 intR w u M) (hl : L.length ≤ 2000) (hm : M.length ≤ 2000) :
    Calls Tryd.prog 23 #[v, u] w fun e w' => ∃ r, e = .returned r ∧ RowR 1 intR w' r (L ++ M) ∧ Below w.heap.size w w' ∧ NewIn w r := by
  obtain ⟨i, hi, hz, hsize, hby⟩ : ∃ i, Tryd.prog.info? 3 = some i ∧ i.zero = some (.int .i64 0) ∧ i.size = 1 ∧ i.bytes = 8 := ⟨(Tryd.prog.info? 3).get!, by kernel_rfl, by kernel_rfl, by kernel_rfl, by kernel_rfl⟩
  have HI := Lib.hid (show ∀ z ∈ L ++ M, I64 z from fun z hz => (List.mem_append.1 hz).elim (row_ints hv z) (row_ints hu z))
  have HS1 := Lib.hid (fun W (hb : Below w.heap.size w W) => (src_ints hv).below hb)
  have HS2 := Lib.hid (fun W (hb : Below w.heap.size w W) => (src_ints hu).below hb)
  obtain ⟨sa, ca, rfl⟩ := row_get hv
  obtain ⟨sb, cb, rfl⟩ := row_get hu
  clear hv hu
  obtain ⟨n1, hn1⟩ : ∃ n, L.length = n := ⟨_, rfl⟩
  obtain ⟨n2, hn2⟩ : ∃ n, M.length = n := ⟨_, rfl⟩
  have HN := Lib.hid (show L.length = n1 ∧ M.length = n2 from ⟨hn1, hn2⟩)
  rw [hn1] at hl HS1 ⊢
  rw [hn2] at hm HS2 ⊢
  clear hn1 hn2
  have hmk := fun W => run_make W 36 3 i _ Tryd.underlying36 hi hz .i64 .i64 (0 : Int) ((n1 : Int) + n2) (by omega) (by omega) (by rw [hby]; omega) (by omega)
  rw [hsize, Nat.mul_one, show ((n1 : Int) + n2).toNat = n1 + n2 by omega, show ((0 : Int)).toNat = 0 from rfl] at hmk
  obtain ⟨Z, hZ⟩ : ∃ Z, madeCells (Value.int .i64 0).cells (n1 + n2) = Z := ⟨_, rfl⟩
  have hZs : Z.size = n1 + n2 := by rw [← hZ]; simp [madeCells]
  rw [hZ] at hmk
  clear hZ
  have HE := Lib.hid (owns_made w Z 3 1 (n1 + n2) (by omega) (by unfold maxLen; omega))
  go_enter Tryd.func23, Tryd.ntmps23
  go_wp2_with (first | (at_builtin; go_loud (refine wpList_append_src rfl (.tmp 12) (.tmp 13) 36 rfl w.heap.size 3 i (.int .i64 0) 1 8 Tryd.underlying36 hi hz hsize hby rfl (by omega) _ 0 [] rfl HE.out _ n1 (iV L) rfl (HS1.out _ (by (repeat' (first | (with_reducible exact Below.refl _ _) | (with_reducible assumption) | (with_reducible refine below_drewN ?_ _) | (with_reducible refine Below.alloc ?_ ?_ _) | (with_reducible refine Below.drew ?_) | (with_reducible refine Below.setCell ?_ ?_ _) | go_size)))) (by rw [iV_len, HN.out.1]; omega) (iV_one L) (by unfold maxLen; omega) (by omega) (by simp) ?_; intro v2 w2 hO2 hG2; have hB2 := grown3 (show Below w.heap.size w (w.alloc (.cells Z 3)) from by (repeat' (first | (with_reducible exact Below.refl _ _) | (with_reducible assumption) | (with_reducible refine below_drewN ?_ _) | (with_reducible refine Below.alloc ?_ ?_ _) | (with_reducible refine Below.drew ?_) | (with_reducible refine Below.setCell ?_ ?_ _) | go_size))) (by simp) HE.out hG2; have HO2 := Lib.hid hO2; clear hO2 hG2)) | (at_builtin; go_loud (refine wpList_append_src rfl (.tmp 15) (.tmp 16) 36 rfl w.heap.size 3 i (.int .i64 0) 1 8 Tryd.underlying36 hi hz hsize hby rfl (by omega) _ (0 + n1) _ rfl HO2.out _ n2 (iV M) rfl (HS2.out _ hB2) (by rw [iV_len, HN.out.2]; omega) (iV_one M) (by unfold maxLen; omega) (by omega) hB2.size ?_; intro v3 w3 hO3 hG3; have hB3 := grown3 hB2 hB2.size HO2.out hG3; have HO3 := Lib.hid hO3; clear hO3 hG3)) | fail)
  go_returns
  exact ⟨_, rfl, row_of_owns (own_eq2 HO3.out (by rw [List.length_append, HN.out.1, HN.out.2]; omega) (by rw [iV_app]; rfl)) HI.out, hB3, new_of HO3.out⟩
end Go.Proofs.YtnkmnmlhjanplaaDoor
