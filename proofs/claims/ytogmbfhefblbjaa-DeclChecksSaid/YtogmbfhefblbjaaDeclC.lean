/- Layer 17: tables. -/
import Derived.Test.YtogmbfhefblbjaaDeclB
namespace Go.Proofs.Ytogmbfhefblbjaa
open Go.RowKit
set_option linter.unusedSimpArgs false
set_option linter.unusedVariables false
theorem tables_1 (p q : Nat) (a b : Option Addr) (n m c d : Nat) (w : World) (h1 : w.cell? ⟨p, 0, none⟩ = some (.slice a n c)) (h2 : w.cell? ⟨q, 0, none⟩ = some (.slice b m d)) :
    Calls Try.prog 19 #[.pointer (some ⟨p, 0, none⟩), .pointer (some ⟨q, 0, none⟩)] w fun e w' => e = .returned (.int .i64 (unlessE (decide (n ≤ 64) && decide (m ≤ 32)) 5)) ∧ Below w.heap.size w w' := by
  go_enter Try.func19, Try.ntmps19
  go_wp2_with fail
  refine (decl_few _ _ _ _ _ _ _).mono ?_; rintro e w1 ⟨rfl, rfl⟩
  go_wp2_with fail
  refine (decl_unless _ _ _).mono ?_; rintro e w1 ⟨rfl, rfl⟩
  go_wp2_with fail
  go_ret
  exact ⟨rfl, Below.refl _ _⟩
theorem first_cons0 (z : Int) (l : List Int) (h : z = 0) : firstE (z :: l) = firstE l := by subst h; rfl
theorem first_cons1 (z : Int) (l : List Int) (h : z ≠ 0) : firstE (z :: l) = z := by
  unfold firstE
  rw [List.find?_cons_of_pos (by simpa using h)]
  rfl
theorem unless_yes {b : Bool} {z : Int} (h : b = true) : unlessE b z = 0 := by subst h; rfl
theorem unless_no {b : Bool} {z : Int} (h : b = false) : unlessE b z = z := by subst h; rfl
theorem all_yes {b : Bool} (h : b = true) : allE b = 0 := by subst h; rfl
theorem all_no {b : Bool} (h : b = false) : allE b = 10 := by subst h; rfl
theorem tables_first (V : List Vr) (B : List Bk) : firstE [unlessE (decide (V.length ≤ 64) && decide (B.length ≤ 32)) 5, allE (V.all goodV), allE (B.all goodB)] = tablesE V B := by
  unfold tablesE
  by_cases h1 : V.length ≤ 64 ∧ B.length ≤ 32
  · rw [if_neg (by omega), first_cons0 _ _ (unless_yes (by simp; exact h1))]
    cases V.all goodV <;> cases B.all goodB <;> rfl
  · rw [if_pos (by omega), first_cons1 _ _ (by rw [unless_no (by simp; omega)]; decide), unless_no (by simp; omega)]
theorem asks3 {w : World} {f1 f2 f3 : Fun} {e1 e2 e3 : Int} (h1 : Asks w f1 e1) (h2 : Asks w f2 e2) (h3 : Asks w f3 e3) : ∀ (i : Nat) (f : Fun) (e : Int), [f1, f2, f3][i]? = some f → [e1, e2, e3][i]? = some e → Asks w f e
  | 0, f, e, hf, he => by cases hf; cases he; exact h1
  | 1, f, e, hf, he => by cases hf; cases he; exact h2
  | 2, f, e, hf, he => by cases hf; cases he; exact h3
  | (_ + 3), f, e, hf, he => by simp at hf
theorem asks5 {w : World} {f1 f2 f3 f4 f5 : Fun} {e1 e2 e3 e4 e5 : Int} (h1 : Asks w f1 e1) (h2 : Asks w f2 e2) (h3 : Asks w f3 e3) (h4 : Asks w f4 e4) (h5 : Asks w f5 e5) : ∀ (i : Nat) (f : Fun) (e : Int), [f1, f2, f3, f4, f5][i]? = some f → [e1, e2, e3, e4, e5][i]? = some e → Asks w f e
  | 0, f, e, hf, he => by cases hf; cases he; exact h1
  | 1, f, e, hf, he => by cases hf; cases he; exact h2
  | 2, f, e, hf, he => by cases hf; cases he; exact h3
  | 3, f, e, hf, he => by cases hf; cases he; exact h4
  | 4, f, e, hf, he => by cases hf; cases he; exact h5
  | (_ + 5), f, e, hf, he => by simp at hf
set_option maxHeartbeats 4000000 in
theorem decl_Tables (vv bv : Value) (V : List Vr) (B : List Bk) (w : World) (hvv : RowR 5 varR w vv V) (hbv : RowR 2 blkR w bv B) :
    Calls Try.prog 7 #[vv, bv] w fun e w' => e = .returned (.int .i64 (tablesE V B)) ∧ Below w.heap.size w w' := by
  have hmf : ∀ (fn : Fn) (first cap : Array Value) (w : World), (Instr.makeFunc fn first cap).run Try.prog w = .ok (.func fn first cap) w := fun _ _ _ _ => rfl
  have HE := Lib.hid (show firstE [unlessE (decide (V.length ≤ 64) && decide (B.length ≤ 32)) 5, allE (V.all goodV), allE (B.all goodB)] = tablesE V B by
    exact tables_first V B)
  obtain ⟨sv, cv, rfl⟩ := row_get hvv
  obtain ⟨sb, cb, rfl⟩ := row_get hbv
  obtain ⟨W1, hW1⟩ : ∃ W1, W1 = (w.alloc (.cells #[.slice sv V.length cv] 23)).alloc (.cells #[.slice sb B.length cb] 24) := ⟨_, rfl⟩
  have hb : Below w.heap.size w W1 := by rw [hW1]; exact by (repeat' (first | (with_reducible exact Below.refl _ _) | (with_reducible assumption) | (with_reducible refine below_drewN ?_ _) | (with_reducible refine Below.alloc ?_ ?_ _) | (with_reducible refine Below.drew ?_) | (with_reducible refine Below.setCell ?_ ?_ _) | go_size))
  have hz : W1.heap.size = w.heap.size + 2 := by rw [hW1]; simp
  have c1 : W1.cell? ⟨w.heap.size, 0, none⟩ = some (.slice sv V.length cv) := by rw [hW1]; exact obj_cell ((get_past (by simp)).trans (get_last rfl)) rfl
  have c2 : W1.cell? ⟨w.heap.size + 1, 0, none⟩ = some (.slice sb B.length cb) := by rw [hW1]; exact obj_cell (get_last (by simp)) rfl
  have HW1 := Lib.hid hW1
  have HB := Lib.hid hb
  have HV := Lib.hid (fun W (h : Below W1.heap.size W1 W) => hvv.below varR_stable (hb.trans (h.mono hb.size)))
  have HK := Lib.hid (fun W (h : Below W1.heap.size W1 W) => hbv.below blkR_stable (hb.trans (h.mono hb.size)))
  have HT := Lib.hid (show Asks W1 (19, #[.pointer (some ⟨w.heap.size, 0, none⟩), .pointer (some ⟨w.heap.size + 1, 0, none⟩)]) (unlessE (decide (V.length ≤ 64) && decide (B.length ≤ 32)) 5) from
    ⟨fun _ _ => rfl, fun W hW => tables_1 _ _ _ _ _ _ _ _ W ((hW.cell (p := ⟨w.heap.size, 0, none⟩) (World.block_lt_of_cell? _ _ c1)).trans c1) ((hW.cell (p := ⟨w.heap.size + 1, 0, none⟩) (World.block_lt_of_cell? _ _ c2)).trans c2)⟩)
  have y1 : w.heap.size < W1.heap.size := by omega
  have y2 : w.heap.size + 1 < W1.heap.size := by omega
  clear hW1 hb hvv hbv
  go_enter Try.func7, Try.ntmps7
  go_wp2_with fail
  rw [← HW1.out]
  refine wp_region_held_drew (S := (fun w' => Below W1.heap.size W1 w')) (by kernel_rfl) ?_ (fun hHeld => ?_)
  · (try dsimp only); first | assumption | exact Below.alloc hHeld hHeld.size _ | exact (Below.refl _ _).drew | exact Below.drew (Below.refl _ _) | exact Below_drewN _ _ _ | exact Below.refl _ _ | (trace_state; fail)
  refine wpAnyH_take (i := 0) (oi := { dst := some 5, op := Op.makeFunc (Fn.func 19) #[] #[Operand.tmp 2, Operand.tmp 3], type := 55, pos := _, after := #[], guard := none }) (v := ?_) rfl (by kernel_rfl) (by kernel_rfl) (by kernel_rfl) (fun _ _ _ h => h) (Or.inl ⟨by rfl, ?_⟩) (by assumption) ?_
  rotate_left
  · intro wt hSw; (try dsimp only at hSw); have c1 := cellB hSw c1 y1; have c2 := cellB hSw c2 y2; first | (go_simp; done) | (go_simp; with_reducible rfl) | (trace_state; fail)
  try simp only [Act.put, List.setIfInBounds_toArray, List.set_cons_zero, List.set_cons_succ]
  refine wpAnyH_take (i := 1) (oi := { dst := some 6, op := Op.load 23 (Operand.tmp 2), type := 23, pos := _, after := #[], guard := none }) (v := ?_) rfl (by kernel_rfl) (by kernel_rfl) (by kernel_rfl) (fun _ _ _ h => h) (Or.inl ⟨by rfl, ?_⟩) (by assumption) ?_
  rotate_left
  · intro wt hSw; (try dsimp only at hSw); have c1 := cellB hSw c1 y1; have c2 := cellB hSw c2 y2; first | (go_simp; done) | (go_simp; with_reducible rfl) | (trace_state; fail)
  try simp only [Act.put, List.setIfInBounds_toArray, List.set_cons_zero, List.set_cons_succ]
  refine wpAnyH_take (i := 3) (oi := { dst := some 8, op := Op.load 24 (Operand.tmp 3), type := 24, pos := _, after := #[], guard := none }) (v := ?_) rfl (by kernel_rfl) (by kernel_rfl) (by kernel_rfl) (fun _ _ _ h => h) (Or.inl ⟨by rfl, ?_⟩) (by assumption) ?_
  rotate_left
  · intro wt hSw; (try dsimp only at hSw); have c1 := cellB hSw c1 y1; have c2 := cellB hSw c2 y2; first | (go_simp; done) | (go_simp; with_reducible rfl) | (trace_state; fail)
  try simp only [Act.put, List.setIfInBounds_toArray, List.set_cons_zero, List.set_cons_succ]
  refine wpAnyH_ready (rs := [2]) (by kernel_rfl) (by simp) ?_
  refine AllReadyH.cons (o := { dst := some 7, op := Op.call { callee := Callee.value (Operand.func 22), args := #[Operand.tmp 6, Operand.func 23], argTypes := #[23, 57] }, type := 55, pos := _, after := #[{ on := 1, ground := Ground.data }], guard := none }) rfl (fun K hK => ?_) AllReadyH.nil
  go_simp
  refine (decl_eachVar _ V goodV 23 _ (HV.out _ hHeld) (fun _ _ => rfl) (fun x W _ => decl_rightVar x W)).mono ?_; rintro e v1 ⟨⟨f1, g1⟩, rfl, hA1, hb1⟩; have hHeld := hHeld.trans (hb1.mono hHeld.size); have hA1 := Lib.hid hA1; clear hb1
  go_wp2_with fail
  refine hK.out _ _ ?_ (fun hHeld => ?_)
  · (try dsimp only); first | assumption | exact Below.alloc hHeld hHeld.size _ | exact (Below.refl _ _).drew | exact Below.drew (Below.refl _ _) | exact Below_drewN _ _ _ | exact Below.refl _ _ | (trace_state; fail)
  clear hK K
  try simp only [Act.put, List.setIfInBounds_toArray, List.set_cons_zero, List.set_cons_succ]
  refine wpAnyH_ready (rs := [4]) (by kernel_rfl) (by simp) ?_
  refine AllReadyH.cons (o := { dst := some 9, op := Op.call { callee := Callee.value (Operand.func 24), args := #[Operand.tmp 8, Operand.func 25], argTypes := #[24, 59] }, type := 55, pos := _, after := #[{ on := 3, ground := Ground.data }, { on := 2, ground := Ground.chain }], guard := none }) rfl (fun K hK => ?_) AllReadyH.nil
  go_simp
  refine (decl_eachBlock _ B goodB 25 _ (HK.out _ hHeld) (fun _ _ => rfl) (fun x W _ => decl_rightBlock x W)).mono ?_; rintro e v2 ⟨⟨f2, g2⟩, rfl, hA2, hb2⟩; have hHeld := hHeld.trans (hb2.mono hHeld.size); have hA1 := Lib.hid (hA1.out.later hb2); have hA2 := Lib.hid hA2; clear hb2
  go_wp2_with fail
  refine hK.out _ _ ?_ (fun hHeld => ?_)
  · (try dsimp only); first | assumption | exact Below.alloc hHeld hHeld.size _ | exact (Below.refl _ _).drew | exact Below.drew (Below.refl _ _) | exact Below_drewN _ _ _ | exact Below.refl _ _ | (trace_state; fail)
  clear hK K
  try simp only [Act.put, List.setIfInBounds_toArray, List.set_cons_zero, List.set_cons_succ]
  refine wpAnyH_ready (rs := [5]) (by kernel_rfl) (by simp) ?_
  refine AllReadyH.cons (o := { dst := some 10, op := Op.buildSlice 60 3 #[(0, Operand.tmp 5), (1, Operand.tmp 7), (2, Operand.tmp 9)], type := 60, pos := _, after := #[{ on := 0, ground := Ground.data }, { on := 2, ground := Ground.data }, { on := 4, ground := Ground.data }], guard := none }) rfl (fun K hK => ?_) AllReadyH.nil
  go_simp
  refine hK.out _ _ ?_ (fun hHeld => ?_)
  · (try dsimp only); first | assumption | exact Below.alloc hHeld hHeld.size _ | exact (Below.refl _ _).drew | exact Below.drew (Below.refl _ _) | exact Below_drewN _ _ _ | exact Below.refl _ _ | (trace_state; fail)
  clear hK K
  try simp only [Act.put, List.setIfInBounds_toArray, List.set_cons_zero, List.set_cons_succ]
  refine wpAnyH_ready (rs := [6]) (by kernel_rfl) (by simp) ?_
  refine AllReadyH.cons (o := { dst := some 11, op := Op.call { callee := Callee.value (Operand.func 18), args := #[Operand.tmp 10], argTypes := #[60] }, type := 30, pos := _, after := #[{ on := 5, ground := Ground.data }, { on := 4, ground := Ground.chain }], guard := none }) rfl (fun K hK => ?_) AllReadyH.nil
  go_simp
  refine (asks_all _ [(19, #[.pointer (some ⟨w.heap.size, 0, none⟩), .pointer (some ⟨w.heap.size + 1, 0, none⟩)]), (f1, g1), (f2, g2)] _ _ (row_funcs (get_last rfl) rfl (by simp) (by unfold maxLen; simp)) rfl (asks3 (HT.out.later hHeld) (hA1.out.later (by (repeat' (first | (with_reducible exact Below.refl _ _) | (with_reducible assumption) | (with_reducible refine below_drewN ?_ _) | (with_reducible refine Below.alloc ?_ ?_ _) | (with_reducible refine Below.drew ?_) | (with_reducible refine Below.setCell ?_ ?_ _) | go_size)))) (hA2.out.later (by (repeat' (first | (with_reducible exact Below.refl _ _) | (with_reducible assumption) | (with_reducible refine below_drewN ?_ _) | (with_reducible refine Below.alloc ?_ ?_ _) | (with_reducible refine Below.drew ?_) | (with_reducible refine Below.setCell ?_ ?_ _) | go_size)))))).mono ?_; rintro e v3 ⟨rfl, hb3⟩; have hHeld := hHeld.trans (hb3.mono hHeld.size); clear hb3
  go_wp2_with fail
  refine hK.out _ _ ?_ (fun hHeld => ?_)
  · (try dsimp only); first | assumption | exact Below.alloc hHeld hHeld.size _ | exact (Below.refl _ _).drew | exact Below.drew (Below.refl _ _) | exact Below_drewN _ _ _ | exact Below.refl _ _ | (trace_state; fail)
  clear hK K
  try simp only [Act.put, List.setIfInBounds_toArray, List.set_cons_zero, List.set_cons_succ]
  refine wpAnyH_take (i := 7) (oi := { dst := some 4, op := Op.assign (Operand.tmp 11), type := 30, pos := _, after := #[{ on := 6, ground := Ground.data }, { on := 6, ground := Ground.chain }, { on := 0, ground := Ground.phase }, { on := 1, ground := Ground.phase }, { on := 2, ground := Ground.phase }, { on := 3, ground := Ground.phase }, { on := 4, ground := Ground.phase }, { on := 5, ground := Ground.phase }, { on := 6, ground := Ground.phase }], guard := none }) (v := ?_) rfl (by kernel_rfl) (by kernel_rfl) (by kernel_rfl) (fun _ _ _ h => h) (Or.inl ⟨by rfl, ?_⟩) (by assumption) ?_
  rotate_left
  · intro wt hSw; (try dsimp only at hSw); have c1 := cellB hSw c1 y1; have c2 := cellB hSw c2 y2; first | (go_simp; done) | (go_simp; with_reducible rfl) | (trace_state; fail)
  try simp only [Act.put, List.setIfInBounds_toArray, List.set_cons_zero, List.set_cons_succ]
  refine wpAnyH_done (by kernel_rfl) ?_ _
  go_wp2_with fail
  go_ret
  exact ⟨by rw [← HE.out]; rfl, HB.out.trans (hHeld.mono HB.out.size)⟩
end Go.Proofs.Ytogmbfhefblbjaa
