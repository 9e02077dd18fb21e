/- Layer 51: a sample of its own; shutting. -/
import Derived.Test.YtpbfgoegkpjpmaaFeedA
import Derived.Test.YtpbfgoegkpjpmaaHeldMore
import Derived.Test.YtpbfgoegkpjpmaaHeldTill
import Derived.Test.YtpbfgoegkpjpmaaKeep
import Derived.Deep.RegionHeld3
import Derived.RegionCalls
namespace Go.Proofs.Ytpbfgoegkpjpmaa
open Go.RowKit Go.Conc
set_option linter.unusedSimpArgs false
set_option linter.unusedVariables false
set_option maxHeartbeats 4000000 in
theorem feed_own (v : Value) (L : List Int) (n : Int) (w : World) (hv : RowR 1 intR w v L) (hL : L.length ≤ 100) : Calls Try.prog 17 #[.agg #[v, .int .i64 n]] w fun e w' => ∃ r : Value, e = .returned (.agg #[r, .int .i64 n]) ∧ w'.ownsRow (w.heap.size + 2) 3 1 r L.length (iV L) ∧ Below w.heap.size w w' := by
  obtain ⟨i, hi, hz, hsize, hby⟩ : ∃ i, Try.prog.info? 3 = some i ∧ i.zero = some (.int .i64 0) ∧ i.size = 1 ∧ i.bytes = 8 := ⟨(Try.prog.info? 3).get!, by kernel_rfl, by kernel_rfl, by kernel_rfl, by kernel_rfl⟩
  have hsrc := src_ints hv
  obtain ⟨sv, cv0, rfl⟩ := row_get hv
  obtain ⟨m, hm⟩ : ∃ m, L.length = m := ⟨_, rfl⟩
  have HL := Lib.hid hm
  rw [hm] at hsrc hL ⊢
  clear hm hv
  obtain ⟨W0, hW0⟩ : ∃ W0, W0 = (w.alloc (.cells #[.slice sv m cv0, .int .i64 n] 30)).alloc (.cells #[.slice none 0 0, .int .i64 0] 30) := ⟨_, rfl⟩
  have hB0 : Below w.heap.size w W0 := by rw [hW0]; exact by (repeat' (first | (with_reducible exact Below.refl _ _) | (with_reducible assumption) | (with_reducible refine below_drewN ?_ _) | (with_reducible refine Below.alloc ?_ ?_ _) | (with_reducible refine Below.drew ?_) | (with_reducible refine Below.setCell ?_ ?_ _) | go_size))
  have hj : W0.heap[w.heap.size]? = some (.cells #[.slice sv m cv0, .int .i64 n] 30) := by rw [hW0, get_past (by simp)]; exact get_last rfl
  have hj2 : W0.heap[w.heap.size + 1]? = some (.cells #[.slice none 0 0, .int .i64 0] 30) := by rw [hW0]; exact get_last (by simp)
  have hsz : W0.heap.size = w.heap.size + 2 := by rw [hW0]; simp
  have c0 := obj_cell hj (i := 0) rfl
  have c1 := obj_cell hj (i := 1) rfl
  have z0 : w.heap.size < W0.heap.size := by omega
  have HJ := Lib.hid hj2
  have HS := Lib.hid (fun W (h : Below W0.heap.size W0 W) => (hsrc.below hB0).below h)
  have HW0 := Lib.hid hW0
  have HB0 := Lib.hid hB0
  clear hW0 hj hj2 hB0 hsrc
  go_enter Try.func17, Try.ntmps17
  go_wp2_with fail
  rw [← HW0.out]
  refine wp_region_till (S := (fun (L : Array Bool) (w' : World) => L.getD 6 true = false → ((fun w' => Below W0.heap.size W0 w') w'))) (by kernel_rfl) ?_ (fun hHeld => ?_)
  · (try dsimp only); exact (fun _ => by first | assumption | exact (Below.refl _ _).drew | exact Below.refl _ _)
  refine till_take 6 (fun w' => Below W0.heap.size W0 w') (i := 0) (oi := { dst := some 3, op := Op.fieldAddr 30 (Operand.tmp 1) 0, type := 0, pos := _, after := #[], guard := none }) (u := ?_) rfl (by kernel_rfl) (by kernel_rfl) (by kernel_rfl) (by kernel_rfl) (by kernel_rfl) (by decide) (fun L v hL h => h hL) (fun L v => by simp only [getD_set_ne true (show 0 ≠ 6 by decide)]) (fun _ _ _ h => h) (Or.inl ⟨by rfl, ?_⟩) hHeld ?_
  rotate_left
  · intro wt hSw; (try dsimp only at hSw); have c0 := cellB hSw c0 z0; have c1 := cellB hSw c1 z0; clear hSw; first | (go_simp; done) | (go_simp; with_reducible rfl) | (trace_state; fail)
  clear hHeld; intro hHeld
  try simp only [Act.put, List.setIfInBounds_toArray, List.set_cons_zero, List.set_cons_succ]
  refine till_take 6 (fun w' => Below W0.heap.size W0 w') (i := 1) (oi := { dst := some 4, op := Op.load 28 (Operand.tmp 3), type := 28, pos := _, after := #[{ on := 0, ground := Ground.data }], guard := none }) (u := ?_) rfl (by kernel_rfl) (by kernel_rfl) (by kernel_rfl) (by kernel_rfl) (by kernel_rfl) (by decide) (fun L v hL h => h hL) (fun L v => by simp only [getD_set_ne true (show 1 ≠ 6 by decide)]) (fun _ _ _ h => h) (Or.inl ⟨by rfl, ?_⟩) hHeld ?_
  rotate_left
  · intro wt hSw; (try dsimp only at hSw); have c0 := cellB hSw c0 z0; have c1 := cellB hSw c1 z0; clear hSw; first | (go_simp; done) | (go_simp; with_reducible rfl) | (trace_state; fail)
  clear hHeld; intro hHeld
  try simp only [Act.put, List.setIfInBounds_toArray, List.set_cons_zero, List.set_cons_succ]
  refine till_take 6 (fun w' => Below W0.heap.size W0 w') (i := 3) (oi := { dst := some 6, op := Op.fieldAddr 30 (Operand.tmp 1) 1, type := 0, pos := _, after := #[], guard := none }) (u := ?_) rfl (by kernel_rfl) (by kernel_rfl) (by kernel_rfl) (by kernel_rfl) (by kernel_rfl) (by decide) (fun L v hL h => h hL) (fun L v => by simp only [getD_set_ne true (show 3 ≠ 6 by decide)]) (fun _ _ _ h => h) (Or.inl ⟨by rfl, ?_⟩) hHeld ?_
  rotate_left
  · intro wt hSw; (try dsimp only at hSw); have c0 := cellB hSw c0 z0; have c1 := cellB hSw c1 z0; clear hSw; first | (go_simp; done) | (go_simp; with_reducible rfl) | (trace_state; fail)
  clear hHeld; intro hHeld
  try simp only [Act.put, List.setIfInBounds_toArray, List.set_cons_zero, List.set_cons_succ]
  refine till_take 6 (fun w' => Below W0.heap.size W0 w') (i := 4) (oi := { dst := some 7, op := Op.load 3 (Operand.tmp 6), type := 3, pos := _, after := #[{ on := 3, ground := Ground.data }], guard := none }) (u := ?_) rfl (by kernel_rfl) (by kernel_rfl) (by kernel_rfl) (by kernel_rfl) (by kernel_rfl) (by decide) (fun L v hL h => h hL) (fun L v => by simp only [getD_set_ne true (show 4 ≠ 6 by decide)]) (fun _ _ _ h => h) (Or.inl ⟨by rfl, ?_⟩) hHeld ?_
  rotate_left
  · intro wt hSw; (try dsimp only at hSw); have c0 := cellB hSw c0 z0; have c1 := cellB hSw c1 z0; clear hSw; first | (go_simp; done) | (go_simp; with_reducible rfl) | (trace_state; fail)
  clear hHeld; intro hHeld
  try simp only [Act.put, List.setIfInBounds_toArray, List.set_cons_zero, List.set_cons_succ]
  refine till_one (i := 2) (o := { dst := some 5, op := Op.call { callee := Callee.builtin Builtin.append, args := #[Operand.const (Value.slice none 0 0), Operand.tmp 4], argTypes := #[28, 28] }, type := 28, pos := _, after := #[{ on := 1, ground := Ground.data }], guard := none }) (by kernel_rfl) rfl (fun K hK => ?_)
  rw [if_pos (by kernel_rfl)]
  have hHeld := hHeld (by decide); refine wp_append_src _ (.tmp 4) 28 rfl _ 3 i (.int .i64 0) 1 8 Try.underlying28 hi hz hsize hby rfl (by omega) (.slice none 0 0) 0 [] rfl (World.ownsRow_nil _ _ _ _) _ m (iV L) rfl (HS.out _ hHeld) (by rw [iV_len, HL.out]; omega) (iV_one L) (by unfold maxLen; omega) (by omega) (show w.heap.size + 2 ≤ _ by have := hHeld.size; omega) ?_; intro v2 w2 hO2 hG2; have hb2 := below_none hG2; have hHeld := hHeld.trans (hb2.mono hHeld.size); simp only [Nat.zero_add, List.nil_append] at hO2; obtain ⟨av, cv, rfl⟩ := owns_form hO2; have HO2 := Lib.hid hO2; have K2 := Lib.hid (obj_below HJ.out hHeld (by omega)); have f0 := obj_frozen K2.out 0; have f1 := obj_frozen (obj_self (i := 0) (x := .slice av m cv) K2.out) 1; have d0 := obj_cell K2.out (i := 0) rfl; have d1 := obj_cell K2.out (i := 1) rfl; have HB2 := Lib.hid hHeld; clear hO2 hG2 hb2
  refine hK.out _ _ ?_ (fun hHeld => ?_)
  · (try dsimp only); exact (fun _ => by first | assumption | exact (Below.refl _ _).drew | exact Below.refl _ _)
  clear hK K
  try simp only [Act.put, List.setIfInBounds_toArray, List.set_cons_zero, List.set_cons_succ]
  refine till_take 6 (fun w' => Below W0.heap.size W0 w') (i := 5) (oi := { dst := some 8, op := Op.build 30 #[(0, Operand.tmp 5), (1, Operand.tmp 7)], type := 30, pos := _, after := #[{ on := 2, ground := Ground.data }, { on := 4, ground := Ground.data }], guard := none }) (u := ?_) rfl (by kernel_rfl) (by kernel_rfl) (by kernel_rfl) (by kernel_rfl) (by kernel_rfl) (by decide) (fun L v hL h => h hL) (fun L v => by simp only [getD_set_ne true (show 5 ≠ 6 by decide)]) (fun _ _ _ h => h) (Or.inl ⟨by rfl, ?_⟩) hHeld ?_
  rotate_left
  · intro wt hSw; (try dsimp only at hSw); have c0 := cellB hSw c0 z0; have c1 := cellB hSw c1 z0; clear hSw; first | (go_simp; done) | (go_simp; with_reducible rfl) | (trace_state; fail)
  clear hHeld; intro hHeld
  try simp only [Act.put, List.setIfInBounds_toArray, List.set_cons_zero, List.set_cons_succ]
  refine till_one (i := 6) (o := { dst := none, op := Op.store 30 (Operand.tmp 2) (Operand.tmp 8), type := 0, pos := _, after := #[{ on := 5, ground := Ground.data }, { on := 2, ground := Ground.chain }, { on := 0, ground := Ground.phase }, { on := 1, ground := Ground.phase }, { on := 2, ground := Ground.phase }, { on := 3, ground := Ground.phase }, { on := 4, ground := Ground.phase }, { on := 5, ground := Ground.phase }], guard := none }) (by kernel_rfl) rfl (fun K hK => ?_)
  go_simp
  refine hK.out _ _ ?_ (fun hHeld => ?_)
  · (try dsimp only); exact (fun h => absurd h (by decide))
  clear hK K
  try simp only [Act.put, List.setIfInBounds_toArray, List.set_cons_zero, List.set_cons_succ]
  refine till_done (by kernel_rfl) ?_ _
  have k2 := obj_self (i := 1) (x := .int .i64 n) (obj_self (i := 0) (x := .slice av m cv) K2.out)
  have e0 := obj_cell k2 (i := 0) rfl
  have e1 := obj_cell k2 (i := 1) rfl
  have HB3 := Lib.hid (((HB0.out.trans (HB2.out.mono HB0.out.size)).setCell (p := ⟨w.heap.size + 1, 0, none⟩) (Nat.le_succ _) (.slice av m cv)).setCell (p := ⟨w.heap.size + 1, 1, none⟩) (Nat.le_succ _) (.int .i64 n))
  have HO3 := Lib.hid (owns_congr (w' := (w2.setCell ⟨w.heap.size + 1, 0, none⟩ (.slice av m cv)).setCell ⟨w.heap.size + 1, 1, none⟩ (.int .i64 n)) HO2.out (fun g hg => by rw [get_set (by simp; omega), get_set (by simp; omega)]))
  clear k2 hHeld
  go_wp2_with fail
  refine bodyPost_ret (by simp [results, Try.results17, go_sem, e0, e1]; try rfl) rfl ?_
  exact ⟨_, rfl, HO3.out, HB3.out⟩
theorem bool_Cas_hit (p : Nat) (w : World) (A : Array Value) (t : TypeId) (h : w.heap[p]? = some (.cells A t)) (hA : A[1]? = some (.int .u32 0)) :
    Calls Try.prog 18 #[.pointer (some ⟨p, 1, none⟩), .bool false, .bool true] w fun e w' => e = .returned (.bool true) ∧ ∃ w1 : World, w1.heap = w.heap ∧ w' = w1.setCell ⟨p, 1, none⟩ (.int .u32 1) ∧ Below w.heap.size w w1 := by
  have hc := fun (W : World) (hW : W.heap = w.heap) => run_call_cas_hit (P := Try.prog) Try.func20 (by kernel_rfl) (by kernel_rfl) (by kernel_rfl) .u32 (by kernel_rfl) (y := 1) (obj_cell (w := W) (hW ▸ h) hA) (obj_frozen (w := W) (hW ▸ h) 1)
  have hcw := hc w rfl
  have hcd := hc w.drew rfl
  have ht := b32_true
  have hf := b32_false
  clear hc
  go_enter Try.func18, Try.ntmps18
  go_wp2_with fail
  go_region_calls
  all_goals
    go_wp2_with fail
    go_ret
    first | exact ⟨rfl, w, rfl, rfl, Below.refl _ _⟩ | exact ⟨rfl, w.drew, rfl, rfl, (Below.refl _ _).drew⟩
theorem bool_Cas_miss (p : Nat) (w : World) (A : Array Value) (t : TypeId) (h : w.heap[p]? = some (.cells A t)) (hA : A[1]? = some (.int .u32 1)) :
    Calls Try.prog 18 #[.pointer (some ⟨p, 1, none⟩), .bool false, .bool true] w fun e w' => e = .returned (.bool false) ∧ w'.heap = w.heap ∧ Below w.heap.size w w' := by
  have hc := fun (W : World) (hW : W.heap = w.heap) => run_call_cas_miss (P := Try.prog) Try.func20 (by kernel_rfl) (by kernel_rfl) (by kernel_rfl) .u32 (by kernel_rfl) (o := 0) (y := 1) (obj_cell (w := W) (hW ▸ h) hA) (obj_frozen (w := W) (hW ▸ h) 1) (by decide)
  have hcw := hc w rfl
  have hcd := hc w.drew rfl
  have ht := b32_true
  have hf := b32_false
  clear hc
  go_enter Try.func18, Try.ntmps18
  go_wp2_with fail
  go_region_calls
  all_goals
    go_wp2_with fail
    go_ret
    first | exact ⟨rfl, rfl, Below.refl _ _⟩ | exact ⟨rfl, rfl, (Below.refl _ _).drew⟩
theorem feed_Shut (p c cap : Nat) (buf : Array Value) (x : Int) (w : World) (hx : x = 0 ∨ x = 1) (h : FeedAt w p c cap buf x) : Calls Try.prog 13 #[.pointer (some ⟨p, 0, none⟩)] w fun e w' => e = .returned (.bool (x == 0)) ∧ FeedAt w' p c cap buf 1 ∧ (∀ B, B ≤ p → B ≤ w.heap.size → Below B w w') ∧ (∀ g, g ≠ p → w'.heap[g]? = w.heap[g]?) := by
  have hcp : c ≠ p := by
    intro e
    obtain ⟨s, r, hc⟩ := h.chan
    rw [e, h.obj] at hc
    cases hc
  rcases hx with rfl | rfl
  · have hc := bool_Cas_hit p w _ _ h.obj rfl
    go_enter Try.func13, Try.ntmps13
    go_wp2_with fail
    refine hc.mono ?_; rintro e w1 ⟨rfl, w2, h2, rfl, hb2⟩
    have hset : ∀ g, g ≠ p → (w2.setCell ⟨p, 1, none⟩ (.int .u32 1)).heap[g]? = w.heap[g]? := fun g hg => by rw [get_set (by simpa using fun h => hg h.symm), h2]
    have hobj : (w2.setCell ⟨p, 1, none⟩ (.int .u32 1)).heap[p]? = some (.cells #[.chan (some c), .int .u32 1] 50) := obj_self (A := #[.chan (some c), .int .u32 0]) (by rw [h2]; exact h.obj)
    have hB : ∀ B, B ≤ p → B ≤ w.heap.size → Below B w (w2.setCell ⟨p, 1, none⟩ (.int .u32 1)) := fun B hp hw => (hb2.mono hw).setCell (p := ⟨p, 1, none⟩) hp _
    obtain ⟨s, r, hch⟩ := h.chan
    go_wp2_with fail
    go_ret
    exact ⟨rfl, ⟨hobj, s, r, (hset c hcp).trans hch⟩, hB, hset⟩
  · have hc := bool_Cas_miss p w _ _ h.obj rfl
    go_enter Try.func13, Try.ntmps13
    go_wp2_with fail
    refine hc.mono ?_; rintro e w1 ⟨rfl, h1, hb1⟩
    obtain ⟨s, r, hch⟩ := h.chan
    go_wp2_with fail
    go_ret
    exact ⟨rfl, ⟨by rw [h1]; exact h.obj, s, r, by rw [h1]; exact hch⟩, fun B _ hw => hb1.mono hw, fun g _ => by rw [h1]⟩
end Go.Proofs.Ytpbfgoegkpjpmaa
