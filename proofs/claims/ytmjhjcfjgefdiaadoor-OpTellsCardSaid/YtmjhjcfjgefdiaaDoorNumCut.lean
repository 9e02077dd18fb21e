/- Layer 4: a text is cut at a byte. -/
import Derived.Test.YtmjhjcfjgefdiaaDoorNumLitC
import Derived.Lib.Bytealg
import Derived.Lib.Walk
namespace Go.Proofs.YtmjhjcfjgefdiaaDoor
open Go.RowKit
set_option linter.unusedSimpArgs false
set_option linter.unusedVariables false
def cA (c : UInt8) (l : List UInt8) : List UInt8 := l.takeWhile (· != c)
def cB (c : UInt8) (l : List UInt8) : List UInt8 := (l.dropWhile (· != c)).tail
theorem cut_in {c : UInt8} {l : List UInt8} (h : c ∈ l) : l = cA c l ++ c :: cB c l ∧ Lib.indexByte l c = ((cA c l).length : Int) := by
  induction l with
  | nil => cases h
  | cons b t ih =>
    by_cases hb : b = c
    · subst hb
      simp [cA, cB, Lib.indexByte]
    · have ht : c ∈ t := by
        rcases List.mem_cons.1 h with h | h
        · exact absurd h.symm hb
        · exact h
      obtain ⟨h1, h2⟩ := ih ht
      have hb' : (b != c) = true := by simpa using hb
      constructor
      · simp only [cA, cB, List.takeWhile_cons, List.dropWhile_cons, hb', if_true, List.cons_append]
        exact congrArg _ h1
      · simp only [cA, List.takeWhile_cons, hb', if_true, List.length_cons]
        simp only [cA] at h2
        unfold Lib.indexByte
        simp [hb, h2]
theorem cut_out {c : UInt8} {l : List UInt8} (h : ¬ c ∈ l) : cA c l = l ∧ cB c l = [] ∧ Lib.indexByte l c = -1 := by
  induction l with
  | nil => exact ⟨rfl, rfl, rfl⟩
  | cons b t ih =>
    have hb : b ≠ c := fun e => h (by simp [e])
    obtain ⟨h1, h2, h3⟩ := ih (fun e => h (by simp [e]))
    have hb' : (b != c) = true := by simpa using hb
    simp only [cA, cB, List.takeWhile_cons, List.dropWhile_cons, hb', if_true] at *
    refine ⟨by rw [h1], h2, ?_⟩
    unfold Lib.indexByte
    simp [hb, h3]
theorem ex_a (a b : List UInt8) (c : UInt8) : ByteArray.extract ⟨(a ++ c :: b).toArray⟩ 0 a.length = ⟨a.toArray⟩ := by
  apply ByteArray.ext
  simp
theorem ex_b (a b : List UInt8) (c : UInt8) : ByteArray.extract ⟨(a ++ c :: b).toArray⟩ (a.length + 1) (a.length + (b.length + 1)) = ⟨b.toArray⟩ := by
  apply ByteArray.ext
  simp
  exact List.take_of_length_le (by omega)
set_option maxHeartbeats 1000000 in
theorem sl_IndexByte (l : List UInt8) (c : UInt8) (w : World) : Calls Tryd.prog 35 #[.string ⟨l.toArray⟩, .int .u8 c.toNat] w fun e w' => e = .returned (.int .i64 (Lib.indexByte l c)) ∧ w = w' := by
  go_enter Tryd.func35, Tryd.ntmps35
  go_wp2
  rw [run_callFunc_extern Tryd.func39 (by kernel_rfl) (by kernel_rfl) (by kernel_rfl) (e := Extern.BytealgIndexByte.indexByte) (by kernel_rfl), Lib.run_indexByteString]
  simp only [Result.andThen]
  rw [Oper.upon_value]
  go_wp2
  go_ret
  exact ⟨by simp, rfl⟩
theorem sl_Index (l : List UInt8) (c : UInt8) (w : World) : Calls Tryd.prog 32 #[.string ⟨l.toArray⟩, .string ⟨#[c]⟩] w fun e w' => e = .returned (.int .i64 (Lib.indexByte l c)) ∧ w = w' := by
  by_cases h : l = [c]
  · subst h
    go_enter Tryd.func32, Tryd.ntmps32
    go_wp2_with fail
    go_ret
    exact ⟨by simp [Lib.indexByte], rfl⟩
  · have hc : ([c] == l) = false := by rw [beq_eq_false_iff_ne]; exact fun e => h e.symm
    go_enter Tryd.func32, Tryd.ntmps32
    go_wp2_with fail
    refine (sl_IndexByte l c _).mono ?_; rintro e w1 ⟨rfl, rfl⟩
    go_wp2_with fail
    go_ret
    exact ⟨rfl, rfl⟩
theorem sl_Cut (l : List UInt8) (c : UInt8) (w : World) (hl : (l.length : Int) ≤ 9223372036854775807) : Calls Tryd.prog 28 #[.string ⟨l.toArray⟩, .string ⟨#[c]⟩] w fun e w' => e = .returned (.tuple #[.string ⟨(cA c l).toArray⟩, .string ⟨(cB c l).toArray⟩, .bool (decide (c ∈ l))]) ∧ ∃ m, w' = w.drewN m := by
  by_cases h : c ∈ l
  · obtain ⟨h1, h2⟩ := cut_in h
    have hd : decide (c ∈ l) = true := by simpa using h
    rw [hd]
    clear hd h
    generalize cA c l = a at h1 h2 ⊢
    generalize cB c l = b at h1 h2 ⊢
    subst h1
    have e1 := ex_a a b c
    have e2 := ex_b a b c
    have H2 := Lib.hid h2
    clear h2
    have r1 : ∀ W, (Instr.slice 9 (.string ⟨(a ++ c :: b).toArray⟩) none (some (.int .i64 (a.length : Int))) none).run Tryd.prog W = .ok (.string ⟨a.toArray⟩) W := by
      intro W
      go_simp
      intro h
      first | (exfalso; omega) | skip
    have r2 : ∀ W, (Instr.slice 9 (.string ⟨(a ++ c :: b).toArray⟩) (some (.int .i64 ((a.length : Int) + 1))) none none).run Tryd.prog W = .ok (.string ⟨b.toArray⟩) W := by
      intro W
      go_simp
      intro h
      first | (exfalso; omega) | (have := h (by omega); omega)
    clear e1 e2
    have hw : IntKind.i64.wrap ((a.length : Int) + 1) = (a.length : Int) + 1 := IntWalk.i64_in _ (by simp only [List.length_append, List.length_cons] at hl; omega)
    simp only [List.length_append, List.length_cons] at hl
    go_enter Tryd.func28, Tryd.ntmps28
    go_wp2_with (go_at_call 32; refine (sl_Index _ c _).mono ?_; rintro e w1 ⟨rfl, rfl⟩; rw [H2.out])
    refine wp_region_held_drew (S := (fun _ => True)) (by kernel_rfl) ?_ (fun hHeld => ?_)
    · (try dsimp only); skip
    refine wpAnyH_take (i := 0) (oi := { dst := some 13, op := Op.move (Operand.tmp 0), type := 9, pos := _, after := #[], guard := none }) (v := ?_) rfl (by kernel_rfl) (by kernel_rfl) (by kernel_rfl) (fun _ _ _ h => h) (Or.inl ⟨by rfl, ?_⟩) (by assumption) ?_
    rotate_left
    · intro w hSw; (try dsimp only at hSw); first | (go_simp; done) | (go_simp; with_reducible rfl)
    try simp only [Act.put, List.setIfInBounds_toArray, List.set_cons_zero, List.set_cons_succ]
    refine wpAnyH_take (i := 1) (oi := { dst := some 14, op := Op.move (Operand.tmp 7), type := 3, pos := _, after := #[], guard := none }) (v := ?_) rfl (by kernel_rfl) (by kernel_rfl) (by kernel_rfl) (fun _ _ _ h => h) (Or.inl ⟨by rfl, ?_⟩) (by assumption) ?_
    rotate_left
    · intro w hSw; (try dsimp only at hSw); first | (go_simp; done) | (go_simp; with_reducible rfl)
    try simp only [Act.put, List.setIfInBounds_toArray, List.set_cons_zero, List.set_cons_succ]
    refine wpAnyH_take (i := 2) (oi := { dst := some 15, op := Op.slice 9 (Operand.tmp 13) none (some (Operand.tmp 14)) none, type := 9, pos := _, after := #[{ on := 0, ground := Ground.data }, { on := 1, ground := Ground.data }], guard := none }) (v := ?_) rfl (by kernel_rfl) (by kernel_rfl) (by kernel_rfl) (fun _ _ _ h => h) (Or.inl ⟨by rfl, ?_⟩) (by assumption) ?_
    rotate_left
    · intro w hSw; (try dsimp only at hSw); first | (go_simp; done) | (go_simp; with_reducible rfl)
    try simp only [Act.put, List.setIfInBounds_toArray, List.set_cons_zero, List.set_cons_succ]
    refine wpAnyH_take (i := 3) (oi := { dst := some 16, op := Op.move (Operand.tmp 0), type := 9, pos := _, after := #[], guard := none }) (v := ?_) rfl (by kernel_rfl) (by kernel_rfl) (by kernel_rfl) (fun _ _ _ h => h) (Or.inl ⟨by rfl, ?_⟩) (by assumption) ?_
    rotate_left
    · intro w hSw; (try dsimp only at hSw); first | (go_simp; done) | (go_simp; with_reducible rfl)
    try simp only [Act.put, List.setIfInBounds_toArray, List.set_cons_zero, List.set_cons_succ]
    refine wpAnyH_take (i := 4) (oi := { dst := some 17, op := Op.move (Operand.tmp 7), type := 3, pos := _, after := #[], guard := none }) (v := ?_) rfl (by kernel_rfl) (by kernel_rfl) (by kernel_rfl) (fun _ _ _ h => h) (Or.inl ⟨by rfl, ?_⟩) (by assumption) ?_
    rotate_left
    · intro w hSw; (try dsimp only at hSw); first | (go_simp; done) | (go_simp; with_reducible rfl)
    try simp only [Act.put, List.setIfInBounds_toArray, List.set_cons_zero, List.set_cons_succ]
    refine wpAnyH_take (i := 5) (oi := { dst := some 18, op := Op.move (Operand.tmp 1), type := 9, pos := _, after := #[], guard := none }) (v := ?_) rfl (by kernel_rfl) (by kernel_rfl) (by kernel_rfl) (fun _ _ _ h => h) (Or.inl ⟨by rfl, ?_⟩) (by assumption) ?_
    rotate_left
    · intro w hSw; (try dsimp only at hSw); first | (go_simp; done) | (go_simp; with_reducible rfl)
    try simp only [Act.put, List.setIfInBounds_toArray, List.set_cons_zero, List.set_cons_succ]
    refine wpAnyH_take (i := 6) (oi := { dst := some 19, op := Op.call { callee := Callee.builtin Builtin.len, args := #[Operand.tmp 18], argTypes := #[9] }, type := 3, pos := _, after := #[{ on := 5, ground := Ground.data }], guard := none }) (v := ?_) rfl (by kernel_rfl) (by kernel_rfl) (by kernel_rfl) (fun _ _ _ h => h) (Or.inl ⟨by rfl, ?_⟩) (by assumption) ?_
    rotate_left
    · intro w hSw; (try dsimp only at hSw); first | (go_simp; done) | (go_simp; with_reducible rfl)
    try simp only [Act.put, List.setIfInBounds_toArray, List.set_cons_zero, List.set_cons_succ]
    refine wpAnyH_take (i := 7) (oi := { dst := some 20, op := Op.binOp BinOp.add 3 (Operand.tmp 17) (Operand.tmp 19) 3, type := 3, pos := _, after := #[{ on := 4, ground := Ground.data }, { on := 6, ground := Ground.data }], guard := none }) (v := ?_) rfl (by kernel_rfl) (by kernel_rfl) (by kernel_rfl) (fun _ _ _ h => h) (Or.inl ⟨by rfl, ?_⟩) (by assumption) ?_
    rotate_left
    · intro w hSw; (try dsimp only at hSw); first | (go_simp; done) | (go_simp; with_reducible rfl)
    try simp only [Act.put, List.setIfInBounds_toArray, List.set_cons_zero, List.set_cons_succ]
    refine wpAnyH_take (i := 8) (oi := { dst := some 21, op := Op.slice 9 (Operand.tmp 16) (some (Operand.tmp 20)) none none, type := 9, pos := _, after := #[{ on := 3, ground := Ground.data }, { on := 7, ground := Ground.data }], guard := none }) (v := ?_) rfl (by kernel_rfl) (by kernel_rfl) (by kernel_rfl) (fun _ _ _ h => h) (Or.inl ⟨by rfl, ?_⟩) (by assumption) ?_
    rotate_left
    · intro w hSw; (try dsimp only at hSw); first | (go_simp; done) | (go_simp; with_reducible rfl)
    try simp only [Act.put, List.setIfInBounds_toArray, List.set_cons_zero, List.set_cons_succ]
    refine wpAnyH_take (i := 9) (oi := { dst := some 4, op := Op.assign (Operand.tmp 15), type := 9, pos := _, after := #[{ on := 2, ground := Ground.data }, { on := 0, ground := Ground.phase }, { on := 1, ground := Ground.phase }, { on := 2, ground := Ground.phase }, { on := 3, ground := Ground.textOnly Departure.lateStores }, { on := 4, ground := Ground.textOnly Departure.lateStores }, { on := 5, ground := Ground.textOnly Departure.lateStores }, { on := 6, ground := Ground.textOnly Departure.lateStoresUnsure }, { on := 7, ground := Ground.textOnly Departure.lateStores }, { on := 8, ground := Ground.textOnly Departure.lateStoresUnsure }], guard := none }) (v := ?_) rfl (by kernel_rfl) (by kernel_rfl) (by kernel_rfl) (fun _ _ _ h => h) (Or.inl ⟨by rfl, ?_⟩) (by assumption) ?_
    rotate_left
    · intro w hSw; (try dsimp only at hSw); first | (go_simp; done) | (go_simp; with_reducible rfl)
    try simp only [Act.put, List.setIfInBounds_toArray, List.set_cons_zero, List.set_cons_succ]
    refine wpAnyH_take (i := 10) (oi := { dst := some 5, op := Op.assign (Operand.tmp 21), type := 9, pos := _, after := #[{ on := 8, ground := Ground.data }, { on := 9, ground := Ground.chain }, { on := 0, ground := Ground.phase }, { on := 1, ground := Ground.phase }, { on := 2, ground := Ground.phase }, { on := 3, ground := Ground.phase }, { on := 4, ground := Ground.phase }, { on := 5, ground := Ground.phase }, { on := 6, ground := Ground.phase }, { on := 7, ground := Ground.phase }, { on := 8, ground := Ground.phase }, { on := 9, ground := Ground.phase }], guard := none }) (v := ?_) rfl (by kernel_rfl) (by kernel_rfl) (by kernel_rfl) (fun _ _ _ h => h) (Or.inl ⟨by rfl, ?_⟩) (by assumption) ?_
    rotate_left
    · intro w hSw; (try dsimp only at hSw); first | (go_simp; done) | (go_simp; with_reducible rfl)
    try simp only [Act.put, List.setIfInBounds_toArray, List.set_cons_zero, List.set_cons_succ]
    refine wpAnyH_take (i := 11) (oi := { dst := some 6, op := Op.assign (Operand.const (Value.bool true)), type := 4, pos := _, after := #[{ on := 10, ground := Ground.chain }, { on := 0, ground := Ground.phase }, { on := 1, ground := Ground.phase }, { on := 2, ground := Ground.phase }, { on := 3, ground := Ground.phase }, { on := 4, ground := Ground.phase }, { on := 5, ground := Ground.phase }, { on := 6, ground := Ground.phase }, { on := 7, ground := Ground.phase }, { on := 8, ground := Ground.phase }, { on := 9, ground := Ground.phase }, { on := 10, ground := Ground.phase }], guard := none }) (v := ?_) rfl (by kernel_rfl) (by kernel_rfl) (by kernel_rfl) (fun _ _ _ h => h) (Or.inl ⟨by rfl, ?_⟩) (by assumption) ?_
    rotate_left
    · intro w hSw; (try dsimp only at hSw); first | (go_simp; done) | (go_simp; with_reducible rfl)
    try simp only [Act.put, List.setIfInBounds_toArray, List.set_cons_zero, List.set_cons_succ]
    refine wpAnyH_done (by kernel_rfl) ?_ _
    go_wp2_with fail
    go_returns
    exact ⟨rfl, 1, rfl⟩
  · obtain ⟨h1, h2, h3⟩ := cut_out h
    have hd : decide (c ∈ l) = false := by simpa using h
    rw [hd, h1, h2]
    clear hd h h1 h2
    have H3 := Lib.hid h3
    clear h3
    go_enter Tryd.func28, Tryd.ntmps28
    go_wp2_with (go_at_call 32; refine (sl_Index _ c _).mono ?_; rintro e w1 ⟨rfl, rfl⟩; rw [H3.out])
    go_returns
    exact ⟨rfl, 0, rfl⟩
theorem strings_Cut (l : List UInt8) (c : UInt8) (w : World) (hl : (l.length : Int) ≤ 9223372036854775807) : Calls Tryd.prog 22 #[.string ⟨l.toArray⟩, .string ⟨#[c]⟩] w fun e w' => e = .returned (.tuple #[.string ⟨(cA c l).toArray⟩, .string ⟨(cB c l).toArray⟩, .bool (decide (c ∈ l))]) ∧ ∃ m, w' = w.drewN m := by
  go_enter Tryd.func22, Tryd.ntmps22
  go_wp2_with fail
  refine (sl_Cut l c _ hl).mono ?_; rintro e w1 ⟨rfl, m, rfl⟩
  go_wp2_with fail
  go_returns
  exact ⟨rfl, m, rfl⟩
end Go.Proofs.YtmjhjcfjgefdiaaDoor
