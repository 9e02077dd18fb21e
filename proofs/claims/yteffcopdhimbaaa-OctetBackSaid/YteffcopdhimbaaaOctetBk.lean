/- Layer 3: the walk of OctetBack. -/
import Derived.Test.YteffcopdhimbaaaReaderText
namespace Go.Proofs.Yteffcopdhimbaaa
open Go.RowKit
set_option linter.unusedSimpArgs false
set_option linter.unusedVariables false
theorem drop_at {a b : List UInt8} {k : Nat} (h : a.length = k) : (a ++ b).drop k = b := List.drop_left' h
theorem back_facts {P8 S P4 M LL : List UInt8} {x : UInt8} (h8 : P8.length = 8) (h4 : P4.length = 4) (h : LL = P8 ++ (x :: (S ++ (P4 ++ M)))) :
    (LL.drop 0).take 8 = P8 ∧ LL.getD 8 0 = x ∧ (LL.drop (8 + 1)).take S.length = S ∧ (LL.drop (8 + 1 + S.length)).take 4 = P4 ∧ (LL.drop (8 + 1 + S.length + 4)).take M.length = M ∧ LL.length = 8 + 1 + S.length + 4 + M.length := by
  subst h
  have e1 : P8 ++ (x :: (S ++ (P4 ++ M))) = (P8 ++ [x]) ++ (S ++ (P4 ++ M)) := by simp
  have e2 : P8 ++ (x :: (S ++ (P4 ++ M))) = (P8 ++ [x] ++ S) ++ (P4 ++ M) := by simp
  have e3 : P8 ++ (x :: (S ++ (P4 ++ M))) = (P8 ++ [x] ++ S ++ P4) ++ M := by simp
  refine ⟨?_, ?_, ?_, ?_, ?_, ?_⟩
  · rw [List.drop_zero]; exact List.take_left' h8
  · have : (P8 ++ (x :: (S ++ (P4 ++ M))))[8]? = some x := by rw [List.getElem?_append_right (by omega), h8]; rfl
    simp [List.getD, this]
  · rw [e1, drop_at (by simp [h8])]; exact List.take_left' rfl
  · rw [e2, drop_at (by simp [h8]; omega)]; exact List.take_left' h4
  · rw [e3, drop_at (by simp [h8, h4]; omega)]; exact List.take_length
  · simp [h8, h4]; omega
set_option maxRecDepth 100000 in
set_option maxHeartbeats 4000000 in
theorem octetBack_walk (s : ByteArray) (n : Int) (v : Value) (M : List UInt8) (w : World) (hn : -9223372036854775808 ≤ n ∧ n ≤ 9223372036854775807) (hv : RowAt w v M.length (byteV M)) :
    Calls Try.prog 5 #[.string s, .int .i64 n, v] w fun e w' => e = .returned (.bool true) ∧ Below w.heap.size w w' := by
  have hvlen : ∃ a cap, v = .slice a M.length cap := by
    rcases hv with ⟨a, cap, rfl, h0, _⟩ | ⟨b, off, cap, rfl, _⟩
    · exact ⟨a, cap, by rw [h0]⟩
    · exact ⟨_, _, rfl⟩
  obtain ⟨av, cv, hvv⟩ := hvlen
  by_cases hbig : 200 < s.size ∨ 200 < M.length
  · have hM := hv.le
    clear hv
    subst hvv
    have hb1 : 200 < s.size ∨ s.size ≤ 200 ∧ 200 < M.length := by omega
    rcases hb1 with hb1 | ⟨hb1, hb2⟩
    all_goals
      go_enter Try.func5, Try.ntmps5
      go_wp2_with fail
      refine (law03_awake _).mono ?_; rintro e w1 ⟨rfl, hb⟩
      go_wp2_with fail
      go_ret
      exact ⟨rfl, hb⟩
  · have hs1 : s.size ≤ 200 := by omega
    have hM1 : M.length ≤ 200 := by omega
    clear hbig
    obtain ⟨i, hi, hz, hsize, hby⟩ : ∃ i, Try.prog.info? 5 = some i ∧ i.zero = some (.int .u8 0) ∧ i.size = 1 ∧ i.bytes = 1 := ⟨(Try.prog.info? 5).get!, by kernel_rfl, by kernel_rfl, by kernel_rfl, by kernel_rfl⟩
    have HV : ∀ W, Below w.heap.size w W → RowAt W v M.length (byteV M) := fun W h => hv.below h
    have HVH := Lib.hid HV
    have HVV := Lib.hid hvv
    have k8 : (near8 8).toNat = 8 := by decide
    have k4 : (near8 4).toNat = 4 := by decide
    have K8 := Lib.hid k8
    have K4 := Lib.hid k4
    have c255 : cut255 s = s := by unfold cut255; rw [if_neg (by omega)]
    have C255 := Lib.hid c255
    clear HV hv k8 k4 c255
    subst hvv
    go_enter Try.func5, Try.ntmps5
    go_wp2_with fail
    refine (octet_Put (.slice none 0 0) [] 8 n _ (Or.inl ⟨none, 0, rfl, rfl, fun _ => rfl⟩) (by simp)).mono ?_; rintro e w1 ⟨r1, rfl, hO1, hb1⟩
    rw [K8.out] at hO1
    have hr1 : RowAt w1 r1 (putL 8 n).length (byteV (putL 8 n)) := by
      have := RowAt.owns (f := byteV (putL 8 n)) hO1 (fun i hi => byteV_at (by simpa [putL_len] using hi))
      simpa [putL_len] using this
    have Hr1 := Lib.hid hr1
    clear hO1 hr1
    go_wp2_with fail
    refine (octet_Text r1 (putL 8 n) s _ Hr1.out (by rw [putL_len]; omega)).mono ?_; rintro e w2 ⟨r2, rfl, hO2, hb2⟩
    rw [C255.out] at hO2
    obtain ⟨L2, hL2⟩ : ∃ L2, putL 8 n ++ [UInt8.ofNat s.size] ++ s.data.toList = L2 := ⟨_, rfl⟩
    have hl2 : L2.length = 9 + s.size := by rw [← hL2]; simp [putL_len]; omega
    rw [hL2] at hO2
    have hr2 : RowAt w2 r2 L2.length (byteV L2) := by
      have hn2 : (putL 8 n).length + 1 + s.size = L2.length := by rw [putL_len]; omega
      rw [hn2] at hO2
      exact RowAt.owns (f := byteV L2) hO2 (fun i hi => byteV_at hi)
    have Hr2 := Lib.hid hr2
    have HL2 := Lib.hid hL2
    have Hl2 := Lib.hid hl2
    clear hO2 hr2 hL2 hl2 Hr1
    go_wp2_with fail
    refine (octet_Put r2 L2 4 n _ Hr2.out (by have := Hl2.out; omega)).mono ?_; rintro e w3 ⟨r3, rfl, hO3, hb3⟩
    rw [K4.out] at hO3
    obtain ⟨L3, hL3⟩ : ∃ L3, L2 ++ putL 4 n = L3 := ⟨_, rfl⟩
    have hl3 : L3.length = L2.length + 4 := by rw [← hL3]; simp [putL_len]
    rw [hL3] at hO3
    have hr3 : RowAt w3 r3 L3.length (byteV L3) := by
      rw [← hl3] at hO3
      exact RowAt.owns (f := byteV L3) hO3 (fun i hi => byteV_at hi)
    have Hr3 := Lib.hid hr3
    have HL3 := Lib.hid hL3
    have Hl3 := Lib.hid hl3
    clear hO3 hr3 hL3 hl3 Hr2
    have hB3 : Below w.heap.size w w3 := (hb1.trans (hb2.mono hb1.size)).trans (hb3.mono (Nat.le_trans hb1.size hb2.size))
    have HB3 := Lib.hid hB3
    have hz3 := hB3.size
    clear hb1 hb2 hb3 hB3
    go_wp2_with (first | (at_builtin; refine wpList_append_row1 rfl (.tmp 24) (.tmp 25) 22 rfl w3.heap.size 5 i (.int .u8 0) 1 Try.underlying22 hi hz hsize hby rfl _ 0 [] rfl (World.ownsRow_lit w3 #[] 0 (Nat.le_refl _) (by unfold maxLen; omega) rfl) _ L3.length (byteV L3) rfl (Hr3.out.below ((Below.refl _ _).alloc (Nat.le_refl _) _)) (fun _ _ => rfl) (by unfold maxLen; have := Hl3.out; have := Hl2.out; omega) (by have := Hl3.out; have := Hl2.out; omega) (by rw [World.size_alloc]; omega) ?_; intro v1 w4 hO4 hG4; have HO4 := Lib.hid (show w4.ownsRow w3.heap.size 5 1 v1 L3.length (bytesV L3) by rw [map_byteV, List.nil_append, Nat.zero_add] at hO4; exact hO4); have HB4 := Lib.hid (show Below w3.heap.size w3 w4 from below_grown ((Below.refl _ _).alloc (Nat.le_refl _) _) (Nat.le_refl _) (by rw [World.size_alloc]; omega) hG4); have hz4 := HB4.out.size; clear hO4 hG4) | (at_builtin; refine wpList_append_row1 rfl (.tmp 26) (.tmp 27) 22 rfl w3.heap.size 5 i (.int .u8 0) 1 Try.underlying22 hi hz hsize hby rfl _ L3.length (bytesV L3) rfl HO4.out _ M.length (byteV M) rfl (HVH.out _ (HB3.out.trans (HB4.out.mono hz3))) (fun _ _ => rfl) (by unfold maxLen; have := Hl3.out; have := Hl2.out; omega) (by have := Hl3.out; have := Hl2.out; omega) hz4 ?_; intro v2 w5 hO5 hG5; have HO5 := Lib.hid hO5; have HB5 := Lib.hid (below_grownV HB4.out hz4 HO4.out hG5); clear hO5 hG5) | fail)
    obtain ⟨LL, hLL⟩ : ∃ LL, L3 ++ M = LL := ⟨_, rfl⟩
    have hlen : L3.length + M.length = LL.length := by rw [← hLL]; simp
    have hr5 : RowAt w5 v2 LL.length (byteV LL) := by
      have h := HO5.out
      rw [map_byteV, show bytesV L3 ++ M.map (fun c => Value.int .u8 (c.toNat : Int)) = bytesV LL from by rw [← hLL]; simp [bytesV], hlen] at h
      exact RowAt.owns (f := byteV LL) h (fun i hi => byteV_at hi)
    have hfull : LL = putL 8 n ++ (UInt8.ofNat s.size :: (s.data.toList ++ (putL 4 n ++ M))) := by rw [← hLL, ← HL3.out, ← HL2.out]; simp
    obtain ⟨f1, f2, f3, f4, f5, f6⟩ := back_facts (putL_len 8 n) (putL_len 4 n) hfull
    have hsl : s.data.toList.length = s.size := Array.length_toList
    rw [hsl] at f3 f4 f5 f6
    have F1 := Lib.hid (show numV ((LL.drop 0).take 8) = n by rw [f1, numV_put8 n hn])
    have F2 := Lib.hid (show (LL.getD 8 0).toNat = s.size by rw [f2, UInt8.toNat_ofNat']; omega)
    have F3 := Lib.hid (show (⟨((LL.drop (8 + 1)).take s.size).toArray⟩ : ByteArray) = s by rw [f3])
    have F4 := Lib.hid (show numV ((LL.drop (8 + 1 + s.size)).take 4) = n % 4294967296 by rw [f4, numV_put4])
    have F5 := Lib.hid f5
    have F6 := Lib.hid f6
    have FL := Lib.hid (show leftOf LL (8 + 1 + s.size + 4) false = (M.length : Int) by show (LL.length : Int) - ((8 + 1 + s.size + 4 : Nat) : Int) = _; omega)
    have Hr5 := Lib.hid hr5
    have hB5 : Below w.heap.size w w5 := HB3.out.trans (HB5.out.mono hz3)
    have hcm : ∀ W, Below w.heap.size w W → (convert 22 9 (.slice av M.length cv)).run Try.prog W = .ok (.string ⟨M.toArray⟩) W := fun W hW => conv_row Try.underlying22 Try.underlying5 Try.underlying9 (HVH.out W hW)
    have HCM := Lib.hid hcm
    clear hLL hr5 hfull f1 f2 f3 f4 f5 f6 hlen hsl hcm
    refine (reader_New v2 LL _ Hr5.out (by have := F6.out; omega)).mono ?_; rintro e w6 ⟨g, q, rfl, hR, hgq, hb6⟩
    have hB6 : Below w.heap.size w w6 := hB5.trans (hb6.mono hB5.size)
    have hgw : w.heap.size ≤ g := Nat.le_trans hB5.size hgq
    have HR := Lib.hid hR
    have hz6 := hB6.size
    clear hR hb6 hgq
    have hw1 : IntKind.u32.wrap n = n % 4294967296 := by simp [IntKind.wrap, IntKind.signed, IntKind.bits]
    have hw2 := IntWalk.i64_in (n % 4294967296) (by omega)
    go_wp2_with fail
    refine wp_region_held_drew (S := (fun W' => Below w.heap.size w W')) (by kernel_rfl) ?_ (fun hHeld => ?_)
    · (try dsimp only); first | exact hB6 | exact hB6.drew
    refine wpAnyH_take (i := 0) (oi := { dst := some 30, op := Op.move (Operand.tmp 8), type := 28, pos := _, after := #[], guard := none }) (v := ?_) rfl (by kernel_rfl) (by kernel_rfl) (by kernel_rfl) (fun _ _ _ h => h) (Or.inl ⟨by rfl, ?_⟩) (by assumption) ?_
    rotate_left
    · intro w hSw; (try dsimp only at hSw); first | (go_simp; done) | (go_simp; with_reducible rfl)
    try simp only [Act.put, List.setIfInBounds_toArray, List.set_cons_zero, List.set_cons_succ]
    refine wpAnyH_take (i := 2) (oi := { dst := some 32, op := Op.move (Operand.tmp 1), type := 3, pos := _, after := #[], guard := none }) (v := ?_) rfl (by kernel_rfl) (by kernel_rfl) (by kernel_rfl) (fun _ _ _ h => h) (Or.inl ⟨by rfl, ?_⟩) (by assumption) ?_
    rotate_left
    · intro w hSw; (try dsimp only at hSw); first | (go_simp; done) | (go_simp; with_reducible rfl)
    try simp only [Act.put, List.setIfInBounds_toArray, List.set_cons_zero, List.set_cons_succ]
    refine wpAnyH_ready (rs := [1]) (by kernel_rfl) (by simp) ?_
    refine AllReadyH.cons (o := { dst := some 31, op := Op.call { callee := Callee.value (Operand.func 12), args := #[Operand.tmp 30, Operand.const (Value.int IntKind.i64 8)], argTypes := #[28, 3] }, type := 3, pos := _, after := #[{ on := 0, ground := Ground.data }], guard := none }) rfl (fun K hK => ?_) AllReadyH.nil
    go_simp
    refine (reader_Num_ok g q LL 0 8 8 _ (by exact HR.out) (by decide) (by omega) (by have := F6.out; omega)).mono ?_; rintro e wa ⟨rfl, hR1, hG1⟩; rw [F1.out]; have HR1 := Lib.hid hR1; have hBa : Below w.heap.size w wa := below_grown (by first | exact hB6 | exact hB6.drew) hgw (by first | exact hz6 | (simp; omega)) hG1; have hza := hBa.size; clear hR1 hG1
    go_wp2_with fail
    refine hK.out _ _ ?_ (fun hHeld => ?_)
    · (try dsimp only); exact hBa
    clear hK K
    try simp only [Act.put, List.setIfInBounds_toArray, List.set_cons_zero, List.set_cons_succ]
    refine wpAnyH_take (i := 3) (oi := { dst := some 33, op := Op.binOp BinOp.eql 3 (Operand.tmp 31) (Operand.tmp 32) 3, type := 4, pos := _, after := #[{ on := 1, ground := Ground.data }, { on := 2, ground := Ground.data }], guard := none }) (v := ?_) rfl (by kernel_rfl) (by kernel_rfl) (by kernel_rfl) (fun _ _ _ h => h) (Or.inl ⟨by rfl, ?_⟩) (by assumption) ?_
    rotate_left
    · intro w hSw; (try dsimp only at hSw); first | (go_simp; done) | (go_simp; with_reducible rfl)
    try simp only [Act.put, List.setIfInBounds_toArray, List.set_cons_zero, List.set_cons_succ]
    refine wpAnyH_take (i := 4) (oi := { dst := some 34, op := Op.move (Operand.tmp 33), type := 4, pos := _, after := #[{ on := 3, ground := Ground.data }, { on := 1, ground := Ground.chain }], guard := none }) (v := ?_) rfl (by kernel_rfl) (by kernel_rfl) (by kernel_rfl) (fun _ _ _ h => h) (Or.inl ⟨by rfl, ?_⟩) (by assumption) ?_
    rotate_left
    · intro w hSw; (try dsimp only at hSw); first | (go_simp; done) | (go_simp; with_reducible rfl)
    try simp only [Act.put, List.setIfInBounds_toArray, List.set_cons_zero, List.set_cons_succ]
    refine wpAnyH_take (i := 5) (oi := { dst := some 35, op := Op.move (Operand.tmp 8), type := 28, pos := _, after := #[{ on := 4, ground := Ground.guard }], guard := some (4, true) }) (v := ?_) rfl (by kernel_rfl) (by kernel_rfl) (by kernel_rfl) (fun _ _ _ h => h) (Or.inl ⟨by rfl, ?_⟩) (by assumption) ?_
    rotate_left
    · intro w hSw; (try dsimp only at hSw); first | (go_simp; done) | (go_simp; with_reducible rfl)
    try simp only [Act.put, List.setIfInBounds_toArray, List.set_cons_zero, List.set_cons_succ]
    refine wpAnyH_take (i := 7) (oi := { dst := some 37, op := Op.move (Operand.tmp 0), type := 9, pos := _, after := #[{ on := 4, ground := Ground.guard }], guard := some (4, true) }) (v := ?_) rfl (by kernel_rfl) (by kernel_rfl) (by kernel_rfl) (fun _ _ _ h => h) (Or.inl ⟨by rfl, ?_⟩) (by assumption) ?_
    rotate_left
    · intro w hSw; (try dsimp only at hSw); first | (go_simp; done) | (go_simp; with_reducible rfl)
    try simp only [Act.put, List.setIfInBounds_toArray, List.set_cons_zero, List.set_cons_succ]
    refine wpAnyH_ready (rs := [6]) (by kernel_rfl) (by simp) ?_
    refine AllReadyH.cons (o := { dst := some 36, op := Op.call { callee := Callee.value (Operand.func 16), args := #[Operand.tmp 35], argTypes := #[28] }, type := 9, pos := _, after := #[{ on := 5, ground := Ground.data }, { on := 4, ground := Ground.chain }, { on := 4, ground := Ground.guard }], guard := some (4, true) }) rfl (fun K hK => ?_) AllReadyH.nil
    go_simp
    refine (reader_Text_ok g q LL 8 s.size _ (by exact HR1.out) F2.out (by have := F6.out; omega)).mono ?_; rintro e wb ⟨rfl, hR2, hG2⟩; rw [F3.out]; have HR2 := Lib.hid hR2; have hBb : Below w.heap.size w wb := below_grown (by first | exact hBa | exact hBa.drew) hgw (by first | exact hza | (simp; omega)) hG2; have hzb := hBb.size; clear hR2 hG2
    go_wp2_with fail
    refine hK.out _ _ ?_ (fun hHeld => ?_)
    · (try dsimp only); exact hBb
    clear hK K
    try simp only [Act.put, List.setIfInBounds_toArray, List.set_cons_zero, List.set_cons_succ]
    refine wpAnyH_take (i := 8) (oi := { dst := some 38, op := Op.binOp BinOp.eql 9 (Operand.tmp 36) (Operand.tmp 37) 9, type := 4, pos := _, after := #[{ on := 6, ground := Ground.data }, { on := 7, ground := Ground.data }, { on := 4, ground := Ground.guard }], guard := some (4, true) }) (v := ?_) rfl (by kernel_rfl) (by kernel_rfl) (by kernel_rfl) (fun _ _ _ h => h) (Or.inl ⟨by rfl, ?_⟩) (by assumption) ?_
    rotate_left
    · intro w hSw; (try dsimp only at hSw); first | (go_simp; done) | (go_simp; with_reducible rfl)
    try simp only [Act.put, List.setIfInBounds_toArray, List.set_cons_zero, List.set_cons_succ]
    refine wpAnyH_take (i := 9) (oi := { dst := some 39, op := Op.pick (Operand.tmp 34) (Operand.tmp 38) (Operand.const (Value.bool false)), type := 4, pos := _, after := #[{ on := 4, ground := Ground.data }, { on := 8, ground := Ground.data }], guard := none }) (v := ?_) rfl (by kernel_rfl) (by kernel_rfl) (by kernel_rfl) (fun _ _ _ h => h) (Or.inl ⟨by rfl, ?_⟩) (by assumption) ?_
    rotate_left
    · intro w hSw; (try dsimp only at hSw); first | (go_simp; done) | (go_simp; with_reducible rfl)
    try simp only [Act.put, List.setIfInBounds_toArray, List.set_cons_zero, List.set_cons_succ]
    refine wpAnyH_take (i := 10) (oi := { dst := some 40, op := Op.move (Operand.tmp 39), type := 4, pos := _, after := #[{ on := 9, ground := Ground.data }, { on := 6, ground := Ground.chain }], guard := none }) (v := ?_) rfl (by kernel_rfl) (by kernel_rfl) (by kernel_rfl) (fun _ _ _ h => h) (Or.inl ⟨by rfl, ?_⟩) (by assumption) ?_
    rotate_left
    · intro w hSw; (try dsimp only at hSw); first | (go_simp; done) | (go_simp; with_reducible rfl)
    try simp only [Act.put, List.setIfInBounds_toArray, List.set_cons_zero, List.set_cons_succ]
    refine wpAnyH_take (i := 11) (oi := { dst := some 41, op := Op.move (Operand.tmp 8), type := 28, pos := _, after := #[{ on := 10, ground := Ground.guard }], guard := some (10, true) }) (v := ?_) rfl (by kernel_rfl) (by kernel_rfl) (by kernel_rfl) (fun _ _ _ h => h) (Or.inl ⟨by rfl, ?_⟩) (by assumption) ?_
    rotate_left
    · intro w hSw; (try dsimp only at hSw); first | (go_simp; done) | (go_simp; with_reducible rfl)
    try simp only [Act.put, List.setIfInBounds_toArray, List.set_cons_zero, List.set_cons_succ]
    refine wpAnyH_take (i := 13) (oi := { dst := some 43, op := Op.move (Operand.tmp 1), type := 3, pos := _, after := #[{ on := 10, ground := Ground.guard }], guard := some (10, true) }) (v := ?_) rfl (by kernel_rfl) (by kernel_rfl) (by kernel_rfl) (fun _ _ _ h => h) (Or.inl ⟨by rfl, ?_⟩) (by assumption) ?_
    rotate_left
    · intro w hSw; (try dsimp only at hSw); first | (go_simp; done) | (go_simp; with_reducible rfl)
    try simp only [Act.put, List.setIfInBounds_toArray, List.set_cons_zero, List.set_cons_succ]
    refine wpAnyH_take (i := 14) (oi := { dst := some 44, op := Op.convert 3 40 (Operand.tmp 43), type := 40, pos := _, after := #[{ on := 13, ground := Ground.data }, { on := 10, ground := Ground.guard }], guard := some (10, true) }) (v := ?_) rfl (by kernel_rfl) (by kernel_rfl) (by kernel_rfl) (fun _ _ _ h => h) (Or.inl ⟨by rfl, ?_⟩) (by assumption) ?_
    rotate_left
    · intro w hSw; (try dsimp only at hSw); first | (go_simp; done) | (go_simp; with_reducible rfl)
    try simp only [Act.put, List.setIfInBounds_toArray, List.set_cons_zero, List.set_cons_succ]
    refine wpAnyH_take (i := 15) (oi := { dst := some 45, op := Op.convert 40 3 (Operand.tmp 44), type := 3, pos := _, after := #[{ on := 14, ground := Ground.data }, { on := 10, ground := Ground.guard }], guard := some (10, true) }) (v := ?_) rfl (by kernel_rfl) (by kernel_rfl) (by kernel_rfl) (fun _ _ _ h => h) (Or.inl ⟨by rfl, ?_⟩) (by assumption) ?_
    rotate_left
    · intro w hSw; (try dsimp only at hSw); first | (go_simp; done) | (go_simp; with_reducible rfl)
    try simp only [Act.put, List.setIfInBounds_toArray, List.set_cons_zero, List.set_cons_succ]
    refine wpAnyH_ready (rs := [12]) (by kernel_rfl) (by simp) ?_
    refine AllReadyH.cons (o := { dst := some 42, op := Op.call { callee := Callee.value (Operand.func 12), args := #[Operand.tmp 41, Operand.const (Value.int IntKind.i64 4)], argTypes := #[28, 3] }, type := 3, pos := _, after := #[{ on := 11, ground := Ground.data }, { on := 10, ground := Ground.chain }, { on := 10, ground := Ground.guard }], guard := some (10, true) }) rfl (fun K hK => ?_) AllReadyH.nil
    go_simp
    refine (reader_Num_ok g q LL (8 + 1 + s.size) 4 4 _ (by exact HR2.out) (by decide) (by omega) (by have := F6.out; omega)).mono ?_; rintro e wc ⟨rfl, hR3, hG3⟩; rw [F4.out]; have HR3 := Lib.hid hR3; have hBc : Below w.heap.size w wc := below_grown (by first | exact hBb | exact hBb.drew) hgw (by first | exact hzb | (simp; omega)) hG3; have hzc := hBc.size; clear hR3 hG3
    go_wp2_with fail
    refine hK.out _ _ ?_ (fun hHeld => ?_)
    · (try dsimp only); exact hBc
    clear hK K
    try simp only [Act.put, List.setIfInBounds_toArray, List.set_cons_zero, List.set_cons_succ]
    refine wpAnyH_take (i := 16) (oi := { dst := some 46, op := Op.binOp BinOp.eql 3 (Operand.tmp 42) (Operand.tmp 45) 3, type := 4, pos := _, after := #[{ on := 12, ground := Ground.data }, { on := 15, ground := Ground.data }, { on := 10, ground := Ground.guard }], guard := some (10, true) }) (v := ?_) rfl (by kernel_rfl) (by kernel_rfl) (by kernel_rfl) (fun _ _ _ h => h) (Or.inl ⟨by rfl, ?_⟩) (by assumption) ?_
    rotate_left
    · intro w hSw; (try dsimp only at hSw); first | (go_simp; done) | (go_simp; with_reducible rfl)
    try simp only [Act.put, List.setIfInBounds_toArray, List.set_cons_zero, List.set_cons_succ]
    refine wpAnyH_take (i := 17) (oi := { dst := some 47, op := Op.pick (Operand.tmp 40) (Operand.tmp 46) (Operand.const (Value.bool false)), type := 4, pos := _, after := #[{ on := 10, ground := Ground.data }, { on := 16, ground := Ground.data }], guard := none }) (v := ?_) rfl (by kernel_rfl) (by kernel_rfl) (by kernel_rfl) (fun _ _ _ h => h) (Or.inl ⟨by rfl, ?_⟩) (by assumption) ?_
    rotate_left
    · intro w hSw; (try dsimp only at hSw); first | (go_simp; done) | (go_simp; with_reducible rfl)
    try simp only [Act.put, List.setIfInBounds_toArray, List.set_cons_zero, List.set_cons_succ]
    refine wpAnyH_take (i := 18) (oi := { dst := some 48, op := Op.move (Operand.tmp 47), type := 4, pos := _, after := #[{ on := 17, ground := Ground.data }, { on := 12, ground := Ground.chain }], guard := none }) (v := ?_) rfl (by kernel_rfl) (by kernel_rfl) (by kernel_rfl) (fun _ _ _ h => h) (Or.inl ⟨by rfl, ?_⟩) (by assumption) ?_
    rotate_left
    · intro w hSw; (try dsimp only at hSw); first | (go_simp; done) | (go_simp; with_reducible rfl)
    try simp only [Act.put, List.setIfInBounds_toArray, List.set_cons_zero, List.set_cons_succ]
    refine wpAnyH_take (i := 19) (oi := { dst := some 49, op := Op.move (Operand.tmp 8), type := 28, pos := _, after := #[{ on := 18, ground := Ground.guard }], guard := some (18, true) }) (v := ?_) rfl (by kernel_rfl) (by kernel_rfl) (by kernel_rfl) (fun _ _ _ h => h) (Or.inl ⟨by rfl, ?_⟩) (by assumption) ?_
    rotate_left
    · intro w hSw; (try dsimp only at hSw); first | (go_simp; done) | (go_simp; with_reducible rfl)
    try simp only [Act.put, List.setIfInBounds_toArray, List.set_cons_zero, List.set_cons_succ]
    refine wpAnyH_take (i := 21) (oi := { dst := some 51, op := Op.move (Operand.tmp 2), type := 22, pos := _, after := #[{ on := 18, ground := Ground.guard }], guard := some (18, true) }) (v := ?_) rfl (by kernel_rfl) (by kernel_rfl) (by kernel_rfl) (fun _ _ _ h => h) (Or.inl ⟨by rfl, ?_⟩) (by assumption) ?_
    rotate_left
    · intro w hSw; (try dsimp only at hSw); first | (go_simp; done) | (go_simp; with_reducible rfl)
    try simp only [Act.put, List.setIfInBounds_toArray, List.set_cons_zero, List.set_cons_succ]
    refine wpAnyH_take (i := 22) (oi := { dst := some 52, op := Op.call { callee := Callee.builtin Builtin.len, args := #[Operand.tmp 51], argTypes := #[22] }, type := 3, pos := _, after := #[{ on := 21, ground := Ground.data }, { on := 18, ground := Ground.guard }], guard := some (18, true) }) (v := ?_) rfl (by kernel_rfl) (by kernel_rfl) (by kernel_rfl) (fun _ _ _ h => h) (Or.inl ⟨by rfl, ?_⟩) (by assumption) ?_
    rotate_left
    · intro w hSw; (try dsimp only at hSw); first | (go_simp; done) | (go_simp; with_reducible rfl)
    try simp only [Act.put, List.setIfInBounds_toArray, List.set_cons_zero, List.set_cons_succ]
    refine wpAnyH_ready (rs := [20]) (by kernel_rfl) (by simp) ?_
    refine AllReadyH.cons (o := { dst := some 50, op := Op.call { callee := Callee.value (Operand.func 18), args := #[Operand.tmp 49], argTypes := #[28] }, type := 3, pos := _, after := #[{ on := 19, ground := Ground.data }, { on := 18, ground := Ground.chain }, { on := 18, ground := Ground.guard }], guard := some (18, true) }) rfl (fun K hK => ?_) AllReadyH.nil
    go_simp
    refine (reader_Left g q LL (8 + 1 + s.size + 4) false _ (by exact HR3.out)).mono ?_; rintro e wd ⟨rfl, m, rfl⟩; rw [FL.out]; have hBd : Below w.heap.size w (World.drewN wc m) := below_drewN hBc m
    go_wp2_with fail
    refine hK.out _ _ ?_ (fun hHeld => ?_)
    · (try dsimp only); exact hBd
    clear hK K
    try simp only [Act.put, List.setIfInBounds_toArray, List.set_cons_zero, List.set_cons_succ]
    refine wpAnyH_take (i := 23) (oi := { dst := some 53, op := Op.binOp BinOp.eql 3 (Operand.tmp 50) (Operand.tmp 52) 3, type := 4, pos := _, after := #[{ on := 20, ground := Ground.data }, { on := 22, ground := Ground.data }, { on := 18, ground := Ground.guard }], guard := some (18, true) }) (v := ?_) rfl (by kernel_rfl) (by kernel_rfl) (by kernel_rfl) (fun _ _ _ h => h) (Or.inl ⟨by rfl, ?_⟩) (by assumption) ?_
    rotate_left
    · intro w hSw; (try dsimp only at hSw); first | (go_simp; done) | (go_simp; with_reducible rfl)
    try simp only [Act.put, List.setIfInBounds_toArray, List.set_cons_zero, List.set_cons_succ]
    refine wpAnyH_take (i := 24) (oi := { dst := some 54, op := Op.pick (Operand.tmp 48) (Operand.tmp 53) (Operand.const (Value.bool false)), type := 4, pos := _, after := #[{ on := 18, ground := Ground.data }, { on := 23, ground := Ground.data }], guard := none }) (v := ?_) rfl (by kernel_rfl) (by kernel_rfl) (by kernel_rfl) (fun _ _ _ h => h) (Or.inl ⟨by rfl, ?_⟩) (by assumption) ?_
    rotate_left
    · intro w hSw; (try dsimp only at hSw); first | (go_simp; done) | (go_simp; with_reducible rfl)
    try simp only [Act.put, List.setIfInBounds_toArray, List.set_cons_zero, List.set_cons_succ]
    refine wpAnyH_take (i := 25) (oi := { dst := some 55, op := Op.move (Operand.tmp 54), type := 4, pos := _, after := #[{ on := 24, ground := Ground.data }, { on := 20, ground := Ground.chain }], guard := none }) (v := ?_) rfl (by kernel_rfl) (by kernel_rfl) (by kernel_rfl) (fun _ _ _ h => h) (Or.inl ⟨by rfl, ?_⟩) (by assumption) ?_
    rotate_left
    · intro w hSw; (try dsimp only at hSw); first | (go_simp; done) | (go_simp; with_reducible rfl)
    try simp only [Act.put, List.setIfInBounds_toArray, List.set_cons_zero, List.set_cons_succ]
    refine wpAnyH_take (i := 26) (oi := { dst := some 56, op := Op.move (Operand.tmp 8), type := 28, pos := _, after := #[{ on := 25, ground := Ground.guard }], guard := some (25, true) }) (v := ?_) rfl (by kernel_rfl) (by kernel_rfl) (by kernel_rfl) (fun _ _ _ h => h) (Or.inl ⟨by rfl, ?_⟩) (by assumption) ?_
    rotate_left
    · intro w hSw; (try dsimp only at hSw); first | (go_simp; done) | (go_simp; with_reducible rfl)
    try simp only [Act.put, List.setIfInBounds_toArray, List.set_cons_zero, List.set_cons_succ]
    refine wpAnyH_take (i := 27) (oi := { dst := some 57, op := Op.move (Operand.tmp 2), type := 22, pos := _, after := #[{ on := 25, ground := Ground.guard }], guard := some (25, true) }) (v := ?_) rfl (by kernel_rfl) (by kernel_rfl) (by kernel_rfl) (fun _ _ _ h => h) (Or.inl ⟨by rfl, ?_⟩) (by assumption) ?_
    rotate_left
    · intro w hSw; (try dsimp only at hSw); first | (go_simp; done) | (go_simp; with_reducible rfl)
    try simp only [Act.put, List.setIfInBounds_toArray, List.set_cons_zero, List.set_cons_succ]
    refine wpAnyH_take (i := 28) (oi := { dst := some 58, op := Op.call { callee := Callee.builtin Builtin.len, args := #[Operand.tmp 57], argTypes := #[22] }, type := 3, pos := _, after := #[{ on := 27, ground := Ground.data }, { on := 25, ground := Ground.guard }], guard := some (25, true) }) (v := ?_) rfl (by kernel_rfl) (by kernel_rfl) (by kernel_rfl) (fun _ _ _ h => h) (Or.inl ⟨by rfl, ?_⟩) (by assumption) ?_
    rotate_left
    · intro w hSw; (try dsimp only at hSw); first | (go_simp; done) | (go_simp; with_reducible rfl)
    try simp only [Act.put, List.setIfInBounds_toArray, List.set_cons_zero, List.set_cons_succ]
    refine wpAnyH_take (i := 31) (oi := { dst := some 61, op := Op.move (Operand.tmp 2), type := 22, pos := _, after := #[{ on := 25, ground := Ground.guard }], guard := some (25, true) }) (v := ?_) rfl (by kernel_rfl) (by kernel_rfl) (by kernel_rfl) (fun _ _ _ h => h) (Or.inl ⟨by rfl, ?_⟩) (by assumption) ?_
    rotate_left
    · intro w hSw; (try dsimp only at hSw); first | (go_simp; done) | (go_simp; with_reducible rfl)
    try simp only [Act.put, List.setIfInBounds_toArray, List.set_cons_zero, List.set_cons_succ]
    refine wpAnyH_take (i := 32) (oi := { dst := some 62, op := Op.convert 22 9 (Operand.tmp 61), type := 9, pos := _, after := #[{ on := 31, ground := Ground.data }, { on := 25, ground := Ground.guard }], guard := some (25, true) }) (v := ?_) rfl (by kernel_rfl) (by kernel_rfl) (by kernel_rfl) (fun _ _ _ h => h) (Or.inl ⟨by rfl, ?_⟩) (by assumption) ?_
    rotate_left
    · intro wt hSw; have hcx := HCM.out _ hSw; first | (go_simp; done) | (go_simp; with_reducible rfl)
    try simp only [Act.put, List.setIfInBounds_toArray, List.set_cons_zero, List.set_cons_succ]
    refine wpAnyH_ready (rs := [29]) (by kernel_rfl) (by simp) ?_
    refine AllReadyH.cons (o := { dst := some 59, op := Op.call { callee := Callee.value (Operand.func 14), args := #[Operand.tmp 56, Operand.tmp 58], argTypes := #[28, 3] }, type := 22, pos := _, after := #[{ on := 26, ground := Ground.data }, { on := 28, ground := Ground.data }, { on := 25, ground := Ground.chain }, { on := 25, ground := Ground.guard }], guard := some (25, true) }) rfl (fun K hK => ?_) AllReadyH.nil
    go_simp
    refine (reader_Take_ok g q LL (8 + 1 + s.size + 4) M.length (M.length : Int) _ (by exact HR3.out) rfl (by have := F6.out; omega)).mono ?_; rintro e we ⟨r, rfl, hr6, hR5, hG5⟩; rw [F5.out] at hr6; have HR5 := Lib.hid hR5; have hBe : Below w.heap.size w we := below_grown (by first | exact hBd | exact hBd.drew) hgw (by first | exact hzc | (simp; omega)) hG5; have hr6 := Lib.hid hr6; clear hR5 hG5
    go_wp2_with fail
    refine hK.out _ _ ?_ (fun hHeld => ?_)
    · (try dsimp only); exact hBe
    clear hK K
    refine wpAnyH_switch (S' := fun W' => Below w.heap.size w W' ∧ RowAt W' r M.length (byteV M)) (fun _ h => h.1) _ _ _ _ ?_
    have hHeld := And.intro hBe hr6.out
    try simp only [Act.put, List.setIfInBounds_toArray, List.set_cons_zero, List.set_cons_succ]
    refine wpAnyH_take (i := 30) (oi := { dst := some 60, op := Op.convert 22 9 (Operand.tmp 59), type := 9, pos := _, after := #[{ on := 29, ground := Ground.data }, { on := 25, ground := Ground.guard }], guard := some (25, true) }) (v := ?_) rfl (by kernel_rfl) (by kernel_rfl) (by kernel_rfl) (fun _ _ _ h => h) (Or.inl ⟨by rfl, ?_⟩) (by assumption) ?_
    rotate_left
    · intro wt hSw; have hcx := conv_row (P := Try.prog) (src := 22) (dst := 9) (e := 5) Try.underlying22 Try.underlying5 Try.underlying9 hSw.2; first | (go_simp; done) | (go_simp; with_reducible rfl)
    try simp only [Act.put, List.setIfInBounds_toArray, List.set_cons_zero, List.set_cons_succ]
    refine wpAnyH_take (i := 33) (oi := { dst := some 63, op := Op.binOp BinOp.eql 9 (Operand.tmp 60) (Operand.tmp 62) 9, type := 4, pos := _, after := #[{ on := 30, ground := Ground.data }, { on := 32, ground := Ground.data }, { on := 25, ground := Ground.guard }], guard := some (25, true) }) (v := ?_) rfl (by kernel_rfl) (by kernel_rfl) (by kernel_rfl) (fun _ _ _ h => h) (Or.inl ⟨by rfl, ?_⟩) (by assumption) ?_
    rotate_left
    · intro w hSw; (try dsimp only at hSw); first | (go_simp; done) | (go_simp; with_reducible rfl)
    try simp only [Act.put, List.setIfInBounds_toArray, List.set_cons_zero, List.set_cons_succ]
    refine wpAnyH_take (i := 34) (oi := { dst := some 64, op := Op.pick (Operand.tmp 55) (Operand.tmp 63) (Operand.const (Value.bool false)), type := 4, pos := _, after := #[{ on := 25, ground := Ground.data }, { on := 33, ground := Ground.data }], guard := none }) (v := ?_) rfl (by kernel_rfl) (by kernel_rfl) (by kernel_rfl) (fun _ _ _ h => h) (Or.inl ⟨by rfl, ?_⟩) (by assumption) ?_
    rotate_left
    · intro w hSw; (try dsimp only at hSw); first | (go_simp; done) | (go_simp; with_reducible rfl)
    try simp only [Act.put, List.setIfInBounds_toArray, List.set_cons_zero, List.set_cons_succ]
    refine wpAnyH_take (i := 35) (oi := { dst := some 65, op := Op.move (Operand.tmp 64), type := 4, pos := _, after := #[{ on := 34, ground := Ground.data }, { on := 29, ground := Ground.chain }], guard := none }) (v := ?_) rfl (by kernel_rfl) (by kernel_rfl) (by kernel_rfl) (fun _ _ _ h => h) (Or.inl ⟨by rfl, ?_⟩) (by assumption) ?_
    rotate_left
    · intro w hSw; (try dsimp only at hSw); first | (go_simp; done) | (go_simp; with_reducible rfl)
    try simp only [Act.put, List.setIfInBounds_toArray, List.set_cons_zero, List.set_cons_succ]
    refine wpAnyH_take (i := 36) (oi := { dst := some 66, op := Op.move (Operand.tmp 8), type := 28, pos := _, after := #[{ on := 35, ground := Ground.guard }], guard := some (35, true) }) (v := ?_) rfl (by kernel_rfl) (by kernel_rfl) (by kernel_rfl) (fun _ _ _ h => h) (Or.inl ⟨by rfl, ?_⟩) (by assumption) ?_
    rotate_left
    · intro w hSw; (try dsimp only at hSw); first | (go_simp; done) | (go_simp; with_reducible rfl)
    try simp only [Act.put, List.setIfInBounds_toArray, List.set_cons_zero, List.set_cons_succ]
    refine wpAnyH_ready (rs := [37]) (by kernel_rfl) (by simp) ?_
    refine AllReadyH.cons (o := { dst := some 67, op := Op.call { callee := Callee.value (Operand.func 21), args := #[Operand.tmp 66], argTypes := #[28] }, type := 4, pos := _, after := #[{ on := 36, ground := Ground.data }, { on := 35, ground := Ground.chain }, { on := 35, ground := Ground.guard }], guard := some (35, true) }) rfl (fun K hK => ?_) AllReadyH.nil
    go_simp
    refine (reader_Bad g q LL _ false _ (by exact HR5.out)).mono ?_; rintro e wf ⟨rfl, rfl⟩
    go_wp2_with fail
    refine hK.out _ _ ?_ (fun hHeld => ?_)
    · (try dsimp only); exact ⟨hBe, hr6.out⟩
    clear hK K
    try simp only [Act.put, List.setIfInBounds_toArray, List.set_cons_zero, List.set_cons_succ]
    refine wpAnyH_take (i := 38) (oi := { dst := some 68, op := Op.unOp UnOp.not 4 (Operand.tmp 67), type := 4, pos := _, after := #[{ on := 37, ground := Ground.data }, { on := 35, ground := Ground.guard }], guard := some (35, true) }) (v := ?_) rfl (by kernel_rfl) (by kernel_rfl) (by kernel_rfl) (fun _ _ _ h => h) (Or.inl ⟨by rfl, ?_⟩) (by assumption) ?_
    rotate_left
    · intro w hSw; (try dsimp only at hSw); first | (go_simp; done) | (go_simp; with_reducible rfl)
    try simp only [Act.put, List.setIfInBounds_toArray, List.set_cons_zero, List.set_cons_succ]
    refine wpAnyH_take (i := 39) (oi := { dst := some 69, op := Op.pick (Operand.tmp 65) (Operand.tmp 68) (Operand.const (Value.bool false)), type := 4, pos := _, after := #[{ on := 35, ground := Ground.data }, { on := 38, ground := Ground.data }], guard := none }) (v := ?_) rfl (by kernel_rfl) (by kernel_rfl) (by kernel_rfl) (fun _ _ _ h => h) (Or.inl ⟨by rfl, ?_⟩) (by assumption) ?_
    rotate_left
    · intro w hSw; (try dsimp only at hSw); first | (go_simp; done) | (go_simp; with_reducible rfl)
    try simp only [Act.put, List.setIfInBounds_toArray, List.set_cons_zero, List.set_cons_succ]
    refine wpAnyH_take (i := 40) (oi := { dst := some 70, op := Op.move (Operand.tmp 69), type := 4, pos := _, after := #[{ on := 39, ground := Ground.data }, { on := 37, ground := Ground.chain }], guard := none }) (v := ?_) rfl (by kernel_rfl) (by kernel_rfl) (by kernel_rfl) (fun _ _ _ h => h) (Or.inl ⟨by rfl, ?_⟩) (by assumption) ?_
    rotate_left
    · intro w hSw; (try dsimp only at hSw); first | (go_simp; done) | (go_simp; with_reducible rfl)
    try simp only [Act.put, List.setIfInBounds_toArray, List.set_cons_zero, List.set_cons_succ]
    refine wpAnyH_ready (rs := [41]) (by kernel_rfl) (by simp) ?_
    refine AllReadyH.cons (o := { dst := some 71, op := Op.call { callee := Callee.value (Operand.func 6), args := #[], argTypes := #[] }, type := 4, pos := _, after := #[{ on := 40, ground := Ground.chain }, { on := 40, ground := Ground.guard }], guard := some (40, true) }) rfl (fun K hK => ?_) AllReadyH.nil
    go_simp
    refine (law03_awake _).mono ?_; rintro e wg ⟨rfl, hbg⟩; have hBg : Below w.heap.size w wg := Below.trans (by first | exact hBe | exact hBe.drew) (hbg.mono (by first | exact hBe.size | (simp; exact hBe.size)))
    go_wp2_with fail
    refine hK.out _ _ ?_ (fun hHeld => ?_)
    · (try dsimp only); exact ⟨hBg, hr6.out.below hbg⟩
    clear hK K
    try simp only [Act.put, List.setIfInBounds_toArray, List.set_cons_zero, List.set_cons_succ]
    refine wpAnyH_take (i := 42) (oi := { dst := some 72, op := Op.pick (Operand.tmp 70) (Operand.tmp 71) (Operand.const (Value.bool false)), type := 4, pos := _, after := #[{ on := 40, ground := Ground.data }, { on := 41, ground := Ground.data }], guard := none }) (v := ?_) rfl (by kernel_rfl) (by kernel_rfl) (by kernel_rfl) (fun _ _ _ h => h) (Or.inl ⟨by rfl, ?_⟩) (by assumption) ?_
    rotate_left
    · intro w hSw; (try dsimp only at hSw); first | (go_simp; done) | (go_simp; with_reducible rfl)
    try simp only [Act.put, List.setIfInBounds_toArray, List.set_cons_zero, List.set_cons_succ]
    refine wpAnyH_take (i := 43) (oi := { dst := some 6, op := Op.assign (Operand.tmp 72), type := 4, pos := _, after := #[{ on := 42, ground := Ground.data }, { on := 41, ground := Ground.chain }, { on := 0, ground := Ground.phase }, { on := 1, ground := Ground.phase }, { on := 2, ground := Ground.phase }, { on := 3, ground := Ground.phase }, { on := 4, ground := Ground.phase }, { on := 5, ground := Ground.phase }, { on := 6, ground := Ground.phase }, { on := 7, ground := Ground.phase }, { on := 8, ground := Ground.phase }, { on := 9, ground := Ground.phase }, { on := 10, ground := Ground.phase }, { on := 11, ground := Ground.phase }, { on := 12, ground := Ground.phase }, { on := 13, ground := Ground.phase }, { on := 14, ground := Ground.phase }, { on := 15, ground := Ground.phase }, { on := 16, ground := Ground.phase }, { on := 17, ground := Ground.phase }, { on := 18, ground := Ground.phase }, { on := 19, ground := Ground.phase }, { on := 20, ground := Ground.phase }, { on := 21, ground := Ground.phase }, { on := 22, ground := Ground.phase }, { on := 23, ground := Ground.phase }, { on := 24, ground := Ground.phase }, { on := 25, ground := Ground.phase }, { on := 26, ground := Ground.phase }, { on := 27, ground := Ground.phase }, { on := 28, ground := Ground.phase }, { on := 29, ground := Ground.phase }, { on := 30, ground := Ground.phase }, { on := 31, ground := Ground.phase }, { on := 32, ground := Ground.phase }, { on := 33, ground := Ground.phase }, { on := 34, ground := Ground.phase }, { on := 35, ground := Ground.phase }, { on := 36, ground := Ground.phase }, { on := 37, ground := Ground.phase }, { on := 38, ground := Ground.phase }, { on := 39, ground := Ground.phase }, { on := 40, ground := Ground.phase }, { on := 41, ground := Ground.phase }, { on := 42, ground := Ground.phase }], guard := none }) (v := ?_) rfl (by kernel_rfl) (by kernel_rfl) (by kernel_rfl) (fun _ _ _ h => h) (Or.inl ⟨by rfl, ?_⟩) (by assumption) ?_
    rotate_left
    · intro w hSw; (try dsimp only at hSw); first | (go_simp; done) | (go_simp; with_reducible rfl)
    try simp only [Act.put, List.setIfInBounds_toArray, List.set_cons_zero, List.set_cons_succ]
    refine wpAnyH_done (by kernel_rfl) ?_ _
    go_wp2_with fail
    go_ret
    exact ⟨rfl, hBg⟩
end Go.Proofs.Yteffcopdhimbaaa
