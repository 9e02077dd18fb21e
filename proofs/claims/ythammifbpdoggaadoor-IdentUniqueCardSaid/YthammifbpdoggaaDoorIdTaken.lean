/- Layer 5: the words that are taken. -/
import Derived.Test.YthammifbpdoggaaDoorIdSlot
import Derived.Test.YthammifbpdoggaaDoorLaidFlat
import Derived.Deep.MidRow
namespace Go.Proofs.YthammifbpdoggaaDoor
open Go.RowKit
set_option linter.unusedSimpArgs false
set_option linter.unusedVariables false
def idWordsV : List Value := wordsL.map fun l => .string ⟨l.toArray⟩
def aloneV : List Value := aloneL.map fun l => .string ⟨l.toArray⟩
structure IdTab (w : World) : Prop where
  wd : ∀ i : Nat, w.cell? ⟨1, i, none⟩ = idWordsV[i]?
  al : ∀ i : Nat, w.cell? ⟨0, i, none⟩ = aloneV[i]?
  big0 : 1 < w.heap.size
  big1 : 0 < w.heap.size
theorem IdTab.below {w w' : World} (h : IdTab w) (hb : Below w.heap.size w w') : IdTab w' :=
  ⟨fun i => (hb.cell h.big0).trans (h.wd i), fun i => (hb.cell h.big1).trans (h.al i), Nat.lt_of_lt_of_le h.big0 hb.size, Nat.lt_of_lt_of_le h.big1 hb.size⟩
theorem idWordsV_at {k : Nat} (h : k < 40) : idWordsV.toArray[k]? = some (.string ⟨(wordsL.getD k []).toArray⟩) := by
  have hl : k < wordsL.length := h
  simp [idWordsV, List.getD, hl]
theorem aloneV_at {k : Nat} (h : k < 4) : aloneV.toArray[k]? = some (.string ⟨(aloneL.getD k []).toArray⟩) := by
  have hl : k < aloneL.length := h
  simp [aloneV, List.getD, hl]
theorem idWords_range {w : World} (hT : IdTab w) : w.rangeAt 1 0 idWordsV := fun j v hv => by rw [Nat.zero_add]; exact (hT.wd j).trans hv
theorem alone_range {w : World} (hT : IdTab w) : w.rangeAt 0 0 aloneV := fun j v hv => by rw [Nat.zero_add]; exact (hT.al j).trans hv
theorem idWords_info : (Tryd.prog.info? 32).map (·.size) = some idWordsV.length := by kernel_rfl
theorem alone_info : (Tryd.prog.info? 30).map (·.size) = some aloneV.length := by kernel_rfl
theorem idWords_index {A : Array Value} (hA : ∀ k, k < 40 → A[k]? = some (.string ⟨(wordsL.getD k []).toArray⟩)) {k : Nat} (h : k < 40) (W : World) : (Instr.index 32 (.agg A) (.int .i64 k)).run Tryd.prog W = .ok (.string ⟨(wordsL.getD k []).toArray⟩) W := by
  have h1 := hA k h
  have hk : (0 : Int) ≤ k ∧ k < 40 := by omega
  obtain ⟨i, hi, hsize⟩ : ∃ i, Tryd.prog.info? 9 = some i ∧ i.size = 1 := ⟨(Tryd.prog.info? 9).get!, by kernel_rfl, by kernel_rfl⟩
  simp [Instr.index, run_underlying Tryd.underlying32, asIntOf, hk, go_sem, part, sizeOf, typeInfo, hi, hsize, h1, h]
theorem alone_index {A : Array Value} (hA : ∀ k, k < 4 → A[k]? = some (.string ⟨(aloneL.getD k []).toArray⟩)) {k : Nat} (h : k < 4) (W : World) : (Instr.index 30 (.agg A) (.int .i64 k)).run Tryd.prog W = .ok (.string ⟨(aloneL.getD k []).toArray⟩) W := by
  have h1 := hA k h
  have hk : (0 : Int) ≤ k ∧ k < 4 := by omega
  obtain ⟨i, hi, hsize⟩ : ∃ i, Tryd.prog.info? 9 = some i ∧ i.size = 1 := ⟨(Tryd.prog.info? 9).get!, by kernel_rfl, by kernel_rfl⟩
  simp [Instr.index, run_underlying Tryd.underlying30, asIntOf, hk, go_sem, part, sizeOf, typeInfo, hi, hsize, h1, h]
theorem bq_yes {a b : List UInt8} (h : a = b) : (a == b) = true := by rw [h]; simp
theorem bq_no {a b : List UInt8} (h : ¬ a = b) : (a == b) = false := by rw [beq_eq_false_iff_ne]; exact h
theorem any_none {p : List UInt8 → Bool} {L : List (List UInt8)} {n : Nat} (hn : L.length = n) (h : ∀ j, j < n → p (L.getD j []) = false) : L.any p = false := by
  rw [List.any_eq_false]
  intro x hx
  obtain ⟨j, hj, rfl⟩ := List.getElem_of_mem hx
  have := h j (hn ▸ hj)
  rw [List.getD_eq_getElem?_getD, List.getElem?_eq_getElem hj] at this
  simpa using this
theorem any_one {p : List UInt8 → Bool} {L : List (List UInt8)} {k : Nat} (hk : k < L.length) (h : p (L.getD k []) = true) : L.any p = true := by
  rw [List.any_eq_true]
  refine ⟨L.getD k [], ?_, h⟩
  rw [List.getD_eq_getElem?_getD, List.getElem?_eq_getElem hk]
  simp
set_option maxHeartbeats 2000000 in
theorem ident_Taken (l : List UInt8) (w : World) (hT : IdTab w) (hl : l.length ≤ 1000000) : Calls Tryd.prog 10 #[.string ⟨l.toArray⟩] w fun e w' => e = .returned (.bool (takenB l)) ∧ w' = w := by
  have hR := idWords_range hT
  have hi := idWords_info
  have hA := @idWordsV_at
  have hR1 := alone_range hT
  have hi1 := alone_info
  have hA1 := @aloneV_at
  have HT := strings_TrimPrefix l w hl
  have HS := ident_slotLike l w hl
  have HD := Lib.hid (taken_trim l)
  generalize trimL l = m at *
  clear hT
  generalize idWordsV = L at *
  generalize aloneV = L1 at *
  go_enter Tryd.func10, Tryd.ntmps10
  go_wp2_with (with_reducible show wpList _ _ _ _ _ _; refine wpList_load_mid (op := ⟨some 8, _, _, _, _, _⟩) rfl 30 _ rfl 0 0 rfl L1 (.array 4 9) hR1 Tryd.underlying30 rfl hi1 ?_)
  clear hR1 hi1
  generalize L1.toArray = A1 at *
  go_loopw [9] (fun j wr => ∃ k : Nat, k ≤ 4 ∧ j = .int .i64 k ∧ Hid (∀ j, j < k → (l == aloneL.getD j []) = false) ∧ wr = w) (fun j _ => 4 - (intOf j).toNat)
  case atStart => exact ⟨0, by omega, rfl, Lib.hid (fun j h => by omega), rfl⟩
  case round =>
    obtain ⟨k, hk, rfl, hno, rfl⟩ := hrel
    by_cases h38 : k < 4
    · have hI := fun W => alone_index (fun k h => hA1 h) h38 W
      by_cases hc : l = aloneL.getD k []
      · have hb := bq_yes hc
        have Q := Lib.hid (show takenB l = true by rw [HD.out, any_one (p := fun w => l == w) (L := aloneL) (k := k) h38 hb]; rfl)
        clear hc
        generalize aloneL.getD k [] = x at *
        go_wp2_with fail
        go_returns
        exact ⟨by rw [Q.out]; rfl, rfl⟩
      · have hb := bq_no hc
        have HB := Lib.hid hb
        clear hc
        generalize hx : aloneL.getD k [] = x at *
        have HX := Lib.hid hx
        clear hx
        go_wp2_with fail
        go_roundw
        case rel => exact ⟨k + 1, by omega, by simp, Lib.hid (fun j hj => by
          rcases (show j < k ∨ j = k by omega) with h3 | h3
          · exact hno.out j h3
          · rw [h3, HX.out]; exact HB.out), trivial⟩
        case measure => first | (simp [intOf]; done) | (simp [intOf]; omega)
    · obtain rfl : k = 4 := by omega
      have HD1 := Lib.hid (show takenB l = (wordsL.any (fun w => m == w) || slotB l) by rw [HD.out, any_none (p := fun w => l == w) (L := aloneL) rfl hno.out]; rfl)
      clear hA1
      go_wp2_with fail
      refine HT.mono ?_; rintro e w2 ⟨rfl, rfl⟩
      go_wp2_with (with_reducible show wpList _ _ _ _ _ _; refine wpList_load_mid (op := ⟨some 18, _, _, _, _, _⟩) rfl 32 _ rfl 1 0 rfl L (.array 40 9) hR Tryd.underlying32 rfl hi ?_)
      clear hR hi
      generalize L.toArray = A at *
      go_loopw [19] (fun j wr => ∃ k : Nat, k ≤ 40 ∧ j = .int .i64 k ∧ Hid (∀ j, j < k → (m == wordsL.getD j []) = false) ∧ wr = w2) (fun j _ => 40 - (intOf j).toNat)
      case atStart => exact ⟨0, by omega, rfl, Lib.hid (fun j h => by omega), rfl⟩
      case round =>
        obtain ⟨k, hk, rfl, hno, rfl⟩ := hrel
        by_cases h38 : k < 40
        · have hI := fun W => idWords_index (fun k h => hA h) h38 W
          by_cases hc : m = wordsL.getD k []
          · have hb := bq_yes hc
            have Q := Lib.hid (show takenB l = true by rw [HD1.out, any_one (p := fun w => m == w) (L := wordsL) (k := k) h38 hb]; rfl)
            clear hc
            generalize wordsL.getD k [] = x at *
            go_wp2_with fail
            go_returns
            exact ⟨by rw [Q.out]; rfl, rfl⟩
          · have hb := bq_no hc
            have HB := Lib.hid hb
            clear hc
            generalize hx : wordsL.getD k [] = x at *
            have HX := Lib.hid hx
            clear hx
            go_wp2_with fail
            go_roundw
            case rel => exact ⟨k + 1, by omega, by simp, Lib.hid (fun j hj => by
              rcases (show j < k ∨ j = k by omega) with h3 | h3
              · exact hno.out j h3
              · rw [h3, HX.out]; exact HB.out), trivial⟩
            case measure => first | (simp [intOf]; done) | (simp [intOf]; omega)
        · obtain rfl : k = 40 := by omega
          have HD2 := Lib.hid (show slotB l = takenB l by rw [HD1.out, any_none (p := fun w => m == w) (L := wordsL) rfl hno.out]; rfl)
          go_wp2_with fail
          refine HS.mono ?_; rintro e w3 ⟨rfl, rfl⟩
          go_wp2_with fail
          go_returns
          exact ⟨by rw [← HD2.out]; rfl, rfl⟩
end Go.Proofs.YthammifbpdoggaaDoor
