/- Layer 47: lex.sign. -/
import Derived.Test.YtfgnpphbkjeooaaLxWord
namespace Go.Proofs.Ytfgnpphbkjeooaa
open Go.RowKit
set_option linter.unusedSimpArgs false
set_option linter.unusedVariables false
/-- the library's variable that strings.Contains reads -/
def MaxL (w : World) : Prop := ∃ m : Int, w.cell? ⟨0, 0, none⟩ = some (.int .i64 m)
theorem big_cell {w : World} {g i : Nat} {v : Value} (h : w.cell? ⟨g, i, none⟩ = some v) : g < w.heap.size := by
  by_cases hg : g < w.heap.size
  · exact hg
  · exfalso
    simp [World.cell?, Array.getElem?_eq_none (Nat.le_of_not_lt hg)] at h
theorem MaxL.below {w w' : World} (h : MaxL w) (hb : Below w.heap.size w w') : MaxL w' := by
  obtain ⟨m, hm⟩ := h
  exact ⟨m, (hb.cell (p := ⟨0, 0, none⟩) (big_cell hm)).trans hm⟩
theorem maxL_of {w : World} (h : w.ShapedOpen Try.prog) : MaxL w := Try.laysContains.s1_3 w h
def pairQ (x y : UInt8) : Bool := decide (x = 58 ∧ y = 61) || decide (x = 60 ∧ y = 61) || decide (x = 62 ∧ y = 61) || decide (x = 60 ∧ y = 62)
set_option maxHeartbeats 2000000 in
theorem pairs_in (x y : UInt8) (hx : LX.blanks.contains x = false) (hy : LX.blanks.contains y = false) : Lib.contains LX.pairs [x, y] = pairQ x y := by
  have hx32 : x ≠ 32 := fun h => by rw [h] at hx; exact absurd hx (by decide)
  have hy32 : y ≠ 32 := fun h => by rw [h] at hy; exact absurd hy (by decide)
  by_cases a1 : x = 58
  · subst a1
    by_cases b1 : y = 61
    · subst b1; decide
    · simp [Lib.contains, Lib.index, LX.pairs, pairQ, List.isPrefixOf, b1, hy32]
  by_cases a2 : x = 60
  · subst a2
    by_cases b1 : y = 61
    · subst b1; decide
    by_cases b2 : y = 62
    · subst b2; decide
    · simp [Lib.contains, Lib.index, LX.pairs, pairQ, List.isPrefixOf, b1, b2, hy32]
  by_cases a3 : x = 62
  · subst a3
    by_cases b1 : y = 61
    · subst b1; decide
    · simp [Lib.contains, Lib.index, LX.pairs, pairQ, List.isPrefixOf, b1, hy32]
  by_cases a4 : x = 61
  · subst a4
    simp [Lib.contains, Lib.index, LX.pairs, pairQ, List.isPrefixOf, hy32]
  · simp [Lib.contains, Lib.index, LX.pairs, pairQ, List.isPrefixOf, a1, a2, a3, a4, hx32]
theorem cut_ext (l : List UInt8) (a b : Nat) : (⟨l.toArray⟩ : ByteArray).extract a b = ⟨(LX.cut l a b).toArray⟩ := by
  have h := Lib.extract_data ⟨l.toArray⟩ a b
  generalize (⟨l.toArray⟩ : ByteArray).extract a b = E at h ⊢
  obtain ⟨⟨e⟩⟩ := E
  have h : e = LX.cut l a b := h
  rw [h]
theorem cut_two (l : List UInt8) (k : Nat) (h : k + 2 ≤ l.length) : LX.cut l k (k + 2) = [l.getD k 0, l.getD (k + 1) 0] := by
  unfold LX.cut
  rw [List.drop_eq_getElem_cons (by omega : k < l.length), List.drop_eq_getElem_cons (by omega : k + 1 < l.length), show k + 2 - k = 2 by omega]
  show [l[k], l[k + 1]] = _
  simp [List.getD, List.getElem?_eq_getElem (by omega : k < l.length), List.getElem?_eq_getElem (by omega : k + 1 < l.length)]
theorem slice_atI (l : List UInt8) (a b : Nat) (W : World) (hab : a ≤ b) (hb : b ≤ l.length) : (Instr.slice 9 (.string ⟨l.toArray⟩) (some (.int .i64 (a : Int))) (some (.int .i64 (b : Int))) none).run Try.prog W = .ok (.string ⟨(LX.cut l a b).toArray⟩) W := by
  rw [run_slice_string W 9 _ .i64 .i64 _ _ Try.underlying9 (by omega) (by omega) (by show (b : Int) ≤ ((l.toArray.size : Nat) : Int); rw [List.size_toArray]; omega), Int.toNat_natCast, Int.toNat_natCast, cut_ext]
theorem str_pairs (x y : UInt8) (w : World) (hx : LX.blanks.contains x = false) (hy : LX.blanks.contains y = false) (hm : MaxL w) :
    Calls Try.prog 22 #[.string ⟨LX.pairs.toArray⟩, .string ⟨[x, y].toArray⟩] w fun e w' => e = .returned (.bool (pairQ x y)) ∧ w' = w := by
  obtain ⟨m, hm⟩ := hm
  have h := Any.strings_Contains { Try.laysContains with } ⟨LX.pairs.toArray⟩ ⟨[x, y].toArray⟩ m w (by decide) hm
  have e : Lib.contains (⟨LX.pairs.toArray⟩ : ByteArray).data.toList (⟨[x, y].toArray⟩ : ByteArray).data.toList = pairQ x y := pairs_in x y hx hy
  rw [e] at h
  exact h
set_option maxHeartbeats 4000000 in
theorem lex_sign (l : List UInt8) (k : Nat) (w : World) (hk : k < l.length) (hl : l.length ≤ 3000) (hm : MaxL w) :
    Calls Try.prog 12 #[.string ⟨l.toArray⟩, .int .i64 (k : Int)] w fun e w' => e = .returned (.int .i64 (LX.signE l k : Nat)) ∧ w' = w := by
  have hi1 := fun W => idx_atI (P := Try.prog) (t := 9) Try.underlying9 W hk
  have hi2 := fun (h : k + 1 < l.length) W => idx_atI (P := Try.prog) (t := 9) Try.underlying9 W h
  have hsl := fun (h : k + 2 ≤ l.length) W => (show (Instr.slice 9 (.string ⟨l.toArray⟩) (some (.int .i64 (k : Int))) (some (.int .i64 ((k : Int) + 2))) none).run Try.prog W = .ok (.string ⟨(LX.cut l k (k + 2)).toArray⟩) W from slice_atI l k (k + 2) W (by omega) h)
  have hi2 := fun (h : k + 1 < l.length) W => (show (Instr.index 9 (.string ⟨l.toArray⟩) (.int .i64 ((k : Int) + 1))).run Try.prog W = .ok (.int .u8 ((l.getD (k + 1) 0).toNat : Int)) W from hi2 h W)
  have hct := fun (h : k + 2 ≤ l.length) => cut_two l k h
  have HB0 := Lib.hid (fun W => lex_is LX.blanks (l.getD k 0) W)
  have HB1 := Lib.hid (fun W => lex_is LX.blanks (l.getD (k + 1) 0) W)
  have HSg := Lib.hid (fun W => lex_is LX.signs (l.getD k 0) W)
  have HPr := Lib.hid (fun (x y : UInt8) (hx : LX.blanks.contains x = false) (hy : LX.blanks.contains y = false) => str_pairs x y w hx hy hm)
  have HZ := Lib.hid (show LX.signE l k = if (decide (k + 2 ≤ l.length) && (!LX.blanks.contains (l.getD k 0) && (!LX.blanks.contains (l.getD (k + 1) 0) && pairQ (l.getD k 0) (l.getD (k + 1) 0)))) = true then k + 2 else if LX.signs.contains (l.getD k 0) = true then k + 1 else k from rfl)
  obtain ⟨N, hN⟩ : ∃ N, l.length = N := ⟨_, rfl⟩
  have hlen : (⟨l.toArray⟩ : ByteArray).size = N := by rw [← hN]; exact List.size_toArray
  obtain ⟨S, hS⟩ : ∃ S : ByteArray, (⟨l.toArray⟩ : ByteArray) = S := ⟨_, rfl⟩
  rw [hS] at hlen hi1 hi2 hsl ⊢
  rw [hN] at hk hl hi2 hsl hct HZ
  obtain ⟨Z, hZ⟩ : ∃ Z, LX.signE l k = Z := ⟨_, rfl⟩
  rw [hZ] at HZ ⊢
  obtain ⟨c, hc⟩ : ∃ c, l.getD k 0 = c := ⟨_, rfl⟩
  obtain ⟨d, hd⟩ : ∃ d, l.getD (k + 1) 0 = d := ⟨_, rfl⟩
  rw [hc] at hi1 HB0 HSg HZ hct
  rw [hd] at hi2 HB1 HZ hct
  have hk62 : k ≤ 9223372036854775805 := by omega
  clear hN hS hZ hc hd hm
  by_cases h2 : k + 2 ≤ N
  case neg =>
    have q2 : ((k : Int) + 2 ≤ (N : Int)) = False := eq_false (by omega)
    have q2' : (k + 2 ≤ N) = False := eq_false h2
    have HZ := Lib.hid (show Z = if LX.signs.contains c = true then k + 1 else k by rw [HZ.out, decide_eq_false h2]; rfl)
    clear h2 hi2 hsl hct
    go_enter Try.func12, Try.ntmps12
    cases hsg : LX.signs.contains c
    · have HZ := Lib.hid (show Z = k by rw [HZ.out, hsg]; rfl)
      rw [hsg] at HSg
      clear hsg
      go_wp2_with fail
      refine (HSg.out _).mono ?_; rintro e w3 ⟨rfl, rfl⟩
      go_wp2_with fail
      go_ret
      exact ⟨by rw [HZ.out]; rfl, rfl⟩
    · have HZ := Lib.hid (show Z = k + 1 by rw [HZ.out, hsg]; rfl)
      rw [hsg] at HSg
      clear hsg
      go_wp2_with fail
      refine (HSg.out _).mono ?_; rintro e w3 ⟨rfl, rfl⟩
      go_wp2_with fail
      go_ret
      exact ⟨by rw [HZ.out]; rfl, rfl⟩
  have q2 : ((k : Int) + 2 ≤ (N : Int)) = True := eq_true (by omega)
  have q2' : (k + 2 ≤ N) = True := eq_true h2
  replace hi2 := hi2 (by omega)
  replace hsl := hsl h2
  rw [hct h2] at hsl
  have HZ := Lib.hid (show Z = if (!LX.blanks.contains c && (!LX.blanks.contains d && pairQ c d)) = true then k + 2 else if LX.signs.contains c = true then k + 1 else k by rw [HZ.out, decide_eq_true h2, Bool.true_and])
  clear h2 hct
  cases hb0 : LX.blanks.contains c
  case true =>
    have HZ := Lib.hid (show Z = if LX.signs.contains c = true then k + 1 else k by rw [HZ.out, hb0]; rfl)
    rw [hb0] at HB0
    clear hb0
    go_enter Try.func12, Try.ntmps12
    go_wp2_with fail
    refine (HB0.out _).mono ?_; rintro e w1 ⟨rfl, rfl⟩
    cases hsg : LX.signs.contains c
    · have HZ := Lib.hid (show Z = k by rw [HZ.out, hsg]; rfl)
      rw [hsg] at HSg
      clear hsg
      go_wp2_with fail
      refine (HSg.out _).mono ?_; rintro e w3 ⟨rfl, rfl⟩
      go_wp2_with fail
      go_ret
      exact ⟨by rw [HZ.out]; rfl, rfl⟩
    · have HZ := Lib.hid (show Z = k + 1 by rw [HZ.out, hsg]; rfl)
      rw [hsg] at HSg
      clear hsg
      go_wp2_with fail
      refine (HSg.out _).mono ?_; rintro e w3 ⟨rfl, rfl⟩
      go_wp2_with fail
      go_ret
      exact ⟨by rw [HZ.out]; rfl, rfl⟩
  have HP := Lib.hid (fun hy => HPr.out c d hb0 hy)
  have HZ := Lib.hid (show Z = if (!LX.blanks.contains d && pairQ c d) = true then k + 2 else if LX.signs.contains c = true then k + 1 else k by rw [HZ.out, hb0]; rfl)
  rw [hb0] at HB0
  clear hb0
  cases hb1 : LX.blanks.contains d
  case true =>
    have HZ := Lib.hid (show Z = if LX.signs.contains c = true then k + 1 else k by rw [HZ.out, hb1]; rfl)
    rw [hb1] at HB1
    clear hb1
    go_enter Try.func12, Try.ntmps12
    go_wp2_with fail
    refine (HB0.out _).mono ?_; rintro e w1 ⟨rfl, rfl⟩
    go_wp2_with fail
    refine (HB1.out _).mono ?_; rintro e w2 ⟨rfl, rfl⟩
    cases hsg : LX.signs.contains c
    · have HZ := Lib.hid (show Z = k by rw [HZ.out, hsg]; rfl)
      rw [hsg] at HSg
      clear hsg
      go_wp2_with fail
      refine (HSg.out _).mono ?_; rintro e w3 ⟨rfl, rfl⟩
      go_wp2_with fail
      go_ret
      exact ⟨by rw [HZ.out]; rfl, rfl⟩
    · have HZ := Lib.hid (show Z = k + 1 by rw [HZ.out, hsg]; rfl)
      rw [hsg] at HSg
      clear hsg
      go_wp2_with fail
      refine (HSg.out _).mono ?_; rintro e w3 ⟨rfl, rfl⟩
      go_wp2_with fail
      go_ret
      exact ⟨by rw [HZ.out]; rfl, rfl⟩
  have HP := Lib.hid (HP.out hb1)
  have HZ := Lib.hid (show Z = if pairQ c d = true then k + 2 else if LX.signs.contains c = true then k + 1 else k by rw [HZ.out, hb1]; rfl)
  rw [hb1] at HB1
  clear hb1
  cases hp : pairQ c d
  case false =>
    have HZ := Lib.hid (show Z = if LX.signs.contains c = true then k + 1 else k by rw [HZ.out, hp]; rfl)
    rw [hp] at HP
    clear hp
    go_enter Try.func12, Try.ntmps12
    go_wp2_with fail
    refine (HB0.out _).mono ?_; rintro e w1 ⟨rfl, rfl⟩
    go_wp2_with fail
    refine (HB1.out _).mono ?_; rintro e w2 ⟨rfl, rfl⟩
    go_wp2_with fail
    refine HP.out.mono ?_; rintro e w2 ⟨rfl, rfl⟩
    cases hsg : LX.signs.contains c
    · have HZ := Lib.hid (show Z = k by rw [HZ.out, hsg]; rfl)
      rw [hsg] at HSg
      clear hsg
      go_wp2_with fail
      refine (HSg.out _).mono ?_; rintro e w3 ⟨rfl, rfl⟩
      go_wp2_with fail
      go_ret
      exact ⟨by rw [HZ.out]; rfl, rfl⟩
    · have HZ := Lib.hid (show Z = k + 1 by rw [HZ.out, hsg]; rfl)
      rw [hsg] at HSg
      clear hsg
      go_wp2_with fail
      refine (HSg.out _).mono ?_; rintro e w3 ⟨rfl, rfl⟩
      go_wp2_with fail
      go_ret
      exact ⟨by rw [HZ.out]; rfl, rfl⟩
  have HZ := Lib.hid (show Z = k + 2 by rw [HZ.out, hp]; rfl)
  rw [hp] at HP
  clear hp
  go_enter Try.func12, Try.ntmps12
  go_wp2_with fail
  refine (HB0.out _).mono ?_; rintro e w1 ⟨rfl, rfl⟩
  go_wp2_with fail
  refine (HB1.out _).mono ?_; rintro e w2 ⟨rfl, rfl⟩
  go_wp2_with fail
  refine HP.out.mono ?_; rintro e w2 ⟨rfl, rfl⟩
  go_wp2_with fail
  go_ret
  exact ⟨by rw [HZ.out]; rfl, rfl⟩
end Go.Proofs.Ytfgnpphbkjeooaa
