/- Layer 4: literals, without the program. -/
import Derived.Test.YtaeaiaamhgcmbaaDoorNumPure
import Derived.Test.YtaeaiaamhgcmbaaDoorKind
namespace Go.Proofs.YtaeaiaamhgcmbaaDoor
open Go.RowKit
def sTRUE : List UInt8 := [84, 82, 85, 69]
def sFALSE : List UInt8 := [70, 65, 76, 83, 69]
def nm (t : Int) : List UInt8 := (kName t).data.toList
def lit (t v : Int) : List UInt8 :=
  if kIn t v = false then [] else if t = 1 then (if v = 1 then sTRUE else sFALSE) else if t = 6 then [84, 35] ++ pr v ++ [109, 115] else nm t ++ [35] ++ pr v
theorem lit_no {t v : Int} (h : kIn t v = false) : lit t v = [] := if_pos h
theorem lit_in {t v : Int} (h : lit t v ≠ []) : kIn t v = true ∧ 1 ≤ t ∧ t ≤ 6 := by
  cases hk : kIn t v with
  | false => exact absurd (lit_no hk) h
  | true =>
    refine ⟨rfl, ?_⟩
    by_cases ht : 1 ≤ t ∧ t ≤ 6
    · exact ht
    · rw [kIn_no ht] at hk; cases hk
theorem lit_1 {v : Int} (h : kIn 1 v = true) : lit 1 v = if v = 1 then sTRUE else sFALSE := by
  unfold lit; rw [if_neg (by rw [h]; decide), if_pos rfl]
theorem lit_6 {v : Int} (h : kIn 6 v = true) : lit 6 v = [84, 35] ++ pr v ++ [109, 115] := by
  unfold lit; rw [if_neg (by rw [h]; decide), if_neg (by decide), if_pos rfl]
theorem lit_m {t v : Int} (h : kIn t v = true) (h1 : t ≠ 1) (h6 : t ≠ 6) : lit t v = nm t ++ [35] ++ pr v := by
  unfold lit; rw [if_neg (by rw [h]; decide), if_neg h1, if_neg h6]
theorem in_1 {v : Int} (h : kIn 1 v = true) : v = 0 ∨ v = 1 := by
  rw [kIn_yes (by omega), kWrap_1] at h
  by_cases hv : v = 0
  · exact Or.inl hv
  · rw [if_neg hv] at h
    right
    have : (1 : Int) = v := by simpa using h
    exact this.symm
def cutA (l : List UInt8) : List UInt8 := l.takeWhile (· != 35)
def cutB (l : List UInt8) : List UInt8 := (l.dropWhile (· != 35)).tail
theorem cut_at (a b : List UInt8) (h : ∀ c ∈ a, c ≠ 35) : cutA (a ++ 35 :: b) = a ∧ cutB (a ++ 35 :: b) = b := by
  induction a with
  | nil => simp [cutA, cutB]
  | cons c a ih =>
    have hc : c ≠ 35 := h c (by simp)
    have := ih (fun x hx => h x (by simp [hx]))
    simp only [cutA, cutB] at this ⊢
    have hb : (c != 35) = true := by simpa using hc
    simp only [List.cons_append, List.takeWhile_cons, List.dropWhile_cons, hb, if_true]
    exact ⟨by rw [this.1], this.2⟩
def tms (l : List UInt8) : List UInt8 := if [109, 115].isSuffixOf l then l.take (l.length - 2) else l
theorem tms_at (l : List UInt8) : tms (l ++ [109, 115]) = l := by
  unfold tms
  rw [if_pos (by simp [List.isSuffixOf_iff_suffix])]
  simp
def gn (l : List UInt8) : Int := if isNum l then pv l else 0
theorem gn_pr {n : Int} (h : -9223372036854775808 ≤ n ∧ n ≤ 9223372036854775807) : gn (pr n) = n := by
  unfold gn; rw [if_pos (isNum_pr h), pv_pr h]
theorem gn_range (l : List UInt8) : -9223372036854775808 ≤ gn l ∧ gn l ≤ 9223372036854775807 := by
  unfold gn; split
  · exact pv_range l
  · omega
theorem pr_ne (n : Int) : pr n ≠ [] := by
  unfold pr; split
  · simp
  · exact dig_ne _
theorem gn_nil : gn [] = 0 := by
  unfold gn
  rw [if_neg]
  simp [isNum, pr_ne]
def guess (l : List UInt8) : Int × Int :=
  if l = sTRUE then (1, 1) else if l = sFALSE then (1, 0) else if cutA l = [84] then (6, gn (tms (cutB l))) else (kFind ⟨(cutA l).toArray⟩, gn (cutB l))
theorem nm_ne {t : Int} (h : 1 ≤ t ∧ t ≤ 6) : ∀ c ∈ nm t, c ≠ 35 := by
  obtain rfl | rfl | rfl | rfl | rfl | rfl : t = 1 ∨ t = 2 ∨ t = 3 ∨ t = 4 ∨ t = 5 ∨ t = 6 := by omega
  all_goals decide +kernel
theorem nm_T {t : Int} (h : 2 ≤ t ∧ t ≤ 5) : nm t ≠ [84] ∧ kFind ⟨(nm t).toArray⟩ = t ∧ ∀ r, nm t ++ [35] ++ r ≠ sTRUE ∧ nm t ++ [35] ++ r ≠ sFALSE := by
  obtain rfl | rfl | rfl | rfl : t = 2 ∨ t = 3 ∨ t = 4 ∨ t = 5 := by omega
  all_goals
    refine ⟨by decide +kernel, by decide +kernel, fun r => ⟨?_, ?_⟩⟩
    all_goals
      simp [nm, kName, sTRUE, sFALSE]
theorem guess_lit {t v : Int} (hr : -9223372036854775808 ≤ v ∧ v ≤ 9223372036854775807) (hl : lit t v ≠ []) : guess (lit t v) = (t, v) := by
  obtain ⟨hk, ht⟩ := lit_in hl
  by_cases h1 : t = 1
  · subst h1
    rw [lit_1 hk]
    rcases in_1 hk with rfl | rfl
    · rfl
    · rfl
  by_cases h6 : t = 6
  · subst h6
    rw [lit_6 hk]
    have e : [84, 35] ++ pr v ++ [109, 115] = [84] ++ 35 :: (pr v ++ [109, 115]) := by simp
    obtain ⟨ha, hb⟩ := cut_at [84] (pr v ++ [109, 115]) (by decide)
    unfold guess
    rw [if_neg (by simp [sTRUE]), if_neg (by simp [sFALSE]), e, ha, hb, if_pos rfl, tms_at, gn_pr hr]
  · rw [lit_m hk h1 h6]
    obtain ⟨n1, n2, n3⟩ := nm_T (t := t) (by omega)
    have e : nm t ++ [35] ++ pr v = nm t ++ 35 :: pr v := by simp
    obtain ⟨ha, hb⟩ := cut_at (nm t) (pr v) (nm_ne ht)
    unfold guess
    rw [if_neg (n3 _).1, if_neg (n3 _).2, e, ha, hb, if_neg n1, n2, gn_pr hr]
def nmb (l : List UInt8) (e : Nat) : Int := gn (cutB (l.take (l.length - e)))
def refV (l : List UInt8) (t : Int) : Int := if t = 1 ∧ l = sTRUE then 1 else if t = 6 then nmb l 2 else nmb l 0
theorem refV_range (l : List UInt8) (t : Int) : -9223372036854775808 ≤ refV l t ∧ refV l t ≤ 9223372036854775807 := by
  unfold refV nmb; split
  · omega
  · split <;> exact gn_range _
theorem refV_lit {t v : Int} (hr : -9223372036854775808 ≤ v ∧ v ≤ 9223372036854775807) (hl : lit t v ≠ []) : refV (lit t v) t = v := by
  obtain ⟨hk, ht⟩ := lit_in hl
  by_cases h1 : t = 1
  · subst h1
    rw [lit_1 hk]
    rcases in_1 hk with rfl | rfl
    · show refV sFALSE 1 = 0
      unfold refV nmb
      rw [if_neg (by decide), if_neg (by decide)]
      exact gn_nil
    · rfl
  by_cases h6 : t = 6
  · subst h6
    rw [lit_6 hk]
    have e : ([84, 35] ++ pr v ++ [109, 115]).take (([84, 35] ++ pr v ++ [109, 115]).length - 2) = [84] ++ 35 :: pr v := by
      have : ([84, 35] ++ pr v ++ [109, 115]).length - 2 = ([84, 35] ++ pr v).length := by simp
      rw [this, List.take_left' rfl]; simp
    obtain ⟨_, hb⟩ := cut_at [84] (pr v) (by decide)
    unfold refV nmb
    rw [if_neg (by simp), if_pos rfl, e, hb, gn_pr hr]
  · rw [lit_m hk h1 h6]
    have e : nm t ++ [35] ++ pr v = nm t ++ 35 :: pr v := by simp
    obtain ⟨_, hb⟩ := cut_at (nm t) (pr v) (nm_ne ht)
    unfold refV nmb
    rw [if_neg (by simp [h1]), if_neg h6, Nat.sub_zero, List.take_length, e, hb, gn_pr hr]
/-- is it a literal? -/
def isLit (l : List UInt8) : Bool := (guess l).1 != 0 && lit (guess l).1 (guess l).2 == l
theorem guess_range (l : List UInt8) : -9223372036854775808 ≤ (guess l).2 ∧ (guess l).2 ≤ 9223372036854775807 := by
  unfold guess
  split
  · simp
  split
  · simp
  split
  · exact gn_range _
  · exact gn_range _
theorem isLit_lit {t v : Int} (hr : -9223372036854775808 ≤ v ∧ v ≤ 9223372036854775807) (hl : lit t v ≠ []) : isLit (lit t v) = true := by
  obtain ⟨_, ht⟩ := lit_in hl
  unfold isLit
  rw [guess_lit hr hl]
  simp; omega
theorem guess_nil : guess [] = (0, 0) := by
  unfold guess
  rw [if_neg (by decide), if_neg (by decide), if_neg (by decide)]
  rw [show cutB [] = [] from rfl, gn_nil]
  decide +kernel
theorem isLit_nil : isLit [] = false := by
  unfold isLit; rw [guess_nil]; rfl
/-- the reference's loop: a hit at t -/
theorem hit_yes {l : List UInt8} {t : Int} (hl : l ≠ []) (h : lit t (refV l t) = l) : isLit l = true ∧ guess l = (t, refV l t) := by
  have hn : lit t (refV l t) ≠ [] := by rw [h]; exact hl
  have h1 := isLit_lit (refV_range l t) hn
  have h2 := guess_lit (refV_range l t) hn
  rw [h] at h1 h2
  exact ⟨h1, h2⟩
theorem hit_no {l : List UInt8} (h : ∀ t, 1 ≤ t → t ≤ 6 → lit t (refV l t) ≠ l) : isLit l = false := by
  cases hb : isLit l with
  | false => rfl
  | true =>
    exfalso
    have hc : (guess l).1 ≠ 0 ∧ lit (guess l).1 (guess l).2 = l := by simpa [isLit] using hb
    have hn : l ≠ [] := by
      rintro rfl
      rw [guess_nil] at hc; exact hc.1 rfl
    have hk : lit (guess l).1 (guess l).2 ≠ [] := by rw [hc.2]; exact hn
    obtain ⟨_, ht⟩ := lit_in hk
    have h2 := refV_lit (guess_range l) hk
    rw [hc.2] at h2
    apply h _ ht.1 ht.2
    rw [h2]; exact hc.2
end Go.Proofs.YtaeaiaamhgcmbaaDoor
