/- Layer 12: the answer's Read, and the law OpLines' walk. -/
import Derived.Test.YtmjhjcfjgefdiaaDoorSplit
import Derived.Test.YtmjhjcfjgefdiaaDoorLawTwelve
namespace Go.Proofs.YtmjhjcfjgefdiaaDoor
open Go.RowKit
set_option linter.unusedSimpArgs false
set_option linter.unusedVariables false
def rf1 (l : List UInt8) : Int := gn ((spl 32 l).getD 1 [])
def rf2 (l : List UInt8) : Int := gn ((spl 32 l).getD 2 [])
theorem rf_line {o a b : Int} (h : oRight o a b = true) : rf1 (oLl o a b) = a ∧ rf2 (oLl o a b) = b := by
  obtain ⟨ho, ha, hb⟩ := oRight_split h
  obtain ⟨w1, w2, w3, w4⟩ := oWl_all ho
  have e := oLl_right h
  unfold rf1 rf2
  by_cases h1 : oA o = 0
  · have h2 : oB o = 0 := by
      by_cases h2 : oB o = 0
      · exact h2
      · exact absurd h1 (w4 h2)
    rw [if_pos h1, if_pos h2] at e
    simp only [List.append_nil] at e
    rw [e, spl_out w2, oFit_z ha h1, oFit_z hb h2]
    exact ⟨gn_nil, gn_nil⟩
  · have ra := oFit_r ha h1
    rw [if_neg h1] at e
    by_cases h2 : oB o = 0
    · rw [if_pos h2] at e
      rw [List.append_nil] at e
      rw [e, spl_in w2, spl_out (pr_no32 ra.1), oFit_z hb h2]
      exact ⟨gn_in ra, gn_nil⟩
    · have rb := oFit_r hb h2
      rw [if_neg h2] at e
      have e' : oLl o a b = oWl o ++ 32 :: (pr a ++ 32 :: pr b) := by rw [e]; simp
      rw [e', spl_in w2, spl_in (pr_no32 ra.1), spl_out (pr_no32 rb.1)]
      exact ⟨gn_in ra, gn_in rb⟩
theorem okR_is {l : List UInt8} (h : okR l = true) : l ≠ [] ∧ l = oLl (rdO l) (rdA l) (rdB l) ∧ oRight (rdO l) (rdA l) (rdB l) = true := by
  unfold okR at h
  simp only [Bool.and_eq_true, Bool.not_eq_true', beq_eq_false_iff_ne, beq_iff_eq] at h
  refine ⟨h.1, h.2.symm, ?_⟩
  cases hr : oRight (rdO l) (rdA l) (rdB l)
  · have := oLl_no hr
    rw [h.2] at this
    exact absurd this h.1
  · rfl
/-- a text that is the line of some instruction with the numbers of its parts -/
theorem read_hit {l : List UInt8} {k : Int} (hl : l ≠ []) (h : oLl k (rf1 l) (rf2 l) = l) : okR l = true ∧ rdO l = k ∧ rdA l = rf1 l ∧ rdB l = rf2 l := by
  have hr : oRight k (rf1 l) (rf2 l) = true := by
    cases hr : oRight k (rf1 l) (rf2 l)
    · have := oLl_no hr
      rw [h] at this
      exact absurd this hl
    · rfl
  obtain ⟨h1, h2, h3, h4⟩ := rd_line hr
  have h5 := okR_line (o := k) (a := rf1 l) (b := rf2 l)
  rw [h] at h1 h2 h3 h5
  exact ⟨h5.trans hr, h1, h2, h3⟩
theorem read_miss {l : List UInt8} (h : ∀ k : Nat, k < 38 → l = [] ∨ oLl k (rf1 l) (rf2 l) ≠ l) : okR l = false := by
  cases hk : okR l
  · rfl
  · obtain ⟨h1, h2, h3⟩ := okR_is hk
    obtain ⟨r1, r2⟩ := rf_line h3
    rw [← h2] at r1 r2
    obtain ⟨ho, _⟩ := oRight_split h3
    have := (h (rdO l).toNat (by omega)).resolve_left h1
    rw [r1, r2, show (((rdO l).toNat : Nat) : Int) = rdO l by omega] at this
    exact absurd h2.symm this
theorem spl_len (c : UInt8) (l : List UInt8) : 0 < (spl c l).length := by unfold spl; simp
theorem spS_sz (c : UInt8) (l : List UInt8) : ∀ k, k ≤ l.length → (spS c (l.take k)).2.length ≤ k ∧ ∀ s ∈ (spS c (l.take k)).1, s.length ≤ k := by
  intro k
  induction k with
  | zero => intro _; simp [spS]
  | succ k ih =>
    intro hk
    obtain ⟨h1, h2⟩ := ih (by omega)
    rw [take_step (by omega), spS_snoc]
    split
    · refine ⟨by simp, fun s hs => ?_⟩
      rcases List.mem_append.1 hs with hs | hs
      · have := h2 s hs; omega
      · have := List.mem_singleton.1 hs; rw [this]; omega
    · refine ⟨by simp; omega, fun s hs => ?_⟩
      have := h2 s hs; omega
theorem spl_sz (c : UInt8) (l : List UInt8) (i : Nat) : ((spl c l).getD i []).length ≤ l.length := by
  obtain ⟨h1, h2⟩ := spS_sz c l l.length (Nat.le_refl _)
  rw [List.take_length] at h1 h2
  unfold spl
  simp only [List.getD]
  cases h : ((spS c l).1 ++ [(spS c l).2])[i]? with
  | none => simp
  | some s =>
    have hm := List.mem_of_getElem? h
    rcases List.mem_append.1 hm with hm | hm
    · exact h2 s hm
    · have := List.mem_singleton.1 hm; subst this; exact h1
/-- what the first loop has come to -/
def Rd12 (n : Nat) (a b : Int) (k : Nat) (x y : Int) : Prop := (k = 1 ∧ x = 0 ∧ y = 0) ∨ (k = 2 ∧ 2 ≤ n ∧ x = a ∧ y = 0) ∨ (k = 3 ∧ 3 ≤ n ∧ x = a ∧ y = b)
set_option maxHeartbeats 4000000 in
theorem ref12_Read (l : List UInt8) (hl : l.length ≤ 1000) (w : World) : Calls Tryd.prog 17 #[.string ⟨l.toArray⟩] w fun e w' => e = .returned (.tuple #[.agg #[.int .i64 (rr l (rdO l)), .int .i64 (rr l (rdA l)), .int .i64 (rr l (rdB l))], .bool (okR l)]) ∧ Below w.heap.size w w' := by
  have cp := @cell_past
  have hn := spl_len 32 l
  have hz1 := spl_sz 32 l
  have ra := gn_range ((spl 32 l).getD 1 [])
  have rb := gn_range ((spl 32 l).getD 2 [])
  have hrf1 : gn ((spl 32 l).getD 1 []) = rf1 l := rfl
  have hrf2 : gn ((spl 32 l).getD 2 []) = rf2 l := rfl
  have h1z : (spl 32 l).length ≤ 1 → rf1 l = 0 := fun h => by rw [← hrf1]; simp only [List.getD, List.getElem?_eq_none h]; exact gn_nil
  have h2z : (spl 32 l).length ≤ 2 → rf2 l = 0 := fun h => by rw [← hrf2]; simp only [List.getD, List.getElem?_eq_none h]; exact gn_nil
  have H1 := Lib.hid h1z
  have H2 := Lib.hid h2z
  have HIT := Lib.hid (fun k => @read_hit l k)
  have MISS := Lib.hid (@read_miss l)
  rw [hrf1] at ra
  rw [hrf2] at rb
  have RA := Lib.hid ra
  have RB := Lib.hid rb
  clear h1z h2z ra rb
  go_enter Tryd.func17, Tryd.ntmps17
  go_wp2_with fail
  refine (ref12_Split l 32 hl _).mono ?_; rintro e w1 ⟨r, rfl, hown, hb1⟩
  obtain ⟨g, cap, rfl, hgc, hg0, hg1⟩ := owns_slice hown hn
  have hcell : ∀ i, i < (spl 32 l).length → w1.cell? ⟨g, i, none⟩ = some (strAt (spl 32 l) i) := fun i hi => by
    obtain ⟨u, h1, h2⟩ := owns_cell hown i hi
    rw [h2, ← h1, strV_at hi]
  have hB1 : Below (w.heap.size + 1) (w.alloc (.cells #[.int .i64 0, .int .i64 0, .int .i64 0] 23)) w1 := by simpa using hb1
  have hz2 : w.heap.size < w1.heap.size := by have := hB1.size; simp at this; omega
  clear hown hb1
  generalize hN : (spl 32 l).length = N at *
  go_wp2_with fail
  go_loopw [6, 7, 8] (fun j v u wr => ∃ (k : Nat) (x y : Int), Rd12 N (rf1 l) (rf2 l) k x y ∧ j = .int .i64 k ∧ wr = w1.alloc (.cells #[.int .i64 0, .int .i64 x, .int .i64 y] 47)) (fun j _ _ _ => 3 - (intOf j).toNat)
  case atStart => exact ⟨1, 0, 0, Or.inl ⟨rfl, rfl, rfl⟩, rfl, rfl⟩
  case round =>
    obtain ⟨k, x, y, hrd, rfl, rfl⟩ := hrel
    by_cases hgo : k < N ∧ k < 3
    · obtain ⟨g1, g2⟩ := hgo
      have c := hcell k g1
      unfold strAt at c
      have hsz := hz1 k
      rcases hrd with ⟨rfl, rfl, rfl⟩ | ⟨rfl, h2, rfl, rfl⟩ | ⟨rfl, h2, rfl, rfl⟩
      · generalize (spl 32 l).getD 1 [] = s at *
        clear hcell hz1 hrf2
        go_wp2_with fail
        refine (ref04_Parse s (by omega) _).mono ?_; rintro e w' ⟨rfl, rfl⟩
        rw [hrf1]
        go_wp2_with fail
        go_roundw
        case rel => exact ⟨2, rf1 l, 0, Or.inr (Or.inl ⟨rfl, by omega, rfl, rfl⟩), rfl, rfl⟩
        case measure => first | (simp [intOf]; done) | (simp [intOf]; omega)
      · generalize (spl 32 l).getD 2 [] = s at *
        clear hcell hz1 hrf1
        go_wp2_with fail
        refine (ref04_Parse s (by omega) _).mono ?_; rintro e w' ⟨rfl, rfl⟩
        rw [hrf2]
        go_wp2_with fail
        go_roundw
        case rel => exact ⟨3, rf1 l, rf2 l, Or.inr (Or.inr ⟨rfl, by omega, rfl, rfl⟩), rfl, rfl⟩
        case measure => first | (simp [intOf]; done) | (simp [intOf]; omega)
      · omega
    · obtain ⟨rfl, rfl⟩ : x = rf1 l ∧ y = rf2 l := by
        rcases hrd with ⟨rfl, rfl, rfl⟩ | ⟨rfl, h2, rfl, rfl⟩ | ⟨rfl, h2, rfl, rfl⟩
        · exact ⟨(H1.out (by omega)).symm, (H2.out (by omega)).symm⟩
        · exact ⟨rfl, (H2.out (by omega)).symm⟩
        · exact ⟨rfl, rfl⟩
      have hk3 : k ≤ 3 := by rcases hrd with ⟨rfl, _⟩ | ⟨rfl, _⟩ | ⟨rfl, _⟩ <;> omega
      clear hrd hcell hrf1 hrf2 hz1
      generalize hx : rf1 l = x at *
      generalize hy : rf2 l = y at *
      have HX := Lib.hid hx
      have HY := Lib.hid hy
      clear hx hy
      have hB0 : Below w.heap.size w w1 := Below.trans (by (repeat' (first | (with_reducible exact Below.refl _ _) | (with_reducible assumption) | (with_reducible refine below_drewN ?_ _) | (with_reducible refine Below.alloc ?_ ?_ _) | (with_reducible refine Below.drew ?_) | (with_reducible refine Below.setCell ?_ ?_ _) | go_size))) (hB1.mono (by omega))
      obtain ⟨W1, hW1⟩ : ∃ W1, W1 = w1.alloc (.cells #[.int .i64 0, .int .i64 x, .int .i64 y] 47) := ⟨_, rfl⟩
      have hBW : Below w1.heap.size w1 W1 := by rw [hW1]; exact (Below.refl _ _).alloc (Nat.le_refl _) _
      have c1 : W1.cell? ⟨w1.heap.size, 1, none⟩ = some (.int .i64 x) := by rw [hW1, cell_at rfl]; rfl
      have c2 : W1.cell? ⟨w1.heap.size, 2, none⟩ = some (.int .i64 y) := by rw [hW1, cell_at rfl]; rfl
      have hzW : w1.heap.size < W1.heap.size := by rw [hW1]; simp
      rw [← hW1]
      clear hW1
      have hcase : ((k : Int) < N) = True ∧ ((k : Int) < 3) = False ∨ ((k : Int) < N) = False := by
        by_cases h : k < N
        · exact Or.inl ⟨eq_true (by omega), eq_false (by omega)⟩
        · exact Or.inr (eq_false (by omega))
      clear hgo hk3
      rcases hcase with ⟨q1, q2⟩ | q1
      all_goals
        go_wp2_with fail
        go_loopw [9] (fun j wr => ∃ m : Nat, m ≤ 38 ∧ j = .int .i64 m ∧ Hid (∀ q : Nat, q < m → l = [] ∨ oLl q x y ≠ l) ∧ Below W1.heap.size W1 wr) (fun j _ => 38 - (intOf j).toNat)
        case atStart => exact ⟨0, by omega, rfl, Lib.hid (fun q hq => by omega), Below.refl _ _⟩
        case round =>
          obtain ⟨m, hm, rfl, hno, hB⟩ := hrel
          by_cases h38 : m < 38
          · have d1 := (hB.cell (p := ⟨w1.heap.size, 1, none⟩) hzW).trans c1
            have d2 := (hB.cell (p := ⟨w1.heap.size, 2, none⟩) hzW).trans c2
            have hzr := hB.size
            by_cases hl0 : l = []
            · have hb := beqs_yes hl0
              have hno2 := Lib.hid (fun (q : Nat) (hq : q < m + 1) => (Or.inl hl0 : l = [] ∨ oLl q x y ≠ l))
              have he : l.isEmpty = true := by rw [hl0]; rfl
              clear hl0
              go_wp2_with fail
              go_roundw
              case rel => exact ⟨m + 1, by omega, by simp, hno2, hB.alloc hzr _⟩
              case measure => first | (simp [intOf]; done) | (simp [intOf]; omega)
            · have hb := beqs_no hl0
              have he : l.isEmpty = false := by simpa using hl0
              have hln := oLine_ba m x y
              have hL := ref12_Line m x y RA.out RB.out
              rw [hln] at hL
              by_cases hc : oLl m x y = l
              · have hb2 := beqs_yes hc
                obtain ⟨r1, r2, r3, r4⟩ := HIT.out m hl0 hc
                have q := rr_yes r1
                have Q1 := Lib.hid (q (rdO l))
                have Q2 := Lib.hid (q (rdA l))
                have Q3 := Lib.hid (q (rdB l))
                rw [r2] at Q1
                rw [r3] at Q2
                rw [r4] at Q3
                have R1 := Lib.hid r1
                have R2 := Lib.hid r2
                have R3 := Lib.hid r3
                have R4 := Lib.hid r4
                clear q r1 r2 r3 r4 hc hl0 hln
                generalize oLl (m : Int) x y = z at *
                go_wp2_with fail
                refine (hL _).mono ?_; rintro e w2 ⟨rfl, hb3⟩
                have e3 := C3.new wr m x y _ (by simpa using hb3)
                have hB2 : Below (w.heap.size + 1) (w.alloc (.cells #[.int .i64 0, .int .i64 0, .int .i64 0] 23)) w2 := hB1.trans (((hBW.mono hz2).trans (hB.mono (by omega))).trans (Below.trans ((Below.refl _ _).alloc (by omega) _) (hb3.mono (by simp; omega))))
                obtain ⟨ll, dd, rfl⟩ := more_of (show Below (w.alloc (.cells #[.int .i64 0, .int .i64 0, .int .i64 0] 23)).heap.size _ w2 by simpa using hB2)
                obtain ⟨k0, k1, k2⟩ := e3
                clear hb3 hB2 c1 c2 d1 d2 hL
                have mf := @more_frozen
                have ms := @more_set
                have mc := @more_cell
                go_wp2_with fail
                refine bodyPost_ret (by simp [results, Tryd.results17, go_sem, more_cell, more_size, more_frozen]; try rfl) rfl ?_
                exact ⟨by rw [R1.out, R2.out, R3.out, R4.out, Q1.out, Q2.out, Q3.out], by (repeat' (first | (with_reducible exact Below.refl _ _) | (with_reducible assumption) | (with_reducible refine more_below ?_ ?_ _ _) | (with_reducible refine below_drewN ?_ _) | (with_reducible refine Below.alloc ?_ ?_ _) | (with_reducible refine Below.drew ?_) | (with_reducible refine Below.setCell ?_ ?_ _) | (simp only [World.size_alloc, World.size_setCell, World.size_drew, more_size, World.heap_drewN]; omega) | go_size))⟩
              · have hb2 := beqs_no hc
                have hno2 := Lib.hid (fun (q : Nat) (hq : q < m + 1) => (show l = [] ∨ oLl q x y ≠ l from by
                  rcases (show q < m ∨ q = m by omega) with h3 | rfl
                  · exact hno.out q h3
                  · exact Or.inr hc))
                clear hc hl0 hln
                generalize oLl (m : Int) x y = z at *
                go_wp2_with fail
                refine (hL _).mono ?_; rintro e w2 ⟨rfl, hb3⟩
                have hB3 : Below W1.heap.size W1 w2 := (hB.alloc hzr _).trans (hb3.mono (by simp; omega))
                go_wp2_with fail
                go_roundw
                case rel => exact ⟨m + 1, by omega, by simp, hno2, hB3⟩
                case measure => first | (simp [intOf]; done) | (simp [intOf]; omega)
          · obtain rfl : m = 38 := by omega
            have r1 : okR l = false := MISS.out hno.out
            have q := rr_no r1
            have Q1 := Lib.hid (q (rdO l))
            have Q2 := Lib.hid (q (rdA l))
            have Q3 := Lib.hid (q (rdB l))
            have R1 := Lib.hid r1
            clear q r1
            have hB2 : Below (w.heap.size + 1) (w.alloc (.cells #[.int .i64 0, .int .i64 0, .int .i64 0] 23)) wr := hB1.trans ((hBW.mono hz2).trans (hB.mono (by omega)))
            obtain ⟨ll, dd, rfl⟩ := more_of (show Below (w.alloc (.cells #[.int .i64 0, .int .i64 0, .int .i64 0] 23)).heap.size _ wr by simpa using hB2)
            clear hB2 c1 c2 hB
            have mf := @more_frozen
            have ms := @more_set
            have mc := @more_cell
            go_wp2_with fail
            refine bodyPost_ret (by simp [results, Tryd.results17, go_sem, more_cell, more_size, more_frozen]; try rfl) rfl ?_
            exact ⟨by rw [Q1.out, Q2.out, Q3.out, R1.out], by (repeat' (first | (with_reducible exact Below.refl _ _) | (with_reducible assumption) | (with_reducible refine more_below ?_ ?_ _ _) | (with_reducible refine below_drewN ?_ _) | (with_reducible refine Below.alloc ?_ ?_ _) | (with_reducible refine Below.drew ?_) | (with_reducible refine Below.setCell ?_ ?_ _) | (simp only [World.size_alloc, World.size_setCell, World.size_drew, more_size, World.heap_drewN]; omega) | go_size))⟩
theorem eq_self (W : World) (a b c : Int) : (binOp .eql 23 (.agg #[.int .i64 a, .int .i64 b, .int .i64 c]) (.agg #[.int .i64 a, .int .i64 b, .int .i64 c])).run Tryd.prog W = .ok (.bool true) W := by
  rw [eq_instr]; simp
set_option maxHeartbeats 4000000 in
theorem opLines_walk (o a b : Int) (ha' : -9223372036854775808 ≤ a ∧ a ≤ 9223372036854775807) (hb' : -9223372036854775808 ≤ b ∧ b ≤ 9223372036854775807) (l : List UInt8) (w : World) (hT : OTab w) :
    Calls Tryd.prog 4 #[.agg #[.int .i64 o, .int .i64 a, .int .i64 b], .string ⟨l.toArray⟩] w fun e w' => e = .returned (.bool true) ∧ Below w.heap.size w w' := by
  by_cases hl : 100 < l.length
  · go_enter Tryd.func4, Tryd.ntmps4
    go_wp2_with fail
    refine (law12_awake _ (hT.below (by (repeat' (first | (with_reducible exact Below.refl _ _) | (with_reducible assumption) | (with_reducible refine more_below ?_ ?_ _ _) | (with_reducible refine below_drewN ?_ _) | (with_reducible refine Below.alloc ?_ ?_ _) | (with_reducible refine Below.drew ?_) | (with_reducible refine Below.setCell ?_ ?_ _) | (simp only [World.size_alloc, World.size_setCell, World.size_drew, more_size, World.heap_drewN]; omega) | go_size))))).mono ?_; rintro e W1 ⟨rfl, hb1⟩
    have hB : Below w.heap.size w W1 := Below.trans (by (repeat' (first | (with_reducible exact Below.refl _ _) | (with_reducible assumption) | (with_reducible refine below_drewN ?_ _) | (with_reducible refine Below.alloc ?_ ?_ _) | (with_reducible refine Below.drew ?_) | (with_reducible refine Below.setCell ?_ ?_ _) | go_size))) (hb1.mono (by simp))
    go_wp2_with fail
    go_ret
    exact ⟨rfl, hB⟩
  have hl2 : l.length ≤ 100 := by omega
  clear hl
  have cp := @cell_past
  have hL := @op_Line o a b ha' hb'
  have hL2 := @ref12_Line o a b ha' hb'
  have hRd := @op_Read l (by omega)
  have hRd2 := @ref12_Read l (by omega)
  have ha := law12_awake
  have heq := eq_self
  generalize oLine o a b = ln at *
  generalize rr l (rdO l) = x at *
  generalize rr l (rdA l) = y at *
  generalize rr l (rdB l) = z at *
  generalize okR l = ok at *
  go_enter Tryd.func4, Tryd.ntmps4
  go_wp2_with fail
  refine (hRd _ (hT.below (by (repeat' (first | (with_reducible exact Below.refl _ _) | (with_reducible assumption) | (with_reducible refine more_below ?_ ?_ _ _) | (with_reducible refine below_drewN ?_ _) | (with_reducible refine Below.alloc ?_ ?_ _) | (with_reducible refine Below.drew ?_) | (with_reducible refine Below.setCell ?_ ?_ _) | (simp only [World.size_alloc, World.size_setCell, World.size_drew, more_size, World.heap_drewN]; omega) | go_size))))).mono ?_; rintro e W0 ⟨rfl, hb1⟩
  have c0 := C3.new w o a b 23 (by simpa using hb1)
  have hB0 : Below w.heap.size w W0 := Below.trans (by (repeat' (first | (with_reducible exact Below.refl _ _) | (with_reducible assumption) | (with_reducible refine below_drewN ?_ _) | (with_reducible refine Below.alloc ?_ ?_ _) | (with_reducible refine Below.drew ?_) | (with_reducible refine Below.setCell ?_ ?_ _) | go_size))) (hb1.mono (by simp))
  have z0 : w.heap.size < W0.heap.size := by have := hb1.size; simp at this; omega
  clear hb1
  go_wp2_with fail
  refine (hRd2 _).mono ?_; rintro e W1 ⟨rfl, hb1⟩
  have hq : Below (W0.heap.size + 1) (W0.alloc (.cells #[.int .i64 x, .int .i64 y, .int .i64 z] 23)) W1 := by simpa using hb1
  have d1 := C3.new W0 x y z 23 hq
  have hB01 : Below W0.heap.size W0 W1 := Below.trans (by (repeat' (first | (with_reducible exact Below.refl _ _) | (with_reducible assumption) | (with_reducible refine below_drewN ?_ _) | (with_reducible refine Below.alloc ?_ ?_ _) | (with_reducible refine Below.drew ?_) | (with_reducible refine Below.setCell ?_ ?_ _) | go_size))) (hq.mono (by omega))
  have c1 := c0.keep z0 hB01
  have hB1 := hB0.trans (hB01.mono hB0.size)
  have y1 : W0.heap.size < W1.heap.size := by have := hq.size; simp at this; omega
  have z1 : w.heap.size < W1.heap.size := by omega
  clear hb1 hq hB01 c0
  go_wp2_with fail
  obtain ⟨W2, hW2⟩ : ∃ W2, W2 = W1.alloc (.cells #[.int .i64 x, .int .i64 y, .int .i64 z] 23) := ⟨_, rfl⟩
  rw [← hW2]
  have hB12 : Below W1.heap.size W1 W2 := by rw [hW2]; exact (Below.refl _ _).alloc (Nat.le_refl _) _
  have f2 := C3.new W1 x y z 23 (W' := W2) (by rw [hW2]; exact Below.refl _ _)
  have x2 : W1.heap.size < W2.heap.size := by rw [hW2]; simp
  have c2 := c1.keep z1 hB12
  have d2 := d1.keep y1 hB12
  have z2 : w.heap.size < W2.heap.size := by omega
  have y2 : W0.heap.size < W2.heap.size := by omega
  have hB2 := hB1.trans (hB12.mono hB1.size)
  clear hW2 c1 d1 hB12
  refine wp_region_held_drew (S := (fun w' => Below W2.heap.size W2 w')) (by kernel_rfl) ?_ (fun hHeld => ?_)
  · (try dsimp only); first | exact (Below.refl _ _).drew | exact hHeld.trans (hbz.mono hHeld.size) | (trace_state; fail)
  refine wpAnyH_take (i := 0) (oi := { dst := some 23, op := Op.load 23 (Operand.tmp 2), type := 23, pos := _, after := #[], guard := none }) (v := ?_) rfl (by kernel_rfl) (by kernel_rfl) (by kernel_rfl) (fun _ _ _ h => h) (Or.inl ⟨by rfl, ?_⟩) (by assumption) ?_
  rotate_left
  · intro wt hSw; (try dsimp only at hSw); obtain ⟨u0, u1, u2⟩ := C3.keep c2 z2 hSw; first | (go_simp; done) | (go_simp; with_reducible rfl) | (trace_state; fail)
  try simp only [Act.put, List.setIfInBounds_toArray, List.set_cons_zero, List.set_cons_succ]
  refine wpAnyH_take (i := 2) (oi := { dst := some 25, op := Op.load 23 (Operand.tmp 2), type := 23, pos := _, after := #[], guard := none }) (v := ?_) rfl (by kernel_rfl) (by kernel_rfl) (by kernel_rfl) (fun _ _ _ h => h) (Or.inl ⟨by rfl, ?_⟩) (by assumption) ?_
  rotate_left
  · intro wt hSw; (try dsimp only at hSw); obtain ⟨u0, u1, u2⟩ := C3.keep c2 z2 hSw; first | (go_simp; done) | (go_simp; with_reducible rfl) | (trace_state; fail)
  try simp only [Act.put, List.setIfInBounds_toArray, List.set_cons_zero, List.set_cons_succ]
  refine wpAnyH_ready (rs := [1]) (by kernel_rfl) (by simp) ?_
  refine AllReadyH.cons (o := { dst := some 24, op := Op.call { callee := Callee.value (Operand.func 18), args := #[Operand.tmp 23], argTypes := #[23] }, type := 9, pos := _, after := #[{ on := 0, ground := Ground.data }], guard := none }) rfl (fun K hK => ?_) AllReadyH.nil
  go_simp
  refine (hL _ (hT.below (hB2.trans (hHeld.mono hB2.size)))).mono ?_; rintro e wz ⟨rfl, hbz⟩
  go_wp2_with fail
  refine hK.out _ _ ?_ (fun hHeld => ?_)
  · (try dsimp only); first | exact (Below.refl _ _).drew | exact hHeld.trans (hbz.mono hHeld.size) | (trace_state; fail)
  clear hK K
  try simp only [Act.put, List.setIfInBounds_toArray, List.set_cons_zero, List.set_cons_succ]
  refine wpAnyH_ready (rs := [3]) (by kernel_rfl) (by simp) ?_
  refine AllReadyH.cons (o := { dst := some 26, op := Op.call { callee := Callee.value (Operand.func 19), args := #[Operand.tmp 25], argTypes := #[23] }, type := 9, pos := _, after := #[{ on := 2, ground := Ground.data }, { on := 1, ground := Ground.chain }], guard := none }) rfl (fun K hK => ?_) AllReadyH.nil
  go_simp
  refine (hL2 _).mono ?_; rintro e wz ⟨rfl, hbz⟩
  go_wp2_with fail
  refine hK.out _ _ ?_ (fun hHeld => ?_)
  · (try dsimp only); first | exact (Below.refl _ _).drew | exact hHeld.trans (hbz.mono hHeld.size) | (trace_state; fail)
  clear hK K
  try simp only [Act.put, List.setIfInBounds_toArray, List.set_cons_zero, List.set_cons_succ]
  refine wpAnyH_take (i := 4) (oi := { dst := some 27, op := Op.binOp BinOp.eql 9 (Operand.tmp 24) (Operand.tmp 26) 9, type := 4, pos := _, after := #[{ on := 1, ground := Ground.data }, { on := 3, ground := Ground.data }], guard := none }) (v := ?_) rfl (by kernel_rfl) (by kernel_rfl) (by kernel_rfl) (fun _ _ _ h => h) (Or.inl ⟨by rfl, ?_⟩) (by assumption) ?_
  rotate_left
  · intro w hSw; (try dsimp only at hSw); first | (go_simp; done) | (go_simp; with_reducible rfl)
  try simp only [Act.put, List.setIfInBounds_toArray, List.set_cons_zero, List.set_cons_succ]
  refine wpAnyH_take (i := 5) (oi := { dst := some 28, op := Op.move (Operand.tmp 27), type := 4, pos := _, after := #[{ on := 4, ground := Ground.data }, { on := 3, ground := Ground.chain }], guard := none }) (v := ?_) rfl (by kernel_rfl) (by kernel_rfl) (by kernel_rfl) (fun _ _ _ h => h) (Or.inl ⟨by rfl, ?_⟩) (by assumption) ?_
  rotate_left
  · intro w hSw; (try dsimp only at hSw); first | (go_simp; done) | (go_simp; with_reducible rfl)
  try simp only [Act.put, List.setIfInBounds_toArray, List.set_cons_zero, List.set_cons_succ]
  refine wpAnyH_take (i := 6) (oi := { dst := some 29, op := Op.load 23 (Operand.tmp 5), type := 23, pos := _, after := #[{ on := 5, ground := Ground.guard }], guard := some (5, true) }) (v := ?_) rfl (by kernel_rfl) (by kernel_rfl) (by kernel_rfl) (fun _ _ _ h => h) (Or.inl ⟨by rfl, ?_⟩) (by assumption) ?_
  rotate_left
  · intro wt hSw; (try dsimp only at hSw); obtain ⟨u0, u1, u2⟩ := C3.keep d2 y2 hSw; first | (go_simp; done) | (go_simp; with_reducible rfl) | (trace_state; fail)
  try simp only [Act.put, List.setIfInBounds_toArray, List.set_cons_zero, List.set_cons_succ]
  refine wpAnyH_take (i := 7) (oi := { dst := some 30, op := Op.load 23 (Operand.tmp 7), type := 23, pos := _, after := #[{ on := 5, ground := Ground.guard }], guard := some (5, true) }) (v := ?_) rfl (by kernel_rfl) (by kernel_rfl) (by kernel_rfl) (fun _ _ _ h => h) (Or.inl ⟨by rfl, ?_⟩) (by assumption) ?_
  rotate_left
  · intro wt hSw; (try dsimp only at hSw); obtain ⟨u0, u1, u2⟩ := C3.keep f2 x2 hSw; first | (go_simp; done) | (go_simp; with_reducible rfl) | (trace_state; fail)
  try simp only [Act.put, List.setIfInBounds_toArray, List.set_cons_zero, List.set_cons_succ]
  refine wpAnyH_take (i := 8) (oi := { dst := some 31, op := Op.binOp BinOp.eql 23 (Operand.tmp 29) (Operand.tmp 30) 23, type := 4, pos := _, after := #[{ on := 6, ground := Ground.data }, { on := 7, ground := Ground.data }, { on := 5, ground := Ground.guard }], guard := some (5, true) }) (v := ?_) rfl (by kernel_rfl) (by kernel_rfl) (by kernel_rfl) (fun _ _ _ h => h) (Or.inl ⟨by rfl, ?_⟩) (by assumption) ?_
  rotate_left
  · intro w hSw; (try dsimp only at hSw); first | (go_simp; done) | (go_simp; with_reducible rfl)
  try simp only [Act.put, List.setIfInBounds_toArray, List.set_cons_zero, List.set_cons_succ]
  refine wpAnyH_take (i := 9) (oi := { dst := some 32, op := Op.pick (Operand.tmp 28) (Operand.tmp 31) (Operand.const (Value.bool false)), type := 4, pos := _, after := #[{ on := 5, ground := Ground.data }, { on := 8, ground := Ground.data }], guard := none }) (v := ?_) rfl (by kernel_rfl) (by kernel_rfl) (by kernel_rfl) (fun _ _ _ h => h) (Or.inl ⟨by rfl, ?_⟩) (by assumption) ?_
  rotate_left
  · intro w hSw; (try dsimp only at hSw); first | (go_simp; done) | (go_simp; with_reducible rfl)
  try simp only [Act.put, List.setIfInBounds_toArray, List.set_cons_zero, List.set_cons_succ]
  refine wpAnyH_take (i := 10) (oi := { dst := some 33, op := Op.move (Operand.tmp 32), type := 4, pos := _, after := #[{ on := 9, ground := Ground.data }, { on := 5, ground := Ground.chain }], guard := none }) (v := ?_) rfl (by kernel_rfl) (by kernel_rfl) (by kernel_rfl) (fun _ _ _ h => h) (Or.inl ⟨by rfl, ?_⟩) (by assumption) ?_
  rotate_left
  · intro w hSw; (try dsimp only at hSw); first | (go_simp; done) | (go_simp; with_reducible rfl)
  try simp only [Act.put, List.setIfInBounds_toArray, List.set_cons_zero, List.set_cons_succ]
  refine wpAnyH_take (i := 11) (oi := { dst := some 34, op := Op.move (Operand.tmp 6), type := 4, pos := _, after := #[{ on := 10, ground := Ground.guard }], guard := some (10, true) }) (v := ?_) rfl (by kernel_rfl) (by kernel_rfl) (by kernel_rfl) (fun _ _ _ h => h) (Or.inl ⟨by rfl, ?_⟩) (by assumption) ?_
  rotate_left
  · intro w hSw; (try dsimp only at hSw); first | (go_simp; done) | (go_simp; with_reducible rfl)
  try simp only [Act.put, List.setIfInBounds_toArray, List.set_cons_zero, List.set_cons_succ]
  refine wpAnyH_take (i := 12) (oi := { dst := some 35, op := Op.move (Operand.tmp 8), type := 4, pos := _, after := #[{ on := 10, ground := Ground.guard }], guard := some (10, true) }) (v := ?_) rfl (by kernel_rfl) (by kernel_rfl) (by kernel_rfl) (fun _ _ _ h => h) (Or.inl ⟨by rfl, ?_⟩) (by assumption) ?_
  rotate_left
  · intro w hSw; (try dsimp only at hSw); first | (go_simp; done) | (go_simp; with_reducible rfl)
  try simp only [Act.put, List.setIfInBounds_toArray, List.set_cons_zero, List.set_cons_succ]
  refine wpAnyH_take (i := 13) (oi := { dst := some 36, op := Op.binOp BinOp.eql 4 (Operand.tmp 34) (Operand.tmp 35) 4, type := 4, pos := _, after := #[{ on := 11, ground := Ground.data }, { on := 12, ground := Ground.data }, { on := 10, ground := Ground.guard }], guard := some (10, true) }) (v := ?_) rfl (by kernel_rfl) (by kernel_rfl) (by kernel_rfl) (fun _ _ _ h => h) (Or.inl ⟨by rfl, ?_⟩) (by assumption) ?_
  rotate_left
  · intro w hSw; (try dsimp only at hSw); first | (go_simp; done) | (go_simp; with_reducible rfl)
  try simp only [Act.put, List.setIfInBounds_toArray, List.set_cons_zero, List.set_cons_succ]
  refine wpAnyH_take (i := 14) (oi := { dst := some 37, op := Op.pick (Operand.tmp 33) (Operand.tmp 36) (Operand.const (Value.bool false)), type := 4, pos := _, after := #[{ on := 10, ground := Ground.data }, { on := 13, ground := Ground.data }], guard := none }) (v := ?_) rfl (by kernel_rfl) (by kernel_rfl) (by kernel_rfl) (fun _ _ _ h => h) (Or.inl ⟨by rfl, ?_⟩) (by assumption) ?_
  rotate_left
  · intro w hSw; (try dsimp only at hSw); first | (go_simp; done) | (go_simp; with_reducible rfl)
  try simp only [Act.put, List.setIfInBounds_toArray, List.set_cons_zero, List.set_cons_succ]
  refine wpAnyH_take (i := 15) (oi := { dst := some 38, op := Op.move (Operand.tmp 37), type := 4, pos := _, after := #[{ on := 14, ground := Ground.data }, { on := 10, ground := Ground.chain }], guard := none }) (v := ?_) rfl (by kernel_rfl) (by kernel_rfl) (by kernel_rfl) (fun _ _ _ h => h) (Or.inl ⟨by rfl, ?_⟩) (by assumption) ?_
  rotate_left
  · intro w hSw; (try dsimp only at hSw); first | (go_simp; done) | (go_simp; with_reducible rfl)
  try simp only [Act.put, List.setIfInBounds_toArray, List.set_cons_zero, List.set_cons_succ]
  refine wpAnyH_ready (rs := [16]) (by kernel_rfl) (by simp) ?_
  refine AllReadyH.cons (o := { dst := some 39, op := Op.call { callee := Callee.value (Operand.func 6), args := #[], argTypes := #[] }, type := 4, pos := _, after := #[{ on := 15, ground := Ground.chain }, { on := 15, ground := Ground.guard }], guard := some (15, true) }) rfl (fun K hK => ?_) AllReadyH.nil
  go_simp
  refine (ha _ (hT.below (hB2.trans (hHeld.mono hB2.size)))).mono ?_; rintro e wz ⟨rfl, hbz⟩
  go_wp2_with fail
  refine hK.out _ _ ?_ (fun hHeld => ?_)
  · (try dsimp only); first | exact (Below.refl _ _).drew | exact hHeld.trans (hbz.mono hHeld.size) | (trace_state; fail)
  clear hK K
  try simp only [Act.put, List.setIfInBounds_toArray, List.set_cons_zero, List.set_cons_succ]
  refine wpAnyH_take (i := 17) (oi := { dst := some 40, op := Op.pick (Operand.tmp 38) (Operand.tmp 39) (Operand.const (Value.bool false)), type := 4, pos := _, after := #[{ on := 15, ground := Ground.data }, { on := 16, ground := Ground.data }], guard := none }) (v := ?_) rfl (by kernel_rfl) (by kernel_rfl) (by kernel_rfl) (fun _ _ _ h => h) (Or.inl ⟨by rfl, ?_⟩) (by assumption) ?_
  rotate_left
  · intro w hSw; (try dsimp only at hSw); first | (go_simp; done) | (go_simp; with_reducible rfl)
  try simp only [Act.put, List.setIfInBounds_toArray, List.set_cons_zero, List.set_cons_succ]
  refine wpAnyH_take (i := 18) (oi := { dst := some 4, op := Op.assign (Operand.tmp 40), type := 4, pos := _, after := #[{ on := 17, ground := Ground.data }, { on := 16, ground := Ground.chain }, { on := 0, ground := Ground.phase }, { on := 1, ground := Ground.phase }, { on := 2, ground := Ground.phase }, { on := 3, ground := Ground.phase }, { on := 4, ground := Ground.phase }, { on := 5, ground := Ground.phase }, { on := 6, ground := Ground.phase }, { on := 7, ground := Ground.phase }, { on := 8, ground := Ground.phase }, { on := 9, ground := Ground.phase }, { on := 10, ground := Ground.phase }, { on := 11, ground := Ground.phase }, { on := 12, ground := Ground.phase }, { on := 13, ground := Ground.phase }, { on := 14, ground := Ground.phase }, { on := 15, ground := Ground.phase }, { on := 16, ground := Ground.phase }, { on := 17, ground := Ground.phase }], guard := none }) (v := ?_) rfl (by kernel_rfl) (by kernel_rfl) (by kernel_rfl) (fun _ _ _ h => h) (Or.inl ⟨by rfl, ?_⟩) (by assumption) ?_
  rotate_left
  · intro w hSw; (try dsimp only at hSw); first | (go_simp; done) | (go_simp; with_reducible rfl)
  try simp only [Act.put, List.setIfInBounds_toArray, List.set_cons_zero, List.set_cons_succ]
  refine wpAnyH_done (by kernel_rfl) ?_ _
  go_wp2_with fail
  go_ret
  exact ⟨rfl, hB2.trans (hHeld.mono hB2.size)⟩
end Go.Proofs.YtmjhjcfjgefdiaaDoor
