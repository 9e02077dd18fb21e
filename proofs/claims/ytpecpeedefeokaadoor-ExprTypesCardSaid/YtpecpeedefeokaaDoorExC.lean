/- Layer 26: the document's Size, Deep, May, Room, Few. -/
import Derived.Test.YtpecpeedefeokaaDoorExB
namespace Go.Proofs.YtpecpeedefeokaaDoor
open Go.RowKit
set_option linter.unusedSimpArgs false
set_option linter.unusedVariables false
/-- what a loop over the expressions within needs -/
theorem box_expr (w : World) (o1 o2 o3 o4 : Int) (s : Value) : ∃ W0, W0 = w.alloc (.cells #[.int .i64 o1, .int .i64 o2, .int .i64 o3, .int .i64 o4, s] 30) ∧ W0.heap[w.heap.size]? = some (.cells #[.int .i64 o1, .int .i64 o2, .int .i64 o3, .int .i64 o4, s] 30) ∧ Below w.heap.size w W0 ∧ W0.heap.size = w.heap.size + 1 :=
  ⟨_, rfl, get_last rfl, by (repeat' (first | (with_reducible exact Below.refl _ _) | (with_reducible assumption) | (with_reducible refine below_drewN ?_ _) | (with_reducible refine Below.alloc ?_ ?_ _) | (with_reducible refine Below.drew ?_) | (with_reducible refine Below.setCell ?_ ?_ _) | go_size)), by simp⟩
noncomputable def roomL : List (Int → Int → Int) → Int → Int → Int
  | [], m, _ => m
  | f :: t, m, d => if f m d < 0 then -1 else roomL t (f m d) d
noncomputable def roomE : Ex → Int → Int → Int := foldE fun _ fs m d => if m < 1 ∨ d < 1 then -1 else roomL fs (m - 1) (d - 1)
theorem roomE_mk (e : Ex) (m d : Int) : roomE e m d = if m < 1 ∨ d < 1 then -1 else roomL (e.l.map roomE) (m - 1) (d - 1) := by
  have h := congrFun (congrFun (foldE_eq (α := Int → Int → Int) (fun _ fs m d => if m < 1 ∨ d < 1 then -1 else roomL fs (m - 1) (d - 1)) e) m) d
  exact h
theorem roomL_ok {l : List Ex} (h : ∀ x ∈ l, ∀ m d, (roomE x m d = -1 ∨ 0 ≤ roomE x m d ∧ roomE x m d = m - sizeE x)) : ∀ m d, 0 ≤ m → roomL (l.map roomE) m d = -1 ∨ 0 ≤ roomL (l.map roomE) m d ∧ roomL (l.map roomE) m d = m - ((l.map sizeE).sum : Nat) := by
  induction l with
  | nil => intro m d hm; exact Or.inr ⟨hm, by simp [roomL]⟩
  | cons x t ih =>
    intro m d hm
    rw [List.map_cons, roomL, List.map_cons, List.sum_cons]
    by_cases hn : roomE x m d < 0
    · rw [if_pos hn]; exact Or.inl rfl
    · rw [if_neg hn]
      rcases h x (by simp) m d with h1 | ⟨h1, h2⟩
      · omega
      · rcases ih (fun y hy => h y (by simp [hy])) (roomE x m d) d h1 with h3 | ⟨h3, h4⟩
        · exact Or.inl h3
        · exact Or.inr ⟨h3, by rw [h4, h2]; omega⟩
theorem roomE_ok (e : Ex) : ∀ m d, roomE e m d = -1 ∨ 0 ≤ roomE e m d ∧ roomE e m d = m - sizeE e := by
  induction e using Ex.ind with
  | h op t n m l ih =>
    intro M d
    rw [roomE_mk]
    split
    · exact Or.inl rfl
    · rename_i hc
      rcases roomL_ok ih (M - 1) (d - 1) (by omega) with h | ⟨h1, h2⟩
      · exact Or.inl h
      · refine Or.inr ⟨h1, ?_⟩
        show roomL (l.map roomE) _ _ = _
        rw [h2, sizeE_mk]
        show M - 1 - ((l.map sizeE).sum : Nat) = M - ((1 + (l.map sizeE).sum : Nat) : Int)
        omega
def fewE (e : Ex) (m : Int) : Prop := 0 ≤ roomE e m 40
theorem fewE_small {e : Ex} {m : Nat} (h : 0 ≤ roomE e m 40) : SmallE m e := by
  rcases roomE_ok e m 40 with h1 | ⟨h1, h2⟩
  · omega
  · unfold SmallE; omega
set_option maxHeartbeats 1000000 in
theorem ref26_Size : ∀ e, SmallE 300 e → ∀ w v, ExV w v e → Calls Tryd.prog 13 #[v] w fun r w' => r = .returned (.int .i64 (sizeE e)) ∧ Below w.heap.size w w' := by
  intro e
  induction e using Ex.ind with
  | h op t n m l ih =>
    intro hs w v hv
    have hlen := SmallE.len hs
    have hwi := SmallE.within hs
    have HT := Lib.hid (fun k => nat_sum_take (l.map sizeE) k)
    have HZ := Lib.hid (show sizeE ⟨op, t, n, m, l⟩ = 1 + (l.map sizeE).sum from sizeE_mk _)
    have hz3 : sizeE ⟨op, t, n, m, l⟩ ≤ 300 := hs
    have hsum : (l.map sizeE).sum ≤ 300 := by rw [HZ.out] at hz3; omega
    have HIH := Lib.hid (fun x (hx : x ∈ l) W u (h : Below w.heap.size w W) (hu : ExV W u x) => ih x hx (hwi x hx) W u hu)
    obtain ⟨s, rfl, hr, hrow⟩ := hv
    obtain ⟨sa, sc, rfl⟩ := row_get hrow
    have HX := Lib.hid hrow
    have hlen : l.length ≤ 300 := hlen
    obtain ⟨N, hN⟩ : ∃ N, l.length = N := ⟨_, rfl⟩
    have HN := Lib.hid hN
    simp only at HX ⊢
    rw [hN] at HX hlen ⊢
    clear hN ih hwi hrow hr
    obtain ⟨W0, hW0, o0, hb0, hsz0⟩ := box_expr w op t n m (.slice sa N sc)
    have HW0 := Lib.hid hW0
    have HO0 := Lib.hid o0
    have HB0 := Lib.hid hb0
    clear hW0 o0 hb0
    have HL := Lib.hid (show (l.map sizeE).length = N by rw [List.length_map]; exact HN.out)
    obtain ⟨L, hL⟩ : ∃ L, l.map sizeE = L := ⟨_, rfl⟩
    have HLL := Lib.hid hL
    rw [hL] at HT HZ HL hsum
    generalize sizeE ⟨op, t, n, m, l⟩ = Z at *
    clear hL hs
    go_enter Tryd.func13, Tryd.ntmps13
    go_wp2_with fail
    rw [← HW0.out]
    go_loopw [3, 4] (fun o jj wr => ∃ k : Nat, k ≤ N ∧ jj = .int .i64 k ∧ o = .int .i64 ((1 + (L.take k).sum : Nat) : Int) ∧ Hid (Below W0.heap.size W0 wr)) (fun _ jj _ => N - (intOf jj).toNat)
    case atStart => exact ⟨0, by omega, rfl, rfl, Lib.hid (Below.refl _ _)⟩
    case round =>
      obtain ⟨k, hk, rfl, rfl, hB⟩ := hrel
      have hBw := HB0.out.trans (hB.out.mono (by omega))
      have o1 := obj_below HO0.out hB.out (by omega)
      have c4 : wr.cell? ⟨w.heap.size, 4, none⟩ = some (.slice sa N sc) := obj_cell o1 (i := 4) rfl
      have hbl := heap_lt o1
      by_cases hlt : k < N
      · have qk : ((k : Int) < (N : Int)) = True := eq_true (by omega)
        have qk' : (k < N) = True := eq_true hlt
        obtain ⟨x, hx⟩ := get_some (L := l) (n := k) (by rw [HN.out]; exact hlt)
        obtain ⟨b, off, s1, sn1, sc1, rfl, hbw, hc1, hc2, d0, d1, d2, d3, d4, hxv⟩ := ex_at HX.out hx
        have hmem := List.mem_of_getElem? hx
        have d0 := (hBw.cell (p := ⟨b, off + k * 5, none⟩) hbw).trans d0
        have d1 := (hBw.cell (p := ⟨b, off + k * 5 + 1, none⟩) hbw).trans d1
        have d2 := (hBw.cell (p := ⟨b, off + k * 5 + 2, none⟩) hbw).trans d2
        have d3 := (hBw.cell (p := ⟨b, off + k * 5 + 3, none⟩) hbw).trans d3
        have d4 := (hBw.cell (p := ⟨b, off + k * 5 + 4, none⟩) hbw).trans d4
        have HC := Lib.hid (HIH.out x hmem wr _ hBw (hxv.below hBw))
        have HLT := Lib.hid hlt
        have HBr := Lib.hid hB.out
        have hsz := hB.out.size
        have hs : (L.take (k + 1)).sum = (L.take k).sum + sizeE x := by rw [take_snoc (show L[k]? = some (sizeE x) by rw [← HLL.out, List.getElem?_map, hx]; rfl)]; simp
        have hbt := HT.out (k + 1)
        obtain ⟨z, hz⟩ : ∃ z, sizeE x = z := ⟨_, rfl⟩
        rw [hz] at hs HC
        obtain ⟨S, hS⟩ : ∃ S, (L.take k).sum = S := ⟨_, rfl⟩
        rw [hS] at hs ⊢
        have HS := Lib.hid hs
        have hSx : S + z ≤ 300 := by omega
        have hnx := Lib.hid (show ((1 + S : Nat) : Int) + (z : Int) = ((1 + (S + z) : Nat) : Int) by omega)
        obtain ⟨q, hq⟩ : ∃ q, 1 + S = q := ⟨_, rfl⟩
        rw [hq] at hnx ⊢
        have hqq : q ≤ 301 := by omega
        have hzz : z ≤ 300 := by omega
        clear hs hbt hS hz hx hmem hxv hlt hBw hq o1
        go_wp2_with fail
        refine HC.out.mono ?_; rintro r w2 ⟨rfl, hb2⟩
        have HB2 := Lib.hid (HBr.out.trans (hb2.mono hsz))
        clear hb2
        go_wp2_with fail
        go_roundw
        case rel => exact ⟨k + 1, by have := HLT.out; omega, by simp, by rw [HS.out, hnx.out], HB2⟩
        case measure => have := HLT.out; first | (simp [intOf]; done) | (simp [intOf]; omega)
      · obtain rfl : k = N := by omega
        have qk : ((k : Int) < (k : Int)) = False := eq_false (by omega)
        have qk' : (k < k) = False := eq_false (by omega)
        rw [List.take_of_length_le (by rw [HL.out]; exact Nat.le_refl _), ← HZ.out]
        have HBW := Lib.hid hBw
        clear hBw o1
        go_wp2_with fail
        go_ret
        exact ⟨rfl, HBW.out⟩
set_option maxHeartbeats 1000000 in
theorem ref26_Deep : ∀ e, SmallE 300 e → ∀ w v, ExV w v e → Calls Tryd.prog 15 #[v] w fun r w' => r = .returned (.int .i64 (deepE e)) ∧ Below w.heap.size w w' := by
  intro e
  induction e using Ex.ind with
  | h op t n m l ih =>
    intro hs w v hv
    have hlen := SmallE.len hs
    have hwi := SmallE.within hs
    have HT := Lib.hid (fun k => show ((l.map deepE).take k).foldl max 0 ≤ 300 from foldl_max_le 0 (by omega) fun y hy => by
      obtain ⟨x, hx, rfl⟩ := List.mem_map.1 (List.mem_of_mem_take hy)
      exact Nat.le_trans (deepE_le x) (hwi x hx))
    have HD := Lib.hid (fun x (hx : x ∈ l) => show deepE x ≤ 300 from Nat.le_trans (deepE_le x) (hwi x hx))
    have HZ := Lib.hid (show deepE ⟨op, t, n, m, l⟩ = (l.map deepE).foldl max 0 + 1 from deepE_mk _)
    have HIH := Lib.hid (fun x (hx : x ∈ l) W u (h : Below w.heap.size w W) (hu : ExV W u x) => ih x hx (hwi x hx) W u hu)
    obtain ⟨s, rfl, hr, hrow⟩ := hv
    obtain ⟨sa, sc, rfl⟩ := row_get hrow
    have HX := Lib.hid hrow
    have hlen : l.length ≤ 300 := hlen
    obtain ⟨N, hN⟩ : ∃ N, l.length = N := ⟨_, rfl⟩
    have HN := Lib.hid hN
    simp only at HX ⊢
    rw [hN] at HX hlen ⊢
    clear hN ih hwi hrow hr
    obtain ⟨W0, hW0, o0, hb0, hsz0⟩ := box_expr w op t n m (.slice sa N sc)
    have HW0 := Lib.hid hW0
    have HO0 := Lib.hid o0
    have HB0 := Lib.hid hb0
    clear hW0 o0 hb0
    have HL := Lib.hid (show (l.map deepE).length = N by rw [List.length_map]; exact HN.out)
    obtain ⟨L, hL⟩ : ∃ L, l.map deepE = L := ⟨_, rfl⟩
    have HLL := Lib.hid hL
    rw [hL] at HT HZ HL
    rw [HZ.out]
    obtain ⟨Z, hZ2⟩ : ∃ Z, L.foldl max 0 = Z := ⟨_, rfl⟩
    have HZ2 := Lib.hid hZ2
    rw [hZ2]
    clear hL hs hZ2
    go_enter Tryd.func15, Tryd.ntmps15
    go_wp2_with fail
    rw [← HW0.out]
    go_loopw [3, 4] (fun o jj wr => ∃ k : Nat, k ≤ N ∧ jj = .int .i64 k ∧ o = .int .i64 (((L.take k).foldl max 0 : Nat) : Int) ∧ Hid (Below W0.heap.size W0 wr)) (fun _ jj _ => N - (intOf jj).toNat)
    case atStart => exact ⟨0, by omega, rfl, rfl, Lib.hid (Below.refl _ _)⟩
    case round =>
      obtain ⟨k, hk, rfl, rfl, hB⟩ := hrel
      have hBw := HB0.out.trans (hB.out.mono (by omega))
      have o1 := obj_below HO0.out hB.out (by omega)
      have c4 : wr.cell? ⟨w.heap.size, 4, none⟩ = some (.slice sa N sc) := obj_cell o1 (i := 4) rfl
      have hbl := heap_lt o1
      by_cases hlt : k < N
      · have qk : ((k : Int) < (N : Int)) = True := eq_true (by omega)
        have qk' : (k < N) = True := eq_true hlt
        obtain ⟨x, hx⟩ := get_some (L := l) (n := k) (by rw [HN.out]; exact hlt)
        obtain ⟨b, off, s1, sn1, sc1, rfl, hbw, hc1, hc2, d0, d1, d2, d3, d4, hxv⟩ := ex_at HX.out hx
        have hmem := List.mem_of_getElem? hx
        have d0 := (hBw.cell (p := ⟨b, off + k * 5, none⟩) hbw).trans d0
        have d1 := (hBw.cell (p := ⟨b, off + k * 5 + 1, none⟩) hbw).trans d1
        have d2 := (hBw.cell (p := ⟨b, off + k * 5 + 2, none⟩) hbw).trans d2
        have d3 := (hBw.cell (p := ⟨b, off + k * 5 + 3, none⟩) hbw).trans d3
        have d4 := (hBw.cell (p := ⟨b, off + k * 5 + 4, none⟩) hbw).trans d4
        have HC := Lib.hid (HIH.out x hmem wr _ hBw (hxv.below hBw))
        have HLT := Lib.hid hlt
        have HBr := Lib.hid hB.out
        have hsz := hB.out.size
        have hs : (L.take (k + 1)).foldl max 0 = max ((L.take k).foldl max 0) (deepE x) := by rw [take_snoc (show L[k]? = some (deepE x) by rw [← HLL.out, List.getElem?_map, hx]; rfl), List.foldl_append]; rfl
        have hbt := HT.out k
        have hzz := HD.out x hmem
        obtain ⟨z, hz⟩ : ∃ z, deepE x = z := ⟨_, rfl⟩
        rw [hz] at hs HC hzz
        obtain ⟨S, hS⟩ : ∃ S, (L.take k).foldl max 0 = S := ⟨_, rfl⟩
        rw [hS] at hs hbt ⊢
        have HS := Lib.hid hs
        clear hs hS hz hx hmem hxv hlt hBw o1
        by_cases hm : S < z
        · have m1 : ((S : Int) < (z : Int)) = True := eq_true (by omega)
          have m3 : (S < z) = True := eq_true hm
          have HMx := Lib.hid (show max S z = z by omega)
          clear hm
          go_wp2_with fail
          refine HC.out.mono ?_; rintro r w2 ⟨rfl, hb2⟩
          have HB2 := Lib.hid (HBr.out.trans (hb2.mono hsz))
          clear hb2
          go_wp2_with fail
          go_roundw
          case rel => exact ⟨k + 1, by have := HLT.out; omega, by simp, by rw [HS.out, HMx.out], HB2⟩
          case measure => have := HLT.out; first | (simp [intOf]; done) | (simp [intOf]; omega)
        · have m1 : ((S : Int) < (z : Int)) = False := eq_false (by omega)
          have m3 : (S < z) = False := eq_false hm
          have HMx := Lib.hid (show max S z = S by omega)
          clear hm
          go_wp2_with fail
          refine HC.out.mono ?_; rintro r w2 ⟨rfl, hb2⟩
          have HB2 := Lib.hid (HBr.out.trans (hb2.mono hsz))
          clear hb2
          go_wp2_with fail
          go_roundw
          case rel => exact ⟨k + 1, by have := HLT.out; omega, by simp, by rw [HS.out, HMx.out], HB2⟩
          case measure => have := HLT.out; first | (simp [intOf]; done) | (simp [intOf]; omega)
      · obtain rfl : k = N := by omega
        have qk : ((k : Int) < (k : Int)) = False := eq_false (by omega)
        have qk' : (k < k) = False := eq_false (by omega)
        have hbt := HT.out k
        rw [List.take_of_length_le (by rw [HL.out]; exact Nat.le_refl _), HZ2.out] at hbt ⊢
        have HBW := Lib.hid hBw
        clear hBw o1
        go_wp2_with fail
        go_ret
        exact ⟨by rw [show ((Z + 1 : Nat) : Int) = (Z : Int) + 1 by omega]; rfl, HBW.out⟩
set_option maxHeartbeats 1000000 in
theorem ref26_May : ∀ e, SmallE 300 e → ∀ w v, ExV w v e → Calls Tryd.prog 17 #[v] w fun r w' => r = .returned (.bool (mayE e)) ∧ Below w.heap.size w w' := by
  intro e
  induction e using Ex.ind with
  | h op t n m l ih =>
    intro hs w v hv
    have hlen := SmallE.len hs
    have hwi := SmallE.within hs
    have HY := Lib.hid (fun x (hx : x ∈ l) (h : mayE x = true) => show mayE ⟨op, t, n, m, l⟩ = true from by
      rw [mayE_mk]
      have : (l.map mayE).any id = true := List.any_eq_true.2 ⟨true, List.mem_map.2 ⟨x, hx, h⟩, rfl⟩
      rw [this]; rfl)
    have HNo := Lib.hid (fun (h : ∀ x ∈ l, mayE x = false) => show mayE ⟨op, t, n, m, l⟩ = (op == 4 || (op == 7 && (m == 11 || m == 12))) from by
      rw [mayE_mk]
      have : (l.map mayE).any id = false := List.any_eq_false.2 (fun y hy => by
        obtain ⟨x, hx, rfl⟩ := List.mem_map.1 hy
        simp [h x hx])
      rw [this]; rfl)
    obtain ⟨R, hR⟩ : ∃ R, mayE ⟨op, t, n, m, l⟩ = R := ⟨_, rfl⟩
    rw [hR] at HY HNo ⊢
    clear hR
    have HIH := Lib.hid (fun x (hx : x ∈ l) W u (h : Below w.heap.size w W) (hu : ExV W u x) => ih x hx (hwi x hx) W u hu)
    obtain ⟨s, rfl, hr, hrow⟩ := hv
    obtain ⟨sa, sc, rfl⟩ := row_get hrow
    have HX := Lib.hid hrow
    have hlen : l.length ≤ 300 := hlen
    obtain ⟨N, hN⟩ : ∃ N, l.length = N := ⟨_, rfl⟩
    have HN := Lib.hid hN
    simp only at HX ⊢
    rw [hN] at HX hlen ⊢
    clear hN ih hwi hrow hr
    obtain ⟨W0, hW0, o0, hb0, hsz0⟩ := box_expr w op t n m (.slice sa N sc)
    have HW0 := Lib.hid hW0
    have HO0 := Lib.hid o0
    have HB0 := Lib.hid hb0
    clear hW0 o0 hb0
    clear hs
    go_enter Tryd.func17, Tryd.ntmps17
    go_wp2_with fail
    rw [← HW0.out]
    go_loopw [3] (fun jj wr => ∃ k : Nat, k ≤ N ∧ jj = .int .i64 k ∧ Hid (∀ i x, i < k → l[i]? = some x → mayE x = false) ∧ Hid (Below W0.heap.size W0 wr)) (fun jj _ => N - (intOf jj).toNat)
    case atStart => exact ⟨0, by omega, rfl, Lib.hid (fun i x h => by omega), Lib.hid (Below.refl _ _)⟩
    case round =>
      obtain ⟨k, hk, rfl, hall, hB⟩ := hrel
      have hBw := HB0.out.trans (hB.out.mono (by omega))
      have o1 := obj_below HO0.out hB.out (by omega)
      have c4 : wr.cell? ⟨w.heap.size, 4, none⟩ = some (.slice sa N sc) := obj_cell o1 (i := 4) rfl
      have hbl := heap_lt o1
      by_cases hlt : k < N
      · have qk : ((k : Int) < (N : Int)) = True := eq_true (by omega)
        have qk' : (k < N) = True := eq_true hlt
        obtain ⟨x, hx⟩ := get_some (L := l) (n := k) (by rw [HN.out]; exact hlt)
        obtain ⟨b, off, s1, sn1, sc1, rfl, hbw, hc1, hc2, d0, d1, d2, d3, d4, hxv⟩ := ex_at HX.out hx
        have hmem := List.mem_of_getElem? hx
        have d0 := (hBw.cell (p := ⟨b, off + k * 5, none⟩) hbw).trans d0
        have d1 := (hBw.cell (p := ⟨b, off + k * 5 + 1, none⟩) hbw).trans d1
        have d2 := (hBw.cell (p := ⟨b, off + k * 5 + 2, none⟩) hbw).trans d2
        have d3 := (hBw.cell (p := ⟨b, off + k * 5 + 3, none⟩) hbw).trans d3
        have d4 := (hBw.cell (p := ⟨b, off + k * 5 + 4, none⟩) hbw).trans d4
        have HC := Lib.hid (HIH.out x hmem wr _ hBw (hxv.below hBw))
        have HLT := Lib.hid hlt
        have HBr := Lib.hid hB.out
        have hsz := hB.out.size
        cases hq : mayE x
        · rw [hq] at HC
          have hs := Lib.hid (show ∀ i y, i < k + 1 → l[i]? = some y → mayE y = false from fun i y hi hy => by
            rcases (show i < k ∨ i = k by omega) with h | rfl
            · exact hall.out i y h hy
            · rw [hx] at hy; rw [← Option.some.inj hy]; exact hq)
          clear hx hmem hxv hlt hBw o1 hq
          go_wp2_with fail
          refine HC.out.mono ?_; rintro r w2 ⟨rfl, hb2⟩
          have HB2 := Lib.hid (HBr.out.trans (hb2.mono hsz))
          clear hb2
          go_wp2_with fail
          go_roundw
          case rel => exact ⟨k + 1, by have := HLT.out; omega, by simp, hs, HB2⟩
          case measure => have := HLT.out; first | (simp [intOf]; done) | (simp [intOf]; omega)
        · rw [hq] at HC
          have hR := Lib.hid (HY.out x hmem hq)
          have HBW := Lib.hid hBw
          clear hx hmem hxv hlt hBw o1 hq
          go_wp2_with fail
          refine HC.out.mono ?_; rintro r w2 ⟨rfl, hb2⟩
          go_wp2_with fail
          go_ret
          exact ⟨by rw [hR.out]; rfl, HBW.out.trans (hb2.mono HBW.out.size)⟩
      · obtain rfl : k = N := by omega
        have qk : ((k : Int) < (k : Int)) = False := eq_false (by omega)
        have qk' : (k < k) = False := eq_false (by omega)
        have hRO := Lib.hid (HNo.out (fun x hx => by
          obtain ⟨i, hi, rfl⟩ := List.getElem_of_mem hx
          exact hall.out i _ (by rw [← HN.out]; exact hi) (by simp [hi])))
        have c0 : wr.cell? ⟨w.heap.size, 0, none⟩ = some (.int .i64 op) := obj_cell o1 (i := 0) rfl
        have c3 : wr.cell? ⟨w.heap.size, 3, none⟩ = some (.int .i64 m) := obj_cell o1 (i := 3) rfl
        have HBW := Lib.hid hBw
        clear hBw o1 hall HY HNo hlt
        by_cases h1 : op = 4
        · subst h1
          have hz := Lib.hid (show R = true by rw [hRO.out]; rfl)
          go_wp2_with fail
          go_ret
          exact ⟨by rw [hz.out]; rfl, HBW.out⟩
        · have e1 : (op == 4) = false := by simpa using h1
          by_cases h2 : op = 7
          · subst h2
            by_cases h3 : m = 11
            · subst h3
              have hz := Lib.hid (show R = true by rw [hRO.out]; rfl)
              clear h1 e1
              go_wp2_with fail
              go_ret
              exact ⟨by rw [hz.out]; rfl, HBW.out⟩
            · have e3 : (m == 11) = false := by simpa using h3
              have hz := Lib.hid (show R = (m == 12) by rw [hRO.out, e3]; rfl)
              clear h1 e1 h3
              go_wp2_with fail
              go_ret
              exact ⟨by rw [hz.out]; rfl, HBW.out⟩
          · have e2 : (op == 7) = false := by simpa using h2
            have hz := Lib.hid (show R = false by rw [hRO.out, e1, e2]; rfl)
            clear h1 h2
            go_wp2_with fail
            go_ret
            exact ⟨by rw [hz.out]; rfl, HBW.out⟩
set_option maxHeartbeats 1000000 in
theorem ref26_Room : ∀ e, ∀ (M D : Int), M ≤ 100000 → D ≤ 100000 → -100000 ≤ M → -100000 ≤ D → ∀ w v, ExV w v e → Calls Tryd.prog 21 #[v, .int .i64 M, .int .i64 D] w fun r w' => r = .returned (.int .i64 (roomE e M D)) ∧ Below w.heap.size w w' := by
  intro e
  induction e using Ex.ind with
  | h op t n m l ih =>
    intro M D hM hD hM0 hD0 w v hv
    have HIH := Lib.hid (fun x (hx : x ∈ l) M D h1 h2 h3 h4 W u (hu : ExV W u x) => ih x hx M D h1 h2 h3 h4 W u hu)
    have HZ := Lib.hid (show roomE ⟨op, t, n, m, l⟩ M D = if M < 1 ∨ D < 1 then -1 else roomL (l.map roomE) (M - 1) (D - 1) from roomE_mk _ _ _)
    obtain ⟨s, rfl, hr, hrow⟩ := hv
    obtain ⟨sa, sc, rfl⟩ := row_get hrow
    have HX := Lib.hid hrow
    have hlen := hrow.len
    obtain ⟨N, hN⟩ : ∃ N, l.length = N := ⟨_, rfl⟩
    have HN := Lib.hid hN
    simp only at HX hlen ⊢
    rw [hN] at HX hlen ⊢
    clear hN ih hrow hr
    obtain ⟨W0, hW0, o0, hb0, hsz0⟩ := box_expr w op t n m (.slice sa N sc)
    have HW0 := Lib.hid hW0
    have HO0 := Lib.hid o0
    have HB0 := Lib.hid hb0
    clear hW0 o0 hb0
    by_cases h1 : M < 1
    · rw [if_pos (Or.inl h1)] at HZ
      rw [HZ.out]
      have p1 : (M < 1) = True := eq_true h1
      clear h1
      go_enter Tryd.func21, Tryd.ntmps21
      go_wp2_with fail
      go_ret
      exact ⟨rfl, by (repeat' (first | (with_reducible exact Below.refl _ _) | (with_reducible assumption) | (with_reducible refine below_drewN ?_ _) | (with_reducible refine Below.alloc ?_ ?_ _) | (with_reducible refine Below.drew ?_) | (with_reducible refine Below.setCell ?_ ?_ _) | go_size))⟩
    have p1 : (M < 1) = False := eq_false h1
    by_cases h2 : D < 1
    · rw [if_pos (Or.inr h2)] at HZ
      rw [HZ.out]
      have p2 : (D < 1) = True := eq_true h2
      clear h1 h2
      go_enter Tryd.func21, Tryd.ntmps21
      go_wp2_with fail
      go_ret
      exact ⟨rfl, by (repeat' (first | (with_reducible exact Below.refl _ _) | (with_reducible assumption) | (with_reducible refine below_drewN ?_ _) | (with_reducible refine Below.alloc ?_ ?_ _) | (with_reducible refine Below.drew ?_) | (with_reducible refine Below.setCell ?_ ?_ _) | go_size))⟩
    have p2 : (D < 1) = False := eq_false h2
    rw [if_neg (by omega)] at HZ
    obtain ⟨R, hR⟩ : ∃ R, roomE ⟨op, t, n, m, l⟩ M D = R := ⟨_, rfl⟩
    rw [hR] at HZ ⊢
    clear hR
    have HM := Lib.hid (show 0 ≤ M - 1 ∧ M - 1 ≤ 100000 by omega)
    go_enter Tryd.func21, Tryd.ntmps21
    go_wp2_with fail
    rw [← HW0.out]
    go_loopw [1, 7] (fun o jj wr => ∃ (k : Nat) (c : Int), k ≤ N ∧ jj = .int .i64 k ∧ o = .int .i64 c ∧ 0 ≤ c ∧ c ≤ 100000 ∧ Hid (R = roomL ((l.map roomE).drop k) c (D - 1)) ∧ Hid (Below W0.heap.size W0 wr)) (fun _ jj _ => N - (intOf jj).toNat)
    case atStart => exact ⟨0, M - 1, by omega, rfl, rfl, HM.out.1, HM.out.2, Lib.hid HZ.out, Lib.hid (Below.refl _ _)⟩
    case round =>
      obtain ⟨k, c, hk, rfl, rfl, hc0, hc9, hRL, hB⟩ := hrel
      clear HZ HM p1 h1

      have hBw := HB0.out.trans (hB.out.mono (by omega))
      have o1 := obj_below HO0.out hB.out (by omega)
      have c4 : wr.cell? ⟨w.heap.size, 4, none⟩ = some (.slice sa N sc) := obj_cell o1 (i := 4) rfl
      have hbl := heap_lt o1
      by_cases hlt : k < N
      · have qk : ((k : Int) < (N : Int)) = True := eq_true (by omega)
        have qk' : (k < N) = True := eq_true hlt
        obtain ⟨x, hx⟩ := get_some (L := l) (n := k) (by rw [HN.out]; exact hlt)
        obtain ⟨b, off, s1, sn1, sc1, rfl, hbw, hc1, hc2, d0, d1, d2, d3, d4, hxv⟩ := ex_at HX.out hx
        have hmem := List.mem_of_getElem? hx
        have d0 := (hBw.cell (p := ⟨b, off + k * 5, none⟩) hbw).trans d0
        have d1 := (hBw.cell (p := ⟨b, off + k * 5 + 1, none⟩) hbw).trans d1
        have d2 := (hBw.cell (p := ⟨b, off + k * 5 + 2, none⟩) hbw).trans d2
        have d3 := (hBw.cell (p := ⟨b, off + k * 5 + 3, none⟩) hbw).trans d3
        have d4 := (hBw.cell (p := ⟨b, off + k * 5 + 4, none⟩) hbw).trans d4
        have HC := Lib.hid (HIH.out x hmem c (D - 1) hc9 (by omega) (by omega) (by omega) wr _ (hxv.below hBw))
        have HLT := Lib.hid hlt
        have HBr := Lib.hid hB.out
        have hsz := hB.out.size
        have hk63 : k ≤ 9223372036854775806 := by omega
        have hdr : (l.map roomE).drop k = roomE x :: (l.map roomE).drop (k + 1) := by
          have hkl : k < (l.map roomE).length := by rw [List.length_map, HN.out]; exact hlt
          rw [List.drop_eq_getElem_cons hkl]
          congr 1
          rw [List.getElem_map]
          congr 1
          have := hx
          rw [List.getElem?_eq_getElem (by rw [HN.out]; exact hlt)] at this
          exact Option.some.inj this
        rw [hdr] at hRL
        have hRL := Lib.hid (show R = if roomE x c (D - 1) < 0 then -1 else roomL ((l.map roomE).drop (k + 1)) (roomE x c (D - 1)) (D - 1) from hRL.out)
        have hok := roomE_ok x c (D - 1)
        have hsp := sizeE_pos x
        obtain ⟨z, hz⟩ : ∃ z, roomE x c (D - 1) = z := ⟨_, rfl⟩
        rw [hz] at HC hRL hok
        have hz9 : z ≤ 100000 := by omega
        clear hz hx hmem hxv hlt hBw o1 hdr
        by_cases hn : z < 0
        · have q1 : (z < 0) = True := eq_true hn
          rw [if_pos hn] at hRL
          have HBW := Lib.hid (HB0.out.trans (HBr.out.mono (by omega)))
          clear hok
          go_wp2_with fail
          refine HC.out.mono ?_; rintro r w2 ⟨rfl, hb2⟩
          go_wp2_with fail
          go_ret
          exact ⟨by rw [hRL.out]; rfl, HBW.out.trans (hb2.mono HBW.out.size)⟩
        · have q1 : (z < 0) = False := eq_false hn
          rw [if_neg hn] at hRL
          have HZ0 := Lib.hid (show 0 ≤ z by omega)
          clear hok hn
          go_wp2_with fail
          refine HC.out.mono ?_; rintro r w2 ⟨rfl, hb2⟩
          have HB2 := Lib.hid (HBr.out.trans (hb2.mono hsz))
          clear hb2
          go_wp2_with fail
          go_roundw
          case rel => exact ⟨k + 1, z, by have := HLT.out; omega, by simp, rfl, HZ0.out, hz9, hRL, HB2⟩
          case measure => have := HLT.out; first | (simp [intOf]; done) | (simp [intOf]; omega)
      · obtain rfl : k = N := by omega
        have qk : ((k : Int) < (k : Int)) = False := eq_false (by omega)
        have qk' : (k < k) = False := eq_false (by omega)
        have hRc := Lib.hid (show R = c from by
          have := hRL.out
          rw [List.drop_of_length_le (by rw [List.length_map, HN.out]; exact Nat.le_refl _)] at this
          exact this)
        have HBW := Lib.hid hBw
        clear hBw o1 hRL
        go_wp2_with fail
        go_ret
        exact ⟨by rw [hRc.out]; rfl, HBW.out⟩
theorem ref26_Few (e : Ex) (M : Nat) (hM : M ≤ 1000) (w : World) (v : Value) (hv : ExV w v e) : Calls Tryd.prog 7 #[v, .int .i64 M] w fun r w' => r = .returned (.bool (decide (0 ≤ roomE e M 40))) ∧ Below w.heap.size w w' := by
  have HR := Lib.hid (fun W u (hu : ExV W u e) => ref26_Room e M 40 (by omega) (by omega) (by omega) (by omega) W u hu)
  obtain ⟨s, rfl, hi, hr⟩ := id hv
  have HV := Lib.hid (fun W (h : Below w.heap.size w W) => hv.below h)
  clear hv hi hr
  generalize roomE e M 40 = R at *
  generalize e.op = o1 at *
  generalize e.t = o2 at *
  generalize e.n = o3 at *
  generalize e.m = o4 at *
  go_enter Tryd.func7, Tryd.ntmps7
  go_wp2_with fail
  refine (HR.out _ _ (HV.out _ (by (repeat' (first | (with_reducible exact Below.refl _ _) | (with_reducible assumption) | (with_reducible refine below_drewN ?_ _) | (with_reducible refine Below.alloc ?_ ?_ _) | (with_reducible refine Below.drew ?_) | (with_reducible refine Below.setCell ?_ ?_ _) | go_size))))).mono ?_; rintro r w2 ⟨rfl, hb⟩
  go_wp2_with fail
  go_ret
  exact ⟨rfl, Below.trans (by (repeat' (first | (with_reducible exact Below.refl _ _) | (with_reducible assumption) | (with_reducible refine below_drewN ?_ _) | (with_reducible refine Below.alloc ?_ ?_ _) | (with_reducible refine Below.drew ?_) | (with_reducible refine Below.setCell ?_ ?_ _) | go_size))) (hb.mono (by simp))⟩
end Go.Proofs.YtpecpeedefeokaaDoor
