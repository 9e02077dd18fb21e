/- Layer 23: a state with another value. -/
import Derived.Test.YthanmbfelihkfaaStCloneW
namespace Go.Proofs.Ythanmbfelihkfaa
open Go.RowKit
set_option linter.unusedSimpArgs false
set_option linter.unusedVariables false
def setS (s : St) (n m : Nat) (x : Int) : St := { s with vars := s.vars.set n ((s.vars.getD n []).set m x) }
theorem owns_at {w : World} {B : Nat} {e : TypeId} {u : Value} {l : List Int} (h : w.ownsRow B e 1 u l.length (iV l)) {m : Nat} (hm : m < l.length) {x : Int} :
    ∃ bi cap, u = .slice (some ⟨bi, 0, none⟩) l.length cap ∧ B ≤ bi ∧ bi < w.heap.size ∧ w.cell? ⟨bi, m, none⟩ = some (.int .i64 (l.getD m 0)) ∧ w.frozen? ⟨bi, m, none⟩ = false ∧ (w.setCell ⟨bi, m, none⟩ (.int .i64 x)).ownsRow B e 1 u l.length (iV (l.set m x)) := by
  obtain ⟨hl, h⟩ := h
  rcases h with ⟨rfl, h0⟩ | ⟨g, cap, cur, rfl, hb, hg, h1, h2, h3, h4⟩
  · omega
  · have hlt : g < w.heap.size := by
      by_cases hgl : g < w.heap.size
      · exact hgl
      · rw [Array.getElem?_eq_none (Nat.le_of_not_lt hgl)] at hg; cases hg
    have hcell : cur[m]? = some (.int .i64 (l.getD m 0)) := by
      have h5 : (iV l)[m]? = some (.int .i64 (l.getD m 0)) := by simp [iV, List.getD, hm]
      rw [← h4, List.getElem?_take, if_pos (by omega)] at h5
      simpa using h5
    refine ⟨g, cap, rfl, hb, hlt, ?_, ?_, ?_⟩
    · unfold World.cell?
      rw [show (⟨g, m, none⟩ : Addr).block = g from rfl, hg]
      simpa using hcell
    · unfold World.frozen?
      rw [show (⟨g, m, none⟩ : Addr).block = g from rfl, hg]
      simp
    · refine ⟨by simp [iV], Or.inr ⟨g, cap, cur.setIfInBounds m (.int .i64 x), rfl, hb, ?_, h1, h2, by simpa using h3, ?_⟩⟩
      · unfold World.setCell
        show (w.heap.modify g _)[g]? = _
        rw [Array.getElem?_modify, if_pos rfl, hg]
        rfl
      · apply List.ext_getElem?
        intro i
        rw [List.getElem?_take]
        by_cases hi : i < l.length
        · rw [if_pos (by omega)]
          by_cases him : m = i
          · subst him
            have hms : m < cur.size := by rw [h3]; omega
            simp [iV, Array.getElem?_setIfInBounds, hi, hms]
          · have h5 : (iV l)[i]? = cur[i]? := by
              rw [← h4, List.getElem?_take, if_pos (by omega)]; simp
            simp only [Array.getElem?_toList, Array.getElem?_setIfInBounds, if_neg him]
            rw [← h5]
            simp [iV, List.getElem?_set, him]
        · rw [if_neg (by omega), List.getElem?_eq_none (by simp [iV]; omega)]
theorem OwnSt.set {B : Nat} {w : World} {v b : Value} {s : St} {g : Nat} {U : Array Value} {C : Nat} (h : OwnSt B w v b s g U C) {n m : Nat} {l : List Int} (hn : s.vars[n]? = some l) (hm : m < l.length) {x : Int} (hx : I64 x) :
    ∃ bi cap, w.cell? ⟨g, n, none⟩ = some (.slice (some ⟨bi, 0, none⟩) l.length cap) ∧ B ≤ bi ∧ bi < w.heap.size ∧ g < w.heap.size ∧ w.cell? ⟨bi, m, none⟩ = some (.int .i64 (l.getD m 0)) ∧ w.frozen? ⟨bi, m, none⟩ = false ∧ OwnSt B (w.setCell ⟨bi, m, none⟩ (.int .i64 x)) v b (setS s n m x) g U C := by
  have hnl : n < s.vars.length := by
    by_cases hi : n < s.vars.length
    · exact hi
    · rw [List.getElem?_eq_none (by omega)] at hn; cases hn
  have hu : U.toList[n]? = some (U[n]'(by rw [h.size]; exact hnl)) := by simp [h.size, hnl]
  have hgetD : s.vars.getD n [] = l := by simp [List.getD, hn]
  obtain ⟨bi, cap, e1, e2, e3, e4, e5, e6⟩ := owns_at (h.rows.row n _ l hu hn) hm (x := x)
  have hglt : g < w.heap.size := by
    by_cases hgl : g < w.heap.size
    · exact hgl
    · have := h.obj
      rw [Array.getElem?_eq_none (Nat.le_of_not_lt hgl)] at this; cases this
  refine ⟨bi, cap, ?_, by have := h.base; omega, e3, hglt, e4, e5, ?_⟩
  · unfold World.cell?
    rw [show (⟨g, n, none⟩ : Addr).block = g from rfl, h.obj]
    simp [h.size, hnl, e1]
  · have hset : (setS s n m x).vars = s.vars.set n (l.set m x) := by unfold setS; rw [hgetD]
    refine ⟨by rw [h.form, hset, List.length_set], h.base, h.cb, ?_, by rw [hset, List.length_set]; exact h.size, ?_, owns_set h.inst (fun hb => ?_), ?_, h.lens, h.n64, h.f64, by rw [hset, List.length_set]; exact h.few⟩
    · rw [← h.obj]
      unfold World.setCell
      show (w.heap.modify bi _)[g]? = _
      rw [Array.getElem?_modify, if_neg (by omega)]
    · rw [hset]
      refine ⟨by rw [List.length_set]; exact h.rows.len, fun i u r hi hr => ?_, h.rows.apart⟩
      by_cases hin : n = i
      · subst hin
        rw [hu] at hi
        have hr' : l.set m x = r := by simpa [hnl] using hr
        have hi' := Option.some.inj hi
        rw [← hi', ← hr', List.length_set]
        exact e6
      · have hr' : s.vars[i]? = some r := by simpa [List.getElem?_set, hin] using hr
        refine owns_set (h.rows.row i u r hi hr') (fun hb => ?_)
        have hob : (U[n]'(by rw [h.size]; exact hnl)).ownBlock = some bi := by rw [e1]; rfl
        rcases Nat.lt_or_gt_of_ne hin with hlt | hgt
        · exact h.rows.apart n i _ u bi hlt hu hi hob hb
        · exact h.rows.apart i n u _ bi hgt hi hu hb hob
    · exact owns_type (h.rows.row n _ l hu hn) h.inst (by decide) (by rw [e1]; rfl) hb
    · intro r hr z hz
      rw [hset] at hr
      rcases List.mem_or_eq_of_mem_set hr with hr | rfl
      · exact h.ints r hr z hz
      · rcases List.mem_or_eq_of_mem_set hz with hz | rfl
        · exact h.ints l (List.mem_of_getElem? hn) z hz
        · exact hx
theorem OwnSt.below {B : Nat} {w w' : World} {v b : Value} {s : St} {g : Nat} {U : Array Value} {C : Nat} (h : OwnSt B w v b s g U C) (hb : Below w.heap.size w w') : OwnSt B w' v b s g U C := by
  have hglt : g < w.heap.size := by
    by_cases hgl : g < w.heap.size
    · exact hgl
    · have := h.obj
      rw [Array.getElem?_eq_none (Nat.le_of_not_lt hgl)] at this; cases this
  exact ⟨h.form, h.base, h.cb, (hb.block g hglt).trans h.obj, h.size, h.rows.below hb, owns_below h.inst hb, h.ints, h.lens, h.n64, h.f64, h.few⟩
def writeS (s : St) (i k x : Int) : St := if hasS s i k then setS s i.toNat k.toNat x else s
theorem writeS_no {s : St} {i k : Int} (h : hasS s i k = false) (x : Int) : writeS s i k x = s := by unfold writeS; rw [h]; exact if_neg (by decide)
theorem writeS_yes {s : St} {i k : Int} (h : hasS s i k = true) (x : Int) : writeS s i k x = setS s i.toNat k.toNat x := if_pos h
set_option maxHeartbeats 4000000 in
theorem state_Write (v b : Value) (s : St) (i k x : Int) (hx : I64 x) (w : World) (h : StAt w v b s) (hsh : shortS s = true) : Calls Try.prog 16 #[.agg #[v, b, .int .i64 s.now, .int .i64 s.fault], .int .i64 i, .int .i64 k, .int .i64 x] w fun e w' => ∃ (v' b' : Value), e = .returned (.tuple #[.agg #[v', b', .int .i64 s.now, .int .i64 s.fault], .bool (hasS s i k)]) ∧ StAt w' v' b' (writeS s i k x) ∧ Below w.heap.size w w' := by
  have hC := fun W (hb : Below w.heap.size w W) => state_Clone v b s W (h.below hb) hsh
  have hH := fun W (hb : Below w.heap.size w W) => state_has v b s i k W (h.below hb)
  have cp := @cell_past
  cases hh : hasS s i k
  · rw [hh] at hH
    have hw := Lib.hid (writeS_no hh x)
    go_enter Try.func16, Try.ntmps16
    go_wp2_with fail
    refine (hC _ (by (repeat' (first | (with_reducible exact Below.refl _ _) | (with_reducible assumption) | (with_reducible refine below_drewN ?_ _) | (with_reducible refine Below.alloc ?_ ?_ _) | (with_reducible refine Below.drew ?_) | (with_reducible refine Below.setCell ?_ ?_ _) | go_size)))).mono ?_; rintro e W1 ⟨v', b', g, U, C, rfl, hO, hb1⟩
    obtain rfl := hO.form
    obtain ⟨ab, cbb, rfl⟩ := owns_form hO.inst
    have hbA : Below (w.heap.size + 1 + 1) ((w.alloc (.cells #[v, b, .int .i64 s.now, .int .i64 s.fault] 31)).alloc (.cells #[.slice none 0 0, .slice none 0 0, .int .i64 0, .int .i64 0] 31)) W1 := by simpa using hb1
    have hB1 : Below w.heap.size w W1 := Below.trans (by (repeat' (first | (with_reducible exact Below.refl _ _) | (with_reducible assumption) | (with_reducible refine below_drewN ?_ _) | (with_reducible refine Below.alloc ?_ ?_ _) | (with_reducible refine Below.drew ?_) | (with_reducible refine Below.setCell ?_ ?_ _) | go_size))) (hbA.mono (by omega))
    have hz1 : w.heap.size + 1 + 1 ≤ W1.heap.size := by have := hbA.size; simp at this; omega
    have e0 : W1.cell? ⟨w.heap.size, 0, none⟩ = some v := (hbA.cell (p := ⟨w.heap.size, 0, none⟩) (by show w.heap.size < _; omega)).trans (by rw [cell_past (by simp), cell_at rfl]; rfl)
    have e1 : W1.cell? ⟨w.heap.size, 1, none⟩ = some b := (hbA.cell (p := ⟨w.heap.size, 1, none⟩) (by show w.heap.size < _; omega)).trans (by rw [cell_past (by simp), cell_at rfl]; rfl)
    have e2 : W1.cell? ⟨w.heap.size, 2, none⟩ = some (.int .i64 s.now) := (hbA.cell (p := ⟨w.heap.size, 2, none⟩) (by show w.heap.size < _; omega)).trans (by rw [cell_past (by simp), cell_at rfl]; rfl)
    have e3 : W1.cell? ⟨w.heap.size, 3, none⟩ = some (.int .i64 s.fault) := (hbA.cell (p := ⟨w.heap.size, 3, none⟩) (by show w.heap.size < _; omega)).trans (by rw [cell_past (by simp), cell_at rfl]; rfl)
    have hzw : w.heap.size < W1.heap.size := by omega
    go_wp2_with fail
    refine (hH _ (by (repeat' (first | (with_reducible exact Below.refl _ _) | (with_reducible assumption) | (with_reducible refine more_below ?_ ?_ _ _) | (with_reducible refine below_drewN ?_ _) | (with_reducible refine Below.alloc ?_ ?_ _) | (with_reducible refine Below.drew ?_) | (with_reducible refine Below.setCell ?_ ?_ _) | (simp only [World.size_alloc, World.size_setCell, World.size_drew, more_size, World.heap_drewN]; omega) | go_size)))).mono ?_; rintro e W3 ⟨rfl, hb3⟩
    have hb3' : Below (W1.heap.size + 1) (W1.alloc (.cells #[.slice (some ⟨g, 0, none⟩) s.vars.length s.vars.length, .slice ab s.blocks.length cbb, .int .i64 s.now, .int .i64 s.fault] 31)) W3 := by simpa using hb3
    have kk := C4.new W1 _ _ _ _ _ hb3'
    have hb13 : Below W1.heap.size W1 W3 := Below.trans (by (repeat' (first | (with_reducible exact Below.refl _ _) | (with_reducible assumption) | (with_reducible refine below_drewN ?_ _) | (with_reducible refine Below.alloc ?_ ?_ _) | (with_reducible refine Below.drew ?_) | (with_reducible refine Below.setCell ?_ ?_ _) | go_size))) (hb3'.mono (by omega))
    have hA3 : Below (w.heap.size + 1 + 1) ((w.alloc (.cells #[v, b, .int .i64 s.now, .int .i64 s.fault] 31)).alloc (.cells #[.slice none 0 0, .slice none 0 0, .int .i64 0, .int .i64 0] 31)) W3 := hbA.trans (hb13.mono hz1)
    have hO3 := hO.below hb13
    have hz3 : W1.heap.size < W3.heap.size := by have := hb3'.size; simp at this; omega
    clear hb1 hb3 e0 e1 e2 e3 hbA hb3'
    obtain ⟨l3, d3, rfl⟩ := more_of (show Below ((w.alloc (.cells #[v, b, .int .i64 s.now, .int .i64 s.fault] 31)).alloc (.cells #[.slice none 0 0, .slice none 0 0, .int .i64 0, .int .i64 0] 31)).heap.size ((w.alloc (.cells #[v, b, .int .i64 s.now, .int .i64 s.fault] 31)).alloc (.cells #[.slice none 0 0, .slice none 0 0, .int .i64 0, .int .i64 0] 31)) W3 by simpa using hA3)
    obtain ⟨k0, k1, k2, k3⟩ := kk
    have mc := @more_cell
    have mf := @more_frozen
    have ms := @more_set
    go_wp2_with fail
    refine bodyPost_ret (by simp [results, Try.results16, go_sem, more_cell, more_size, more_frozen]; try rfl) rfl ?_
    refine ⟨_, _, rfl, ?_, by (repeat' (first | (with_reducible exact Below.refl _ _) | (with_reducible assumption) | (with_reducible refine more_below ?_ ?_ _ _) | (with_reducible refine below_drewN ?_ _) | (with_reducible refine Below.alloc ?_ ?_ _) | (with_reducible refine Below.drew ?_) | (with_reducible refine Below.setCell ?_ ?_ _) | (simp only [World.size_alloc, World.size_setCell, World.size_drew, more_size, World.heap_drewN]; omega) | go_size))⟩
    rw [hw.out]
    exact (hO3.congr (more_congr (by simp) (by simp))).st
  · rw [hh] at hH
    have hw := Lib.hid (writeS_yes hh x)
    obtain ⟨n, m, rfl, rfl, l, z, hxn, hxm, hz⟩ := hasS_at hh
    have hn : n < s.vars.length := by
      by_cases g : n < s.vars.length
      · exact g
      · rw [List.getElem?_eq_none (by omega)] at hxn; cases hxn
    have hm : m < l.length := by
      by_cases g : m < l.length
      · exact g
      · rw [List.getElem?_eq_none (by omega)] at hxm; cases hxm
    clear hh hz
    go_enter Try.func16, Try.ntmps16
    go_wp2_with fail
    refine (hC _ (by (repeat' (first | (with_reducible exact Below.refl _ _) | (with_reducible assumption) | (with_reducible refine below_drewN ?_ _) | (with_reducible refine Below.alloc ?_ ?_ _) | (with_reducible refine Below.drew ?_) | (with_reducible refine Below.setCell ?_ ?_ _) | go_size)))).mono ?_; rintro e W1 ⟨v', b', g, U, C, rfl, hO, hb1⟩
    obtain rfl := hO.form
    obtain ⟨ab, cbb, rfl⟩ := owns_form hO.inst
    have hbA : Below (w.heap.size + 1 + 1) ((w.alloc (.cells #[v, b, .int .i64 s.now, .int .i64 s.fault] 31)).alloc (.cells #[.slice none 0 0, .slice none 0 0, .int .i64 0, .int .i64 0] 31)) W1 := by simpa using hb1
    have hB1 : Below w.heap.size w W1 := Below.trans (by (repeat' (first | (with_reducible exact Below.refl _ _) | (with_reducible assumption) | (with_reducible refine below_drewN ?_ _) | (with_reducible refine Below.alloc ?_ ?_ _) | (with_reducible refine Below.drew ?_) | (with_reducible refine Below.setCell ?_ ?_ _) | go_size))) (hbA.mono (by omega))
    have hz1 : w.heap.size + 1 + 1 ≤ W1.heap.size := by have := hbA.size; simp at this; omega
    have e0 : W1.cell? ⟨w.heap.size, 0, none⟩ = some v := (hbA.cell (p := ⟨w.heap.size, 0, none⟩) (by show w.heap.size < _; omega)).trans (by rw [cell_past (by simp), cell_at rfl]; rfl)
    have e1 : W1.cell? ⟨w.heap.size, 1, none⟩ = some b := (hbA.cell (p := ⟨w.heap.size, 1, none⟩) (by show w.heap.size < _; omega)).trans (by rw [cell_past (by simp), cell_at rfl]; rfl)
    have e2 : W1.cell? ⟨w.heap.size, 2, none⟩ = some (.int .i64 s.now) := (hbA.cell (p := ⟨w.heap.size, 2, none⟩) (by show w.heap.size < _; omega)).trans (by rw [cell_past (by simp), cell_at rfl]; rfl)
    have e3 : W1.cell? ⟨w.heap.size, 3, none⟩ = some (.int .i64 s.fault) := (hbA.cell (p := ⟨w.heap.size, 3, none⟩) (by show w.heap.size < _; omega)).trans (by rw [cell_past (by simp), cell_at rfl]; rfl)
    have hzw : w.heap.size < W1.heap.size := by omega
    go_wp2_with fail
    refine (hH _ (by (repeat' (first | (with_reducible exact Below.refl _ _) | (with_reducible assumption) | (with_reducible refine more_below ?_ ?_ _ _) | (with_reducible refine below_drewN ?_ _) | (with_reducible refine Below.alloc ?_ ?_ _) | (with_reducible refine Below.drew ?_) | (with_reducible refine Below.setCell ?_ ?_ _) | (simp only [World.size_alloc, World.size_setCell, World.size_drew, more_size, World.heap_drewN]; omega) | go_size)))).mono ?_; rintro e W3 ⟨rfl, hb3⟩
    have hb3' : Below (W1.heap.size + 1) (W1.alloc (.cells #[.slice (some ⟨g, 0, none⟩) s.vars.length s.vars.length, .slice ab s.blocks.length cbb, .int .i64 s.now, .int .i64 s.fault] 31)) W3 := by simpa using hb3
    have kk := C4.new W1 _ _ _ _ _ hb3'
    have hb13 : Below W1.heap.size W1 W3 := Below.trans (by (repeat' (first | (with_reducible exact Below.refl _ _) | (with_reducible assumption) | (with_reducible refine below_drewN ?_ _) | (with_reducible refine Below.alloc ?_ ?_ _) | (with_reducible refine Below.drew ?_) | (with_reducible refine Below.setCell ?_ ?_ _) | go_size))) (hb3'.mono (by omega))
    have hA3 : Below (w.heap.size + 1 + 1) ((w.alloc (.cells #[v, b, .int .i64 s.now, .int .i64 s.fault] 31)).alloc (.cells #[.slice none 0 0, .slice none 0 0, .int .i64 0, .int .i64 0] 31)) W3 := hbA.trans (hb13.mono hz1)
    have hO3 := hO.below hb13
    have hz3 : W1.heap.size < W3.heap.size := by have := hb3'.size; simp at this; omega
    clear hb1 hb3 e0 e1 e2 e3 hbA hb3'
    obtain ⟨bi, cap, f1, f2, f3, f4, f5, f6, hS⟩ := hO3.set hxn hm hx
    have f3' : bi < W1.heap.size := by
      obtain ⟨bi', cap', q1, q2, q3, q4, _⟩ := hO.set hxn hm hx
      have := (hb13.cell (p := ⟨g, n, none⟩) q4).trans q1
      rw [f1] at this
      simp at this
      omega
    have f2' : w.heap.size + 1 + 1 ≤ bi := by simpa using f2
    obtain ⟨l4, d4, hW4⟩ := more_of (show Below ((w.alloc (.cells #[v, b, .int .i64 s.now, .int .i64 s.fault] 31)).alloc (.cells #[.slice none 0 0, .slice none 0 0, .int .i64 0, .int .i64 0] 31)).heap.size ((w.alloc (.cells #[v, b, .int .i64 s.now, .int .i64 s.fault] 31)).alloc (.cells #[.slice none 0 0, .slice none 0 0, .int .i64 0, .int .i64 0] 31)) (W3.setCell ⟨bi, m, none⟩ (.int .i64 x)) from by
      have : Below (w.heap.size + 1 + 1) ((w.alloc (.cells #[v, b, .int .i64 s.now, .int .i64 s.fault] 31)).alloc (.cells #[.slice none 0 0, .slice none 0 0, .int .i64 0, .int .i64 0] 31)) (W3.setCell ⟨bi, m, none⟩ (.int .i64 x)) := hA3.setCell f2' _
      simpa using this)
    have hsc : ∀ o u, W3.cell? ⟨W1.heap.size, o, none⟩ = some u → (wmore ((w.alloc (.cells #[v, b, .int .i64 s.now, .int .i64 s.fault] 31)).alloc (.cells #[.slice none 0 0, .slice none 0 0, .int .i64 0, .int .i64 0] 31)) l4 d4).cell? ⟨W1.heap.size, o, none⟩ = some u := fun o u hu => by
      rw [← hW4]
      unfold World.cell? World.setCell at *
      simp only [Array.getElem?_modify] at *
      rw [if_neg (by omega)]
      exact hu
    obtain ⟨k0, k1, k2, k3⟩ := kk
    have r0 := hsc 0 _ k0
    have r1 := hsc 1 _ k1
    have r2 := hsc 2 _ k2
    have r3 := hsc 3 _ k3
    rw [hW4] at hS
    have mc := @more_cell
    have mf := @more_frozen
    have ms := @more_set
    clear hsc hO hO3 hC hH
    generalize hNV : s.vars.length = NV at *
    generalize hnl : l.length = nl at *
    go_wp2_with fail
    refine bodyPost_ret (by simp [results, Try.results16, go_sem, more_cell, more_size, more_frozen]; try rfl) rfl ?_
    refine ⟨_, _, rfl, ?_, by (repeat' (first | (with_reducible exact Below.refl _ _) | (with_reducible assumption) | (with_reducible refine more_below ?_ ?_ _ _) | (with_reducible refine below_drewN ?_ _) | (with_reducible refine Below.alloc ?_ ?_ _) | (with_reducible refine Below.drew ?_) | (with_reducible refine Below.setCell ?_ ?_ _) | (simp only [World.size_alloc, World.size_setCell, World.size_drew, more_size, World.heap_drewN]; omega) | go_size))⟩
    rw [hw.out]
    exact (hS.congr (more_congr (by simp) (by simp))).st
end Go.Proofs.Ythanmbfelihkfaa
