/- Layer 23: a state with another value. -/
import Derived.Test.YtpnnmhcemecjfaaStCloneW
namespace Go.Proofs.Ytpnnmhcemecjfaa
open Go.RowKit
set_option linter.unusedSimpArgs false
set_option linter.unusedVariables false
def setS (s : St) (n m : Nat) (x : Int) : St := { s with vars := s.vars.set n ((s.vars.getD n []).set m x) }
theorem owns_at {w : World} {B : Nat} {e : TypeId} {u : Value} {l : List Int} (h : w.ownsRow B e 1 u l.length (iV l)) {m : Nat} (hm : m < l.length) {x : Int} :
    ∃ bi cap, u = .slice (some ⟨bi, 0, none⟩) l.length cap ∧ B ≤ bi ∧ bi < w.heap.size ∧ w.cell? ⟨bi, m, none⟩ = some (.int .i64 (l.getD m 0)) ∧ w.frozen? ⟨bi, m, none⟩ = false ∧ (w.setCell ⟨bi, m, none⟩ (.int .i64 x)).ownsRow B e 1 u l.length (iV (l.set m x)) := by
  obtain ⟨hl, h⟩ := h
  rcases h with ⟨rfl, h0⟩ | ⟨g, cap, cur, rfl, hb, hg, h1, h2, h3, h4⟩
  · omega
  · have hlt : g < w.heap.size := by
      by_cases hgl : g < w.heap.size
      · exact hgl
      · rw [Array.getElem?_eq_none (Nat.le_of_not_lt hgl)] at hg; cases hg
    have hcell : cur[m]? = some (.int .i64 (l.getD m 0)) := by
      have h5 : (iV l)[m]? = some (.int .i64 (l.getD m 0)) := by simp [iV, List.getD, hm]
      rw [← h4, List.getElem?_take, if_pos (by omega)] at h5
      simpa using h5
    refine ⟨g, cap, rfl, hb, hlt, ?_, ?_, ?_⟩
    · unfold World.cell?
      rw [show (⟨g, m, none⟩ : Addr).block = g from rfl, hg]
      simpa using hcell
    · unfold World.frozen?
      rw [show (⟨g, m, none⟩ : Addr).block = g from rfl, hg]
      simp
    · refine ⟨by simp [iV], Or.inr ⟨g, cap, cur.setIfInBounds m (.int .i64 x), rfl, hb, ?_, h1, h2, by simpa using h3, ?_⟩⟩
      · unfold World.setCell
        show (w.heap.modify g _)[g]? = _
        rw [Array.getElem?_modify, if_pos rfl, hg]
        rfl
      · apply List.ext_getElem?
        intro i
        rw [List.getElem?_take]
        by_cases hi : i < l.length
        · rw [if_pos (by omega)]
          by_cases him : m = i
          · subst him
            have hms : m < cur.size := by rw [h3]; omega
            simp [iV, Array.getElem?_setIfInBounds, hi, hms]
          · have h5 : (iV l)[i]? = cur[i]? := by
              rw [← h4, List.getElem?_take, if_pos (by omega)]; simp
            simp only [Array.getElem?_toList, Array.getElem?_setIfInBounds, if_neg him]
            rw [← h5]
            simp [iV, List.getElem?_set, him]
        · rw [if_neg (by omega), List.getElem?_eq_none (by simp [iV]; omega)]
theorem OwnSt.set {B : Nat} {w : World} {v b : Value} {s : St} {g : Nat} {U : Array Value} {C : Nat} (h : OwnSt B w v b s g U C) {n m : Nat} {l : List Int} (hn : s.vars[n]? = some l) (hm : m < l.length) {x : Int} (hx : I64 x) :
    ∃ bi cap, w.cell? ⟨g, n, none⟩ = some (.slice (some ⟨bi, 0, none⟩) l.length cap) ∧ B ≤ bi ∧ bi < w.heap.size ∧ g < w.heap.size ∧ w.cell? ⟨bi, m, none⟩ = some (.int .i64 (l.getD m 0)) ∧ w.frozen? ⟨bi, m, none⟩ = false ∧ OwnSt B (w.setCell ⟨bi, m, none⟩ (.int .i64 x)) v b (setS s n m x) g U C := by
  have hnl : n < s.vars.length := by
    by_cases hi : n < s.vars.length
    · exact hi
    · rw [List.getElem?_eq_none (by omega)] at hn; cases hn
  have hu : U.toList[n]? = some (U[n]'(by rw [h.size]; exact hnl)) := by simp [h.size, hnl]
  have hgetD : s.vars.getD n [] = l := by simp [List.getD, hn]
  obtain ⟨bi, cap, e1, e2, e3, e4, e5, e6⟩ := owns_at (h.rows.row n _ l hu hn) hm (x := x)
  have hglt : g < w.heap.size := by
    by_cases hgl : g < w.heap.size
    · exact hgl
    · have := h.obj
      rw [Array.getElem?_eq_none (Nat.le_of_not_lt hgl)] at this; cases this
  refine ⟨bi, cap, ?_, by have := h.base; omega, e3, hglt, e4, e5, ?_⟩
  · unfold World.cell?
    rw [show (⟨g, n, none⟩ : Addr).block = g from rfl, h.obj]
    simp [h.size, hnl, e1]
  · have hset : (setS s n m x).vars = s.vars.set n (l.set m x) := by unfold setS; rw [hgetD]
    refine ⟨by rw [h.form, hset, List.length_set], h.base, h.cb, ?_, by rw [hset, List.length_set]; exact h.size, ?_, owns_set h.inst (fun hb => ?_), ?_, h.lens, h.n64, h.f64, by rw [hset, List.length_set]; exact h.few⟩
    · rw [← h.obj]
      unfold World.setCell
      show (w.heap.modify bi _)[g]? = _
      rw [Array.getElem?_modify, if_neg (by omega)]
    · rw [hset]
      refine ⟨by rw [List.length_set]; exact h.rows.len, fun i u r hi hr => ?_, h.rows.apart⟩
      by_cases hin : n = i
      · subst hin
        rw [hu] at hi
        have hr' : l.set m x = r := by simpa [hnl] using hr
        have hi' := Option.some.inj hi
        rw [← hi', ← hr', List.length_set]
        exact e6
      · have hr' : s.vars[i]? = some r := by simpa [List.getElem?_set, hin] using hr
        refine owns_set (h.rows.row i u r hi hr') (fun hb => ?_)
        have hob : (U[n]'(by rw [h.size]; exact hnl)).ownBlock = some bi := by rw [e1]; rfl
        rcases Nat.lt_or_gt_of_ne hin with hlt | hgt
        · exact h.rows.apart n i _ u bi hlt hu hi hob hb
        · exact h.rows.apart i n u _ bi hgt hi hu hb hob
    · exact owns_type (h.rows.row n _ l hu hn) h.inst (by decide) (by rw [e1]; rfl) hb
    · intro r hr z hz
      rw [hset] at hr
      rcases List.mem_or_eq_of_mem_set hr with hr | rfl
      · exact h.ints r hr z hz
      · rcases List.mem_or_eq_of_mem_set hz with hz | rfl
        · exact h.ints l (List.mem_of_getElem? hn) z hz
        · exact hx
theorem OwnSt.below {B : Nat} {w w' : World} {v b : Value} {s : St} {g : Nat} {U : Array Value} {C : Nat} (h : OwnSt B w v b s g U C) (hb : Below w.heap.size w w') : OwnSt B w' v b s g U C := by
  have hglt : g < w.heap.size := by
    by_cases hgl : g < w.heap.size
    · exact hgl
    · have := h.obj
      rw [Array.getElem?_eq_none (Nat.le_of_not_lt hgl)] at this; cases this
  exact ⟨h.form, h.base, h.cb, (hb.block g hglt).trans h.obj, h.size, h.rows.below hb, owns_below h.inst hb, h.ints, h.lens, h.n64, h.f64, h.few⟩
def writeS (s : St) (i k x : Int) : St := if hasS s i k then setS s i.toNat k.toNat x else s
theorem writeS_no {s : St} {i k : Int} (h : hasS s i k = false) (x : Int) : writeS s i k x = s := by unfold writeS; rw [h]; exact if_neg (by decide)
theorem writeS_yes {s : St} {i k : Int} (h : hasS s i k = true) (x : Int) : writeS s i k x = setS s i.toNat k.toNat x := if_pos h
end Go.Proofs.Ytpnnmhcemecjfaa
