/- Layer 24: a state whose rows are the call's own, however they were made; what a scan's beginning writes. -/
import Derived.Test.YthanmbfelihkfaaStRefClone
import Derived.Test.YthanmbfelihkfaaStWrite
import Derived.Test.YthanmbfelihkfaaStArea
import Derived.Test.YthanmbfelihkfaaKind
import Derived.Test.YthanmbfelihkfaaOwnLow
namespace Go.Proofs.Ythanmbfelihkfaa
open Go.RowKit
set_option linter.unusedSimpArgs false
set_option linter.unusedVariables false
structure OwnS (B : Nat) (w : World) (v b : Value) (s : St) (U : List Value) : Prop where
  own : w.ownsRow B 45 1 v s.vars.length U
  rows : OwnRows B 3 w U s.vars
  inst : w.ownsRow B 62 10 b s.blocks.length (bV s.blocks)
  ints : ∀ l ∈ s.vars, ∀ z ∈ l, I64 z
  lens : ∀ l ∈ s.blocks, l.length = 10 ∧ ∀ z ∈ l, I64 z
  n64 : I64 s.now
  f64 : I64 s.fault
  few : s.vars.length ≤ 100
theorem OwnS.st {B : Nat} {w : World} {v b : Value} {s : St} {U : List Value} (h : OwnS B w v b s U) : StAt w v b s :=
  ⟨rows_of_owns h.own h.rows h.ints h.few, insts_of_owns h.inst h.lens, h.n64, h.f64⟩
theorem OwnS.below {B : Nat} {w w' : World} {v b : Value} {s : St} {U : List Value} (h : OwnS B w v b s U) (hb : Below w.heap.size w w') : OwnS B w' v b s U :=
  ⟨owns_below h.own hb, h.rows.below hb, owns_below h.inst hb, h.ints, h.lens, h.n64, h.f64, h.few⟩
theorem OwnS.congr {B : Nat} {w w' : World} {v b : Value} {s : St} {U : List Value} (h : OwnS B w v b s U) (hc : ∀ g, B ≤ g → w'.heap[g]? = w.heap[g]?) : OwnS B w' v b s U :=
  ⟨owns_congr h.own hc, h.rows.congr hc, owns_congr h.inst hc, h.ints, h.lens, h.n64, h.f64, h.few⟩
theorem rows_low {B C : Nat} {e : TypeId} {w : World} {U : List Value} {L : List (List Int)} (h : OwnRows C e w U L) (hB : B ≤ C) : OwnRows B e w U L :=
  ⟨h.len, fun i u l h1 h2 => own_low (h.row i u l h1 h2) hB, h.apart⟩
theorem own_cell {w : World} {B : Nat} {e : TypeId} {v : Value} {n : Nat} {U : List Value} (h : w.ownsRow B e 1 v n U) {k : Nat} {u : Value} (hu : U[k]? = some u) :
    ∃ g cap, v = .slice (some ⟨g, 0, none⟩) n cap ∧ B ≤ g ∧ g < w.heap.size ∧ w.cell? ⟨g, k, none⟩ = some u := by
  obtain ⟨hl, h⟩ := h
  have hk : k < U.length := lt_of_get hu
  rcases h with ⟨rfl, h0⟩ | ⟨g, cap, cur, rfl, hb, hg, h1, h2, h3, h4⟩
  · subst h0; simp at hl; rw [hl] at hk; simp at hk
  · have hlt : g < w.heap.size := by
      by_cases hgl : g < w.heap.size
      · exact hgl
      · rw [Array.getElem?_eq_none (Nat.le_of_not_lt hgl)] at hg; cases hg
    refine ⟨g, cap, rfl, hb, hlt, ?_⟩
    unfold World.cell?
    rw [show (⟨g, k, none⟩ : Addr).block = g from rfl, hg]
    rw [← h4, List.getElem?_take] at hu
    split at hu
    · simpa using hu
    · cases hu
theorem OwnS.set {B : Nat} {w : World} {v b : Value} {s : St} {U : List Value} (h : OwnS B w v b s U) {n m : Nat} {l : List Int} (hn : s.vars[n]? = some l) (hm : m < l.length) {x : Int} (hx : I64 x) :
    ∃ gv cv bi cap, v = .slice (some ⟨gv, 0, none⟩) s.vars.length cv ∧ B ≤ gv ∧ gv < w.heap.size ∧ w.cell? ⟨gv, n, none⟩ = some (.slice (some ⟨bi, 0, none⟩) l.length cap) ∧ B ≤ bi ∧ bi < w.heap.size ∧ w.cell? ⟨bi, m, none⟩ = some (.int .i64 (l.getD m 0)) ∧ w.frozen? ⟨bi, m, none⟩ = false ∧ OwnS B (w.setCell ⟨bi, m, none⟩ (.int .i64 x)) v b (setS s n m x) U := by
  have hnl : n < s.vars.length := lt_of_get hn
  obtain ⟨u, hu⟩ := get_some (L := U) (n := n) (by rw [h.rows.len]; exact hnl)
  have hgetD : s.vars.getD n [] = l := by simp [List.getD, hn]
  obtain ⟨bi, cap, e1, e2, e3, e4, e5, e6⟩ := owns_at (h.rows.row n _ l hu hn) hm (x := x)
  obtain ⟨gv, cv, f1, f2, f3, f4⟩ := own_cell h.own hu
  have hset : (setS s n m x).vars = s.vars.set n (l.set m x) := by unfold setS; rw [hgetD]
  have hob : u.ownBlock = some bi := by rw [e1]; rfl
  refine ⟨gv, cv, bi, cap, f1, f2, f3, by rw [f4, e1], e2, e3, e4, e5, ?_⟩
  refine ⟨by rw [hset, List.length_set]; exact owns_set h.own (owns_type (h.rows.row n _ l hu hn) h.own (by decide) hob), ?_, owns_set h.inst (owns_type (h.rows.row n _ l hu hn) h.inst (by decide) hob), ?_, h.lens, h.n64, h.f64, by rw [hset, List.length_set]; exact h.few⟩
  · rw [hset]
    refine ⟨by rw [List.length_set]; exact h.rows.len, fun i y r hi hr => ?_, h.rows.apart⟩
    by_cases hin : n = i
    · subst hin
      rw [hu] at hi
      have hr' : l.set m x = r := by simpa [hnl] using hr
      have hi' := Option.some.inj hi
      rw [← hi', ← hr', List.length_set]
      exact e6
    · have hr' : s.vars[i]? = some r := by simpa [List.getElem?_set, hin] using hr
      refine owns_set (h.rows.row i y r hi hr') (fun hb => ?_)
      rcases Nat.lt_or_gt_of_ne hin with hlt | hgt
      · exact h.rows.apart n i _ y bi hlt hu hi hob hb
      · exact h.rows.apart i n y _ bi hgt hi hu hb hob
  · intro r hr z hz
    rw [hset] at hr
    rcases List.mem_or_eq_of_mem_set hr with hr | rfl
    · exact h.ints r hr z hz
    · rcases List.mem_or_eq_of_mem_set hz with hz | rfl
      · exact h.ints l (List.mem_of_getElem? hn) z hz
      · exact hx
theorem OwnSt.own {B : Nat} {w : World} {v b : Value} {s : St} {g : Nat} {U : Array Value} {C : Nat} (h : OwnSt B w v b s g U C) : OwnS B w v b s U.toList :=
  ⟨⟨by simp [h.size], Or.inr ⟨g, s.vars.length, U, h.form, h.base, h.obj, Nat.le_refl _, by have := h.few; unfold maxLen; omega, by simp [h.size], by rw [List.take_of_length_le (by simp [h.size])]⟩⟩, rows_low h.rows (by have := h.base; omega), own_low h.inst h.cb, h.ints, h.lens, h.n64, h.f64, h.few⟩
-- what a scan's beginning writes
def inAt (ins : List Int) (n : Nat) : Int := ins.getD n 0
def fillTo (s : St) (i : Nat) (t : Int) (ins : List Int) (n : Nat) : Nat → St
  | 0 => s
  | k + 1 => setS (fillTo s i t ins n k) i k (kWrap t (inAt ins (n + k)))
def begF (vs : List Vr) (ins : List Int) (s : St) : Nat → St × Nat
  | 0 => (s, 0)
  | i + 1 => let q := begF vs ins s i; match vs[i]?, s.vars[i]? with
    | some x, some l => if x.area = 1 then (fillTo q.1 i x.t ins q.2 l.length, q.2 + l.length) else q
    | _, _ => q
def laterF (now dt : Int) : Int := let d := if dt < 0 then 0 else if 1099511627776 < dt then 1099511627776 else dt; if 1099511627776 - d < now then 1099511627776 else now + d
def begS (vs : List Vr) (ins : List Int) (s : St) (dt : Int) : St := (begF vs ins { s with now := laterF s.now dt } vs.length).1
end Go.Proofs.Ythanmbfelihkfaa
