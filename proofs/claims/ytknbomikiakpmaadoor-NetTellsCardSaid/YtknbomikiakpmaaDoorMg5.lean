/- Merged texts: NtA, NtS, NtF, NtC, NnR, NtR, RowMore. -/
import Derived.Test.YtknbomikiakpmaaDoorMg0
import Derived.Test.YtknbomikiakpmaaDoorMg3
import Derived.Deep.CutRange
import Derived.Deep.Cut
import Derived.Test.YtknbomikiakpmaaDoorMg2
import Derived.LoopTactic
import Derived.BigRegion
import Derived.BigQuiet
import Derived.Test.YtknbomikiakpmaaDoorMg1
/- Networks: plain trees, how they lie in memory, their size and how many may be. -/
namespace Go.Proofs.YtknbomikiakpmaaDoor
open Go.RowKit
set_option linter.unusedSimpArgs false
set_option linter.unusedVariables false
structure Nt where
  kind : Int
  neg : Int
  e : Ex
  l : List Nt
/-- one thing of a network, by what was made of those within it -/
noncomputable def foldN {α : Type} (f : Nt → List α → α) (e : Nt) : α :=
  Nt.rec (motive_1 := fun _ => α) (motive_2 := fun _ => List α) (fun k n e l ih => f (.mk k n e l) ih) [] (fun _ _ h t => h :: t) e
theorem foldN_mk {α : Type} (f : Nt → List α → α) (k n : Int) (e : Ex) (l : List Nt) : foldN f (.mk k n e l) = f (.mk k n e l) (l.map (foldN f)) := by
  have h : ∀ l : List Nt, (Nt.rec_1 (motive_1 := fun _ => α) (motive_2 := fun _ => List α) (fun k n e l ih => f (.mk k n e l) ih) [] (fun _ _ h t => h :: t) l : List α) = l.map (foldN f) := by
    intro l
    induction l with
    | nil => rfl
    | cons a t ih =>
      rw [List.map_cons, ← ih]
      rfl
  rw [← h l]
  rfl
theorem foldN_eq {α : Type} (f : Nt → List α → α) (e : Nt) : foldN f e = f e (e.l.map (foldN f)) := by
  cases e; exact foldN_mk f _ _ _ _
theorem Nt.ind {P : Nt → Prop} (h : ∀ k n e l, (∀ x ∈ l, P x) → P (.mk k n e l)) (e : Nt) : P e :=
  Nt.rec (motive_1 := P) (motive_2 := fun l => ∀ x ∈ l, P x) (fun k n e l ih => h k n e l ih) (fun x hx => by cases hx) (fun a t ha ht x hx => by
    rcases List.mem_cons.1 hx with rfl | hx
    · exact ha
    · exact ht x hx) e
def ntI (n : Nt) : Prop := I64 n.kind ∧ I64 n.neg
noncomputable def ntR : Rep Nt := fun w C n => foldN (α := World → List Value → Prop) (fun n ps w C => ∃ s v, C = [.int .i64 n.kind, .int .i64 n.neg, .int .i64 n.e.op, .int .i64 n.e.t, .int .i64 n.e.n, .int .i64 n.e.m, s, v] ∧ ntI n ∧ ExV w (.agg #[.int .i64 n.e.op, .int .i64 n.e.t, .int .i64 n.e.n, .int .i64 n.e.m, s]) n.e ∧ RowR 8 (fun w C (p : World → List Value → Prop) => p w C) w v ps) n w C
theorem ntR_eq {w : World} {C : List Value} {n : Nt} : ntR w C n ↔ ∃ s v, C = [.int .i64 n.kind, .int .i64 n.neg, .int .i64 n.e.op, .int .i64 n.e.t, .int .i64 n.e.n, .int .i64 n.e.m, s, v] ∧ ntI n ∧ ExV w (.agg #[.int .i64 n.e.op, .int .i64 n.e.t, .int .i64 n.e.n, .int .i64 n.e.m, s]) n.e ∧ RowR 8 ntR w v n.l := by
  unfold ntR
  rw [foldN_eq]
  constructor
  · rintro ⟨s, v, h1, h2, h4, h3⟩
    exact ⟨s, v, h1, h2, h4, (rowR_map _ _).1 h3⟩
  · rintro ⟨s, v, h1, h2, h4, h3⟩
    exact ⟨s, v, h1, h2, h4, (rowR_map _ _).2 h3⟩
theorem ntR_stable : Stable ntR := by
  intro w w' C n
  revert C
  induction n using Nt.ind with
  | h k n e l ih =>
    intro C h hb
    obtain ⟨s, v, h1, h2, h4, h3⟩ := ntR_eq.1 h
    exact ntR_eq.2 ⟨s, v, h1, h2, h4.below hb, rowR_below_of h3 (fun C x hx hr => ih x hx C hr hb) hb⟩
/-- a network as a value -/
def NtV (w : World) (v : Value) (n : Nt) : Prop := ∃ s u, v = .agg #[.int .i64 n.kind, .int .i64 n.neg, .int .i64 n.e.op, .int .i64 n.e.t, .int .i64 n.e.n, .int .i64 n.e.m, s, u] ∧ ntI n ∧ ExV w (.agg #[.int .i64 n.e.op, .int .i64 n.e.t, .int .i64 n.e.n, .int .i64 n.e.m, s]) n.e ∧ RowR 8 ntR w u n.l
theorem NtV.below {w w' : World} {v : Value} {n : Nt} (h : NtV w v n) (hb : Below w.heap.size w w') : NtV w' v n := by
  obtain ⟨s, u, h1, h2, h3, h4⟩ := h
  exact ⟨s, u, h1, h2, h3.below hb, h4.below ntR_stable hb⟩
theorem ntV_of {w : World} {C : List Value} {n : Nt} (h : ntR w C n) : NtV w (.agg C.toArray) n := by
  obtain ⟨s, v, rfl, h2, h3, h4⟩ := ntR_eq.1 h
  exact ⟨s, v, rfl, h2, h3, h4⟩
/-- the forms of a network's value -/
theorem nt_form {w : World} {v : Value} {n : Nt} (h : NtV w v n) : ∃ a k c b j d, v = .agg #[.int .i64 n.kind, .int .i64 n.neg, .int .i64 n.e.op, .int .i64 n.e.t, .int .i64 n.e.n, .int .i64 n.e.m, .slice a k c, .slice b j d] ∧ j = n.l.length ∧ ntI n ∧
    ExV w (.agg #[.int .i64 n.e.op, .int .i64 n.e.t, .int .i64 n.e.n, .int .i64 n.e.m, .slice a k c]) n.e ∧ RowR 8 ntR w (.slice b j d) n.l := by
  obtain ⟨s, u, rfl, h2, h3, h4⟩ := h
  obtain ⟨sl, e1, _, hr⟩ := id h3
  injection e1 with e1
  have e1 := congrArg Array.toList e1
  simp only [List.cons.injEq, and_true, true_and] at e1
  obtain ⟨a, c, rfl⟩ := row_get hr
  obtain ⟨b, d, rfl⟩ := row_get h4
  subst e1
  exact ⟨_, _, _, _, _, _, rfl, rfl, h2, h3, h4⟩
/-- the k-th network within: its cells -/
theorem nt_at {w : World} {a : Option Addr} {n cap : Nat} {L : List Nt} (hv : RowR 8 ntR w (.slice a n cap) L) {k : Nat} {x : Nt} (hx : L[k]? = some x) :
    ∃ b off s sn sc u un uc, a = some ⟨b, off, none⟩ ∧ b < w.heap.size ∧ n ≤ cap ∧ cap ≤ 9223372036854775807 ∧ w.cell? ⟨b, off + k * 8, none⟩ = some (.int .i64 x.kind) ∧ w.cell? ⟨b, off + k * 8 + 1, none⟩ = some (.int .i64 x.neg) ∧ w.cell? ⟨b, off + k * 8 + 2, none⟩ = some (.int .i64 x.e.op) ∧
      w.cell? ⟨b, off + k * 8 + 3, none⟩ = some (.int .i64 x.e.t) ∧ w.cell? ⟨b, off + k * 8 + 4, none⟩ = some (.int .i64 x.e.n) ∧ w.cell? ⟨b, off + k * 8 + 5, none⟩ = some (.int .i64 x.e.m) ∧ w.cell? ⟨b, off + k * 8 + 6, none⟩ = some (.slice s sn sc) ∧ w.cell? ⟨b, off + k * 8 + 7, none⟩ = some (.slice u un uc) ∧
      NtV w (.agg #[.int .i64 x.kind, .int .i64 x.neg, .int .i64 x.e.op, .int .i64 x.e.t, .int .i64 x.e.n, .int .i64 x.e.m, .slice s sn sc, .slice u un uc]) x := by
  rcases hv with ⟨_, _, _, rfl, _⟩ | ⟨b, off, cap, h1, h2, h3, h4, h5, h6⟩
  · simp at hx
  · injection h1 with h1 h1' h1''
    subst h1 h1' h1''
    obtain ⟨C, g1, g2, g3⟩ := h6 k x hx
    obtain ⟨p, q, r, p', q', r', hC, _, hi, he, hl⟩ := nt_form (ntV_of g3)
    injection hC with hC
    have hC := congrArg Array.toList hC
    simp only at hC
    subst hC
    exact ⟨b, off, p, q, r, p', q', r', rfl, h5, h3, h4, g2 0 _ rfl, g2 1 _ rfl, g2 2 _ rfl, g2 3 _ rfl, g2 4 _ rfl, g2 5 _ rfl, g2 6 _ rfl, g2 7 _ rfl, _, _, rfl, hi, he, hl⟩
/-- how many networks there are in one -/
noncomputable def sizeN : Nt → Nat := foldN fun _ l => 1 + l.sum
theorem sizeN_mk (e : Nt) : sizeN e = 1 + (e.l.map sizeN).sum := foldN_eq _ e
theorem sizeN_pos (e : Nt) : 1 ≤ sizeN e := by rw [sizeN_mk]; omega
theorem sizeN_within {e x : Nt} (h : x ∈ e.l) : sizeN x < sizeN e := by
  rw [sizeN_mk e]
  have := sum_mem (List.mem_map_of_mem (f := sizeN) h)
  omega
theorem sizeN_len (e : Nt) : e.l.length < sizeN e := by
  rw [sizeN_mk e]
  have := len_sum (l := e.l.map sizeN) (fun x hx => by obtain ⟨y, _, rfl⟩ := List.mem_map.1 hx; exact sizeN_pos y)
  rw [List.length_map] at this
  omega
/-- every expression within is small -/
noncomputable def smallEs : Nt → Prop := foldN (α := Prop) fun n ps => SmallE 300 n.e ∧ ∀ (i : Nat) (p : Prop), ps[i]? = some p → p
theorem smallEs_mk (n : Nt) : smallEs n ↔ SmallE 300 n.e ∧ ∀ x ∈ n.l, smallEs x := by
  unfold smallEs
  rw [foldN_eq]
  constructor
  · rintro ⟨h1, h2⟩
    refine ⟨h1, fun x hx => ?_⟩
    obtain ⟨i, hi, rfl⟩ := List.getElem_of_mem hx
    exact h2 i _ (by rw [List.getElem?_map, List.getElem?_eq_getElem hi]; rfl)
  · rintro ⟨h1, h2⟩
    refine ⟨h1, fun i p hp => ?_⟩
    rw [List.getElem?_map] at hp
    obtain ⟨x, hx, rfl⟩ := Option.map_eq_some_iff.1 hp
    exact h2 x (List.mem_of_getElem? hx)
/-- a small network: not too many within, each with a small expression -/
def SmallN (n : Nt) : Prop := sizeN n ≤ 100 ∧ smallEs n
theorem SmallN.within {e x : Nt} (h : SmallN e) (hx : x ∈ e.l) : SmallN x := ⟨by have := sizeN_within hx; have := h.1; omega, ((smallEs_mk e).1 h.2).2 x hx⟩
theorem SmallN.len {e : Nt} (h : SmallN e) : e.l.length ≤ 100 := by have := sizeN_len e; have := h.1; omega
theorem SmallN.ex {e : Nt} (h : SmallN e) : SmallE 300 e.e := ((smallEs_mk e).1 h.2).1
noncomputable def roomN : Nt → Int → Int → Int := foldN fun n fs m d => if m < 1 ∨ d < 1 ∨ ¬ 0 ≤ roomE n.e 30 40 then -1 else roomL fs (m - 1) (d - 1)
theorem roomN_mk (e : Nt) (m d : Int) : roomN e m d = if m < 1 ∨ d < 1 ∨ ¬ 0 ≤ roomE e.e 30 40 then -1 else roomL (e.l.map roomN) (m - 1) (d - 1) := by
  have h := congrFun (congrFun (foldN_eq (α := Int → Int → Int) (fun n fs m d => if m < 1 ∨ d < 1 ∨ ¬ 0 ≤ roomE n.e 30 40 then -1 else roomL fs (m - 1) (d - 1)) e) m) d
  exact h
theorem roomLN_ok {l : List Nt} (h : ∀ x ∈ l, ∀ m d, (roomN x m d = -1 ∨ 0 ≤ roomN x m d ∧ roomN x m d = m - sizeN x ∧ smallEs x)) : ∀ m d, 0 ≤ m → roomL (l.map roomN) m d = -1 ∨ 0 ≤ roomL (l.map roomN) m d ∧ roomL (l.map roomN) m d = m - ((l.map sizeN).sum : Nat) ∧ ∀ x ∈ l, smallEs x := by
  induction l with
  | nil => intro m d hm; exact Or.inr ⟨hm, by simp [roomL], by simp⟩
  | cons x t ih =>
    intro m d hm
    rw [List.map_cons, roomL, List.map_cons, List.sum_cons]
    by_cases hn : roomN x m d < 0
    · rw [if_pos hn]; exact Or.inl rfl
    · rw [if_neg hn]
      rcases h x (by simp) m d with h1 | ⟨h1, h2, h5⟩
      · omega
      · rcases ih (fun y hy => h y (by simp [hy])) (roomN x m d) d h1 with h3 | ⟨h3, h4, h6⟩
        · exact Or.inl h3
        · refine Or.inr ⟨h3, by rw [h4, h2]; omega, fun y hy => ?_⟩
          rcases List.mem_cons.1 hy with rfl | hy
          · exact h5
          · exact h6 y hy
theorem roomN_ok (e : Nt) : ∀ m d, roomN e m d = -1 ∨ 0 ≤ roomN e m d ∧ roomN e m d = m - sizeN e ∧ smallEs e := by
  induction e using Nt.ind with
  | h k n e l ih =>
    intro M d
    rw [roomN_mk]
    split
    · exact Or.inl rfl
    · rename_i hc
      rcases roomLN_ok ih (M - 1) (d - 1) (by omega) with h | ⟨h1, h2, h3⟩
      · exact Or.inl h
      · refine Or.inr ⟨h1, ?_, (smallEs_mk _).2 ⟨?_, h3⟩⟩
        · show roomL (l.map roomN) _ _ = _
          rw [h2, sizeN_mk]
          show M - 1 - ((l.map sizeN).sum : Nat) = M - ((1 + (l.map sizeN).sum : Nat) : Int)
          omega
        · simp only at hc
          have h8 : 0 ≤ roomE e ((30 : Nat) : Int) 40 := by
            show 0 ≤ roomE e 30 40
            omega
          have h9 : SmallE (30 : Nat) e := fewE_small h8
          show SmallE 300 e
          unfold SmallE at h9 ⊢; omega
theorem roomN_small {e : Nt} (h : 0 ≤ roomN e 100 30) : SmallN e := by
  rcases roomN_ok e 100 30 with h1 | ⟨h1, h2, h3⟩
  · omega
  · exact ⟨by omega, h3⟩
end Go.Proofs.YtknbomikiakpmaaDoor

/- Whether two networks are the same, by both. -/
namespace Go.Proofs.YtknbomikiakpmaaDoor
open Go.RowKit
set_option linter.unusedSimpArgs false
set_option linter.unusedVariables false
noncomputable def sameN (a b : Nt) : Bool := @decide (a = b) (Classical.propDecidable _)
theorem sameN_yes {a b : Nt} (h : a = b) : sameN a b = true := @decide_eq_true _ (Classical.propDecidable _) h
theorem sameN_no {a b : Nt} (h : ¬ a = b) : sameN a b = false := @decide_eq_false _ (Classical.propDecidable _) h
theorem sameN_eq {a b : Nt} (h : sameN a b = true) : a = b := @of_decide_eq_true _ (Classical.propDecidable _) h
theorem lists_eqN {l l2 : List Nt} (hl : l.length = l2.length) (h : ∀ (i : Nat) (x y : Nt), l[i]? = some x → l2[i]? = some y → x = y) : l = l2 := by
  apply List.ext_getElem?
  intro i
  by_cases hi : i < l.length
  · have hi' : i < l2.length := by omega
    rw [List.getElem?_eq_getElem hi, List.getElem?_eq_getElem hi']
    congr 1
    exact h i _ _ (List.getElem?_eq_getElem hi) (List.getElem?_eq_getElem hi')
  · rw [List.getElem?_eq_none (by omega), List.getElem?_eq_none (by omega)]
theorem boxed_nt8 {w : World} {o1 o2 o3 o4 o5 o6 : Int} {s u : Value} {g : Nat} {t : TypeId} (h : w.heap[g]? = some (.cells #[.int .i64 o1, .int .i64 o2, .int .i64 o3, .int .i64 o4, .int .i64 o5, .int .i64 o6, s, u] t)) :
    w.cell? ⟨g, 0, none⟩ = some (.int .i64 o1) ∧ w.cell? ⟨g, 1, none⟩ = some (.int .i64 o2) ∧ w.cell? ⟨g, 2, none⟩ = some (.int .i64 o3) ∧ w.cell? ⟨g, 3, none⟩ = some (.int .i64 o4) ∧ w.cell? ⟨g, 4, none⟩ = some (.int .i64 o5) ∧ w.cell? ⟨g, 5, none⟩ = some (.int .i64 o6) ∧ w.cell? ⟨g, 6, none⟩ = some s ∧ w.cell? ⟨g, 7, none⟩ = some u :=
  ⟨obj_cell h (i := 0) rfl, obj_cell h (i := 1) rfl, obj_cell h (i := 2) rfl, obj_cell h (i := 3) rfl, obj_cell h (i := 4) rfl, obj_cell h (i := 5) rfl, obj_cell h (i := 6) rfl, obj_cell h (i := 7) rfl⟩
set_option maxRecDepth 100000 in
set_option maxHeartbeats 8000000 in
theorem net_Same : ∀ a b w v u, NtV w v a → NtV w u b → Calls Tryd.prog 25 #[v, u] w fun r w' => r = .returned (.bool (sameN a b)) ∧ Below w.heap.size w w' := by
  intro a
  induction a using Nt.ind with
  | h k g e l ih =>
    intro b w v u hv hu
    have HIH := Lib.hid (fun x (hx : x ∈ l) y W v u (hv : NtV W v x) (hu : NtV W u y) => ih x hx y W v u hv hu)
    obtain ⟨k2, g2, e2, l2⟩ := b
    obtain ⟨ea, el, ec, sa, N, sc, rfl, hN, hi1, he1, hrow1⟩ := nt_form hv
    obtain ⟨ea2, el2, ec2, sa2, N2, sc2, rfl, hN2, hi2, he2, hrow2⟩ := nt_form hu
    have HE := Lib.hid (fun W (hb : Below w.heap.size w W) => expr_Same e e2 W _ _ (he1.below hb) (he2.below hb))
    have HQ1 := Lib.hid (fun (h : ¬ e = e2) => sameN_no (a := ⟨k, g, e, l⟩) (b := ⟨k, g, e2, l2⟩) (fun q => h (congrArg Nt.e q)))
    replace hN : l.length = N := hN.symm
    replace hN2 : l2.length = N2 := hN2.symm
    simp only at hrow1 hrow2 ⊢
    have hl1 := hrow1.len
    have hl2 := hrow2.len
    have HX := Lib.hid hrow1
    have HY := Lib.hid hrow2
    have HN := Lib.hid hN
    have HN2 := Lib.hid hN2
    have mixed : Tryd.prog.follows .mixedOrders = true := by kernel_rfl
    clear ih hv hu hrow1 hrow2 hi1 hi2 he1 he2
    by_cases h0 : k = k2
    case neg =>
      have hno := Lib.hid (sameN_no (a := ⟨k, g, e, l⟩) (b := ⟨k2, g2, e2, l2⟩) (fun h => h0 (congrArg Nt.kind h)))
      have q0 : (k != k2) = true := by rw [bne_iff_ne]; exact h0
      rw [hno.out]
      clear h0 hN hN2
      go_enter Tryd.func25, Tryd.ntmps25
      go_wp2_with fail
      go_ret
      exact ⟨rfl, by (repeat' (first | (with_reducible exact Below.refl _ _) | (with_reducible assumption) | (with_reducible refine below_drewN ?_ _) | (with_reducible refine Below.alloc ?_ ?_ _) | (with_reducible refine Below.drew ?_) | (with_reducible refine Below.setCell ?_ ?_ _) | go_size))⟩
    subst h0
    have q0 : (k != k) = false := by simp
    by_cases h1 : g = g2
    case neg =>
      have hno := Lib.hid (sameN_no (a := ⟨k, g, e, l⟩) (b := ⟨k, g2, e2, l2⟩) (fun h => h1 (congrArg Nt.neg h)))
      have q1 : (g != g2) = true := by rw [bne_iff_ne]; exact h1
      rw [hno.out]
      clear h1 hN hN2
      go_enter Tryd.func25, Tryd.ntmps25
      go_wp2_with fail
      go_ret
      exact ⟨rfl, by (repeat' (first | (with_reducible exact Below.refl _ _) | (with_reducible assumption) | (with_reducible refine below_drewN ?_ _) | (with_reducible refine Below.alloc ?_ ?_ _) | (with_reducible refine Below.drew ?_) | (with_reducible refine Below.setCell ?_ ?_ _) | go_size))⟩
    subst h1
    have q1 : (g != g) = false := by simp
    have HNN := Lib.hid (fun (h : ¬ N = N2) => sameN_no (a := ⟨k, g, e, l⟩) (b := ⟨k, g, e2, l2⟩) (fun q => h (by rw [← hN, ← hN2]; exact congrArg (fun e => e.l.length) q)))
    have HY1 := Lib.hid (fun (he : e = e2) (hn : N = N2) (h : ∀ (i : Nat) (x y : Nt), l[i]? = some x → l2[i]? = some y → x = y) => sameN_yes (show (⟨k, g, e, l⟩ : Nt) = ⟨k, g, e2, l2⟩ from by rw [he, lists_eqN (by omega) h]))
    have HNo := Lib.hid (fun (i : Nat) (x y : Nt) (hx : l[i]? = some x) (hy : l2[i]? = some y) (h : ¬ x = y) => sameN_no (a := ⟨k, g, e, l⟩) (b := ⟨k, g, e2, l2⟩) (fun q => h (by
      have e' : l = l2 := congrArg Nt.l q
      rw [e', hy] at hx
      exact (Option.some.inj hx).symm)))
    obtain ⟨R, hR⟩ : ∃ R, sameN ⟨k, g, e, l⟩ ⟨k, g, e2, l2⟩ = R := ⟨_, rfl⟩
    rw [hR] at HY1 HNo HNN HQ1 ⊢
    clear hN hN2 hR
    have HEq := Lib.hid (fun (h : sameE e e2 = true) => sameE_eq h)
    have HEn := Lib.hid (fun (h : sameE e e2 = false) (q : e = e2) => (absurd (h.symm.trans (sameE_yes q)) (by simp) : False))
    obtain ⟨Z, hZ⟩ : ∃ Z, sameE e e2 = Z := ⟨_, rfl⟩
    rw [hZ] at HE HEq HEn
    clear hZ
    obtain ⟨PE, hPE⟩ : ∃ p : Prop, (e = e2) = p := ⟨_, rfl⟩
    rw [hPE] at HY1 HQ1 HEq HEn
    clear hPE
    obtain ⟨eo, et, en, em, ell⟩ := e
    obtain ⟨eo2, et2, en2, em2, ell2⟩ := e2
    simp only at HE ⊢
    obtain ⟨W0, hW0⟩ : ∃ W0, W0 = (w.alloc (.cells #[.int .i64 k, .int .i64 g, .int .i64 eo, .int .i64 et, .int .i64 en, .int .i64 em, .slice ea el ec, .slice sa N sc] 54)).alloc (.cells #[.int .i64 k, .int .i64 g, .int .i64 eo2, .int .i64 et2, .int .i64 en2, .int .i64 em2, .slice ea2 el2 ec2, .slice sa2 N2 sc2] 54) := ⟨_, rfl⟩
    have O0 := Lib.hid (show W0.heap[w.heap.size]? = some (.cells #[.int .i64 k, .int .i64 g, .int .i64 eo, .int .i64 et, .int .i64 en, .int .i64 em, .slice ea el ec, .slice sa N sc] 54) by rw [hW0, get_past (by simp)]; exact get_last rfl)
    have P0 := Lib.hid (show W0.heap[w.heap.size + 1]? = some (.cells #[.int .i64 k, .int .i64 g, .int .i64 eo2, .int .i64 et2, .int .i64 en2, .int .i64 em2, .slice ea2 el2 ec2, .slice sa2 N2 sc2] 54) by rw [hW0]; exact get_last (by simp))
    have B0 := Lib.hid (show Below w.heap.size w W0 by rw [hW0]; exact by (repeat' (first | (with_reducible exact Below.refl _ _) | (with_reducible assumption) | (with_reducible refine below_drewN ?_ _) | (with_reducible refine Below.alloc ?_ ?_ _) | (with_reducible refine Below.drew ?_) | (with_reducible refine Below.setCell ?_ ?_ _) | go_size)))
    have HW0 := Lib.hid hW0
    clear hW0
    by_cases h4 : N = N2
    case neg =>
      have q4 : ((N : Int) != (N2 : Int)) = true := by rw [bne_iff_ne]; omega
      have hno := Lib.hid (HNN.out h4)
      clear h4
      go_enter Tryd.func25, Tryd.ntmps25
      go_wp2_with fail
      go_ret
      exact ⟨by rw [hno.out]; rfl, by (repeat' (first | (with_reducible exact Below.refl _ _) | (with_reducible assumption) | (with_reducible refine below_drewN ?_ _) | (with_reducible refine Below.alloc ?_ ?_ _) | (with_reducible refine Below.drew ?_) | (with_reducible refine Below.setCell ?_ ?_ _) | go_size))⟩
    subst h4
    have q4 : ((N : Int) != (N : Int)) = false := by simp
    cases Z
    case false =>
      have hno := Lib.hid (HQ1.out (HEn.out rfl))
      go_enter Tryd.func25, Tryd.ntmps25
      go_wp2_with fail
      refine (HE.out _ (by (repeat' (first | (with_reducible exact Below.refl _ _) | (with_reducible assumption) | (with_reducible refine below_drewN ?_ _) | (with_reducible refine Below.alloc ?_ ?_ _) | (with_reducible refine Below.drew ?_) | (with_reducible refine Below.setCell ?_ ?_ _) | go_size)))).mono ?_; rintro r w1 ⟨rfl, hb⟩
      rw [← HW0.out] at hb
      have O1 := Lib.hid (obj_below O0.out hb (heap_lt O0.out))
      have P1 := Lib.hid (obj_below P0.out hb (heap_lt P0.out))
      have B1 := Lib.hid (B0.out.trans (hb.mono B0.out.size))
      clear hb
      go_wp2_with fail
      go_ret
      exact ⟨by rw [hno.out]; rfl, B1.out⟩
    have HPE := Lib.hid (HEq.out rfl)
    go_enter Tryd.func25, Tryd.ntmps25
    go_wp2_with fail
    refine (HE.out _ (by (repeat' (first | (with_reducible exact Below.refl _ _) | (with_reducible assumption) | (with_reducible refine below_drewN ?_ _) | (with_reducible refine Below.alloc ?_ ?_ _) | (with_reducible refine Below.drew ?_) | (with_reducible refine Below.setCell ?_ ?_ _) | go_size)))).mono ?_; rintro r w1 ⟨rfl, hb⟩
    rw [← HW0.out] at hb
    have O1 := Lib.hid (obj_below O0.out hb (heap_lt O0.out))
    have P1 := Lib.hid (obj_below P0.out hb (heap_lt P0.out))
    have B1 := Lib.hid (B0.out.trans (hb.mono B0.out.size))
    clear hb
    have HY2 := Lib.hid (HY1.out HPE.out (by first | trivial | rfl))
    clear HE HEq HEn HQ1 HNN HY1 HPE
    obtain ⟨a0, a1, a2, a3, a4, a5, a6, a7⟩ := boxed_nt8 O1.out
    have za := heap_lt O1.out
    obtain ⟨b0, b1, b2, b3, b4, b5, b6, b7⟩ := boxed_nt8 P1.out
    have zb := heap_lt P1.out
    go_wp2_with fail
    clear a0 a1 a2 a3 a4 a5 a6 a7 za b0 b1 b2 b3 b4 b5 b6 b7 zb
    go_loopw [39] (fun jj wr => ∃ j : Nat, j ≤ N ∧ jj = .int .i64 j ∧ Hid (∀ (i : Nat) (x y : Nt), i < j → l[i]? = some x → l2[i]? = some y → x = y) ∧ Hid (Below w1.heap.size w1 wr)) (fun jj _ => N - (intOf jj).toNat)
    case atStart => exact ⟨0, by omega, rfl, Lib.hid (fun i x y h => by omega), Lib.hid (Below.refl _ _)⟩
    case round =>
      obtain ⟨j, hk, rfl, hall, hB⟩ := hrel
      have hBw := B1.out.trans (hB.out.mono B1.out.size)
      obtain ⟨_, _, _, _, _, _, _, a7⟩ := boxed_nt8 (obj_below O1.out hB.out (heap_lt O1.out))
      have za := Nat.lt_of_lt_of_le (heap_lt O1.out) hB.out.size
      obtain ⟨_, _, _, _, _, _, _, b7⟩ := boxed_nt8 (obj_below P1.out hB.out (heap_lt P1.out))
      have zb := Nat.lt_of_lt_of_le (heap_lt P1.out) hB.out.size
      by_cases hlt : j < N
      · have qk : ((j : Int) < (N : Int)) = True := eq_true (by omega)
        have qk' : (j < N) = True := eq_true hlt
        obtain ⟨x, hx⟩ := get_some (L := l) (n := j) (by rw [HN.out]; exact hlt)
        obtain ⟨y, hy⟩ := get_some (L := l2) (n := j) (by rw [HN2.out]; exact hlt)
        obtain ⟨b, off, s1, sn1, sc1, u1, un1, uc1, rfl, hbw, hc1, hc2, d0, d1, d2, d3, d4, d5, d6, d7, hxv⟩ := nt_at HX.out hx
        obtain ⟨c, off2, s3, sn3, sc3, u3, un3, uc3, rfl, hbw2, hc3, hc4, y0, y1, y2, y3, y4, y5, y6, y7, hyv⟩ := nt_at HY.out hy
        have hmem := List.mem_of_getElem? hx
        have d0 := (hBw.cell (p := ⟨b, off + j * 8, none⟩) hbw).trans d0
        have d1 := (hBw.cell (p := ⟨b, off + j * 8 + 1, none⟩) hbw).trans d1
        have d2 := (hBw.cell (p := ⟨b, off + j * 8 + 2, none⟩) hbw).trans d2
        have d3 := (hBw.cell (p := ⟨b, off + j * 8 + 3, none⟩) hbw).trans d3
        have d4 := (hBw.cell (p := ⟨b, off + j * 8 + 4, none⟩) hbw).trans d4
        have d5 := (hBw.cell (p := ⟨b, off + j * 8 + 5, none⟩) hbw).trans d5
        have d6 := (hBw.cell (p := ⟨b, off + j * 8 + 6, none⟩) hbw).trans d6
        have d7 := (hBw.cell (p := ⟨b, off + j * 8 + 7, none⟩) hbw).trans d7
        have y0 := (hBw.cell (p := ⟨c, off2 + j * 8, none⟩) hbw2).trans y0
        have y1 := (hBw.cell (p := ⟨c, off2 + j * 8 + 1, none⟩) hbw2).trans y1
        have y2 := (hBw.cell (p := ⟨c, off2 + j * 8 + 2, none⟩) hbw2).trans y2
        have y3 := (hBw.cell (p := ⟨c, off2 + j * 8 + 3, none⟩) hbw2).trans y3
        have y4 := (hBw.cell (p := ⟨c, off2 + j * 8 + 4, none⟩) hbw2).trans y4
        have y5 := (hBw.cell (p := ⟨c, off2 + j * 8 + 5, none⟩) hbw2).trans y5
        have y6 := (hBw.cell (p := ⟨c, off2 + j * 8 + 6, none⟩) hbw2).trans y6
        have y7 := (hBw.cell (p := ⟨c, off2 + j * 8 + 7, none⟩) hbw2).trans y7
        have zx : b < wr.heap.size := Nat.lt_of_lt_of_le hbw hBw.size
        have zy : c < wr.heap.size := Nat.lt_of_lt_of_le hbw2 hBw.size
        have hxw := hxv.below hBw
        have hyw := hyv.below hBw
        have hk63 : j ≤ 9223372036854775806 := by omega
        have HLT := Lib.hid hlt
        have HBr := Lib.hid hB.out
        have HBW := Lib.hid hBw
        have hsz := hB.out.size
        obtain ⟨BB, hBq⟩ : ∃ B, sameN x y = B := ⟨_, rfl⟩
        have HBq := Lib.hid hBq
        have HXY := Lib.hid (And.intro hx hy)
        obtain ⟨WX, hWX⟩ : ∃ WX, WX = wr.alloc (.cells #[.int .i64 x.kind, .int .i64 x.neg, .int .i64 x.e.op, .int .i64 x.e.t, .int .i64 x.e.n, .int .i64 x.e.m, .slice s1 sn1 sc1, .slice u1 un1 uc1] 54) := ⟨_, rfl⟩
        have hbX : Below wr.heap.size wr WX := by rw [hWX]; exact by (repeat' (first | (with_reducible exact Below.refl _ _) | (with_reducible assumption) | (with_reducible refine below_drewN ?_ _) | (with_reducible refine Below.alloc ?_ ?_ _) | (with_reducible refine Below.drew ?_) | (with_reducible refine Below.setCell ?_ ?_ _) | go_size))
        have oX : WX.heap[wr.heap.size]? = some (.cells #[.int .i64 x.kind, .int .i64 x.neg, .int .i64 x.e.op, .int .i64 x.e.t, .int .i64 x.e.n, .int .i64 x.e.m, .slice s1 sn1 sc1, .slice u1 un1 uc1] 54) := by rw [hWX]; exact get_last rfl
        obtain ⟨c0, c1, c2, c3, c4, c5, c6, c7⟩ := boxed_nt8 oX
        have z6 := heap_lt oX
        have HC := Lib.hid (fun W (h : Below WX.heap.size WX W) => HIH.out x hmem y W _ _ ((hxw.below hbX).below h) ((hyw.below hbX).below h))
        have HWX := Lib.hid hWX
        have HBX := Lib.hid hbX
        have hsr := hbX.size
        clear hWX hbX oX
        rw [hBq] at HC
        clear hxv hyv hxw hyw hmem hx hy hlt hBq hBw
        generalize x.kind = x0 at *
        generalize x.neg = x1 at *
        generalize x.e.op = x2 at *
        generalize x.e.t = x3 at *
        generalize x.e.n = x4 at *
        generalize x.e.m = x5 at *
        generalize y.kind = v0 at *
        generalize y.neg = v1 at *
        generalize y.e.op = v2 at *
        generalize y.e.t = v3 at *
        generalize y.e.n = v4 at *
        generalize y.e.m = v5 at *
        go_upto_region 6 with fail
        rw [← HWX.out]
        clear d0 d1 d2 d3 d4 d5 d6 d7
        have y0 := (HBX.out.cell (p := ⟨c, off2 + j * 8, none⟩) zy).trans y0
        have y1 := (HBX.out.cell (p := ⟨c, off2 + j * 8 + 1, none⟩) zy).trans y1
        have y2 := (HBX.out.cell (p := ⟨c, off2 + j * 8 + 2, none⟩) zy).trans y2
        have y3 := (HBX.out.cell (p := ⟨c, off2 + j * 8 + 3, none⟩) zy).trans y3
        have y4 := (HBX.out.cell (p := ⟨c, off2 + j * 8 + 4, none⟩) zy).trans y4
        have y5 := (HBX.out.cell (p := ⟨c, off2 + j * 8 + 5, none⟩) zy).trans y5
        have y6 := (HBX.out.cell (p := ⟨c, off2 + j * 8 + 6, none⟩) zy).trans y6
        have y7 := (HBX.out.cell (p := ⟨c, off2 + j * 8 + 7, none⟩) zy).trans y7
        have b7 := (HBX.out.cell (p := ⟨w.heap.size + 1, 7, none⟩) zb).trans b7
        have zy := Nat.lt_of_lt_of_le zy hsr
        have zb := Nat.lt_of_lt_of_le zb hsr
        have qq0 := fun wt (h : Below WX.heap.size WX wt) => cellB h c0 z6
        have qq1 := fun wt (h : Below WX.heap.size WX wt) => cellB h c1 z6
        have qq2 := fun wt (h : Below WX.heap.size WX wt) => cellB h c2 z6
        have qq3 := fun wt (h : Below WX.heap.size WX wt) => cellB h c3 z6
        have qq4 := fun wt (h : Below WX.heap.size WX wt) => cellB h c4 z6
        have qq5 := fun wt (h : Below WX.heap.size WX wt) => cellB h c5 z6
        have qq6 := fun wt (h : Below WX.heap.size WX wt) => cellB h c6 z6
        have qq7 := fun wt (h : Below WX.heap.size WX wt) => cellB h c7 z6
        have qq8 := fun wt (h : Below WX.heap.size WX wt) => cellB h b7 zb
        have qq9 := fun wt (h : Below WX.heap.size WX wt) => cellB h y0 zy
        have qq10 := fun wt (h : Below WX.heap.size WX wt) => cellB h y1 zy
        have qq11 := fun wt (h : Below WX.heap.size WX wt) => cellB h y2 zy
        have qq12 := fun wt (h : Below WX.heap.size WX wt) => cellB h y3 zy
        have qq13 := fun wt (h : Below WX.heap.size WX wt) => cellB h y4 zy
        have qq14 := fun wt (h : Below WX.heap.size WX wt) => cellB h y5 zy
        have qq15 := fun wt (h : Below WX.heap.size WX wt) => cellB h y6 zy
        have qq16 := fun wt (h : Below WX.heap.size WX wt) => cellB h y7 zy
        refine wp_region_held_drew (S := (fun w' => Below WX.heap.size WX w')) (by kernel_rfl) ?_ (fun hHeld => ?_)
        · (try dsimp only); first | assumption | exact Below.alloc hHeld hHeld.size _ | exact (Below.refl _ _).drew | exact Below.drew (Below.refl _ _) | exact Below_drewN _ _ _ | exact Below.refl _ _
        refine tk 0 (v := ?_) (hy := ?_) (h := ?_); rotate_left
        · intro wt hSw; (try dsimp only at hSw); go_simp <;> with_reducible rfl
        try simp only [pu, pa, pz, ps]
        refine tk 1 (v := ?_) (hy := ?_) (h := ?_); rotate_left
        · intro _ _; go_simp <;> with_reducible rfl
        try simp only [pu, pa, pz, ps]
        refine tk 2 (v := ?_) (hy := ?_) (h := ?_); rotate_left
        · intro wt hSw; (try dsimp only at hSw); go_simp <;> with_reducible rfl
        try simp only [pu, pa, pz, ps]
        refine tk 3 (v := ?_) (hy := ?_) (h := ?_); rotate_left
        · intro _ _; go_simp <;> with_reducible rfl
        try simp only [pu, pa, pz, ps]
        refine tk 4 (v := ?_) (hy := ?_) (h := ?_); rotate_left
        · intro _ _; go_simp <;> with_reducible rfl
        try simp only [pu, pa, pz, ps]
        refine tk 5 (v := ?_) (hy := ?_) (h := ?_); rotate_left
        · intro wt hSw; (try dsimp only at hSw); go_simp <;> with_reducible rfl
        try simp only [pu, pa, pz, ps]
        refine wpAnyH_ready (rs := [6]) (by kernel_rfl) (by simp) ?_
        refine AllReadyH.cons (o := ⟨_, _, _, _, _, _⟩) rfl (fun K hK => ?_) AllReadyH.nil
        go_simp
        refine (HC.out _ hHeld).mono ?_; rintro r w2 ⟨rfl, hb⟩; have hHeld := hHeld.trans (hb.mono hHeld.size)
        go_wp2_with fail
        refine hK.out _ _ ?_ (fun hHeld => ?_)
        · (try dsimp only); first | assumption | exact Below.alloc hHeld hHeld.size _ | exact (Below.refl _ _).drew | exact Below.drew (Below.refl _ _) | exact Below_drewN _ _ _ | exact Below.refl _ _
        clear hK K
        try simp only [pu, pa, pz, ps]
        refine tk 7 (v := ?_) (hy := ?_) (h := ?_); rotate_left
        · intro _ _; go_simp <;> with_reducible rfl
        try simp only [pu, pa, pz, ps]
        refine wpAnyH_done (by kernel_rfl) ?_ _
        have HH := Lib.hid (HBr.out.trans ((HBX.out.trans (hHeld.mono HBX.out.size)).mono hsz))
        have HHw := Lib.hid (HBW.out.trans ((HBX.out.trans (hHeld.mono HBX.out.size)).mono HBW.out.size))
        clear hHeld
        cases BB
        · have hno := Lib.hid (HNo.out j x y HXY.out.1 HXY.out.2 (fun e => by have := HBq.out; rw [sameN_yes e] at this; cases this))
          go_wp2_with fail
          go_ret
          exact ⟨by rw [hno.out]; rfl, HHw.out⟩
        · have hs := Lib.hid (show ∀ (i : Nat) (x y : Nt), i < j + 1 → l[i]? = some x → l2[i]? = some y → x = y from fun i x' y' hi hx' hy' => by
            rcases (show i < j ∨ i = j by omega) with h | rfl
            · exact hall.out i x' y' h hx' hy'
            · rw [HXY.out.1] at hx'; rw [HXY.out.2] at hy'
              rw [← Option.some.inj hx', ← Option.some.inj hy']
              exact sameN_eq HBq.out)
          go_wp2_with fail
          go_roundw
          case rel => exact ⟨j + 1, by have := HLT.out; omega, by simp, hs, HH⟩
          case measure => have := HLT.out; first | (simp [intOf]; done) | (simp [intOf]; omega)
      · obtain rfl : j = N := by omega
        have qk : ((j : Int) < (j : Int)) = False := eq_false (by omega)
        have qk' : (j < j) = False := eq_false (by omega)
        have hyes := Lib.hid (HY2.out (fun i x y hx hy => hall.out i x y (by rw [← HN.out]; exact lt_of_get hx) hx hy))
        have HBW := Lib.hid hBw
        clear hBw
        go_wp2_with fail
        go_ret
        exact ⟨by rw [hyes.out]; rfl, HBW.out⟩
set_option maxRecDepth 100000 in
set_option maxHeartbeats 8000000 in
theorem ref44_Same : ∀ a b w v u, NtV w v a → NtV w u b → Calls Tryd.prog 26 #[v, u] w fun r w' => r = .returned (.bool (sameN a b)) ∧ Below w.heap.size w w' := by
  intro a
  induction a using Nt.ind with
  | h k g e l ih =>
    intro b w v u hv hu
    have HIH := Lib.hid (fun x (hx : x ∈ l) y W v u (hv : NtV W v x) (hu : NtV W u y) => ih x hx y W v u hv hu)
    obtain ⟨k2, g2, e2, l2⟩ := b
    obtain ⟨ea, el, ec, sa, N, sc, rfl, hN, hi1, he1, hrow1⟩ := nt_form hv
    obtain ⟨ea2, el2, ec2, sa2, N2, sc2, rfl, hN2, hi2, he2, hrow2⟩ := nt_form hu
    have HE := Lib.hid (fun W (hb : Below w.heap.size w W) => ref26_Same e e2 W _ _ (he1.below hb) (he2.below hb))
    have HQ1 := Lib.hid (fun (h : ¬ e = e2) => sameN_no (a := ⟨k, g, e, l⟩) (b := ⟨k, g, e2, l2⟩) (fun q => h (congrArg Nt.e q)))
    replace hN : l.length = N := hN.symm
    replace hN2 : l2.length = N2 := hN2.symm
    simp only at hrow1 hrow2 ⊢
    have hl1 := hrow1.len
    have hl2 := hrow2.len
    have HX := Lib.hid hrow1
    have HY := Lib.hid hrow2
    have HN := Lib.hid hN
    have HN2 := Lib.hid hN2
    have mixed : Tryd.prog.follows .mixedOrders = true := by kernel_rfl
    clear ih hv hu hrow1 hrow2 hi1 hi2 he1 he2
    by_cases h0 : k = k2
    case neg =>
      have hno := Lib.hid (sameN_no (a := ⟨k, g, e, l⟩) (b := ⟨k2, g2, e2, l2⟩) (fun h => h0 (congrArg Nt.kind h)))
      have q0 : (k != k2) = true := by rw [bne_iff_ne]; exact h0
      rw [hno.out]
      clear h0 hN hN2
      go_enter Tryd.func26, Tryd.ntmps26
      go_wp2_with fail
      go_ret
      exact ⟨rfl, by (repeat' (first | (with_reducible exact Below.refl _ _) | (with_reducible assumption) | (with_reducible refine below_drewN ?_ _) | (with_reducible refine Below.alloc ?_ ?_ _) | (with_reducible refine Below.drew ?_) | (with_reducible refine Below.setCell ?_ ?_ _) | go_size))⟩
    subst h0
    have q0 : (k != k) = false := by simp
    by_cases h1 : g = g2
    case neg =>
      have hno := Lib.hid (sameN_no (a := ⟨k, g, e, l⟩) (b := ⟨k, g2, e2, l2⟩) (fun h => h1 (congrArg Nt.neg h)))
      have q1 : (g != g2) = true := by rw [bne_iff_ne]; exact h1
      rw [hno.out]
      clear h1 hN hN2
      go_enter Tryd.func26, Tryd.ntmps26
      go_wp2_with fail
      go_ret
      exact ⟨rfl, by (repeat' (first | (with_reducible exact Below.refl _ _) | (with_reducible assumption) | (with_reducible refine below_drewN ?_ _) | (with_reducible refine Below.alloc ?_ ?_ _) | (with_reducible refine Below.drew ?_) | (with_reducible refine Below.setCell ?_ ?_ _) | go_size))⟩
    subst h1
    have q1 : (g != g) = false := by simp
    have HNN := Lib.hid (fun (h : ¬ N = N2) => sameN_no (a := ⟨k, g, e, l⟩) (b := ⟨k, g, e2, l2⟩) (fun q => h (by rw [← hN, ← hN2]; exact congrArg (fun e => e.l.length) q)))
    have HY1 := Lib.hid (fun (he : e = e2) (hn : N = N2) (h : ∀ (i : Nat) (x y : Nt), l[i]? = some x → l2[i]? = some y → x = y) => sameN_yes (show (⟨k, g, e, l⟩ : Nt) = ⟨k, g, e2, l2⟩ from by rw [he, lists_eqN (by omega) h]))
    have HNo := Lib.hid (fun (i : Nat) (x y : Nt) (hx : l[i]? = some x) (hy : l2[i]? = some y) (h : ¬ x = y) => sameN_no (a := ⟨k, g, e, l⟩) (b := ⟨k, g, e2, l2⟩) (fun q => h (by
      have e' : l = l2 := congrArg Nt.l q
      rw [e', hy] at hx
      exact (Option.some.inj hx).symm)))
    obtain ⟨R, hR⟩ : ∃ R, sameN ⟨k, g, e, l⟩ ⟨k, g, e2, l2⟩ = R := ⟨_, rfl⟩
    rw [hR] at HY1 HNo HNN HQ1 ⊢
    clear hN hN2 hR
    have HEq := Lib.hid (fun (h : sameE e e2 = true) => sameE_eq h)
    have HEn := Lib.hid (fun (h : sameE e e2 = false) (q : e = e2) => (absurd (h.symm.trans (sameE_yes q)) (by simp) : False))
    obtain ⟨Z, hZ⟩ : ∃ Z, sameE e e2 = Z := ⟨_, rfl⟩
    rw [hZ] at HE HEq HEn
    clear hZ
    obtain ⟨PE, hPE⟩ : ∃ p : Prop, (e = e2) = p := ⟨_, rfl⟩
    rw [hPE] at HY1 HQ1 HEq HEn
    clear hPE
    obtain ⟨eo, et, en, em, ell⟩ := e
    obtain ⟨eo2, et2, en2, em2, ell2⟩ := e2
    simp only at HE ⊢
    obtain ⟨W0, hW0⟩ : ∃ W0, W0 = (w.alloc (.cells #[.int .i64 k, .int .i64 g, .int .i64 eo, .int .i64 et, .int .i64 en, .int .i64 em, .slice ea el ec, .slice sa N sc] 54)).alloc (.cells #[.int .i64 k, .int .i64 g, .int .i64 eo2, .int .i64 et2, .int .i64 en2, .int .i64 em2, .slice ea2 el2 ec2, .slice sa2 N2 sc2] 54) := ⟨_, rfl⟩
    have O0 := Lib.hid (show W0.heap[w.heap.size]? = some (.cells #[.int .i64 k, .int .i64 g, .int .i64 eo, .int .i64 et, .int .i64 en, .int .i64 em, .slice ea el ec, .slice sa N sc] 54) by rw [hW0, get_past (by simp)]; exact get_last rfl)
    have P0 := Lib.hid (show W0.heap[w.heap.size + 1]? = some (.cells #[.int .i64 k, .int .i64 g, .int .i64 eo2, .int .i64 et2, .int .i64 en2, .int .i64 em2, .slice ea2 el2 ec2, .slice sa2 N2 sc2] 54) by rw [hW0]; exact get_last (by simp))
    have B0 := Lib.hid (show Below w.heap.size w W0 by rw [hW0]; exact by (repeat' (first | (with_reducible exact Below.refl _ _) | (with_reducible assumption) | (with_reducible refine below_drewN ?_ _) | (with_reducible refine Below.alloc ?_ ?_ _) | (with_reducible refine Below.drew ?_) | (with_reducible refine Below.setCell ?_ ?_ _) | go_size)))
    have HW0 := Lib.hid hW0
    clear hW0
    cases Z
    case false =>
      have hno := Lib.hid (HQ1.out (HEn.out rfl))
      go_enter Tryd.func26, Tryd.ntmps26
      go_wp2_with fail
      refine (HE.out _ (by (repeat' (first | (with_reducible exact Below.refl _ _) | (with_reducible assumption) | (with_reducible refine below_drewN ?_ _) | (with_reducible refine Below.alloc ?_ ?_ _) | (with_reducible refine Below.drew ?_) | (with_reducible refine Below.setCell ?_ ?_ _) | go_size)))).mono ?_; rintro r w1 ⟨rfl, hb⟩
      rw [← HW0.out] at hb
      have O1 := Lib.hid (obj_below O0.out hb (heap_lt O0.out))
      have P1 := Lib.hid (obj_below P0.out hb (heap_lt P0.out))
      have B1 := Lib.hid (B0.out.trans (hb.mono B0.out.size))
      clear hb
      obtain ⟨a0, a1, a2, a3, a4, a5, a6, a7⟩ := boxed_nt8 O1.out
      have za := heap_lt O1.out
      obtain ⟨b0, b1, b2, b3, b4, b5, b6, b7⟩ := boxed_nt8 P1.out
      have zb := heap_lt P1.out
      go_wp2_with fail
      go_ret
      exact ⟨by rw [hno.out]; rfl, B1.out⟩
    have HPE := Lib.hid (HEq.out rfl)
    go_enter Tryd.func26, Tryd.ntmps26
    go_wp2_with fail
    refine (HE.out _ (by (repeat' (first | (with_reducible exact Below.refl _ _) | (with_reducible assumption) | (with_reducible refine below_drewN ?_ _) | (with_reducible refine Below.alloc ?_ ?_ _) | (with_reducible refine Below.drew ?_) | (with_reducible refine Below.setCell ?_ ?_ _) | go_size)))).mono ?_; rintro r w1 ⟨rfl, hb⟩
    rw [← HW0.out] at hb
    have O1 := Lib.hid (obj_below O0.out hb (heap_lt O0.out))
    have P1 := Lib.hid (obj_below P0.out hb (heap_lt P0.out))
    have B1 := Lib.hid (B0.out.trans (hb.mono B0.out.size))
    clear hb
    obtain ⟨a0, a1, a2, a3, a4, a5, a6, a7⟩ := boxed_nt8 O1.out
    have za := heap_lt O1.out
    obtain ⟨b0, b1, b2, b3, b4, b5, b6, b7⟩ := boxed_nt8 P1.out
    have zb := heap_lt P1.out
    by_cases h4 : N = N2
    case neg =>
      have q4 : ((N : Int) != (N2 : Int)) = true := by rw [bne_iff_ne]; omega
      have hno := Lib.hid (HNN.out h4)
      clear h4
      go_wp2_with fail
      go_ret
      exact ⟨by rw [hno.out]; rfl, B1.out⟩
    subst h4
    have q4 : ((N : Int) != (N : Int)) = false := by simp
    clear a0 a1 a2 a3 a4 a5 a6 a7 za b0 b1 b2 b3 b4 b5 b6 b7 zb
    have HY2 := Lib.hid (HY1.out HPE.out (by first | trivial | rfl))
    clear HE HEq HEn HQ1 HNN HY1 HPE
    obtain ⟨a0, a1, a2, a3, a4, a5, a6, a7⟩ := boxed_nt8 O1.out
    have za := heap_lt O1.out
    obtain ⟨b0, b1, b2, b3, b4, b5, b6, b7⟩ := boxed_nt8 P1.out
    have zb := heap_lt P1.out
    go_wp2_with fail
    clear a0 a1 a2 a3 a4 a5 a6 a7 za b0 b1 b2 b3 b4 b5 b6 b7 zb
    go_loopw [5] (fun jj wr => ∃ j : Nat, j ≤ N ∧ jj = .int .i64 j ∧ Hid (∀ (i : Nat) (x y : Nt), i < j → l[i]? = some x → l2[i]? = some y → x = y) ∧ Hid (Below w1.heap.size w1 wr)) (fun jj _ => N - (intOf jj).toNat)
    case atStart => exact ⟨0, by omega, rfl, Lib.hid (fun i x y h => by omega), Lib.hid (Below.refl _ _)⟩
    case round =>
      obtain ⟨j, hk, rfl, hall, hB⟩ := hrel
      have hBw := B1.out.trans (hB.out.mono B1.out.size)
      obtain ⟨_, _, _, _, _, _, _, a7⟩ := boxed_nt8 (obj_below O1.out hB.out (heap_lt O1.out))
      have za := Nat.lt_of_lt_of_le (heap_lt O1.out) hB.out.size
      obtain ⟨_, _, _, _, _, _, _, b7⟩ := boxed_nt8 (obj_below P1.out hB.out (heap_lt P1.out))
      have zb := Nat.lt_of_lt_of_le (heap_lt P1.out) hB.out.size
      by_cases hlt : j < N
      · have qk : ((j : Int) < (N : Int)) = True := eq_true (by omega)
        have qk' : (j < N) = True := eq_true hlt
        obtain ⟨x, hx⟩ := get_some (L := l) (n := j) (by rw [HN.out]; exact hlt)
        obtain ⟨y, hy⟩ := get_some (L := l2) (n := j) (by rw [HN2.out]; exact hlt)
        obtain ⟨b, off, s1, sn1, sc1, u1, un1, uc1, rfl, hbw, hc1, hc2, d0, d1, d2, d3, d4, d5, d6, d7, hxv⟩ := nt_at HX.out hx
        obtain ⟨c, off2, s3, sn3, sc3, u3, un3, uc3, rfl, hbw2, hc3, hc4, y0, y1, y2, y3, y4, y5, y6, y7, hyv⟩ := nt_at HY.out hy
        have hmem := List.mem_of_getElem? hx
        have d0 := (hBw.cell (p := ⟨b, off + j * 8, none⟩) hbw).trans d0
        have d1 := (hBw.cell (p := ⟨b, off + j * 8 + 1, none⟩) hbw).trans d1
        have d2 := (hBw.cell (p := ⟨b, off + j * 8 + 2, none⟩) hbw).trans d2
        have d3 := (hBw.cell (p := ⟨b, off + j * 8 + 3, none⟩) hbw).trans d3
        have d4 := (hBw.cell (p := ⟨b, off + j * 8 + 4, none⟩) hbw).trans d4
        have d5 := (hBw.cell (p := ⟨b, off + j * 8 + 5, none⟩) hbw).trans d5
        have d6 := (hBw.cell (p := ⟨b, off + j * 8 + 6, none⟩) hbw).trans d6
        have d7 := (hBw.cell (p := ⟨b, off + j * 8 + 7, none⟩) hbw).trans d7
        have y0 := (hBw.cell (p := ⟨c, off2 + j * 8, none⟩) hbw2).trans y0
        have y1 := (hBw.cell (p := ⟨c, off2 + j * 8 + 1, none⟩) hbw2).trans y1
        have y2 := (hBw.cell (p := ⟨c, off2 + j * 8 + 2, none⟩) hbw2).trans y2
        have y3 := (hBw.cell (p := ⟨c, off2 + j * 8 + 3, none⟩) hbw2).trans y3
        have y4 := (hBw.cell (p := ⟨c, off2 + j * 8 + 4, none⟩) hbw2).trans y4
        have y5 := (hBw.cell (p := ⟨c, off2 + j * 8 + 5, none⟩) hbw2).trans y5
        have y6 := (hBw.cell (p := ⟨c, off2 + j * 8 + 6, none⟩) hbw2).trans y6
        have y7 := (hBw.cell (p := ⟨c, off2 + j * 8 + 7, none⟩) hbw2).trans y7
        have zx : b < wr.heap.size := Nat.lt_of_lt_of_le hbw hBw.size
        have zy : c < wr.heap.size := Nat.lt_of_lt_of_le hbw2 hBw.size
        have hxw := hxv.below hBw
        have hyw := hyv.below hBw
        have hk63 : j ≤ 9223372036854775806 := by omega
        have HLT := Lib.hid hlt
        have HBr := Lib.hid hB.out
        have HBW := Lib.hid hBw
        have hsz := hB.out.size
        obtain ⟨BB, hBq⟩ : ∃ B, sameN x y = B := ⟨_, rfl⟩
        have HBq := Lib.hid hBq
        have HXY := Lib.hid (And.intro hx hy)
        have HC := Lib.hid (fun W (h : Below wr.heap.size wr W) => HIH.out x hmem y W _ _ (hxw.below h) (hyw.below h))
        have HBX := Lib.hid (show Below wr.heap.size wr wr from Below.refl _ _)
        rw [hBq] at HC
        clear hxv hyv hxw hyw hmem hx hy hlt hBq hBw
        generalize x.kind = x0 at *
        generalize x.neg = x1 at *
        generalize x.e.op = x2 at *
        generalize x.e.t = x3 at *
        generalize x.e.n = x4 at *
        generalize x.e.m = x5 at *
        generalize y.kind = v0 at *
        generalize y.neg = v1 at *
        generalize y.e.op = v2 at *
        generalize y.e.t = v3 at *
        generalize y.e.n = v4 at *
        generalize y.e.m = v5 at *
        go_upto_region 6 with fail
        have qq0 := fun wt (h : Below wr.heap.size wr wt) => cellB h a7 za
        have qq1 := fun wt (h : Below wr.heap.size wr wt) => cellB h d0 zx
        have qq2 := fun wt (h : Below wr.heap.size wr wt) => cellB h d1 zx
        have qq3 := fun wt (h : Below wr.heap.size wr wt) => cellB h d2 zx
        have qq4 := fun wt (h : Below wr.heap.size wr wt) => cellB h d3 zx
        have qq5 := fun wt (h : Below wr.heap.size wr wt) => cellB h d4 zx
        have qq6 := fun wt (h : Below wr.heap.size wr wt) => cellB h d5 zx
        have qq7 := fun wt (h : Below wr.heap.size wr wt) => cellB h d6 zx
        have qq8 := fun wt (h : Below wr.heap.size wr wt) => cellB h d7 zx
        have qq9 := fun wt (h : Below wr.heap.size wr wt) => cellB h b7 zb
        have qq10 := fun wt (h : Below wr.heap.size wr wt) => cellB h y0 zy
        have qq11 := fun wt (h : Below wr.heap.size wr wt) => cellB h y1 zy
        have qq12 := fun wt (h : Below wr.heap.size wr wt) => cellB h y2 zy
        have qq13 := fun wt (h : Below wr.heap.size wr wt) => cellB h y3 zy
        have qq14 := fun wt (h : Below wr.heap.size wr wt) => cellB h y4 zy
        have qq15 := fun wt (h : Below wr.heap.size wr wt) => cellB h y5 zy
        have qq16 := fun wt (h : Below wr.heap.size wr wt) => cellB h y6 zy
        have qq17 := fun wt (h : Below wr.heap.size wr wt) => cellB h y7 zy
        refine wp_region_held_drew (S := (fun w' => Below wr.heap.size wr w')) (by kernel_rfl) ?_ (fun hHeld => ?_)
        · (try dsimp only); first | assumption | exact Below.alloc hHeld hHeld.size _ | exact (Below.refl _ _).drew | exact Below.drew (Below.refl _ _) | exact Below_drewN _ _ _ | exact Below.refl _ _
        refine tk 0 (v := ?_) (hy := ?_) (h := ?_); rotate_left
        · intro _ _; go_simp <;> with_reducible rfl
        try simp only [pu, pa, pz, ps]
        refine tk 1 (v := ?_) (hy := ?_) (h := ?_); rotate_left
        · intro wt hSw; (try dsimp only at hSw); go_simp <;> with_reducible rfl
        try simp only [pu, pa, pz, ps]
        refine tk 2 (v := ?_) (hy := ?_) (h := ?_); rotate_left
        · intro _ _; go_simp <;> with_reducible rfl
        try simp only [pu, pa, pz, ps]
        refine tk 3 (v := ?_) (hy := ?_) (h := ?_); rotate_left
        · intro _ _; go_simp <;> with_reducible rfl
        try simp only [pu, pa, pz, ps]
        refine tk 4 (v := ?_) (hy := ?_) (h := ?_); rotate_left
        · intro wt hSw; (try dsimp only at hSw); go_simp <;> with_reducible rfl
        try simp only [pu, pa, pz, ps]
        refine tk 5 (v := ?_) (hy := ?_) (h := ?_); rotate_left
        · intro _ _; go_simp <;> with_reducible rfl
        try simp only [pu, pa, pz, ps]
        refine tk 6 (v := ?_) (hy := ?_) (h := ?_); rotate_left
        · intro wt hSw; (try dsimp only at hSw); go_simp <;> with_reducible rfl
        try simp only [pu, pa, pz, ps]
        refine tk 7 (v := ?_) (hy := ?_) (h := ?_); rotate_left
        · intro _ _; go_simp <;> with_reducible rfl
        try simp only [pu, pa, pz, ps]
        refine tk 8 (v := ?_) (hy := ?_) (h := ?_); rotate_left
        · intro _ _; go_simp <;> with_reducible rfl
        try simp only [pu, pa, pz, ps]
        refine tk 9 (v := ?_) (hy := ?_) (h := ?_); rotate_left
        · intro wt hSw; (try dsimp only at hSw); go_simp <;> with_reducible rfl
        try simp only [pu, pa, pz, ps]
        refine wpAnyH_ready (rs := [10]) (by kernel_rfl) (by simp) ?_
        refine AllReadyH.cons (o := ⟨_, _, _, _, _, _⟩) rfl (fun K hK => ?_) AllReadyH.nil
        go_simp
        refine (HC.out _ hHeld).mono ?_; rintro r w2 ⟨rfl, hb⟩; have hHeld := hHeld.trans (hb.mono hHeld.size)
        go_wp2_with fail
        refine hK.out _ _ ?_ (fun hHeld => ?_)
        · (try dsimp only); first | assumption | exact Below.alloc hHeld hHeld.size _ | exact (Below.refl _ _).drew | exact Below.drew (Below.refl _ _) | exact Below_drewN _ _ _ | exact Below.refl _ _
        clear hK K
        try simp only [pu, pa, pz, ps]
        refine tk 11 (v := ?_) (hy := ?_) (h := ?_); rotate_left
        · intro _ _; go_simp <;> with_reducible rfl
        try simp only [pu, pa, pz, ps]
        refine wpAnyH_done (by kernel_rfl) ?_ _
        have HH := Lib.hid (HBr.out.trans ((HBX.out.trans (hHeld.mono HBX.out.size)).mono hsz))
        have HHw := Lib.hid (HBW.out.trans ((HBX.out.trans (hHeld.mono HBX.out.size)).mono HBW.out.size))
        clear hHeld
        cases BB
        · have hno := Lib.hid (HNo.out j x y HXY.out.1 HXY.out.2 (fun e => by have := HBq.out; rw [sameN_yes e] at this; cases this))
          go_wp2_with fail
          go_ret
          exact ⟨by rw [hno.out]; rfl, HHw.out⟩
        · have hs := Lib.hid (show ∀ (i : Nat) (x y : Nt), i < j + 1 → l[i]? = some x → l2[i]? = some y → x = y from fun i x' y' hi hx' hy' => by
            rcases (show i < j ∨ i = j by omega) with h | rfl
            · exact hall.out i x' y' h hx' hy'
            · rw [HXY.out.1] at hx'; rw [HXY.out.2] at hy'
              rw [← Option.some.inj hx', ← Option.some.inj hy']
              exact sameN_eq HBq.out)
          go_wp2_with fail
          go_roundw
          case rel => exact ⟨j + 1, by have := HLT.out; omega, by simp, hs, HH⟩
          case measure => have := HLT.out; first | (simp [intOf]; done) | (simp [intOf]; omega)
      · obtain rfl : j = N := by omega
        have qk : ((j : Int) < (j : Int)) = False := eq_false (by omega)
        have qk' : (j < j) = False := eq_false (by omega)
        have hyes := Lib.hid (HY2.out (fun i x y hx hy => hall.out i x y (by rw [← HN.out]; exact lt_of_get hx) hx hy))
        have HBW := Lib.hid hBw
        clear hBw
        go_wp2_with fail
        go_ret
        exact ⟨by rw [hyes.out]; rfl, HBW.out⟩
end Go.Proofs.YtknbomikiakpmaaDoor
/- Layer 44: how many networks there may be. -/
namespace Go.Proofs.YtknbomikiakpmaaDoor
open Go.RowKit
set_option linter.unusedSimpArgs false
set_option linter.unusedVariables false
set_option maxRecDepth 100000 in
set_option maxHeartbeats 4000000 in
theorem ref44_room : ∀ n, ∀ (M D : Int), M ≤ 100000 → D ≤ 100000 → -100000 ≤ M → -100000 ≤ D → ∀ w v, NtV w v n → Calls Tryd.prog 51 #[v, .int .i64 M, .int .i64 D] w fun r w' => r = .returned (.int .i64 (roomN n M D)) ∧ Below w.heap.size w w' := by
  intro n
  induction n using Nt.ind with
  | h k g e l ih =>
    intro M D hM hD hM0 hD0 w v hv
    have HIH := Lib.hid (fun x (hx : x ∈ l) M D h1 h2 h3 h4 W u (hu : NtV W u x) => ih x hx M D h1 h2 h3 h4 W u hu)
    have HZ := Lib.hid (show roomN ⟨k, g, e, l⟩ M D = if M < 1 ∨ D < 1 ∨ decide (0 ≤ roomE e ((30 : Nat) : Int) 40) = false then -1 else roomL (l.map roomN) (M - 1) (D - 1) by rw [roomN_mk]; simp only [decide_eq_false_iff_not]; rfl)
    obtain ⟨ea, el, ec, sa, N, sc, rfl, hN, hi1, he1, hrow1⟩ := nt_form hv
    replace hN : l.length = N := hN.symm
    have HF := Lib.hid (fun W (hb : Below w.heap.size w W) => ref26_Few e 30 (by omega) W _ (he1.below hb))
    simp only at hrow1 HZ HF ⊢
    have hlen := hrow1.len
    have HX := Lib.hid hrow1
    have HN := Lib.hid hN
    generalize decide (0 ≤ roomE e ((30 : Nat) : Int) 40) = Z at *
    obtain ⟨eo, et, en, em, ell⟩ := e
    simp only at HF ⊢
    generalize roomN ⟨k, g, ⟨eo, et, en, em, ell⟩, l⟩ M D = R at *
    clear ih hv hrow1 hi1 he1 hN
    obtain ⟨W0, hW0⟩ : ∃ W0, W0 = w.alloc (.cells #[.int .i64 k, .int .i64 g, .int .i64 eo, .int .i64 et, .int .i64 en, .int .i64 em, .slice ea el ec, .slice sa N sc] 54) := ⟨_, rfl⟩
    have O0 := Lib.hid (show W0.heap[w.heap.size]? = some (.cells #[.int .i64 k, .int .i64 g, .int .i64 eo, .int .i64 et, .int .i64 en, .int .i64 em, .slice ea el ec, .slice sa N sc] 54) by rw [hW0]; exact get_last rfl)
    have B0 := Lib.hid (show Below w.heap.size w W0 by rw [hW0]; exact by (repeat' (first | (with_reducible exact Below.refl _ _) | (with_reducible assumption) | (with_reducible refine below_drewN ?_ _) | (with_reducible refine Below.alloc ?_ ?_ _) | (with_reducible refine Below.drew ?_) | (with_reducible refine Below.setCell ?_ ?_ _) | go_size)))
    have HW0 := Lib.hid hW0
    clear hW0
    by_cases h1 : M < 1
    · rw [if_pos (Or.inl h1)] at HZ
      have p1 : (M < 1) = True := eq_true h1
      clear h1
      go_enter Tryd.func51, Tryd.ntmps51
      go_wp2_with fail
      go_ret
      exact ⟨by rw [HZ.out]; rfl, by (repeat' (first | (with_reducible exact Below.refl _ _) | (with_reducible assumption) | (with_reducible refine below_drewN ?_ _) | (with_reducible refine Below.alloc ?_ ?_ _) | (with_reducible refine Below.drew ?_) | (with_reducible refine Below.setCell ?_ ?_ _) | go_size))⟩
    have p1 : (M < 1) = False := eq_false h1
    by_cases h2 : D < 1
    · rw [if_pos (Or.inr (Or.inl h2))] at HZ
      have p2 : (D < 1) = True := eq_true h2
      clear h1 h2
      go_enter Tryd.func51, Tryd.ntmps51
      go_wp2_with fail
      go_ret
      exact ⟨by rw [HZ.out]; rfl, by (repeat' (first | (with_reducible exact Below.refl _ _) | (with_reducible assumption) | (with_reducible refine below_drewN ?_ _) | (with_reducible refine Below.alloc ?_ ?_ _) | (with_reducible refine Below.drew ?_) | (with_reducible refine Below.setCell ?_ ?_ _) | go_size))⟩
    have p2 : (D < 1) = False := eq_false h2
    cases Z
    case false =>
      rw [if_pos (Or.inr (Or.inr rfl))] at HZ
      clear h1 h2
      go_enter Tryd.func51, Tryd.ntmps51
      go_wp2_with fail
      refine (HF.out _ (by (repeat' (first | (with_reducible exact Below.refl _ _) | (with_reducible assumption) | (with_reducible refine below_drewN ?_ _) | (with_reducible refine Below.alloc ?_ ?_ _) | (with_reducible refine Below.drew ?_) | (with_reducible refine Below.setCell ?_ ?_ _) | go_size)))).mono ?_; rintro r w1 ⟨rfl, hb⟩
      rw [← HW0.out] at hb
      have HB1 := Lib.hid (B0.out.trans (hb.mono B0.out.size))
      clear hb
      go_wp2_with fail
      go_ret
      exact ⟨by rw [HZ.out]; rfl, HB1.out⟩
    rw [if_neg (by simp; omega)] at HZ
    have HM := Lib.hid (show 0 ≤ M - 1 ∧ M - 1 ≤ 100000 by omega)
    go_enter Tryd.func51, Tryd.ntmps51
    go_wp2_with fail
    refine (HF.out _ (by (repeat' (first | (with_reducible exact Below.refl _ _) | (with_reducible assumption) | (with_reducible refine below_drewN ?_ _) | (with_reducible refine Below.alloc ?_ ?_ _) | (with_reducible refine Below.drew ?_) | (with_reducible refine Below.setCell ?_ ?_ _) | go_size)))).mono ?_; rintro r w1 ⟨rfl, hb⟩
    rw [← HW0.out] at hb
    have O1 := Lib.hid (obj_below O0.out hb (heap_lt O0.out))
    have B1 := Lib.hid (B0.out.trans (hb.mono B0.out.size))
    clear hb
    go_wp2_with fail
    go_loopw [1, 7] (fun o jj wr => ∃ (j : Nat) (c : Int), j ≤ N ∧ jj = .int .i64 j ∧ o = .int .i64 c ∧ 0 ≤ c ∧ c ≤ 100000 ∧ Hid (R = roomL ((l.map roomN).drop j) c (D - 1)) ∧ Hid (Below w1.heap.size w1 wr)) (fun _ jj _ => N - (intOf jj).toNat)
    case atStart => exact ⟨0, M - 1, by omega, rfl, rfl, HM.out.1, HM.out.2, Lib.hid HZ.out, Lib.hid (Below.refl _ _)⟩
    case round =>
      obtain ⟨j, c, hk, rfl, rfl, hc0, hc9, hRL, hB⟩ := hrel
      clear HZ HM p1 h1
      have hBw := B1.out.trans (hB.out.mono B1.out.size)
      obtain ⟨_, _, _, _, _, _, _, a7⟩ := boxed_nt8 (obj_below O1.out hB.out (heap_lt O1.out))
      have za := Nat.lt_of_lt_of_le (heap_lt O1.out) hB.out.size
      by_cases hlt : j < N
      · have qk : ((j : Int) < (N : Int)) = True := eq_true (by omega)
        have qk' : (j < N) = True := eq_true hlt
        obtain ⟨x, hx⟩ := get_some (L := l) (n := j) (by rw [HN.out]; exact hlt)
        obtain ⟨b, off, p1, pn1, pc1, u1, un1, uc1, rfl, hbw, hc1, hc2, d0, d1, d2, d3, d4, d5, d6, d7, hxv⟩ := nt_at HX.out hx
        have hmem := List.mem_of_getElem? hx
        have d0 := (hBw.cell (p := ⟨b, off + j * 8, none⟩) hbw).trans d0
        have d1 := (hBw.cell (p := ⟨b, off + j * 8 + 1, none⟩) hbw).trans d1
        have d2 := (hBw.cell (p := ⟨b, off + j * 8 + 2, none⟩) hbw).trans d2
        have d3 := (hBw.cell (p := ⟨b, off + j * 8 + 3, none⟩) hbw).trans d3
        have d4 := (hBw.cell (p := ⟨b, off + j * 8 + 4, none⟩) hbw).trans d4
        have d5 := (hBw.cell (p := ⟨b, off + j * 8 + 5, none⟩) hbw).trans d5
        have d6 := (hBw.cell (p := ⟨b, off + j * 8 + 6, none⟩) hbw).trans d6
        have d7 := (hBw.cell (p := ⟨b, off + j * 8 + 7, none⟩) hbw).trans d7
        have zx : b < wr.heap.size := Nat.lt_of_lt_of_le hbw hBw.size
        have HC := Lib.hid (HIH.out x hmem c (D - 1) hc9 (by omega) (by omega) (by omega) wr _ (hxv.below hBw))
        have HLT := Lib.hid hlt
        have HBr := Lib.hid hB.out
        have HBW := Lib.hid hBw
        have hk63 : j ≤ 9223372036854775806 := by omega
        have hdr : (l.map roomN).drop j = roomN x :: (l.map roomN).drop (j + 1) := by
          have hkl : j < (l.map roomN).length := by rw [List.length_map, HN.out]; exact hlt
          rw [List.drop_eq_getElem_cons hkl]
          congr 1
          rw [List.getElem_map]
          congr 1
          have := hx
          rw [List.getElem?_eq_getElem (by rw [HN.out]; exact hlt)] at this
          exact Option.some.inj this
        rw [hdr] at hRL
        have hRL := Lib.hid (show R = if roomN x c (D - 1) < 0 then -1 else roomL ((l.map roomN).drop (j + 1)) (roomN x c (D - 1)) (D - 1) from hRL.out)
        have hok := roomN_ok x c (D - 1)
        have hsp := sizeN_pos x
        obtain ⟨z, hz⟩ : ∃ z, roomN x c (D - 1) = z := ⟨_, rfl⟩
        rw [hz] at HC hRL hok
        have hz9 : z ≤ 100000 := by omega
        clear hz hx hmem hxv hlt hBw hdr
        generalize x.kind = x0 at *
        generalize x.neg = x1 at *
        generalize x.e.op = x2 at *
        generalize x.e.t = x3 at *
        generalize x.e.n = x4 at *
        generalize x.e.m = x5 at *
        by_cases hn : z < 0
        · have q1 : (z < 0) = True := eq_true hn
          rw [if_pos hn] at hRL
          clear hok hn
          go_wp2_with fail
          refine HC.out.mono ?_; rintro r w2 ⟨rfl, hb2⟩
          have HB2 := Lib.hid (HBW.out.trans (hb2.mono HBW.out.size))
          clear hb2
          go_wp2_with fail
          go_ret
          exact ⟨by rw [hRL.out]; rfl, HB2.out⟩
        · have q1 : (z < 0) = False := eq_false hn
          rw [if_neg hn] at hRL
          have HZ0 := Lib.hid (show 0 ≤ z by omega)
          clear hok hn
          go_wp2_with fail
          refine HC.out.mono ?_; rintro r w2 ⟨rfl, hb2⟩
          have HB2 := Lib.hid (HBr.out.trans (hb2.mono HBr.out.size))
          clear hb2
          go_wp2_with fail
          go_roundw
          case rel => exact ⟨j + 1, z, by have := HLT.out; omega, by simp, rfl, HZ0.out, hz9, hRL, HB2⟩
          case measure => have := HLT.out; first | (simp [intOf]; done) | (simp [intOf]; omega)
      · obtain rfl : j = N := by omega
        have qk : ((j : Int) < (j : Int)) = False := eq_false (by omega)
        have qk' : (j < j) = False := eq_false (by omega)
        have hR := Lib.hid (show R = c by
          rw [hRL.out, List.drop_of_length_le (by rw [List.length_map, HN.out]; exact Nat.le_refl _)]; rfl)
        have HBW := Lib.hid hBw
        clear hBw
        go_wp2_with fail
        go_ret
        exact ⟨by rw [hR.out]; rfl, HBW.out⟩
set_option maxHeartbeats 1000000 in
theorem ref44_Few (n : Nt) (w : World) (v : Value) (hv : NtV w v n) : Calls Tryd.prog 19 #[v, .int .i64 100] w fun r w' => r = .returned (.bool (decide (0 ≤ roomN n 100 30))) ∧ Below w.heap.size w w' := by
  have HR := Lib.hid (fun W u (hu : NtV W u n) => ref44_room n 100 30 (by omega) (by omega) (by omega) (by omega) W u hu)
  have HV := Lib.hid (fun W (h : Below w.heap.size w W) => hv.below h)
  obtain ⟨ea, el, ec, sa, N, sc, rfl, hN, hi1, he1, hrow1⟩ := nt_form hv
  generalize n.kind = k at *
  generalize n.neg = g at *
  generalize n.e.op = eo at *
  generalize n.e.t = et at *
  generalize n.e.n = en at *
  generalize n.e.m = em at *
  obtain ⟨z, hz⟩ : ∃ z, roomN n 100 30 = z := ⟨_, rfl⟩
  rw [hz] at HR ⊢
  clear hz hv hN hi1 he1 hrow1
  obtain ⟨W0, hW0⟩ : ∃ W0, W0 = w.alloc (.cells #[.int .i64 k, .int .i64 g, .int .i64 eo, .int .i64 et, .int .i64 en, .int .i64 em, .slice ea el ec, .slice sa N sc] 54) := ⟨_, rfl⟩
  have B0 := Lib.hid (show Below w.heap.size w W0 by rw [hW0]; exact by (repeat' (first | (with_reducible exact Below.refl _ _) | (with_reducible assumption) | (with_reducible refine below_drewN ?_ _) | (with_reducible refine Below.alloc ?_ ?_ _) | (with_reducible refine Below.drew ?_) | (with_reducible refine Below.setCell ?_ ?_ _) | go_size)))
  have HW0 := Lib.hid hW0
  clear hW0
  by_cases h : 0 ≤ z
  · have q : (0 ≤ z) = True := eq_true h
    clear h
    go_enter Tryd.func19, Tryd.ntmps19
    go_wp2_with fail
    rw [← HW0.out]
    refine (HR.out _ _ (HV.out _ B0.out)).mono ?_; rintro r w2 ⟨rfl, hb⟩
    have HB := Lib.hid (B0.out.trans (hb.mono B0.out.size))
    clear hb
    go_wp2_with fail
    go_ret
    exact ⟨by simp [q], HB.out⟩
  · have q : (0 ≤ z) = False := eq_false h
    clear h
    go_enter Tryd.func19, Tryd.ntmps19
    go_wp2_with fail
    rw [← HW0.out]
    refine (HR.out _ _ (HV.out _ B0.out)).mono ?_; rintro r w2 ⟨rfl, hb⟩
    have HB := Lib.hid (B0.out.trans (hb.mono B0.out.size))
    clear hb
    go_wp2_with fail
    go_ret
    exact ⟨by simp [q], HB.out⟩
end Go.Proofs.YtknbomikiakpmaaDoor

/- How many contacts a network has, by both. -/
namespace Go.Proofs.YtknbomikiakpmaaDoor
open Go.RowKit
set_option linter.unusedSimpArgs false
set_option linter.unusedVariables false
noncomputable def cntN : Nt → Int := foldN fun n l => if n.kind = 1 then 1 else l.sum
theorem cntN_mk (n : Nt) : cntN n = if n.kind = 1 then 1 else (n.l.map cntN).sum := foldN_eq _ n
theorem cntN_le (n : Nt) : 0 ≤ cntN n ∧ cntN n ≤ sizeN n := by
  induction n using Nt.ind with
  | h k g e l ih =>
    have h : 0 ≤ (l.map cntN).sum ∧ (l.map cntN).sum ≤ ((l.map sizeN).sum : Nat) := by
      clear e
      induction l with
      | nil => simp
      | cons x l il =>
        have h1 := ih x (by simp)
        have h2 := il fun y hy => ih y (by simp [hy])
        rw [List.map_cons, List.map_cons, List.sum_cons, List.sum_cons]
        omega
    rw [cntN_mk, sizeN_mk]
    simp only
    split <;> omega
theorem cntN_sum {l : List Nt} (h : ∀ x ∈ l, sizeN x ≤ 100) (j : Nat) : 0 ≤ ((l.take j).map cntN).sum ∧ ((l.take j).map cntN).sum ≤ 100 * j := by
  induction j generalizing l with
  | zero => simp
  | succ j ih =>
    cases l with
    | nil => simp; omega
    | cons x l =>
      have h1 := cntN_le x
      have h3 := h x (by simp)
      have h2 := ih (l := l) fun y hy => h y (by simp [hy])
      rw [List.take_succ_cons, List.map_cons, List.sum_cons]
      omega
set_option maxRecDepth 100000 in
set_option maxHeartbeats 4000000 in
theorem net_Contacts : ∀ a, SmallN a → ∀ w v, NtV w v a → Calls Tryd.prog 23 #[v] w fun r w' => r = .returned (.int .i64 (cntN a)) ∧ Below w.heap.size w w' := by
  intro a
  induction a using Nt.ind with
  | h k g e l ih =>
    intro hsm w v hv
    have hlen := hsm.len
    have HSz := Lib.hid (fun x (hx : x ∈ l) => (hsm.within hx).1)
    have HIH := Lib.hid (fun x (hx : x ∈ l) W v (hv : NtV W v x) => ih x hx (hsm.within hx) W v hv)
    have HZ := Lib.hid (cntN_mk ⟨k, g, e, l⟩)
    obtain ⟨ea, el, ec, sa, N, sc, rfl, hN, hi1, he1, hrow1⟩ := nt_form hv
    replace hN : l.length = N := hN.symm
    simp only at hrow1 hlen HZ ⊢
    rw [hN] at hlen
    have HX := Lib.hid hrow1
    have HN := Lib.hid hN
    obtain ⟨eo, et, en, em, ell⟩ := e
    simp only
    generalize cntN ⟨k, g, ⟨eo, et, en, em, ell⟩, l⟩ = Z at *
    clear ih hv hrow1 hi1 he1 hsm hN
    obtain ⟨W0, hW0⟩ : ∃ W0, W0 = w.alloc (.cells #[.int .i64 k, .int .i64 g, .int .i64 eo, .int .i64 et, .int .i64 en, .int .i64 em, .slice ea el ec, .slice sa N sc] 54) := ⟨_, rfl⟩
    have O0 := Lib.hid (show W0.heap[w.heap.size]? = some (.cells #[.int .i64 k, .int .i64 g, .int .i64 eo, .int .i64 et, .int .i64 en, .int .i64 em, .slice ea el ec, .slice sa N sc] 54) by rw [hW0]; exact get_last rfl)
    have B0 := Lib.hid (show Below w.heap.size w W0 by rw [hW0]; exact by (repeat' (first | (with_reducible exact Below.refl _ _) | (with_reducible assumption) | (with_reducible refine below_drewN ?_ _) | (with_reducible refine Below.alloc ?_ ?_ _) | (with_reducible refine Below.drew ?_) | (with_reducible refine Below.setCell ?_ ?_ _) | go_size)))
    have HW0 := Lib.hid hW0
    clear hW0
    by_cases h1 : k = 1
    · rw [if_pos h1] at HZ
      subst h1
      go_enter Tryd.func23, Tryd.ntmps23
      go_wp2_with fail
      go_ret
      exact ⟨by rw [HZ.out]; rfl, by (repeat' (first | (with_reducible exact Below.refl _ _) | (with_reducible assumption) | (with_reducible refine below_drewN ?_ _) | (with_reducible refine Below.alloc ?_ ?_ _) | (with_reducible refine Below.drew ?_) | (with_reducible refine Below.setCell ?_ ?_ _) | go_size))⟩
    rw [if_neg h1] at HZ
    have q1 : (k == 1) = false := beq_eq_false_iff_ne.2 h1
    have q1' : (k != 1) = true := by simpa using h1
    clear h1
    obtain ⟨a0, a1, a2, a3, a4, a5, a6, a7⟩ := boxed_nt8 O0.out
    have za := heap_lt O0.out
    go_enter Tryd.func23, Tryd.ntmps23
    go_wp2_with fail
    rw [← HW0.out]
    clear a0 a1 a2 a3 a4 a5 a6 a7 za
    go_loopw [3, 12] (fun o jj wr => ∃ (j : Nat), j ≤ N ∧ jj = .int .i64 j ∧ o = .int .i64 ((l.take j).map cntN).sum ∧ Hid (Below W0.heap.size W0 wr)) (fun _ jj _ => N - (intOf jj).toNat)
    case atStart => exact ⟨0, by omega, rfl, rfl, Lib.hid (Below.refl _ _)⟩
    case round =>
      obtain ⟨j, hk, rfl, rfl, hB⟩ := hrel
      have hBw := B0.out.trans (hB.out.mono B0.out.size)
      obtain ⟨a0, a1, a2, a3, a4, a5, a6, a7⟩ := boxed_nt8 (obj_below O0.out hB.out (heap_lt O0.out))
      have za := Nat.lt_of_lt_of_le (heap_lt O0.out) hB.out.size
      obtain ⟨s1, s2⟩ := cntN_sum HSz.out j
      by_cases hlt : j < N
      · have qk : ((j : Int) < (N : Int)) = True := eq_true (by omega)
        have qk' : (j < N) = True := eq_true hlt
        obtain ⟨x, hx⟩ := get_some (L := l) (n := j) (by rw [HN.out]; exact hlt)
        obtain ⟨b, off, p1, pn1, pc1, u1, un1, uc1, rfl, hbw, hc1, hc2, d0, d1, d2, d3, d4, d5, d6, d7, hxv⟩ := nt_at HX.out hx
        have hmem := List.mem_of_getElem? hx
        have d0 := (hBw.cell (p := ⟨b, off + j * 8, none⟩) hbw).trans d0
        have d1 := (hBw.cell (p := ⟨b, off + j * 8 + 1, none⟩) hbw).trans d1
        have d2 := (hBw.cell (p := ⟨b, off + j * 8 + 2, none⟩) hbw).trans d2
        have d3 := (hBw.cell (p := ⟨b, off + j * 8 + 3, none⟩) hbw).trans d3
        have d4 := (hBw.cell (p := ⟨b, off + j * 8 + 4, none⟩) hbw).trans d4
        have d5 := (hBw.cell (p := ⟨b, off + j * 8 + 5, none⟩) hbw).trans d5
        have d6 := (hBw.cell (p := ⟨b, off + j * 8 + 6, none⟩) hbw).trans d6
        have d7 := (hBw.cell (p := ⟨b, off + j * 8 + 7, none⟩) hbw).trans d7
        have zx : b < wr.heap.size := Nat.lt_of_lt_of_le hbw hBw.size
        have hk63 : j ≤ 9223372036854775806 := by omega
        have HLT := Lib.hid hlt
        have HBr := Lib.hid hB.out
        have hx0 := cntN_le x
        have hx1 := HSz.out x hmem
        have hxb : 0 ≤ cntN x ∧ cntN x ≤ 100 := by omega
        obtain ⟨hx2, hx3⟩ := hxb
        have HSum := Lib.hid (show ((l.take (j + 1)).map cntN).sum = ((l.take j).map cntN).sum + cntN x by rw [List.take_add_one, hx]; simp)
        have HC := Lib.hid (fun W (h : Below wr.heap.size wr W) => HIH.out x hmem W _ ((hxv.below hBw).below h))
        generalize cntN x = cx at *
        generalize ((l.take j).map cntN).sum = sj at *
        have hs3 : sj ≤ 10000 := by omega
        clear hxv hmem hx hlt hBw hx0 hx1
        generalize x.kind = x0 at *
        generalize x.neg = x1 at *
        generalize x.e.op = x2 at *
        generalize x.e.t = x3 at *
        generalize x.e.n = x4 at *
        generalize x.e.m = x5 at *
        go_wp2_with fail
        refine (HC.out _ (by (repeat' (first | (with_reducible exact Below.refl _ _) | (with_reducible assumption) | (with_reducible refine below_drewN ?_ _) | (with_reducible refine Below.alloc ?_ ?_ _) | (with_reducible refine Below.drew ?_) | (with_reducible refine Below.setCell ?_ ?_ _) | go_size)))).mono ?_; rintro r w2 ⟨rfl, hb⟩
        have HB2 := Lib.hid (HBr.out.trans ((show Below wr.heap.size wr w2 from Below.trans (by (repeat' (first | (with_reducible exact Below.refl _ _) | (with_reducible assumption) | (with_reducible refine below_drewN ?_ _) | (with_reducible refine Below.alloc ?_ ?_ _) | (with_reducible refine Below.drew ?_) | (with_reducible refine Below.setCell ?_ ?_ _) | go_size))) (hb.mono (by simp))).mono HBr.out.size))
        clear hb a0 a1 a2 a3 a4 a5 a6 a7 za d0 d1 d2 d3 d4 d5 d6 d7 zx
        go_wp2_with fail
        go_roundw
        case rel => exact ⟨j + 1, by have := HLT.out; omega, by simp, by rw [HSum.out], HB2⟩
        case measure => have := HLT.out; first | (simp [intOf]; done) | (simp [intOf]; omega)
      · obtain rfl : j = N := by omega
        have qk : ((j : Int) < (j : Int)) = False := eq_false (by omega)
        have qk' : (j < j) = False := eq_false (by omega)
        have hful : l.take j = l := List.take_of_length_le (by rw [HN.out]; exact Nat.le_refl _)
        rw [hful]
        have HBW := Lib.hid hBw
        clear hBw
        go_wp2_with fail
        go_ret
        exact ⟨by rw [HZ.out]; rfl, HBW.out⟩
set_option maxRecDepth 100000 in
set_option maxHeartbeats 4000000 in
theorem ref44_Contacts : ∀ a, SmallN a → ∀ w v, NtV w v a → Calls Tryd.prog 24 #[v] w fun r w' => r = .returned (.int .i64 (cntN a)) ∧ Below w.heap.size w w' := by
  intro a
  induction a using Nt.ind with
  | h k g e l ih =>
    intro hsm w v hv
    have hlen := hsm.len
    have HSz := Lib.hid (fun x (hx : x ∈ l) => (hsm.within hx).1)
    have HIH := Lib.hid (fun x (hx : x ∈ l) W v (hv : NtV W v x) => ih x hx (hsm.within hx) W v hv)
    have HZ := Lib.hid (cntN_mk ⟨k, g, e, l⟩)
    obtain ⟨ea, el, ec, sa, N, sc, rfl, hN, hi1, he1, hrow1⟩ := nt_form hv
    replace hN : l.length = N := hN.symm
    simp only at hrow1 hlen HZ ⊢
    rw [hN] at hlen
    have HX := Lib.hid hrow1
    have HN := Lib.hid hN
    obtain ⟨eo, et, en, em, ell⟩ := e
    simp only
    generalize cntN ⟨k, g, ⟨eo, et, en, em, ell⟩, l⟩ = Z at *
    clear ih hv hrow1 hi1 he1 hsm hN
    obtain ⟨W0, hW0⟩ : ∃ W0, W0 = w.alloc (.cells #[.int .i64 k, .int .i64 g, .int .i64 eo, .int .i64 et, .int .i64 en, .int .i64 em, .slice ea el ec, .slice sa N sc] 54) := ⟨_, rfl⟩
    have O0 := Lib.hid (show W0.heap[w.heap.size]? = some (.cells #[.int .i64 k, .int .i64 g, .int .i64 eo, .int .i64 et, .int .i64 en, .int .i64 em, .slice ea el ec, .slice sa N sc] 54) by rw [hW0]; exact get_last rfl)
    have B0 := Lib.hid (show Below w.heap.size w W0 by rw [hW0]; exact by (repeat' (first | (with_reducible exact Below.refl _ _) | (with_reducible assumption) | (with_reducible refine below_drewN ?_ _) | (with_reducible refine Below.alloc ?_ ?_ _) | (with_reducible refine Below.drew ?_) | (with_reducible refine Below.setCell ?_ ?_ _) | go_size)))
    have HW0 := Lib.hid hW0
    clear hW0
    by_cases h1 : k = 1
    · rw [if_pos h1] at HZ
      subst h1
      go_enter Tryd.func24, Tryd.ntmps24
      go_wp2_with fail
      rw [← HW0.out]
      go_loopw [3, 4] (fun o jj wr => jj = .int .i64 0 ∧ o = .int .i64 1 ∧ wr = W0) (fun _ _ _ => 0)
      case atStart => exact ⟨rfl, rfl, rfl⟩
      case round =>
        obtain ⟨rfl, rfl, rfl⟩ := hrel
        obtain ⟨a0, a1, a2, a3, a4, a5, a6, a7⟩ := boxed_nt8 O0.out
        have za := heap_lt O0.out
        by_cases hlt : 0 < N
        · have qk : ((0 : Int) < (N : Int)) = True := eq_true (by omega)
          have qk' : (0 < N) = True := eq_true hlt
          clear hlt
          go_wp2_with fail
          go_ret
          exact ⟨by rw [HZ.out]; rfl, B0.out⟩
        · have qk : ((0 : Int) < (N : Int)) = False := eq_false (by omega)
          have qk' : (0 < N) = False := eq_false hlt
          clear hlt
          go_wp2_with fail
          go_ret
          exact ⟨by rw [HZ.out]; rfl, B0.out⟩
    rw [if_neg h1] at HZ
    have q1 : (k == 1) = false := beq_eq_false_iff_ne.2 h1
    have q1' : (k != 1) = true := by simpa using h1
    clear h1
    obtain ⟨a0, a1, a2, a3, a4, a5, a6, a7⟩ := boxed_nt8 O0.out
    have za := heap_lt O0.out
    go_enter Tryd.func24, Tryd.ntmps24
    go_wp2_with fail
    rw [← HW0.out]
    clear a0 a1 a2 a3 a4 a5 a6 a7 za
    go_loopw [3, 4] (fun o jj wr => ∃ (j : Nat), j ≤ N ∧ jj = .int .i64 j ∧ o = .int .i64 ((l.take j).map cntN).sum ∧ Hid (Below W0.heap.size W0 wr)) (fun _ jj _ => N - (intOf jj).toNat)
    case atStart => exact ⟨0, by omega, rfl, rfl, Lib.hid (Below.refl _ _)⟩
    case round =>
      obtain ⟨j, hk, rfl, rfl, hB⟩ := hrel
      have hBw := B0.out.trans (hB.out.mono B0.out.size)
      obtain ⟨a0, a1, a2, a3, a4, a5, a6, a7⟩ := boxed_nt8 (obj_below O0.out hB.out (heap_lt O0.out))
      have za := Nat.lt_of_lt_of_le (heap_lt O0.out) hB.out.size
      obtain ⟨s1, s2⟩ := cntN_sum HSz.out j
      by_cases hlt : j < N
      · have qk : ((j : Int) < (N : Int)) = True := eq_true (by omega)
        have qk' : (j < N) = True := eq_true hlt
        obtain ⟨x, hx⟩ := get_some (L := l) (n := j) (by rw [HN.out]; exact hlt)
        obtain ⟨b, off, p1, pn1, pc1, u1, un1, uc1, rfl, hbw, hc1, hc2, d0, d1, d2, d3, d4, d5, d6, d7, hxv⟩ := nt_at HX.out hx
        have hmem := List.mem_of_getElem? hx
        have d0 := (hBw.cell (p := ⟨b, off + j * 8, none⟩) hbw).trans d0
        have d1 := (hBw.cell (p := ⟨b, off + j * 8 + 1, none⟩) hbw).trans d1
        have d2 := (hBw.cell (p := ⟨b, off + j * 8 + 2, none⟩) hbw).trans d2
        have d3 := (hBw.cell (p := ⟨b, off + j * 8 + 3, none⟩) hbw).trans d3
        have d4 := (hBw.cell (p := ⟨b, off + j * 8 + 4, none⟩) hbw).trans d4
        have d5 := (hBw.cell (p := ⟨b, off + j * 8 + 5, none⟩) hbw).trans d5
        have d6 := (hBw.cell (p := ⟨b, off + j * 8 + 6, none⟩) hbw).trans d6
        have d7 := (hBw.cell (p := ⟨b, off + j * 8 + 7, none⟩) hbw).trans d7
        have zx : b < wr.heap.size := Nat.lt_of_lt_of_le hbw hBw.size
        have hk63 : j ≤ 9223372036854775806 := by omega
        have HLT := Lib.hid hlt
        have HBr := Lib.hid hB.out
        have hx0 := cntN_le x
        have hx1 := HSz.out x hmem
        have hxb : 0 ≤ cntN x ∧ cntN x ≤ 100 := by omega
        obtain ⟨hx2, hx3⟩ := hxb
        have HSum := Lib.hid (show ((l.take (j + 1)).map cntN).sum = ((l.take j).map cntN).sum + cntN x by rw [List.take_add_one, hx]; simp)
        have HC := Lib.hid (fun W (h : Below wr.heap.size wr W) => HIH.out x hmem W _ ((hxv.below hBw).below h))
        generalize cntN x = cx at *
        generalize ((l.take j).map cntN).sum = sj at *
        have hs3 : sj ≤ 10000 := by omega
        clear hxv hmem hx hlt hBw hx0 hx1
        generalize x.kind = x0 at *
        generalize x.neg = x1 at *
        generalize x.e.op = x2 at *
        generalize x.e.t = x3 at *
        generalize x.e.n = x4 at *
        generalize x.e.m = x5 at *
        go_wp2_with fail
        refine (HC.out _ (Below.refl _ _)).mono ?_; rintro r w2 ⟨rfl, hb⟩
        have HB2 := Lib.hid (HBr.out.trans (hb.mono HBr.out.size))
        clear hb a0 a1 a2 a3 a4 a5 a6 a7 za d0 d1 d2 d3 d4 d5 d6 d7 zx
        go_wp2_with fail
        go_roundw
        case rel => exact ⟨j + 1, by have := HLT.out; omega, by simp, by rw [HSum.out], HB2⟩
        case measure => have := HLT.out; first | (simp [intOf]; done) | (simp [intOf]; omega)
      · obtain rfl : j = N := by omega
        have qk : ((j : Int) < (j : Int)) = False := eq_false (by omega)
        have qk' : (j < j) = False := eq_false (by omega)
        have hful : l.take j = l := List.take_of_length_le (by rw [HN.out]; exact Nat.le_refl _)
        rw [hful]
        have HBW := Lib.hid hBw
        clear hBw
        go_wp2_with fail
        go_ret
        exact ⟨by rw [HZ.out]; rfl, HBW.out⟩
end Go.Proofs.YtknbomikiakpmaaDoor

/- Layer 43: the answer's Leaf and Many. -/
namespace Go.Proofs.YtknbomikiakpmaaDoor
open Go.RowKit
open NN
set_option linter.unusedSimpArgs false
set_option linter.unusedVariables false
set_option maxRecDepth 100000 in
set_option maxHeartbeats 4000000 in
theorem ref43_Leaf (a b c d : Value) (s : Sc) (e : Ex) (w : World) (v : Value) (hs : ScAt w a b d s) (hc : ∃ p q k, c = .slice p q k) (hv : ExV w v e) :
    Calls Tryd.prog 11 #[.agg #[a, b, c, d], v] w fun r w' => r = .returned (.bool (leafR s e)) ∧ Below w.heap.size w w' := by
  have HT := Lib.hid (fun W (hb : Below w.heap.size w W) => ref26_Type e a b c d s v W (hs.below hb) hc (hv.below hb))
  have HD := Lib.hid (show leafR s e = ((e.op == 1 || e.op == 2 || e.op == 3 || e.op == 5) && typeE s e == 1) from rfl)
  generalize leafR s e = Z at *
  generalize typeE s e = ty at *
  obtain ⟨op, t, n, m, l⟩ := e
  obtain ⟨sl, rfl, hr, hrow⟩ := hv
  simp only at hrow HD ⊢
  obtain ⟨sa, sc, rfl⟩ := row_get hrow
  generalize l.length = N at *
  clear hs hc hrow hr
  by_cases o1 : op = 1
  · subst o1
    by_cases h1 : ty = 1
    · have HZ := Lib.hid (show Z = true by rw [HD.out, h1]; rfl)
      subst h1
      go_enter Tryd.func11, Tryd.ntmps11
      go_wp2_with fail
      refine (HT.out _ (by (repeat' (first | (with_reducible exact Below.refl _ _) | (with_reducible assumption) | (with_reducible refine below_drewN ?_ _) | (with_reducible refine Below.alloc ?_ ?_ _) | (with_reducible refine Below.drew ?_) | (with_reducible refine Below.setCell ?_ ?_ _) | go_size)))).mono ?_; rintro e w1 ⟨rfl, hb1⟩
      go_wp2_with fail
      go_ret
      exact ⟨by rw [HZ.out]; rfl, Below.trans (by (repeat' (first | (with_reducible exact Below.refl _ _) | (with_reducible assumption) | (with_reducible refine below_drewN ?_ _) | (with_reducible refine Below.alloc ?_ ?_ _) | (with_reducible refine Below.drew ?_) | (with_reducible refine Below.setCell ?_ ?_ _) | go_size))) (hb1.mono (by simp; omega))⟩
    · have HZ := Lib.hid (show Z = false by rw [HD.out]; simp [h1])
      have q1 : (ty == 1) = false := beq_eq_false_iff_ne.2 h1
      clear h1
      go_enter Tryd.func11, Tryd.ntmps11
      go_wp2_with fail
      refine (HT.out _ (by (repeat' (first | (with_reducible exact Below.refl _ _) | (with_reducible assumption) | (with_reducible refine below_drewN ?_ _) | (with_reducible refine Below.alloc ?_ ?_ _) | (with_reducible refine Below.drew ?_) | (with_reducible refine Below.setCell ?_ ?_ _) | go_size)))).mono ?_; rintro e w1 ⟨rfl, hb1⟩
      go_wp2_with fail
      go_ret
      exact ⟨by rw [HZ.out]; rfl, Below.trans (by (repeat' (first | (with_reducible exact Below.refl _ _) | (with_reducible assumption) | (with_reducible refine below_drewN ?_ _) | (with_reducible refine Below.alloc ?_ ?_ _) | (with_reducible refine Below.drew ?_) | (with_reducible refine Below.setCell ?_ ?_ _) | go_size))) (hb1.mono (by simp; omega))⟩
  have p1 : (op == 1) = false := beq_eq_false_iff_ne.2 o1
  by_cases o2 : op = 2
  · subst o2
    by_cases h1 : ty = 1
    · have HZ := Lib.hid (show Z = true by rw [HD.out, h1]; rfl)
      subst h1
      go_enter Tryd.func11, Tryd.ntmps11
      go_wp2_with fail
      refine (HT.out _ (by (repeat' (first | (with_reducible exact Below.refl _ _) | (with_reducible assumption) | (with_reducible refine below_drewN ?_ _) | (with_reducible refine Below.alloc ?_ ?_ _) | (with_reducible refine Below.drew ?_) | (with_reducible refine Below.setCell ?_ ?_ _) | go_size)))).mono ?_; rintro e w1 ⟨rfl, hb1⟩
      go_wp2_with fail
      go_ret
      exact ⟨by rw [HZ.out]; rfl, Below.trans (by (repeat' (first | (with_reducible exact Below.refl _ _) | (with_reducible assumption) | (with_reducible refine below_drewN ?_ _) | (with_reducible refine Below.alloc ?_ ?_ _) | (with_reducible refine Below.drew ?_) | (with_reducible refine Below.setCell ?_ ?_ _) | go_size))) (hb1.mono (by simp; omega))⟩
    · have HZ := Lib.hid (show Z = false by rw [HD.out]; simp [h1])
      have q1 : (ty == 1) = false := beq_eq_false_iff_ne.2 h1
      clear h1
      go_enter Tryd.func11, Tryd.ntmps11
      go_wp2_with fail
      refine (HT.out _ (by (repeat' (first | (with_reducible exact Below.refl _ _) | (with_reducible assumption) | (with_reducible refine below_drewN ?_ _) | (with_reducible refine Below.alloc ?_ ?_ _) | (with_reducible refine Below.drew ?_) | (with_reducible refine Below.setCell ?_ ?_ _) | go_size)))).mono ?_; rintro e w1 ⟨rfl, hb1⟩
      go_wp2_with fail
      go_ret
      exact ⟨by rw [HZ.out]; rfl, Below.trans (by (repeat' (first | (with_reducible exact Below.refl _ _) | (with_reducible assumption) | (with_reducible refine below_drewN ?_ _) | (with_reducible refine Below.alloc ?_ ?_ _) | (with_reducible refine Below.drew ?_) | (with_reducible refine Below.setCell ?_ ?_ _) | go_size))) (hb1.mono (by simp; omega))⟩
  have p2 : (op == 2) = false := beq_eq_false_iff_ne.2 o2
  by_cases o3 : op = 3
  · subst o3
    by_cases h1 : ty = 1
    · have HZ := Lib.hid (show Z = true by rw [HD.out, h1]; rfl)
      subst h1
      go_enter Tryd.func11, Tryd.ntmps11
      go_wp2_with fail
      refine (HT.out _ (by (repeat' (first | (with_reducible exact Below.refl _ _) | (with_reducible assumption) | (with_reducible refine below_drewN ?_ _) | (with_reducible refine Below.alloc ?_ ?_ _) | (with_reducible refine Below.drew ?_) | (with_reducible refine Below.setCell ?_ ?_ _) | go_size)))).mono ?_; rintro e w1 ⟨rfl, hb1⟩
      go_wp2_with fail
      go_ret
      exact ⟨by rw [HZ.out]; rfl, Below.trans (by (repeat' (first | (with_reducible exact Below.refl _ _) | (with_reducible assumption) | (with_reducible refine below_drewN ?_ _) | (with_reducible refine Below.alloc ?_ ?_ _) | (with_reducible refine Below.drew ?_) | (with_reducible refine Below.setCell ?_ ?_ _) | go_size))) (hb1.mono (by simp; omega))⟩
    · have HZ := Lib.hid (show Z = false by rw [HD.out]; simp [h1])
      have q1 : (ty == 1) = false := beq_eq_false_iff_ne.2 h1
      clear h1
      go_enter Tryd.func11, Tryd.ntmps11
      go_wp2_with fail
      refine (HT.out _ (by (repeat' (first | (with_reducible exact Below.refl _ _) | (with_reducible assumption) | (with_reducible refine below_drewN ?_ _) | (with_reducible refine Below.alloc ?_ ?_ _) | (with_reducible refine Below.drew ?_) | (with_reducible refine Below.setCell ?_ ?_ _) | go_size)))).mono ?_; rintro e w1 ⟨rfl, hb1⟩
      go_wp2_with fail
      go_ret
      exact ⟨by rw [HZ.out]; rfl, Below.trans (by (repeat' (first | (with_reducible exact Below.refl _ _) | (with_reducible assumption) | (with_reducible refine below_drewN ?_ _) | (with_reducible refine Below.alloc ?_ ?_ _) | (with_reducible refine Below.drew ?_) | (with_reducible refine Below.setCell ?_ ?_ _) | go_size))) (hb1.mono (by simp; omega))⟩
  have p3 : (op == 3) = false := beq_eq_false_iff_ne.2 o3
  by_cases o5 : op = 5
  · subst o5
    by_cases h1 : ty = 1
    · have HZ := Lib.hid (show Z = true by rw [HD.out, h1]; rfl)
      subst h1
      go_enter Tryd.func11, Tryd.ntmps11
      go_wp2_with fail
      refine (HT.out _ (by (repeat' (first | (with_reducible exact Below.refl _ _) | (with_reducible assumption) | (with_reducible refine below_drewN ?_ _) | (with_reducible refine Below.alloc ?_ ?_ _) | (with_reducible refine Below.drew ?_) | (with_reducible refine Below.setCell ?_ ?_ _) | go_size)))).mono ?_; rintro e w1 ⟨rfl, hb1⟩
      go_wp2_with fail
      go_ret
      exact ⟨by rw [HZ.out]; rfl, Below.trans (by (repeat' (first | (with_reducible exact Below.refl _ _) | (with_reducible assumption) | (with_reducible refine below_drewN ?_ _) | (with_reducible refine Below.alloc ?_ ?_ _) | (with_reducible refine Below.drew ?_) | (with_reducible refine Below.setCell ?_ ?_ _) | go_size))) (hb1.mono (by simp; omega))⟩
    · have HZ := Lib.hid (show Z = false by rw [HD.out]; simp [h1])
      have q1 : (ty == 1) = false := beq_eq_false_iff_ne.2 h1
      clear h1
      go_enter Tryd.func11, Tryd.ntmps11
      go_wp2_with fail
      refine (HT.out _ (by (repeat' (first | (with_reducible exact Below.refl _ _) | (with_reducible assumption) | (with_reducible refine below_drewN ?_ _) | (with_reducible refine Below.alloc ?_ ?_ _) | (with_reducible refine Below.drew ?_) | (with_reducible refine Below.setCell ?_ ?_ _) | go_size)))).mono ?_; rintro e w1 ⟨rfl, hb1⟩
      go_wp2_with fail
      go_ret
      exact ⟨by rw [HZ.out]; rfl, Below.trans (by (repeat' (first | (with_reducible exact Below.refl _ _) | (with_reducible assumption) | (with_reducible refine below_drewN ?_ _) | (with_reducible refine Below.alloc ?_ ?_ _) | (with_reducible refine Below.drew ?_) | (with_reducible refine Below.setCell ?_ ?_ _) | go_size))) (hb1.mono (by simp; omega))⟩
  have p5 : (op == 5) = false := beq_eq_false_iff_ne.2 o5
  have HZ := Lib.hid (show Z = false by rw [HD.out, p1, p2, p3, p5]; rfl)
  clear o1 o2 o3 o5
  go_enter Tryd.func11, Tryd.ntmps11
  go_wp2_with fail
  go_ret
  exact ⟨by rw [HZ.out]; rfl, by (repeat' (first | (with_reducible exact Below.refl _ _) | (with_reducible assumption) | (with_reducible refine below_drewN ?_ _) | (with_reducible refine Below.alloc ?_ ?_ _) | (with_reducible refine Below.drew ?_) | (with_reducible refine Below.setCell ?_ ?_ _) | go_size))⟩
theorem many_le (e : Ex) : 1 ≤ manyE e ∧ manyE e ≤ 1000 := by
  induction e using Ex.ind with
  | h op t n m l ih =>
    have hs : 0 ≤ (l.map manyE).sum ∧ (l ≠ [] → 1 ≤ (l.map manyE).sum) := by
      clear op t n m
      induction l with
      | nil => simp
      | cons x l il =>
        have h1 := ih x (by simp)
        have h2 := (il fun y hy => ih y (by simp [hy])).1
        rw [List.map_cons, List.sum_cons]
        exact ⟨by omega, fun _ => by omega⟩
    rw [manyE_mk]
    unfold manyF
    cases l with
    | nil => simp only [List.length_nil, if_true]; split <;> split <;> omega
    | cons x l =>
      have h1 := hs.2 (by simp)
      have h2 : ¬ (x :: l).length = 0 := by simp
      simp only [if_neg h2]
      split <;> split <;> omega
theorem many_sum {l : List Ex} (k : Nat) : 0 ≤ ((l.take k).map manyE).sum ∧ ((l.take k).map manyE).sum ≤ 1000 * k := by
  induction k generalizing l with
  | zero => simp
  | succ k ih =>
    cases l with
    | nil => simp; omega
    | cons x l =>
      have h1 := many_le x
      have h2 := ih (l := l)
      rw [List.take_succ_cons, List.map_cons, List.sum_cons]
      omega
set_option maxRecDepth 100000 in
set_option maxHeartbeats 4000000 in
theorem ref43_Many (e : Ex) : ∀ (w : World) (v : Value), SmallE 300 e → ExV w v e →
    Calls Tryd.prog 44 #[v] w fun r w' => r = .returned (.int .i64 (manyE e)) ∧ Below w.heap.size w w' := by
  induction e using Ex.ind with
  | h op t n m l ih =>
    intro w v he hv
    have hl3 := SmallE.len he
    simp only at hl3
    have HIH := Lib.hid (fun x (hx : x ∈ l) W u (hu : ExV W u x) => ih x hx W u (he.within x hx) hu)
    have HD := Lib.hid (manyE_mk ⟨op, t, n, m, l⟩)
    generalize manyE ⟨op, t, n, m, l⟩ = Z at *
    obtain ⟨sl, rfl, hr, hrow⟩ := hv
    simp only at hrow HD
    obtain ⟨sa, sc, rfl⟩ := row_get hrow
    have HRow := Lib.hid hrow
    obtain ⟨N, hN⟩ : ∃ N, l.length = N := ⟨_, rfl⟩
    have HN := Lib.hid hN
    rw [hN] at HRow HD hl3 ⊢
    obtain ⟨W0, hW0⟩ : ∃ W0, W0 = w.alloc (.cells #[.int .i64 op, .int .i64 t, .int .i64 n, .int .i64 m, .slice sa N sc] 37) := ⟨_, rfl⟩
    have hb0 : Below w.heap.size w W0 := by rw [hW0]; exact (Below.refl _ _).alloc (Nat.le_refl _) _
    have hbx : W0.heap[w.heap.size]? = some (.cells #[.int .i64 op, .int .i64 t, .int .i64 n, .int .i64 m, .slice sa N sc] 37 (0, 0)) := by rw [hW0]; exact get_last rfl
    have e0 : W0.cell? ⟨w.heap.size, 0, none⟩ = some (.int .i64 op) := obj_cell hbx rfl
    have e3 : W0.cell? ⟨w.heap.size, 3, none⟩ = some (.int .i64 m) := obj_cell hbx rfl
    have e4 : W0.cell? ⟨w.heap.size, 4, none⟩ = some (.slice sa N sc) := obj_cell hbx rfl
    have zb : w.heap.size < W0.heap.size := heap_lt hbx
    have HE := Lib.hid (And.intro e0 (And.intro e3 e4))
    have HW0 := Lib.hid hW0
    have HB0 := Lib.hid hb0
    have mixed : Tryd.prog.follows .mixedOrders = true := by kernel_rfl
    clear hW0 hb0 hbx e0 e3 e4 hr hrow ih he hN
    go_enter Tryd.func44, Tryd.ntmps44
    go_wp2_with fail
    rw [← HW0.out]
    go_loopw [3, 4] (fun nn jj wr => ∃ k : Nat, k ≤ N ∧ jj = .int .i64 k ∧ nn = .int .i64 ((l.take k).map manyE).sum ∧ Hid (Below W0.heap.size W0 wr)) (fun _ jj _ => N - (intOf jj).toNat)
    case atStart => exact ⟨0, Nat.zero_le _, rfl, rfl, Lib.hid (Below.refl _ _)⟩
    case round =>
      obtain ⟨k, hk, rfl, rfl, HB⟩ := hrel
      have e0 := (HB.out.cell (p := ⟨w.heap.size, 0, none⟩) zb).trans HE.out.1
      have e3 := (HB.out.cell (p := ⟨w.heap.size, 3, none⟩) zb).trans HE.out.2.1
      have e4 := (HB.out.cell (p := ⟨w.heap.size, 4, none⟩) zb).trans HE.out.2.2
      have zbr : w.heap.size < wr.heap.size := Nat.lt_of_lt_of_le zb HB.out.size
      have hBw := HB0.out.trans (HB.out.mono HB0.out.size)
      by_cases hlt : k < N
      · obtain ⟨x, hx⟩ := get_some (L := l) (n := k) (by have := HN.out; omega)
        obtain ⟨bx, ox, ss, sn, sc2, rfl, hbx, _, _, d0, d1, d2, d3, d4, dV⟩ := ex_at HRow.out hx
        have c0 := (hBw.cell (p := ⟨bx, ox + k * 5, none⟩) hbx).trans d0
        have c1 := (hBw.cell (p := ⟨bx, ox + k * 5 + 1, none⟩) hbx).trans d1
        have c2 := (hBw.cell (p := ⟨bx, ox + k * 5 + 2, none⟩) hbx).trans d2
        have c3 := (hBw.cell (p := ⟨bx, ox + k * 5 + 3, none⟩) hbx).trans d3
        have c4 := (hBw.cell (p := ⟨bx, ox + k * 5 + 4, none⟩) hbx).trans d4
        have yb : bx < wr.heap.size := Nat.lt_of_lt_of_le hbx hBw.size
        have HVx := Lib.hid (fun W (hb : Below wr.heap.size wr W) => (dV.below hBw).below hb)
        have HX := Lib.hid (HIH.out x (List.mem_of_getElem? hx))
        have HSum := Lib.hid (show ((l.take (k + 1)).map manyE).sum = ((l.take k).map manyE).sum + manyE x by rw [List.take_add_one, hx]; simp)
        obtain ⟨m1, m2⟩ := many_le x
        obtain ⟨s1, s2⟩ := many_sum (l := l) k
        have r1 : ((k : Int) < (N : Int)) = True := eq_true (by omega)
        have r1' : (k < N) = True := eq_true hlt
        clear d0 d1 d2 d3 d4 dV hBw hbx hx
        generalize ((l.take k).map manyE).sum = sk at *
        generalize manyE x = mx at *
        obtain ⟨xop, xt, xn, xm, xl⟩ := x
        simp only at c0 c1 c2 c3 HVx HX
        go_wp2_with fail
        refine (HX.out _ _ (HVx.out _ (Below.refl _ _))).mono ?_; rintro e v2 ⟨rfl, hb2⟩
        have HBn := Lib.hid (HB.out.trans (hb2.mono HB.out.size))
        clear hb2
        go_wp2_with fail
        go_roundw
        case rel => exact ⟨k + 1, by omega, by simp, by rw [HSum.out], HBn⟩
        case measure => first | (simp [intOf]; done) | (simp [intOf]; omega)
      · obtain rfl : k = N := by omega
        have r1 : ((k : Int) < (k : Int)) = False := eq_false (by omega)
        have hful : l.take k = l := List.take_of_length_le (by rw [HN.out]; exact Nat.le_refl _)
        obtain ⟨s1, s2⟩ := many_sum (l := l) k
        rw [hful] at s1 s2 ⊢
        have HBw := Lib.hid hBw
        have hpos : l ≠ [] → 1 ≤ (l.map manyE).sum := fun h => by
          cases l with
          | nil => exact absurd rfl h
          | cons x t =>
            have h1 := many_le x
            have h2 := (many_sum (l := t) t.length).1
            rw [List.take_length] at h2
            rw [List.map_cons, List.sum_cons]; omega
        generalize (l.map manyE).sum = sk at *
        clear hful hBw HRow HIH

        by_cases cN : k = 0
        · have hk1 : (if k = 0 then (1 : Int) else sk) = 1 := if_pos cN
          subst cN
          by_cases co : op = 7
          case neg =>
            have qo : (op == 7) = false := beq_eq_false_iff_ne.2 co
            have HM := Lib.hid (show Z = if (1000 : Int) < 1 then 1000 else 1 by
              rw [HD.out, hk1]; unfold manyF; simp [co])
            clear HD hk1
            have cb : ¬ (1000 : Int) < 1 := by decide
            · have HZ := Lib.hid (HM.out.trans (if_neg cb))
              have rb : ((1000 : Int) < 1) = False := eq_false cb
              clear cb HM
              go_wp2_with fail
              go_ret
              exact ⟨by rw [HZ.out]; rfl, HBw.out⟩
          subst co
          by_cases c14 : m = 14
          · subst c14
            have HM := Lib.hid (show Z = if (1000 : Int) < 1 then 1000 else 1 by
              rw [HD.out, hk1]; unfold manyF; simp [])
            clear HD hk1
            have cb : ¬ (1000 : Int) < 1 := by decide
            · have HZ := Lib.hid (HM.out.trans (if_neg cb))
              have rb : ((1000 : Int) < 1) = False := eq_false cb
              clear cb HM
              go_wp2_with fail
              go_ret
              exact ⟨by rw [HZ.out]; rfl, HBw.out⟩
          have q14 : (m != 14) = true := by simpa using c14
          by_cases c15 : m = 15
          · subst c15
            have HM := Lib.hid (show Z = if (1000 : Int) < 1 then 1000 else 1 by
              rw [HD.out, hk1]; unfold manyF; simp [])
            clear HD hk1
            have cb : ¬ (1000 : Int) < 1 := by decide
            · have HZ := Lib.hid (HM.out.trans (if_neg cb))
              have rb : ((1000 : Int) < 1) = False := eq_false cb
              clear cb HM
              go_wp2_with fail
              go_ret
              exact ⟨by rw [HZ.out]; rfl, HBw.out⟩
          have q15 : (m != 15) = true := by simpa using c15
          have HM := Lib.hid (show Z = if (1000 : Int) < 2 * 1 then 1000 else 2 * 1 by
            rw [HD.out, hk1]; unfold manyF; simp [c14, c15])
          clear HD hk1
          have cb : ¬ (1000 : Int) < 2 * 1 := by decide
          · have HZ := Lib.hid (HM.out.trans (if_neg cb))
            have rb : ((1000 : Int) < 2 * 1) = False := eq_false cb
            clear cb HM
            go_wp2_with fail
            go_ret
            exact ⟨by rw [HZ.out]; rfl, HBw.out⟩
        · have hk1 : (if k = 0 then (1 : Int) else sk) = sk := if_neg cN
          have qN : ((k : Int) == 0) = false := beq_eq_false_iff_ne.2 (by omega)
          have qN' : (k == 0) = false := beq_eq_false_iff_ne.2 cN
          have ksk : sk ≤ 300000 := by omega
          by_cases co : op = 7
          case neg =>
            have qo : (op == 7) = false := beq_eq_false_iff_ne.2 co
            have HM := Lib.hid (show Z = if (1000 : Int) < sk then 1000 else sk by
              rw [HD.out, hk1]; unfold manyF; simp [co])
            clear HD hk1
            by_cases cb : (1000 : Int) < sk
            · have HZ := Lib.hid (HM.out.trans (if_pos cb))
              have rb : ((1000 : Int) < sk) = True := eq_true cb
              clear cb HM
              go_wp2_with fail
              go_ret
              exact ⟨by rw [HZ.out]; rfl, HBw.out⟩
            · have HZ := Lib.hid (HM.out.trans (if_neg cb))
              have rb : ((1000 : Int) < sk) = False := eq_false cb
              clear cb HM
              go_wp2_with fail
              go_ret
              exact ⟨by rw [HZ.out]; rfl, HBw.out⟩
          subst co
          by_cases c14 : m = 14
          · subst c14
            have HM := Lib.hid (show Z = if (1000 : Int) < sk then 1000 else sk by
              rw [HD.out, hk1]; unfold manyF; simp [])
            clear HD hk1
            by_cases cb : (1000 : Int) < sk
            · have HZ := Lib.hid (HM.out.trans (if_pos cb))
              have rb : ((1000 : Int) < sk) = True := eq_true cb
              clear cb HM
              go_wp2_with fail
              go_ret
              exact ⟨by rw [HZ.out]; rfl, HBw.out⟩
            · have HZ := Lib.hid (HM.out.trans (if_neg cb))
              have rb : ((1000 : Int) < sk) = False := eq_false cb
              clear cb HM
              go_wp2_with fail
              go_ret
              exact ⟨by rw [HZ.out]; rfl, HBw.out⟩
          have q14 : (m != 14) = true := by simpa using c14
          by_cases c15 : m = 15
          · subst c15
            have HM := Lib.hid (show Z = if (1000 : Int) < sk then 1000 else sk by
              rw [HD.out, hk1]; unfold manyF; simp [])
            clear HD hk1
            by_cases cb : (1000 : Int) < sk
            · have HZ := Lib.hid (HM.out.trans (if_pos cb))
              have rb : ((1000 : Int) < sk) = True := eq_true cb
              clear cb HM
              go_wp2_with fail
              go_ret
              exact ⟨by rw [HZ.out]; rfl, HBw.out⟩
            · have HZ := Lib.hid (HM.out.trans (if_neg cb))
              have rb : ((1000 : Int) < sk) = False := eq_false cb
              clear cb HM
              go_wp2_with fail
              go_ret
              exact ⟨by rw [HZ.out]; rfl, HBw.out⟩
          have q15 : (m != 15) = true := by simpa using c15
          have HM := Lib.hid (show Z = if (1000 : Int) < 2 * sk then 1000 else 2 * sk by
            rw [HD.out, hk1]; unfold manyF; simp [c14, c15])
          clear HD hk1
          by_cases cb : (1000 : Int) < 2 * sk
          · have HZ := Lib.hid (HM.out.trans (if_pos cb))
            have rb : ((1000 : Int) < 2 * sk) = True := eq_true cb
            clear cb HM
            go_wp2_with fail
            go_ret
            exact ⟨by rw [HZ.out]; rfl, HBw.out⟩
          · have HZ := Lib.hid (HM.out.trans (if_neg cb))
            have rb : ((1000 : Int) < 2 * sk) = False := eq_false cb
            clear cb HM
            go_wp2_with fail
            go_ret
            exact ⟨by rw [HZ.out]; rfl, HBw.out⟩
end Go.Proofs.YtknbomikiakpmaaDoor

/- Whether something is a network, by both. -/
namespace Go.Proofs.YtknbomikiakpmaaDoor
open Go.RowKit
open NN
set_option linter.unusedSimpArgs false
set_option linter.unusedVariables false
noncomputable def rightF (s : Sc) : Nt → Int × Bool := foldN fun n l => (n.kind, if n.kind = 1 then (n.l.isEmpty && (leafB s n.e && (n.neg == 0 || (n.neg == 1 && n.e.op != 1)))) else if (n.kind ≠ 2 ∧ n.kind ≠ 3) ∨ n.neg ≠ 0 ∨ n.l.length < 2 ∨ sameE n.e ex0 = false then false else l.all fun p => p.1 != n.kind && p.2)
noncomputable def rightN (s : Sc) (n : Nt) : Bool := (rightF s n).2
theorem rightF_mk (s : Sc) (n : Nt) : rightF s n = (n.kind, if n.kind = 1 then (n.l.isEmpty && (leafB s n.e && (n.neg == 0 || (n.neg == 1 && n.e.op != 1)))) else if (n.kind ≠ 2 ∧ n.kind ≠ 3) ∨ n.neg ≠ 0 ∨ n.l.length < 2 ∨ sameE n.e ex0 = false then false else (n.l.map (rightF s)).all fun p => p.1 != n.kind && p.2) := foldN_eq _ n
theorem rightN_mk (s : Sc) (n : Nt) : rightN s n = if n.kind = 1 then (n.l.isEmpty && (leafB s n.e && (n.neg == 0 || (n.neg == 1 && n.e.op != 1)))) else if (n.kind ≠ 2 ∧ n.kind ≠ 3) ∨ n.neg ≠ 0 ∨ n.l.length < 2 ∨ sameE n.e ex0 = false then false else n.l.all fun x => x.kind != n.kind && rightN s x := by
  unfold rightN
  rw [rightF_mk]
  simp only [List.all_map]
  congr 2
  congr 1
  funext x
  show ((rightF s x).1 != n.kind && (rightF s x).2) = (x.kind != n.kind && (rightF s x).2)
  rw [rightF_mk s x]
set_option maxRecDepth 100000 in
set_option maxHeartbeats 8000000 in
theorem net_Right (a b c d : Value) (s : Sc) (n : Nt) : SmallN n → ∀ (w : World) (v : Value), ScAt w a b d s → NtV w v n → AGoes w → BTab w → 
    Calls Tryd.prog 21 #[.agg #[a, b, c, d], v] w fun r w' => r = .returned (.bool (rightN s n)) ∧ Below w.heap.size w w' := by
  induction n using Nt.ind with
  | h k g e l ih =>
    intro hsm w v hs hv hg hT
    have hlen := hsm.len
    have hex := hsm.ex
    have HIH := Lib.hid (fun x (hx : x ∈ l) W u (hb : Below w.heap.size w W) (hu : NtV W u x) => ih x hx (hsm.within hx) W u (hs.below hb) hu (hg.below hb) (hT.below hb))
    have HZ := Lib.hid (rightN_mk s ⟨k, g, e, l⟩)
    obtain ⟨ea, el, ec, sa, N, sc, rfl, hN, hi1, he1, hrow1⟩ := nt_form hv
    replace hN : l.length = N := hN.symm
    have HLf := Lib.hid (fun W (hb : Below w.heap.size w W) => nnf_Leaf a b c d s e hex W _ (hs.below hb) (he1.below hb) (hg.below hb) (hT.below hb))
    
    have HSm := Lib.hid (fun W q (hb : Below w.heap.size w W) (hq : ExV W q ex0) => expr_Same e ex0 W _ q (he1.below hb) hq)
    have hle : l.isEmpty = decide (N = 0) := by rw [← hN]; cases l <;> simp
    simp only at hrow1 hlen HZ HLf HSm ⊢
    rw [hN] at hlen
    rw [hle, hN] at HZ
    have HX := Lib.hid hrow1
    have HN := Lib.hid hN
    have HAl := Lib.hid (fun (h : ∀ x ∈ l, (x.kind != k && rightN s x) = true) => (show (l.all fun x => x.kind != k && rightN s x) = true from List.all_eq_true.2 h))
    have HOn := Lib.hid (fun x (hx : x ∈ l) (h : (x.kind != k && rightN s x) = false) => (show (l.all fun x => x.kind != k && rightN s x) = false from List.all_eq_false.2 ⟨x, hx, by rw [h]; simp⟩))
    generalize (l.all fun x => x.kind != k && rightN s x) = AL at *
    generalize leafB s e = Z at *
    generalize sameE e ex0 = SE at *
    obtain ⟨eo, et, en, em, ell⟩ := e
    simp only at HZ HLf HSm ⊢
    generalize rightN s ⟨k, g, ⟨eo, et, en, em, ell⟩, l⟩ = R at *
    have i64 : ∀ z : Int, 0 ≤ z ∧ z ≤ 100 → I64 z := fun z h => by unfold I64; omega
    have H0V := Lib.hid (fun W : World => (show ExV W (.agg #[.int .i64 0, .int .i64 0, .int .i64 0, .int .i64 0, .slice none 0 0]) ex0 from exV_lit ⟨i64 _ (by omega), i64 _ (by omega), i64 _ (by omega), i64 _ (by omega)⟩ row_none))
    have mixed : Tryd.prog.follows .mixedOrders = true := by kernel_rfl
    clear ih hv hrow1 hi1 he1 hsm hN hle hex hs i64 hg hT
    obtain ⟨W0, hW0⟩ : ∃ W0, W0 = (w.alloc (.cells #[a, b, c, d] 43)).alloc (.cells #[.int .i64 k, .int .i64 g, .int .i64 eo, .int .i64 et, .int .i64 en, .int .i64 em, .slice ea el ec, .slice sa N sc] 54) := ⟨_, rfl⟩
    have S0 := Lib.hid (show W0.heap[w.heap.size]? = some (.cells #[a, b, c, d] 43) by rw [hW0, get_past (by simp)]; exact get_last rfl)
    have O0 := Lib.hid (show W0.heap[w.heap.size + 1]? = some (.cells #[.int .i64 k, .int .i64 g, .int .i64 eo, .int .i64 et, .int .i64 en, .int .i64 em, .slice ea el ec, .slice sa N sc] 54) by rw [hW0]; exact get_last (by simp))
    have B0 := Lib.hid (show Below w.heap.size w W0 by rw [hW0]; exact by (repeat' (first | (with_reducible exact Below.refl _ _) | (with_reducible assumption) | (with_reducible refine below_drewN ?_ _) | (with_reducible refine Below.alloc ?_ ?_ _) | (with_reducible refine Below.drew ?_) | (with_reducible refine Below.setCell ?_ ?_ _) | go_size)))
    have HW0 := Lib.hid hW0
    clear hW0
    by_cases h1 : k = 1
    · subst h1
      by_cases hn : N = 0
      case neg =>
        have n0 : ((N : Int) == 0) = false := beq_eq_false_iff_ne.2 (by omega)
        have n0' : (N == 0) = false := beq_eq_false_iff_ne.2 hn
        have hnF := Lib.hid hn
        clear hn
        have hR := Lib.hid (show R = false by rw [HZ.out]; simp [hnF.out])
        clear HZ
        go_enter Tryd.func21, Tryd.ntmps21
        go_wp2_with fail
        go_ret
        exact ⟨by rw [hR.out]; rfl, by (repeat' (first | (with_reducible exact Below.refl _ _) | (with_reducible assumption) | (with_reducible refine below_drewN ?_ _) | (with_reducible refine Below.alloc ?_ ?_ _) | (with_reducible refine Below.drew ?_) | (with_reducible refine Below.setCell ?_ ?_ _) | go_size))⟩
      subst hn
      cases Z
      case false =>
        have hR := Lib.hid (show R = false by rw [HZ.out]; simp [])
        clear HZ
        go_enter Tryd.func21, Tryd.ntmps21
        go_wp2_with fail
        refine (HLf.out _ (by (repeat' (first | (with_reducible exact Below.refl _ _) | (with_reducible assumption) | (with_reducible refine below_drewN ?_ _) | (with_reducible refine Below.alloc ?_ ?_ _) | (with_reducible refine Below.drew ?_) | (with_reducible refine Below.setCell ?_ ?_ _) | go_size)))).mono ?_; rintro r w1 ⟨rfl, hb⟩
        rw [← HW0.out] at hb
        have S1 := Lib.hid (obj_below S0.out hb (heap_lt S0.out))
        have O1 := Lib.hid (obj_below O0.out hb (heap_lt O0.out))
        have B1 := Lib.hid (B0.out.trans (hb.mono B0.out.size))
        clear hb
        obtain ⟨a0, a1, a2, a3, a4, a5, a6, a7⟩ := boxed_nt8 O1.out
        have za := heap_lt O1.out
        go_wp2_with fail
        go_ret
        exact ⟨by rw [hR.out]; rfl, B1.out⟩
      by_cases g0 : g = 0
      · subst g0
        have hR := Lib.hid (show R = true by rw [HZ.out]; simp [])
        clear HZ
        go_enter Tryd.func21, Tryd.ntmps21
        go_wp2_with fail
        refine (HLf.out _ (by (repeat' (first | (with_reducible exact Below.refl _ _) | (with_reducible assumption) | (with_reducible refine below_drewN ?_ _) | (with_reducible refine Below.alloc ?_ ?_ _) | (with_reducible refine Below.drew ?_) | (with_reducible refine Below.setCell ?_ ?_ _) | go_size)))).mono ?_; rintro r w1 ⟨rfl, hb⟩
        rw [← HW0.out] at hb
        have S1 := Lib.hid (obj_below S0.out hb (heap_lt S0.out))
        have O1 := Lib.hid (obj_below O0.out hb (heap_lt O0.out))
        have B1 := Lib.hid (B0.out.trans (hb.mono B0.out.size))
        clear hb
        obtain ⟨a0, a1, a2, a3, a4, a5, a6, a7⟩ := boxed_nt8 O1.out
        have za := heap_lt O1.out
        go_wp2_with fail
        go_ret
        exact ⟨by rw [hR.out]; rfl, B1.out⟩
      have p0 : (g == 0) = false := beq_eq_false_iff_ne.2 g0
      by_cases g1 : g = 1
      · subst g1
        by_cases o1 : eo = 1
        · subst o1
          have hR := Lib.hid (show R = false by rw [HZ.out]; simp [])
          clear HZ
          go_enter Tryd.func21, Tryd.ntmps21
          go_wp2_with fail
          refine (HLf.out _ (by (repeat' (first | (with_reducible exact Below.refl _ _) | (with_reducible assumption) | (with_reducible refine below_drewN ?_ _) | (with_reducible refine Below.alloc ?_ ?_ _) | (with_reducible refine Below.drew ?_) | (with_reducible refine Below.setCell ?_ ?_ _) | go_size)))).mono ?_; rintro r w1 ⟨rfl, hb⟩
          rw [← HW0.out] at hb
          have S1 := Lib.hid (obj_below S0.out hb (heap_lt S0.out))
          have O1 := Lib.hid (obj_below O0.out hb (heap_lt O0.out))
          have B1 := Lib.hid (B0.out.trans (hb.mono B0.out.size))
          clear hb
          obtain ⟨a0, a1, a2, a3, a4, a5, a6, a7⟩ := boxed_nt8 O1.out
          have za := heap_lt O1.out
          go_wp2_with fail
          go_ret
          exact ⟨by rw [hR.out]; rfl, B1.out⟩
        have p2 : (eo != 1) = true := by simpa using o1
        clear o1
        have hR := Lib.hid (show R = true by rw [HZ.out]; simp [p2])
        clear HZ
        go_enter Tryd.func21, Tryd.ntmps21
        go_wp2_with fail
        refine (HLf.out _ (by (repeat' (first | (with_reducible exact Below.refl _ _) | (with_reducible assumption) | (with_reducible refine below_drewN ?_ _) | (with_reducible refine Below.alloc ?_ ?_ _) | (with_reducible refine Below.drew ?_) | (with_reducible refine Below.setCell ?_ ?_ _) | go_size)))).mono ?_; rintro r w1 ⟨rfl, hb⟩
        rw [← HW0.out] at hb
        have S1 := Lib.hid (obj_below S0.out hb (heap_lt S0.out))
        have O1 := Lib.hid (obj_below O0.out hb (heap_lt O0.out))
        have B1 := Lib.hid (B0.out.trans (hb.mono B0.out.size))
        clear hb
        obtain ⟨a0, a1, a2, a3, a4, a5, a6, a7⟩ := boxed_nt8 O1.out
        have za := heap_lt O1.out
        go_wp2_with fail
        go_ret
        exact ⟨by rw [hR.out]; rfl, B1.out⟩
      have p1 : (g == 1) = false := beq_eq_false_iff_ne.2 g1
      clear g0 g1
      have hR := Lib.hid (show R = false by rw [HZ.out]; simp [p0, p1])
      clear HZ
      go_enter Tryd.func21, Tryd.ntmps21
      go_wp2_with fail
      refine (HLf.out _ (by (repeat' (first | (with_reducible exact Below.refl _ _) | (with_reducible assumption) | (with_reducible refine below_drewN ?_ _) | (with_reducible refine Below.alloc ?_ ?_ _) | (with_reducible refine Below.drew ?_) | (with_reducible refine Below.setCell ?_ ?_ _) | go_size)))).mono ?_; rintro r w1 ⟨rfl, hb⟩
      rw [← HW0.out] at hb
      have S1 := Lib.hid (obj_below S0.out hb (heap_lt S0.out))
      have O1 := Lib.hid (obj_below O0.out hb (heap_lt O0.out))
      have B1 := Lib.hid (B0.out.trans (hb.mono B0.out.size))
      clear hb
      obtain ⟨a0, a1, a2, a3, a4, a5, a6, a7⟩ := boxed_nt8 O1.out
      have za := heap_lt O1.out
      go_wp2_with fail
      go_ret
      exact ⟨by rw [hR.out]; rfl, B1.out⟩
    have q1 : (k == 1) = false := beq_eq_false_iff_ne.2 h1
    rw [if_neg h1] at HZ
    clear HLf
    by_cases h23 : k = 2 ∨ k = 3
    case neg =>
      have q2 : (k == 2) = false := beq_eq_false_iff_ne.2 (fun h => h23 (Or.inl h))
      have q3 : (k == 3) = false := beq_eq_false_iff_ne.2 (fun h => h23 (Or.inr h))
      have q2' : (k != 2) = true := by simp at q2 ⊢; exact q2
      have q3' : (k != 3) = true := by simp at q3 ⊢; exact q3
      have hR := Lib.hid (show R = false by rw [HZ.out, if_pos (Or.inl (by omega))])
      clear HZ h23 h1
      go_enter Tryd.func21, Tryd.ntmps21
      go_wp2_with fail
      go_ret
      exact ⟨by rw [hR.out]; rfl, by (repeat' (first | (with_reducible exact Below.refl _ _) | (with_reducible assumption) | (with_reducible refine below_drewN ?_ _) | (with_reducible refine Below.alloc ?_ ?_ _) | (with_reducible refine Below.drew ?_) | (with_reducible refine Below.setCell ?_ ?_ _) | go_size))⟩
    rcases h23 with rfl | rfl
    · clear h1 q1
      by_cases n2 : N < 2
      case pos =>
        have p2 : ((N : Int) < 2) = True := eq_true (by omega)
        have p2' : (N < 2) = True := eq_true n2
        have hR := Lib.hid (show R = false by rw [HZ.out, if_pos (Or.inr (Or.inr (Or.inl n2)))])
        clear n2
        clear HZ
        go_enter Tryd.func21, Tryd.ntmps21
        go_wp2_with fail
        go_ret
        exact ⟨by rw [hR.out]; rfl, by (repeat' (first | (with_reducible exact Below.refl _ _) | (with_reducible assumption) | (with_reducible refine below_drewN ?_ _) | (with_reducible refine Below.alloc ?_ ?_ _) | (with_reducible refine Below.drew ?_) | (with_reducible refine Below.setCell ?_ ?_ _) | go_size))⟩
      have p2 : ((N : Int) < 2) = False := eq_false (by omega)
      have p2' : (N < 2) = False := eq_false n2
      have HN2 := Lib.hid n2
      clear n2
      by_cases g0 : ¬ g = 0
      case pos =>
        have p0 : (g != 0) = true := by simpa using g0
        have hR := Lib.hid (show R = false by rw [HZ.out, if_pos (Or.inr (Or.inl g0))])
        clear g0
        clear HZ
        go_enter Tryd.func21, Tryd.ntmps21
        go_wp2_with fail
        go_ret
        exact ⟨by rw [hR.out]; rfl, by (repeat' (first | (with_reducible exact Below.refl _ _) | (with_reducible assumption) | (with_reducible refine below_drewN ?_ _) | (with_reducible refine Below.alloc ?_ ?_ _) | (with_reducible refine Below.drew ?_) | (with_reducible refine Below.setCell ?_ ?_ _) | go_size))⟩
      replace g0 : g = 0 := Classical.not_not.1 g0
      subst g0
      cases SE
      case false =>
        have hR := Lib.hid (show R = false by rw [HZ.out, if_pos (Or.inr (Or.inr (Or.inr rfl)))])
        clear HZ
        go_enter Tryd.func21, Tryd.ntmps21
        go_wp2_with fail
        refine (HSm.out _ _ (by (repeat' (first | (with_reducible exact Below.refl _ _) | (with_reducible assumption) | (with_reducible refine below_drewN ?_ _) | (with_reducible refine Below.alloc ?_ ?_ _) | (with_reducible refine Below.drew ?_) | (with_reducible refine Below.setCell ?_ ?_ _) | go_size))) (H0V.out _)).mono ?_; rintro r w1 ⟨rfl, hb⟩
        rw [← HW0.out] at hb
        have S1 := Lib.hid (obj_below S0.out hb (heap_lt S0.out))
        have O1 := Lib.hid (obj_below O0.out hb (heap_lt O0.out))
        have B1 := Lib.hid (B0.out.trans (hb.mono B0.out.size))
        clear hb
        go_wp2_with fail
        go_ret
        exact ⟨by rw [hR.out]; rfl, B1.out⟩
      have hRA := Lib.hid (show R = AL by rw [HZ.out, if_neg (by have := HN2.out; simp; omega)])
      clear HZ
      go_enter Tryd.func21, Tryd.ntmps21
      go_wp2_with fail
      refine (HSm.out _ _ (by (repeat' (first | (with_reducible exact Below.refl _ _) | (with_reducible assumption) | (with_reducible refine below_drewN ?_ _) | (with_reducible refine Below.alloc ?_ ?_ _) | (with_reducible refine Below.drew ?_) | (with_reducible refine Below.setCell ?_ ?_ _) | go_size))) (H0V.out _)).mono ?_; rintro r w1 ⟨rfl, hb⟩
      rw [← HW0.out] at hb
      have S1 := Lib.hid (obj_below S0.out hb (heap_lt S0.out))
      have O1 := Lib.hid (obj_below O0.out hb (heap_lt O0.out))
      have B1 := Lib.hid (B0.out.trans (hb.mono B0.out.size))
      clear hb
      obtain ⟨a0, a1, a2, a3, a4, a5, a6, a7⟩ := boxed_nt8 O1.out
      have za := heap_lt O1.out
      go_wp2_with fail
      clear a0 a1 a2 a3 a4 a5 a6 a7 za HSm H0V
      go_loopw [59] (fun jj wr => ∃ j : Nat, j ≤ N ∧ jj = .int .i64 j ∧ Hid (∀ x ∈ l.take j, (x.kind != 2 && rightN s x) = true) ∧ Hid (Below w1.heap.size w1 wr)) (fun jj _ => N - (intOf jj).toNat)
      case atStart => exact ⟨0, by omega, rfl, Lib.hid (by simp), Lib.hid (Below.refl _ _)⟩
      case round =>
        obtain ⟨j, hk, rfl, hall, hB⟩ := hrel
        have hBw := B1.out.trans (hB.out.mono B1.out.size)
        obtain ⟨s0, s1, s2, s3⟩ := boxed_four (obj_below S1.out hB.out (heap_lt S1.out))
        have zs := Nat.lt_of_lt_of_le (heap_lt S1.out) hB.out.size
        obtain ⟨a0, _, _, _, _, _, _, a7⟩ := boxed_nt8 (obj_below O1.out hB.out (heap_lt O1.out))
        have za := Nat.lt_of_lt_of_le (heap_lt O1.out) hB.out.size
        by_cases hlt : j < N
        case neg =>
          obtain rfl : j = N := by omega
          have qk : ((j : Int) < (j : Int)) = False := eq_false (by omega)
          have qk' : (j < j) = False := eq_false (by omega)
          have hful : l.take j = l := List.take_of_length_le (by rw [HN.out]; exact Nat.le_refl _)
          have hR := Lib.hid (hRA.out.trans (HAl.out (by have := hall.out; rwa [hful] at this)))
          have HBW := Lib.hid hBw
          clear hBw hful
          go_wp2_with fail
          go_ret
          exact ⟨by rw [hR.out]; rfl, HBW.out⟩
        have qk : ((j : Int) < (N : Int)) = True := eq_true (by omega)
        have qk' : (j < N) = True := eq_true hlt
        obtain ⟨x, hx⟩ := get_some (L := l) (n := j) (by rw [HN.out]; exact hlt)
        obtain ⟨b9, off, p1, pn1, pc1, u1, un1, uc1, rfl, hbw, hc1, hc2, d0, d1, d2, d3, d4, d5, d6, d7, hxv⟩ := nt_at HX.out hx
        have hmem := List.mem_of_getElem? hx
        have d0 := (hBw.cell (p := ⟨b9, off + j * 8, none⟩) hbw).trans d0
        have d1 := (hBw.cell (p := ⟨b9, off + j * 8 + 1, none⟩) hbw).trans d1
        have d2 := (hBw.cell (p := ⟨b9, off + j * 8 + 2, none⟩) hbw).trans d2
        have d3 := (hBw.cell (p := ⟨b9, off + j * 8 + 3, none⟩) hbw).trans d3
        have d4 := (hBw.cell (p := ⟨b9, off + j * 8 + 4, none⟩) hbw).trans d4
        have d5 := (hBw.cell (p := ⟨b9, off + j * 8 + 5, none⟩) hbw).trans d5
        have d6 := (hBw.cell (p := ⟨b9, off + j * 8 + 6, none⟩) hbw).trans d6
        have d7 := (hBw.cell (p := ⟨b9, off + j * 8 + 7, none⟩) hbw).trans d7
        have zx : b9 < wr.heap.size := Nat.lt_of_lt_of_le hbw hBw.size
        have hk63 : j ≤ 9223372036854775806 := by omega
        have HLT := Lib.hid hlt
        have HBr := Lib.hid hB.out
        have HBW := Lib.hid hBw
        have HF := Lib.hid (HOn.out x hmem)
        have HT9 := Lib.hid (show (x.kind != 2 && rightN s x) = true → ∀ y ∈ l.take (j + 1), (y.kind != 2 && rightN s y) = true from fun h y hy => by
          rw [List.take_add_one, hx] at hy
          rcases List.mem_append.1 hy with hy | hy
          · exact hall.out y hy
          · rw [show y = x by simpa using hy]; exact h)
        have HC := Lib.hid (fun W (h : Below wr.heap.size wr W) => HIH.out x hmem W _ (hBw.trans (h.mono hBw.size)) ((hxv.below hBw).below h))
        generalize rightN s x = rx at *
        clear hxv hmem hx hlt hBw
        generalize x.kind = x0 at *
        generalize x.neg = x1 at *
        generalize x.e.op = x2 at *
        generalize x.e.t = x3 at *
        generalize x.e.n = x4 at *
        generalize x.e.m = x5 at *
        go_upto_region 11 with fail
        have hbX : Below wr.heap.size wr (wr.alloc (.cells #[.int .i64 x0, .int .i64 x1, .int .i64 x2, .int .i64 x3, .int .i64 x4, .int .i64 x5, .slice p1 pn1 pc1, .slice u1 un1 uc1] 54)) := by (repeat' (first | (with_reducible exact Below.refl _ _) | (with_reducible assumption) | (with_reducible refine below_drewN ?_ _) | (with_reducible refine Below.alloc ?_ ?_ _) | (with_reducible refine Below.drew ?_) | (with_reducible refine Below.setCell ?_ ?_ _) | go_size))
        have oX : (wr.alloc (.cells #[.int .i64 x0, .int .i64 x1, .int .i64 x2, .int .i64 x3, .int .i64 x4, .int .i64 x5, .slice p1 pn1 pc1, .slice u1 un1 uc1] 54)).heap[wr.heap.size]? = some (.cells #[.int .i64 x0, .int .i64 x1, .int .i64 x2, .int .i64 x3, .int .i64 x4, .int .i64 x5, .slice p1 pn1 pc1, .slice u1 un1 uc1] 54) := get_last rfl
        clear s0 s1 s2 s3 a0 a7 d0 d1 d2 d3 d4 d5 d6 d7 zs za zx
        generalize wr.alloc (.cells #[.int .i64 x0, .int .i64 x1, .int .i64 x2, .int .i64 x3, .int .i64 x4, .int .i64 x5, .slice p1 pn1 pc1, .slice u1 un1 uc1] 54) = WX at *
        have hBX := HBr.out.trans (hbX.mono HBr.out.size)
        obtain ⟨s0, s1, s2, s3⟩ := boxed_four (obj_below S1.out hBX (heap_lt S1.out))
        have zs := Nat.lt_of_lt_of_le (heap_lt S1.out) hBX.size
        obtain ⟨a0, _, _, _, _, _, _, a7⟩ := boxed_nt8 (obj_below O1.out hBX (heap_lt O1.out))
        have za := Nat.lt_of_lt_of_le (heap_lt O1.out) hBX.size
        obtain ⟨c0, c1, c2, c3, c4, c5, c6, c7⟩ := boxed_nt8 oX
        have z6 := heap_lt oX
        have HBX := Lib.hid hBX
        have HbX := Lib.hid hbX
        clear oX hBX hbX
        generalize wr.heap.size = nb at *
        by_cases hkk : x0 = 2
        · have hR := Lib.hid (hRA.out.trans (HF.out (by rw [hkk]; simp)))
          subst hkk
          have HBB := Lib.hid (B1.out.trans (HBX.out.mono B1.out.size))
          go_wp2_with fail
          go_ret
          exact ⟨by rw [hR.out]; rfl, HBB.out⟩
        have qx : (x0 == 2) = false := beq_eq_false_iff_ne.2 hkk
        have qx' : (x0 != 2) = true := by simpa using hkk
        rw [qx', Bool.true_and] at HF HT9
        clear hkk qx'
        cases rx
        · have hR := Lib.hid (hRA.out.trans (HF.out rfl))
          go_wp2_with fail
          refine (HC.out _ HbX.out).mono ?_; rintro r w2 ⟨rfl, hb⟩
          have HBB := Lib.hid (B1.out.trans ((HBX.out.trans (hb.mono HBX.out.size)).mono B1.out.size))
          clear hb
          go_wp2_with fail
          go_ret
          exact ⟨by rw [hR.out]; rfl, HBB.out⟩
        · have hT9 := Lib.hid (HT9.out rfl)
          go_wp2_with fail
          refine (HC.out _ HbX.out).mono ?_; rintro r w2 ⟨rfl, hb⟩
          have HBB := Lib.hid (HBX.out.trans (hb.mono HBX.out.size))
          clear hb
          go_wp2_with fail
          go_roundw
          case rel => exact ⟨j + 1, by have := HLT.out; omega, by simp, hT9, HBB⟩
          case measure => have := HLT.out; first | (simp [intOf]; done) | (simp [intOf]; omega)
    · clear h1 q1
      by_cases n2 : N < 2
      case pos =>
        have p2 : ((N : Int) < 2) = True := eq_true (by omega)
        have p2' : (N < 2) = True := eq_true n2
        have hR := Lib.hid (show R = false by rw [HZ.out, if_pos (Or.inr (Or.inr (Or.inl n2)))])
        clear n2
        clear HZ
        go_enter Tryd.func21, Tryd.ntmps21
        go_wp2_with fail
        go_ret
        exact ⟨by rw [hR.out]; rfl, by (repeat' (first | (with_reducible exact Below.refl _ _) | (with_reducible assumption) | (with_reducible refine below_drewN ?_ _) | (with_reducible refine Below.alloc ?_ ?_ _) | (with_reducible refine Below.drew ?_) | (with_reducible refine Below.setCell ?_ ?_ _) | go_size))⟩
      have p2 : ((N : Int) < 2) = False := eq_false (by omega)
      have p2' : (N < 2) = False := eq_false n2
      have HN2 := Lib.hid n2
      clear n2
      by_cases g0 : ¬ g = 0
      case pos =>
        have p0 : (g != 0) = true := by simpa using g0
        have hR := Lib.hid (show R = false by rw [HZ.out, if_pos (Or.inr (Or.inl g0))])
        clear g0
        clear HZ
        go_enter Tryd.func21, Tryd.ntmps21
        go_wp2_with fail
        go_ret
        exact ⟨by rw [hR.out]; rfl, by (repeat' (first | (with_reducible exact Below.refl _ _) | (with_reducible assumption) | (with_reducible refine below_drewN ?_ _) | (with_reducible refine Below.alloc ?_ ?_ _) | (with_reducible refine Below.drew ?_) | (with_reducible refine Below.setCell ?_ ?_ _) | go_size))⟩
      replace g0 : g = 0 := Classical.not_not.1 g0
      subst g0
      cases SE
      case false =>
        have hR := Lib.hid (show R = false by rw [HZ.out, if_pos (Or.inr (Or.inr (Or.inr rfl)))])
        clear HZ
        go_enter Tryd.func21, Tryd.ntmps21
        go_wp2_with fail
        refine (HSm.out _ _ (by (repeat' (first | (with_reducible exact Below.refl _ _) | (with_reducible assumption) | (with_reducible refine below_drewN ?_ _) | (with_reducible refine Below.alloc ?_ ?_ _) | (with_reducible refine Below.drew ?_) | (with_reducible refine Below.setCell ?_ ?_ _) | go_size))) (H0V.out _)).mono ?_; rintro r w1 ⟨rfl, hb⟩
        rw [← HW0.out] at hb
        have S1 := Lib.hid (obj_below S0.out hb (heap_lt S0.out))
        have O1 := Lib.hid (obj_below O0.out hb (heap_lt O0.out))
        have B1 := Lib.hid (B0.out.trans (hb.mono B0.out.size))
        clear hb
        go_wp2_with fail
        go_ret
        exact ⟨by rw [hR.out]; rfl, B1.out⟩
      have hRA := Lib.hid (show R = AL by rw [HZ.out, if_neg (by have := HN2.out; simp; omega)])
      clear HZ
      go_enter Tryd.func21, Tryd.ntmps21
      go_wp2_with fail
      refine (HSm.out _ _ (by (repeat' (first | (with_reducible exact Below.refl _ _) | (with_reducible assumption) | (with_reducible refine below_drewN ?_ _) | (with_reducible refine Below.alloc ?_ ?_ _) | (with_reducible refine Below.drew ?_) | (with_reducible refine Below.setCell ?_ ?_ _) | go_size))) (H0V.out _)).mono ?_; rintro r w1 ⟨rfl, hb⟩
      rw [← HW0.out] at hb
      have S1 := Lib.hid (obj_below S0.out hb (heap_lt S0.out))
      have O1 := Lib.hid (obj_below O0.out hb (heap_lt O0.out))
      have B1 := Lib.hid (B0.out.trans (hb.mono B0.out.size))
      clear hb
      obtain ⟨a0, a1, a2, a3, a4, a5, a6, a7⟩ := boxed_nt8 O1.out
      have za := heap_lt O1.out
      go_wp2_with fail
      clear a0 a1 a2 a3 a4 a5 a6 a7 za HSm H0V
      go_loopw [59] (fun jj wr => ∃ j : Nat, j ≤ N ∧ jj = .int .i64 j ∧ Hid (∀ x ∈ l.take j, (x.kind != 3 && rightN s x) = true) ∧ Hid (Below w1.heap.size w1 wr)) (fun jj _ => N - (intOf jj).toNat)
      case atStart => exact ⟨0, by omega, rfl, Lib.hid (by simp), Lib.hid (Below.refl _ _)⟩
      case round =>
        obtain ⟨j, hk, rfl, hall, hB⟩ := hrel
        have hBw := B1.out.trans (hB.out.mono B1.out.size)
        obtain ⟨s0, s1, s2, s3⟩ := boxed_four (obj_below S1.out hB.out (heap_lt S1.out))
        have zs := Nat.lt_of_lt_of_le (heap_lt S1.out) hB.out.size
        obtain ⟨a0, _, _, _, _, _, _, a7⟩ := boxed_nt8 (obj_below O1.out hB.out (heap_lt O1.out))
        have za := Nat.lt_of_lt_of_le (heap_lt O1.out) hB.out.size
        by_cases hlt : j < N
        case neg =>
          obtain rfl : j = N := by omega
          have qk : ((j : Int) < (j : Int)) = False := eq_false (by omega)
          have qk' : (j < j) = False := eq_false (by omega)
          have hful : l.take j = l := List.take_of_length_le (by rw [HN.out]; exact Nat.le_refl _)
          have hR := Lib.hid (hRA.out.trans (HAl.out (by have := hall.out; rwa [hful] at this)))
          have HBW := Lib.hid hBw
          clear hBw hful
          go_wp2_with fail
          go_ret
          exact ⟨by rw [hR.out]; rfl, HBW.out⟩
        have qk : ((j : Int) < (N : Int)) = True := eq_true (by omega)
        have qk' : (j < N) = True := eq_true hlt
        obtain ⟨x, hx⟩ := get_some (L := l) (n := j) (by rw [HN.out]; exact hlt)
        obtain ⟨b9, off, p1, pn1, pc1, u1, un1, uc1, rfl, hbw, hc1, hc2, d0, d1, d2, d3, d4, d5, d6, d7, hxv⟩ := nt_at HX.out hx
        have hmem := List.mem_of_getElem? hx
        have d0 := (hBw.cell (p := ⟨b9, off + j * 8, none⟩) hbw).trans d0
        have d1 := (hBw.cell (p := ⟨b9, off + j * 8 + 1, none⟩) hbw).trans d1
        have d2 := (hBw.cell (p := ⟨b9, off + j * 8 + 2, none⟩) hbw).trans d2
        have d3 := (hBw.cell (p := ⟨b9, off + j * 8 + 3, none⟩) hbw).trans d3
        have d4 := (hBw.cell (p := ⟨b9, off + j * 8 + 4, none⟩) hbw).trans d4
        have d5 := (hBw.cell (p := ⟨b9, off + j * 8 + 5, none⟩) hbw).trans d5
        have d6 := (hBw.cell (p := ⟨b9, off + j * 8 + 6, none⟩) hbw).trans d6
        have d7 := (hBw.cell (p := ⟨b9, off + j * 8 + 7, none⟩) hbw).trans d7
        have zx : b9 < wr.heap.size := Nat.lt_of_lt_of_le hbw hBw.size
        have hk63 : j ≤ 9223372036854775806 := by omega
        have HLT := Lib.hid hlt
        have HBr := Lib.hid hB.out
        have HBW := Lib.hid hBw
        have HF := Lib.hid (HOn.out x hmem)
        have HT9 := Lib.hid (show (x.kind != 3 && rightN s x) = true → ∀ y ∈ l.take (j + 1), (y.kind != 3 && rightN s y) = true from fun h y hy => by
          rw [List.take_add_one, hx] at hy
          rcases List.mem_append.1 hy with hy | hy
          · exact hall.out y hy
          · rw [show y = x by simpa using hy]; exact h)
        have HC := Lib.hid (fun W (h : Below wr.heap.size wr W) => HIH.out x hmem W _ (hBw.trans (h.mono hBw.size)) ((hxv.below hBw).below h))
        generalize rightN s x = rx at *
        clear hxv hmem hx hlt hBw
        generalize x.kind = x0 at *
        generalize x.neg = x1 at *
        generalize x.e.op = x2 at *
        generalize x.e.t = x3 at *
        generalize x.e.n = x4 at *
        generalize x.e.m = x5 at *
        go_upto_region 11 with fail
        have hbX : Below wr.heap.size wr (wr.alloc (.cells #[.int .i64 x0, .int .i64 x1, .int .i64 x2, .int .i64 x3, .int .i64 x4, .int .i64 x5, .slice p1 pn1 pc1, .slice u1 un1 uc1] 54)) := by (repeat' (first | (with_reducible exact Below.refl _ _) | (with_reducible assumption) | (with_reducible refine below_drewN ?_ _) | (with_reducible refine Below.alloc ?_ ?_ _) | (with_reducible refine Below.drew ?_) | (with_reducible refine Below.setCell ?_ ?_ _) | go_size))
        have oX : (wr.alloc (.cells #[.int .i64 x0, .int .i64 x1, .int .i64 x2, .int .i64 x3, .int .i64 x4, .int .i64 x5, .slice p1 pn1 pc1, .slice u1 un1 uc1] 54)).heap[wr.heap.size]? = some (.cells #[.int .i64 x0, .int .i64 x1, .int .i64 x2, .int .i64 x3, .int .i64 x4, .int .i64 x5, .slice p1 pn1 pc1, .slice u1 un1 uc1] 54) := get_last rfl
        clear s0 s1 s2 s3 a0 a7 d0 d1 d2 d3 d4 d5 d6 d7 zs za zx
        generalize wr.alloc (.cells #[.int .i64 x0, .int .i64 x1, .int .i64 x2, .int .i64 x3, .int .i64 x4, .int .i64 x5, .slice p1 pn1 pc1, .slice u1 un1 uc1] 54) = WX at *
        have hBX := HBr.out.trans (hbX.mono HBr.out.size)
        obtain ⟨s0, s1, s2, s3⟩ := boxed_four (obj_below S1.out hBX (heap_lt S1.out))
        have zs := Nat.lt_of_lt_of_le (heap_lt S1.out) hBX.size
        obtain ⟨a0, _, _, _, _, _, _, a7⟩ := boxed_nt8 (obj_below O1.out hBX (heap_lt O1.out))
        have za := Nat.lt_of_lt_of_le (heap_lt O1.out) hBX.size
        obtain ⟨c0, c1, c2, c3, c4, c5, c6, c7⟩ := boxed_nt8 oX
        have z6 := heap_lt oX
        have HBX := Lib.hid hBX
        have HbX := Lib.hid hbX
        clear oX hBX hbX
        generalize wr.heap.size = nb at *
        by_cases hkk : x0 = 3
        · have hR := Lib.hid (hRA.out.trans (HF.out (by rw [hkk]; simp)))
          subst hkk
          have HBB := Lib.hid (B1.out.trans (HBX.out.mono B1.out.size))
          go_wp2_with fail
          go_ret
          exact ⟨by rw [hR.out]; rfl, HBB.out⟩
        have qx : (x0 == 3) = false := beq_eq_false_iff_ne.2 hkk
        have qx' : (x0 != 3) = true := by simpa using hkk
        rw [qx', Bool.true_and] at HF HT9
        clear hkk qx'
        cases rx
        · have hR := Lib.hid (hRA.out.trans (HF.out rfl))
          go_wp2_with fail
          refine (HC.out _ HbX.out).mono ?_; rintro r w2 ⟨rfl, hb⟩
          have HBB := Lib.hid (B1.out.trans ((HBX.out.trans (hb.mono HBX.out.size)).mono B1.out.size))
          clear hb
          go_wp2_with fail
          go_ret
          exact ⟨by rw [hR.out]; rfl, HBB.out⟩
        · have hT9 := Lib.hid (HT9.out rfl)
          go_wp2_with fail
          refine (HC.out _ HbX.out).mono ?_; rintro r w2 ⟨rfl, hb⟩
          have HBB := Lib.hid (HBX.out.trans (hb.mono HBX.out.size))
          clear hb
          go_wp2_with fail
          go_roundw
          case rel => exact ⟨j + 1, by have := HLT.out; omega, by simp, hT9, HBB⟩
          case measure => have := HLT.out; first | (simp [intOf]; done) | (simp [intOf]; omega)
set_option maxRecDepth 100000 in
set_option maxHeartbeats 8000000 in
theorem ref44_Right (a b c d : Value) (s : Sc) (hc : ∃ p q k, c = .slice p q k) (n : Nt) : SmallN n → ∀ (w : World) (v : Value), ScAt w a b d s → NtV w v n → 
    Calls Tryd.prog 22 #[.agg #[a, b, c, d], v] w fun r w' => r = .returned (.bool (rightN s n)) ∧ Below w.heap.size w w' := by
  induction n using Nt.ind with
  | h k g e l ih =>
    intro hsm w v hs hv 
    have hlen := hsm.len
    have hex := hsm.ex
    have HIH := Lib.hid (fun x (hx : x ∈ l) W u (hb : Below w.heap.size w W) (hu : NtV W u x) => ih x hx (hsm.within hx) W u (hs.below hb) hu )
    have HZ := Lib.hid (rightN_mk s ⟨k, g, e, l⟩)
    obtain ⟨ea, el, ec, sa, N, sc, rfl, hN, hi1, he1, hrow1⟩ := nt_form hv
    replace hN : l.length = N := hN.symm
    have HLf := Lib.hid (fun W (hb : Below w.heap.size w W) => ref43_Leaf a b c d s e W _ (hs.below hb) hc (he1.below hb))
    rw [← leaf_same] at HLf
    have HSm := Lib.hid (fun W q (hb : Below w.heap.size w W) (hq : ExV W q ex0) => ref26_Same e ex0 W _ q (he1.below hb) hq)
    have hle : l.isEmpty = decide (N = 0) := by rw [← hN]; cases l <;> simp
    simp only at hrow1 hlen HZ HLf HSm ⊢
    rw [hN] at hlen
    rw [hle, hN] at HZ
    have HX := Lib.hid hrow1
    have HN := Lib.hid hN
    have HAl := Lib.hid (fun (h : ∀ x ∈ l, (x.kind != k && rightN s x) = true) => (show (l.all fun x => x.kind != k && rightN s x) = true from List.all_eq_true.2 h))
    have HOn := Lib.hid (fun x (hx : x ∈ l) (h : (x.kind != k && rightN s x) = false) => (show (l.all fun x => x.kind != k && rightN s x) = false from List.all_eq_false.2 ⟨x, hx, by rw [h]; simp⟩))
    generalize (l.all fun x => x.kind != k && rightN s x) = AL at *
    generalize leafB s e = Z at *
    generalize sameE e ex0 = SE at *
    obtain ⟨eo, et, en, em, ell⟩ := e
    simp only at HZ HLf HSm ⊢
    generalize rightN s ⟨k, g, ⟨eo, et, en, em, ell⟩, l⟩ = R at *
    have i64 : ∀ z : Int, 0 ≤ z ∧ z ≤ 100 → I64 z := fun z h => by unfold I64; omega
    have H0V := Lib.hid (fun W : World => (show ExV W (.agg #[.int .i64 0, .int .i64 0, .int .i64 0, .int .i64 0, .slice none 0 0]) ex0 from exV_lit ⟨i64 _ (by omega), i64 _ (by omega), i64 _ (by omega), i64 _ (by omega)⟩ row_none))
    have mixed : Tryd.prog.follows .mixedOrders = true := by kernel_rfl
    clear ih hv hrow1 hi1 he1 hsm hN hle hex hs i64 
    obtain ⟨W0, hW0⟩ : ∃ W0, W0 = (w.alloc (.cells #[a, b, c, d] 43)).alloc (.cells #[.int .i64 k, .int .i64 g, .int .i64 eo, .int .i64 et, .int .i64 en, .int .i64 em, .slice ea el ec, .slice sa N sc] 54) := ⟨_, rfl⟩
    have S0 := Lib.hid (show W0.heap[w.heap.size]? = some (.cells #[a, b, c, d] 43) by rw [hW0, get_past (by simp)]; exact get_last rfl)
    have O0 := Lib.hid (show W0.heap[w.heap.size + 1]? = some (.cells #[.int .i64 k, .int .i64 g, .int .i64 eo, .int .i64 et, .int .i64 en, .int .i64 em, .slice ea el ec, .slice sa N sc] 54) by rw [hW0]; exact get_last (by simp))
    have B0 := Lib.hid (show Below w.heap.size w W0 by rw [hW0]; exact by (repeat' (first | (with_reducible exact Below.refl _ _) | (with_reducible assumption) | (with_reducible refine below_drewN ?_ _) | (with_reducible refine Below.alloc ?_ ?_ _) | (with_reducible refine Below.drew ?_) | (with_reducible refine Below.setCell ?_ ?_ _) | go_size)))
    have HW0 := Lib.hid hW0
    clear hW0
    by_cases h1 : k = 1
    · subst h1
      by_cases hn : N = 0
      case neg =>
        have n0 : ((N : Int) == 0) = false := beq_eq_false_iff_ne.2 (by omega)
        have n0' : (N == 0) = false := beq_eq_false_iff_ne.2 hn
        have hnF := Lib.hid hn
        clear hn
        have hR := Lib.hid (show R = false by rw [HZ.out]; simp [hnF.out])
        clear HZ
        go_enter Tryd.func22, Tryd.ntmps22
        go_wp2_with fail
        go_ret
        exact ⟨by rw [hR.out]; rfl, by (repeat' (first | (with_reducible exact Below.refl _ _) | (with_reducible assumption) | (with_reducible refine below_drewN ?_ _) | (with_reducible refine Below.alloc ?_ ?_ _) | (with_reducible refine Below.drew ?_) | (with_reducible refine Below.setCell ?_ ?_ _) | go_size))⟩
      subst hn
      cases Z
      case false =>
        have hR := Lib.hid (show R = false by rw [HZ.out]; simp [])
        clear HZ
        go_enter Tryd.func22, Tryd.ntmps22
        go_wp2_with fail
        refine (HLf.out _ (by (repeat' (first | (with_reducible exact Below.refl _ _) | (with_reducible assumption) | (with_reducible refine below_drewN ?_ _) | (with_reducible refine Below.alloc ?_ ?_ _) | (with_reducible refine Below.drew ?_) | (with_reducible refine Below.setCell ?_ ?_ _) | go_size)))).mono ?_; rintro r w1 ⟨rfl, hb⟩
        rw [← HW0.out] at hb
        have S1 := Lib.hid (obj_below S0.out hb (heap_lt S0.out))
        have O1 := Lib.hid (obj_below O0.out hb (heap_lt O0.out))
        have B1 := Lib.hid (B0.out.trans (hb.mono B0.out.size))
        clear hb
        obtain ⟨a0, a1, a2, a3, a4, a5, a6, a7⟩ := boxed_nt8 O1.out
        have za := heap_lt O1.out
        go_wp2_with fail
        go_ret
        exact ⟨by rw [hR.out]; rfl, B1.out⟩
      by_cases g0 : g = 0
      · subst g0
        have hR := Lib.hid (show R = true by rw [HZ.out]; simp [])
        clear HZ
        go_enter Tryd.func22, Tryd.ntmps22
        go_wp2_with fail
        refine (HLf.out _ (by (repeat' (first | (with_reducible exact Below.refl _ _) | (with_reducible assumption) | (with_reducible refine below_drewN ?_ _) | (with_reducible refine Below.alloc ?_ ?_ _) | (with_reducible refine Below.drew ?_) | (with_reducible refine Below.setCell ?_ ?_ _) | go_size)))).mono ?_; rintro r w1 ⟨rfl, hb⟩
        rw [← HW0.out] at hb
        have S1 := Lib.hid (obj_below S0.out hb (heap_lt S0.out))
        have O1 := Lib.hid (obj_below O0.out hb (heap_lt O0.out))
        have B1 := Lib.hid (B0.out.trans (hb.mono B0.out.size))
        clear hb
        obtain ⟨a0, a1, a2, a3, a4, a5, a6, a7⟩ := boxed_nt8 O1.out
        have za := heap_lt O1.out
        go_wp2_with fail
        go_ret
        exact ⟨by rw [hR.out]; rfl, B1.out⟩
      have p0 : (g == 0) = false := beq_eq_false_iff_ne.2 g0
      by_cases g1 : g = 1
      · subst g1
        by_cases o1 : eo = 1
        · subst o1
          have hR := Lib.hid (show R = false by rw [HZ.out]; simp [])
          clear HZ
          go_enter Tryd.func22, Tryd.ntmps22
          go_wp2_with fail
          refine (HLf.out _ (by (repeat' (first | (with_reducible exact Below.refl _ _) | (with_reducible assumption) | (with_reducible refine below_drewN ?_ _) | (with_reducible refine Below.alloc ?_ ?_ _) | (with_reducible refine Below.drew ?_) | (with_reducible refine Below.setCell ?_ ?_ _) | go_size)))).mono ?_; rintro r w1 ⟨rfl, hb⟩
          rw [← HW0.out] at hb
          have S1 := Lib.hid (obj_below S0.out hb (heap_lt S0.out))
          have O1 := Lib.hid (obj_below O0.out hb (heap_lt O0.out))
          have B1 := Lib.hid (B0.out.trans (hb.mono B0.out.size))
          clear hb
          obtain ⟨a0, a1, a2, a3, a4, a5, a6, a7⟩ := boxed_nt8 O1.out
          have za := heap_lt O1.out
          go_wp2_with fail
          go_ret
          exact ⟨by rw [hR.out]; rfl, B1.out⟩
        have p2 : (eo != 1) = true := by simpa using o1
        clear o1
        have hR := Lib.hid (show R = true by rw [HZ.out]; simp [p2])
        clear HZ
        go_enter Tryd.func22, Tryd.ntmps22
        go_wp2_with fail
        refine (HLf.out _ (by (repeat' (first | (with_reducible exact Below.refl _ _) | (with_reducible assumption) | (with_reducible refine below_drewN ?_ _) | (with_reducible refine Below.alloc ?_ ?_ _) | (with_reducible refine Below.drew ?_) | (with_reducible refine Below.setCell ?_ ?_ _) | go_size)))).mono ?_; rintro r w1 ⟨rfl, hb⟩
        rw [← HW0.out] at hb
        have S1 := Lib.hid (obj_below S0.out hb (heap_lt S0.out))
        have O1 := Lib.hid (obj_below O0.out hb (heap_lt O0.out))
        have B1 := Lib.hid (B0.out.trans (hb.mono B0.out.size))
        clear hb
        obtain ⟨a0, a1, a2, a3, a4, a5, a6, a7⟩ := boxed_nt8 O1.out
        have za := heap_lt O1.out
        go_wp2_with fail
        go_ret
        exact ⟨by rw [hR.out]; rfl, B1.out⟩
      have p1 : (g == 1) = false := beq_eq_false_iff_ne.2 g1
      clear g0 g1
      have hR := Lib.hid (show R = false by rw [HZ.out]; simp [p0, p1])
      clear HZ
      go_enter Tryd.func22, Tryd.ntmps22
      go_wp2_with fail
      refine (HLf.out _ (by (repeat' (first | (with_reducible exact Below.refl _ _) | (with_reducible assumption) | (with_reducible refine below_drewN ?_ _) | (with_reducible refine Below.alloc ?_ ?_ _) | (with_reducible refine Below.drew ?_) | (with_reducible refine Below.setCell ?_ ?_ _) | go_size)))).mono ?_; rintro r w1 ⟨rfl, hb⟩
      rw [← HW0.out] at hb
      have S1 := Lib.hid (obj_below S0.out hb (heap_lt S0.out))
      have O1 := Lib.hid (obj_below O0.out hb (heap_lt O0.out))
      have B1 := Lib.hid (B0.out.trans (hb.mono B0.out.size))
      clear hb
      obtain ⟨a0, a1, a2, a3, a4, a5, a6, a7⟩ := boxed_nt8 O1.out
      have za := heap_lt O1.out
      go_wp2_with fail
      go_ret
      exact ⟨by rw [hR.out]; rfl, B1.out⟩
    have q1 : (k == 1) = false := beq_eq_false_iff_ne.2 h1
    rw [if_neg h1] at HZ
    clear HLf
    by_cases h23 : k = 2 ∨ k = 3
    case neg =>
      have q2 : (k == 2) = false := beq_eq_false_iff_ne.2 (fun h => h23 (Or.inl h))
      have q3 : (k == 3) = false := beq_eq_false_iff_ne.2 (fun h => h23 (Or.inr h))
      have q2' : (k != 2) = true := by simp at q2 ⊢; exact q2
      have q3' : (k != 3) = true := by simp at q3 ⊢; exact q3
      have hR := Lib.hid (show R = false by rw [HZ.out, if_pos (Or.inl (by omega))])
      clear HZ h23 h1
      go_enter Tryd.func22, Tryd.ntmps22
      go_wp2_with fail
      go_ret
      exact ⟨by rw [hR.out]; rfl, by (repeat' (first | (with_reducible exact Below.refl _ _) | (with_reducible assumption) | (with_reducible refine below_drewN ?_ _) | (with_reducible refine Below.alloc ?_ ?_ _) | (with_reducible refine Below.drew ?_) | (with_reducible refine Below.setCell ?_ ?_ _) | go_size))⟩
    rcases h23 with rfl | rfl
    · clear h1 q1
      by_cases g0 : ¬ g = 0
      case pos =>
        have p0 : (g != 0) = true := by simpa using g0
        have hR := Lib.hid (show R = false by rw [HZ.out, if_pos (Or.inr (Or.inl g0))])
        clear g0
        clear HZ
        go_enter Tryd.func22, Tryd.ntmps22
        go_wp2_with fail
        go_ret
        exact ⟨by rw [hR.out]; rfl, by (repeat' (first | (with_reducible exact Below.refl _ _) | (with_reducible assumption) | (with_reducible refine below_drewN ?_ _) | (with_reducible refine Below.alloc ?_ ?_ _) | (with_reducible refine Below.drew ?_) | (with_reducible refine Below.setCell ?_ ?_ _) | go_size))⟩
      replace g0 : g = 0 := Classical.not_not.1 g0
      subst g0
      by_cases n2 : N < 2
      case pos =>
        have p2 : ((N : Int) < 2) = True := eq_true (by omega)
        have p2' : (N < 2) = True := eq_true n2
        have hR := Lib.hid (show R = false by rw [HZ.out, if_pos (Or.inr (Or.inr (Or.inl n2)))])
        clear n2
        clear HZ
        go_enter Tryd.func22, Tryd.ntmps22
        go_wp2_with fail
        go_ret
        exact ⟨by rw [hR.out]; rfl, by (repeat' (first | (with_reducible exact Below.refl _ _) | (with_reducible assumption) | (with_reducible refine below_drewN ?_ _) | (with_reducible refine Below.alloc ?_ ?_ _) | (with_reducible refine Below.drew ?_) | (with_reducible refine Below.setCell ?_ ?_ _) | go_size))⟩
      have p2 : ((N : Int) < 2) = False := eq_false (by omega)
      have p2' : (N < 2) = False := eq_false n2
      have HN2 := Lib.hid n2
      clear n2
      cases SE
      case false =>
        have hR := Lib.hid (show R = false by rw [HZ.out, if_pos (Or.inr (Or.inr (Or.inr rfl)))])
        clear HZ
        go_enter Tryd.func22, Tryd.ntmps22
        go_wp2_with fail
        refine (HSm.out _ _ (by (repeat' (first | (with_reducible exact Below.refl _ _) | (with_reducible assumption) | (with_reducible refine below_drewN ?_ _) | (with_reducible refine Below.alloc ?_ ?_ _) | (with_reducible refine Below.drew ?_) | (with_reducible refine Below.setCell ?_ ?_ _) | go_size))) (H0V.out _)).mono ?_; rintro r w1 ⟨rfl, hb⟩
        rw [← HW0.out] at hb
        have S1 := Lib.hid (obj_below S0.out hb (heap_lt S0.out))
        have O1 := Lib.hid (obj_below O0.out hb (heap_lt O0.out))
        have B1 := Lib.hid (B0.out.trans (hb.mono B0.out.size))
        clear hb
        go_wp2_with fail
        go_ret
        exact ⟨by rw [hR.out]; rfl, B1.out⟩
      have hRA := Lib.hid (show R = AL by rw [HZ.out, if_neg (by have := HN2.out; simp; omega)])
      clear HZ
      go_enter Tryd.func22, Tryd.ntmps22
      go_wp2_with fail
      refine (HSm.out _ _ (by (repeat' (first | (with_reducible exact Below.refl _ _) | (with_reducible assumption) | (with_reducible refine below_drewN ?_ _) | (with_reducible refine Below.alloc ?_ ?_ _) | (with_reducible refine Below.drew ?_) | (with_reducible refine Below.setCell ?_ ?_ _) | go_size))) (H0V.out _)).mono ?_; rintro r w1 ⟨rfl, hb⟩
      rw [← HW0.out] at hb
      have S1 := Lib.hid (obj_below S0.out hb (heap_lt S0.out))
      have O1 := Lib.hid (obj_below O0.out hb (heap_lt O0.out))
      have B1 := Lib.hid (B0.out.trans (hb.mono B0.out.size))
      clear hb
      obtain ⟨a0, a1, a2, a3, a4, a5, a6, a7⟩ := boxed_nt8 O1.out
      have za := heap_lt O1.out
      go_wp2_with fail
      clear a0 a1 a2 a3 a4 a5 a6 a7 za HSm H0V
      go_loopw [5] (fun jj wr => ∃ j : Nat, j ≤ N ∧ jj = .int .i64 j ∧ Hid (∀ x ∈ l.take j, (x.kind != 2 && rightN s x) = true) ∧ Hid (Below w1.heap.size w1 wr)) (fun jj _ => N - (intOf jj).toNat)
      case atStart => exact ⟨0, by omega, rfl, Lib.hid (by simp), Lib.hid (Below.refl _ _)⟩
      case round =>
        obtain ⟨j, hk, rfl, hall, hB⟩ := hrel
        have hBw := B1.out.trans (hB.out.mono B1.out.size)
        obtain ⟨s0, s1, s2, s3⟩ := boxed_four (obj_below S1.out hB.out (heap_lt S1.out))
        have zs := Nat.lt_of_lt_of_le (heap_lt S1.out) hB.out.size
        obtain ⟨a0, _, _, _, _, _, _, a7⟩ := boxed_nt8 (obj_below O1.out hB.out (heap_lt O1.out))
        have za := Nat.lt_of_lt_of_le (heap_lt O1.out) hB.out.size
        by_cases hlt : j < N
        case neg =>
          obtain rfl : j = N := by omega
          have qk : ((j : Int) < (j : Int)) = False := eq_false (by omega)
          have qk' : (j < j) = False := eq_false (by omega)
          have hful : l.take j = l := List.take_of_length_le (by rw [HN.out]; exact Nat.le_refl _)
          have hR := Lib.hid (hRA.out.trans (HAl.out (by have := hall.out; rwa [hful] at this)))
          have HBW := Lib.hid hBw
          clear hBw hful
          go_wp2_with fail
          go_ret
          exact ⟨by rw [hR.out]; rfl, HBW.out⟩
        have qk : ((j : Int) < (N : Int)) = True := eq_true (by omega)
        have qk' : (j < N) = True := eq_true hlt
        obtain ⟨x, hx⟩ := get_some (L := l) (n := j) (by rw [HN.out]; exact hlt)
        obtain ⟨b9, off, p1, pn1, pc1, u1, un1, uc1, rfl, hbw, hc1, hc2, d0, d1, d2, d3, d4, d5, d6, d7, hxv⟩ := nt_at HX.out hx
        have hmem := List.mem_of_getElem? hx
        have d0 := (hBw.cell (p := ⟨b9, off + j * 8, none⟩) hbw).trans d0
        have d1 := (hBw.cell (p := ⟨b9, off + j * 8 + 1, none⟩) hbw).trans d1
        have d2 := (hBw.cell (p := ⟨b9, off + j * 8 + 2, none⟩) hbw).trans d2
        have d3 := (hBw.cell (p := ⟨b9, off + j * 8 + 3, none⟩) hbw).trans d3
        have d4 := (hBw.cell (p := ⟨b9, off + j * 8 + 4, none⟩) hbw).trans d4
        have d5 := (hBw.cell (p := ⟨b9, off + j * 8 + 5, none⟩) hbw).trans d5
        have d6 := (hBw.cell (p := ⟨b9, off + j * 8 + 6, none⟩) hbw).trans d6
        have d7 := (hBw.cell (p := ⟨b9, off + j * 8 + 7, none⟩) hbw).trans d7
        have zx : b9 < wr.heap.size := Nat.lt_of_lt_of_le hbw hBw.size
        have hk63 : j ≤ 9223372036854775806 := by omega
        have HLT := Lib.hid hlt
        have HBr := Lib.hid hB.out
        have HBW := Lib.hid hBw
        have HF := Lib.hid (HOn.out x hmem)
        have HT9 := Lib.hid (show (x.kind != 2 && rightN s x) = true → ∀ y ∈ l.take (j + 1), (y.kind != 2 && rightN s y) = true from fun h y hy => by
          rw [List.take_add_one, hx] at hy
          rcases List.mem_append.1 hy with hy | hy
          · exact hall.out y hy
          · rw [show y = x by simpa using hy]; exact h)
        have HC := Lib.hid (fun W (h : Below wr.heap.size wr W) => HIH.out x hmem W _ (hBw.trans (h.mono hBw.size)) ((hxv.below hBw).below h))
        generalize rightN s x = rx at *
        clear hxv hmem hx hlt hBw
        generalize x.kind = x0 at *
        generalize x.neg = x1 at *
        generalize x.e.op = x2 at *
        generalize x.e.t = x3 at *
        generalize x.e.n = x4 at *
        generalize x.e.m = x5 at *
        by_cases hkk : x0 = 2
        · have hR := Lib.hid (hRA.out.trans (HF.out (by rw [hkk]; simp)))
          subst hkk
          go_wp2_with fail
          have qq0 := fun wt (h : Below wr.heap.size wr wt) => cellB h s0 zs
          have qq1 := fun wt (h : Below wr.heap.size wr wt) => cellB h s1 zs
          have qq2 := fun wt (h : Below wr.heap.size wr wt) => cellB h s2 zs
          have qq3 := fun wt (h : Below wr.heap.size wr wt) => cellB h s3 zs
          have qq4 := fun wt (h : Below wr.heap.size wr wt) => cellB h a0 za
          have qq5 := fun wt (h : Below wr.heap.size wr wt) => cellB h a7 za
          have qq6 := fun wt (h : Below wr.heap.size wr wt) => cellB h d0 zx
          have qq7 := fun wt (h : Below wr.heap.size wr wt) => cellB h d1 zx
          have qq8 := fun wt (h : Below wr.heap.size wr wt) => cellB h d2 zx
          have qq9 := fun wt (h : Below wr.heap.size wr wt) => cellB h d3 zx
          have qq10 := fun wt (h : Below wr.heap.size wr wt) => cellB h d4 zx
          have qq11 := fun wt (h : Below wr.heap.size wr wt) => cellB h d5 zx
          have qq12 := fun wt (h : Below wr.heap.size wr wt) => cellB h d6 zx
          have qq13 := fun wt (h : Below wr.heap.size wr wt) => cellB h d7 zx
          refine wp_region_held_drew (S := (fun w' => Below wr.heap.size wr w')) (by kernel_rfl) ?_ (fun hHeld => ?_)
          · (try dsimp only); first | assumption | exact Below.alloc hHeld hHeld.size _ | exact (Below.refl _ _).drew | exact Below.drew (Below.refl _ _) | exact Below_drewN _ _ _ | exact Below.refl _ _
          refine tk 0 (v := ?_) (hy := ?_) (h := ?_); rotate_left
          · intro _ _; go_simp <;> with_reducible rfl
          try simp only [pu, pa, pz, ps]
          refine tk 1 (v := ?_) (hy := ?_) (h := ?_); rotate_left
          · intro wt hSw; (try dsimp only at hSw); go_simp <;> with_reducible rfl
          try simp only [pu, pa, pz, ps]
          refine tk 2 (v := ?_) (hy := ?_) (h := ?_); rotate_left
          · intro _ _; go_simp <;> with_reducible rfl
          try simp only [pu, pa, pz, ps]
          refine tk 3 (v := ?_) (hy := ?_) (h := ?_); rotate_left
          · intro _ _; go_simp <;> with_reducible rfl
          try simp only [pu, pa, pz, ps]
          refine tk 4 (v := ?_) (hy := ?_) (h := ?_); rotate_left
          · intro _ _; go_simp <;> with_reducible rfl
          try simp only [pu, pa, pz, ps]
          refine tk 5 (v := ?_) (hy := ?_) (h := ?_); rotate_left
          · intro wt hSw; (try dsimp only at hSw); go_simp <;> with_reducible rfl
          try simp only [pu, pa, pz, ps]
          refine tk 6 (v := ?_) (hy := ?_) (h := ?_); rotate_left
          · intro _ _; go_simp <;> with_reducible rfl
          try simp only [pu, pa, pz, ps]
          refine tk 7 (v := ?_) (hy := ?_) (h := ?_); rotate_left
          · intro wt hSw; (try dsimp only at hSw); go_simp <;> with_reducible rfl
          try simp only [pu, pa, pz, ps]
          refine tk 8 (v := ?_) (hy := ?_) (h := ?_); rotate_left
          · intro _ _; go_simp <;> with_reducible rfl
          try simp only [pu, pa, pz, ps]
          refine tk 9 (v := ?_) (hy := ?_) (h := ?_); rotate_left
          · intro _ _; go_simp <;> with_reducible rfl
          try simp only [pu, pa, pz, ps]
          refine sk 10 (h := ?_)
          try simp only [pu, pa, pz, ps]
          refine sk 11 (h := ?_)
          try simp only [pu, pa, pz, ps]
          refine sk 12 (h := ?_)
          try simp only [pu, pa, pz, ps]
          refine sk 13 (h := ?_)
          try simp only [pu, pa, pz, ps]
          refine sk 14 (h := ?_)
          try simp only [pu, pa, pz, ps]
          refine sk 15 (h := ?_)
          try simp only [pu, pa, pz, ps]
          refine sk 16 (h := ?_)
          try simp only [pu, pa, pz, ps]
          refine sk 17 (h := ?_)
          try simp only [pu, pa, pz, ps]
          refine tk 18 (v := ?_) (hy := ?_) (h := ?_); rotate_left
          · intro _ _; go_simp <;> with_reducible rfl
          try simp only [pu, pa, pz, ps]
          refine wpAnyH_done (by kernel_rfl) ?_ _
          have HBB := Lib.hid (HBW.out.trans (hHeld.mono HBW.out.size))
          go_wp2_with fail
          go_ret
          exact ⟨by rw [hR.out]; rfl, HBB.out⟩
        have qx : (x0 == 2) = false := beq_eq_false_iff_ne.2 hkk
        have qx' : (x0 != 2) = true := by simpa using hkk
        rw [qx', Bool.true_and] at HF HT9
        clear hkk qx'
        cases rx
        · have hR := Lib.hid (hRA.out.trans (HF.out rfl))
          go_wp2_with fail
          have qq0 := fun wt (h : Below wr.heap.size wr wt) => cellB h s0 zs
          have qq1 := fun wt (h : Below wr.heap.size wr wt) => cellB h s1 zs
          have qq2 := fun wt (h : Below wr.heap.size wr wt) => cellB h s2 zs
          have qq3 := fun wt (h : Below wr.heap.size wr wt) => cellB h s3 zs
          have qq4 := fun wt (h : Below wr.heap.size wr wt) => cellB h a0 za
          have qq5 := fun wt (h : Below wr.heap.size wr wt) => cellB h a7 za
          have qq6 := fun wt (h : Below wr.heap.size wr wt) => cellB h d0 zx
          have qq7 := fun wt (h : Below wr.heap.size wr wt) => cellB h d1 zx
          have qq8 := fun wt (h : Below wr.heap.size wr wt) => cellB h d2 zx
          have qq9 := fun wt (h : Below wr.heap.size wr wt) => cellB h d3 zx
          have qq10 := fun wt (h : Below wr.heap.size wr wt) => cellB h d4 zx
          have qq11 := fun wt (h : Below wr.heap.size wr wt) => cellB h d5 zx
          have qq12 := fun wt (h : Below wr.heap.size wr wt) => cellB h d6 zx
          have qq13 := fun wt (h : Below wr.heap.size wr wt) => cellB h d7 zx
          refine wp_region_held_drew (S := (fun w' => Below wr.heap.size wr w')) (by kernel_rfl) ?_ (fun hHeld => ?_)
          · (try dsimp only); first | assumption | exact Below.alloc hHeld hHeld.size _ | exact (Below.refl _ _).drew | exact Below.drew (Below.refl _ _) | exact Below_drewN _ _ _ | exact Below.refl _ _
          refine tk 0 (v := ?_) (hy := ?_) (h := ?_); rotate_left
          · intro _ _; go_simp <;> with_reducible rfl
          try simp only [pu, pa, pz, ps]
          refine tk 1 (v := ?_) (hy := ?_) (h := ?_); rotate_left
          · intro wt hSw; (try dsimp only at hSw); go_simp <;> with_reducible rfl
          try simp only [pu, pa, pz, ps]
          refine tk 2 (v := ?_) (hy := ?_) (h := ?_); rotate_left
          · intro _ _; go_simp <;> with_reducible rfl
          try simp only [pu, pa, pz, ps]
          refine tk 3 (v := ?_) (hy := ?_) (h := ?_); rotate_left
          · intro _ _; go_simp <;> with_reducible rfl
          try simp only [pu, pa, pz, ps]
          refine tk 4 (v := ?_) (hy := ?_) (h := ?_); rotate_left
          · intro _ _; go_simp <;> with_reducible rfl
          try simp only [pu, pa, pz, ps]
          refine tk 5 (v := ?_) (hy := ?_) (h := ?_); rotate_left
          · intro wt hSw; (try dsimp only at hSw); go_simp <;> with_reducible rfl
          try simp only [pu, pa, pz, ps]
          refine tk 6 (v := ?_) (hy := ?_) (h := ?_); rotate_left
          · intro _ _; go_simp <;> with_reducible rfl
          try simp only [pu, pa, pz, ps]
          refine tk 7 (v := ?_) (hy := ?_) (h := ?_); rotate_left
          · intro wt hSw; (try dsimp only at hSw); go_simp <;> with_reducible rfl
          try simp only [pu, pa, pz, ps]
          refine tk 8 (v := ?_) (hy := ?_) (h := ?_); rotate_left
          · intro _ _; go_simp <;> with_reducible rfl
          try simp only [pu, pa, pz, ps]
          refine tk 9 (v := ?_) (hy := ?_) (h := ?_); rotate_left
          · intro _ _; go_simp <;> with_reducible rfl
          try simp only [pu, pa, pz, ps]
          refine tk 10 (v := ?_) (hy := ?_) (h := ?_); rotate_left
          · intro wt hSw; (try dsimp only at hSw); go_simp <;> with_reducible rfl
          try simp only [pu, pa, pz, ps]
          refine tk 11 (v := ?_) (hy := ?_) (h := ?_); rotate_left
          · intro _ _; go_simp <;> with_reducible rfl
          try simp only [pu, pa, pz, ps]
          refine tk 12 (v := ?_) (hy := ?_) (h := ?_); rotate_left
          · intro wt hSw; (try dsimp only at hSw); go_simp <;> with_reducible rfl
          try simp only [pu, pa, pz, ps]
          refine tk 13 (v := ?_) (hy := ?_) (h := ?_); rotate_left
          · intro _ _; go_simp <;> with_reducible rfl
          try simp only [pu, pa, pz, ps]
          refine tk 14 (v := ?_) (hy := ?_) (h := ?_); rotate_left
          · intro _ _; go_simp <;> with_reducible rfl
          try simp only [pu, pa, pz, ps]
          refine tk 15 (v := ?_) (hy := ?_) (h := ?_); rotate_left
          · intro wt hSw; (try dsimp only at hSw); go_simp <;> with_reducible rfl
          try simp only [pu, pa, pz, ps]
          refine wpAnyH_ready (rs := [16]) (by kernel_rfl) (by simp) ?_
          refine AllReadyH.cons (o := ⟨_, _, _, _, _, _⟩) rfl (fun K hK => ?_) AllReadyH.nil
          go_simp
          refine (HC.out _ hHeld).mono ?_; rintro r w2 ⟨rfl, hb⟩; have hHeld := hHeld.trans (hb.mono hHeld.size); clear hb
          go_wp2_with fail
          refine hK.out _ _ ?_ (fun hHeld => ?_)
          · (try dsimp only); first | assumption | exact Below.alloc hHeld hHeld.size _ | exact (Below.refl _ _).drew | exact Below.drew (Below.refl _ _) | exact Below_drewN _ _ _ | exact Below.refl _ _
          clear hK K
          try simp only [pu, pa, pz, ps]
          refine tk 17 (v := ?_) (hy := ?_) (h := ?_); rotate_left
          · intro _ _; go_simp <;> with_reducible rfl
          try simp only [pu, pa, pz, ps]
          refine tk 18 (v := ?_) (hy := ?_) (h := ?_); rotate_left
          · intro _ _; go_simp <;> with_reducible rfl
          try simp only [pu, pa, pz, ps]
          refine wpAnyH_done (by kernel_rfl) ?_ _
          have HBB := Lib.hid (HBW.out.trans (hHeld.mono HBW.out.size))
          go_wp2_with fail
          go_ret
          exact ⟨by rw [hR.out]; rfl, HBB.out⟩
        · have hT9 := Lib.hid (HT9.out rfl)
          go_wp2_with fail
          have qq0 := fun wt (h : Below wr.heap.size wr wt) => cellB h s0 zs
          have qq1 := fun wt (h : Below wr.heap.size wr wt) => cellB h s1 zs
          have qq2 := fun wt (h : Below wr.heap.size wr wt) => cellB h s2 zs
          have qq3 := fun wt (h : Below wr.heap.size wr wt) => cellB h s3 zs
          have qq4 := fun wt (h : Below wr.heap.size wr wt) => cellB h a0 za
          have qq5 := fun wt (h : Below wr.heap.size wr wt) => cellB h a7 za
          have qq6 := fun wt (h : Below wr.heap.size wr wt) => cellB h d0 zx
          have qq7 := fun wt (h : Below wr.heap.size wr wt) => cellB h d1 zx
          have qq8 := fun wt (h : Below wr.heap.size wr wt) => cellB h d2 zx
          have qq9 := fun wt (h : Below wr.heap.size wr wt) => cellB h d3 zx
          have qq10 := fun wt (h : Below wr.heap.size wr wt) => cellB h d4 zx
          have qq11 := fun wt (h : Below wr.heap.size wr wt) => cellB h d5 zx
          have qq12 := fun wt (h : Below wr.heap.size wr wt) => cellB h d6 zx
          have qq13 := fun wt (h : Below wr.heap.size wr wt) => cellB h d7 zx
          refine wp_region_held_drew (S := (fun w' => Below wr.heap.size wr w')) (by kernel_rfl) ?_ (fun hHeld => ?_)
          · (try dsimp only); first | assumption | exact Below.alloc hHeld hHeld.size _ | exact (Below.refl _ _).drew | exact Below.drew (Below.refl _ _) | exact Below_drewN _ _ _ | exact Below.refl _ _
          refine tk 0 (v := ?_) (hy := ?_) (h := ?_); rotate_left
          · intro _ _; go_simp <;> with_reducible rfl
          try simp only [pu, pa, pz, ps]
          refine tk 1 (v := ?_) (hy := ?_) (h := ?_); rotate_left
          · intro wt hSw; (try dsimp only at hSw); go_simp <;> with_reducible rfl
          try simp only [pu, pa, pz, ps]
          refine tk 2 (v := ?_) (hy := ?_) (h := ?_); rotate_left
          · intro _ _; go_simp <;> with_reducible rfl
          try simp only [pu, pa, pz, ps]
          refine tk 3 (v := ?_) (hy := ?_) (h := ?_); rotate_left
          · intro _ _; go_simp <;> with_reducible rfl
          try simp only [pu, pa, pz, ps]
          refine tk 4 (v := ?_) (hy := ?_) (h := ?_); rotate_left
          · intro _ _; go_simp <;> with_reducible rfl
          try simp only [pu, pa, pz, ps]
          refine tk 5 (v := ?_) (hy := ?_) (h := ?_); rotate_left
          · intro wt hSw; (try dsimp only at hSw); go_simp <;> with_reducible rfl
          try simp only [pu, pa, pz, ps]
          refine tk 6 (v := ?_) (hy := ?_) (h := ?_); rotate_left
          · intro _ _; go_simp <;> with_reducible rfl
          try simp only [pu, pa, pz, ps]
          refine tk 7 (v := ?_) (hy := ?_) (h := ?_); rotate_left
          · intro wt hSw; (try dsimp only at hSw); go_simp <;> with_reducible rfl
          try simp only [pu, pa, pz, ps]
          refine tk 8 (v := ?_) (hy := ?_) (h := ?_); rotate_left
          · intro _ _; go_simp <;> with_reducible rfl
          try simp only [pu, pa, pz, ps]
          refine tk 9 (v := ?_) (hy := ?_) (h := ?_); rotate_left
          · intro _ _; go_simp <;> with_reducible rfl
          try simp only [pu, pa, pz, ps]
          refine tk 10 (v := ?_) (hy := ?_) (h := ?_); rotate_left
          · intro wt hSw; (try dsimp only at hSw); go_simp <;> with_reducible rfl
          try simp only [pu, pa, pz, ps]
          refine tk 11 (v := ?_) (hy := ?_) (h := ?_); rotate_left
          · intro _ _; go_simp <;> with_reducible rfl
          try simp only [pu, pa, pz, ps]
          refine tk 12 (v := ?_) (hy := ?_) (h := ?_); rotate_left
          · intro wt hSw; (try dsimp only at hSw); go_simp <;> with_reducible rfl
          try simp only [pu, pa, pz, ps]
          refine tk 13 (v := ?_) (hy := ?_) (h := ?_); rotate_left
          · intro _ _; go_simp <;> with_reducible rfl
          try simp only [pu, pa, pz, ps]
          refine tk 14 (v := ?_) (hy := ?_) (h := ?_); rotate_left
          · intro _ _; go_simp <;> with_reducible rfl
          try simp only [pu, pa, pz, ps]
          refine tk 15 (v := ?_) (hy := ?_) (h := ?_); rotate_left
          · intro wt hSw; (try dsimp only at hSw); go_simp <;> with_reducible rfl
          try simp only [pu, pa, pz, ps]
          refine wpAnyH_ready (rs := [16]) (by kernel_rfl) (by simp) ?_
          refine AllReadyH.cons (o := ⟨_, _, _, _, _, _⟩) rfl (fun K hK => ?_) AllReadyH.nil
          go_simp
          refine (HC.out _ hHeld).mono ?_; rintro r w2 ⟨rfl, hb⟩; have hHeld := hHeld.trans (hb.mono hHeld.size); clear hb
          go_wp2_with fail
          refine hK.out _ _ ?_ (fun hHeld => ?_)
          · (try dsimp only); first | assumption | exact Below.alloc hHeld hHeld.size _ | exact (Below.refl _ _).drew | exact Below.drew (Below.refl _ _) | exact Below_drewN _ _ _ | exact Below.refl _ _
          clear hK K
          try simp only [pu, pa, pz, ps]
          refine tk 17 (v := ?_) (hy := ?_) (h := ?_); rotate_left
          · intro _ _; go_simp <;> with_reducible rfl
          try simp only [pu, pa, pz, ps]
          refine tk 18 (v := ?_) (hy := ?_) (h := ?_); rotate_left
          · intro _ _; go_simp <;> with_reducible rfl
          try simp only [pu, pa, pz, ps]
          refine wpAnyH_done (by kernel_rfl) ?_ _
          have HBB := Lib.hid (HBr.out.trans (hHeld.mono HBr.out.size))
          go_wp2_with fail
          go_roundw
          case rel => exact ⟨j + 1, by have := HLT.out; omega, by simp, hT9, HBB⟩
          case measure => have := HLT.out; first | (simp [intOf]; done) | (simp [intOf]; omega)
    · clear h1 q1
      by_cases g0 : ¬ g = 0
      case pos =>
        have p0 : (g != 0) = true := by simpa using g0
        have hR := Lib.hid (show R = false by rw [HZ.out, if_pos (Or.inr (Or.inl g0))])
        clear g0
        clear HZ
        go_enter Tryd.func22, Tryd.ntmps22
        go_wp2_with fail
        go_ret
        exact ⟨by rw [hR.out]; rfl, by (repeat' (first | (with_reducible exact Below.refl _ _) | (with_reducible assumption) | (with_reducible refine below_drewN ?_ _) | (with_reducible refine Below.alloc ?_ ?_ _) | (with_reducible refine Below.drew ?_) | (with_reducible refine Below.setCell ?_ ?_ _) | go_size))⟩
      replace g0 : g = 0 := Classical.not_not.1 g0
      subst g0
      by_cases n2 : N < 2
      case pos =>
        have p2 : ((N : Int) < 2) = True := eq_true (by omega)
        have p2' : (N < 2) = True := eq_true n2
        have hR := Lib.hid (show R = false by rw [HZ.out, if_pos (Or.inr (Or.inr (Or.inl n2)))])
        clear n2
        clear HZ
        go_enter Tryd.func22, Tryd.ntmps22
        go_wp2_with fail
        go_ret
        exact ⟨by rw [hR.out]; rfl, by (repeat' (first | (with_reducible exact Below.refl _ _) | (with_reducible assumption) | (with_reducible refine below_drewN ?_ _) | (with_reducible refine Below.alloc ?_ ?_ _) | (with_reducible refine Below.drew ?_) | (with_reducible refine Below.setCell ?_ ?_ _) | go_size))⟩
      have p2 : ((N : Int) < 2) = False := eq_false (by omega)
      have p2' : (N < 2) = False := eq_false n2
      have HN2 := Lib.hid n2
      clear n2
      cases SE
      case false =>
        have hR := Lib.hid (show R = false by rw [HZ.out, if_pos (Or.inr (Or.inr (Or.inr rfl)))])
        clear HZ
        go_enter Tryd.func22, Tryd.ntmps22
        go_wp2_with fail
        refine (HSm.out _ _ (by (repeat' (first | (with_reducible exact Below.refl _ _) | (with_reducible assumption) | (with_reducible refine below_drewN ?_ _) | (with_reducible refine Below.alloc ?_ ?_ _) | (with_reducible refine Below.drew ?_) | (with_reducible refine Below.setCell ?_ ?_ _) | go_size))) (H0V.out _)).mono ?_; rintro r w1 ⟨rfl, hb⟩
        rw [← HW0.out] at hb
        have S1 := Lib.hid (obj_below S0.out hb (heap_lt S0.out))
        have O1 := Lib.hid (obj_below O0.out hb (heap_lt O0.out))
        have B1 := Lib.hid (B0.out.trans (hb.mono B0.out.size))
        clear hb
        go_wp2_with fail
        go_ret
        exact ⟨by rw [hR.out]; rfl, B1.out⟩
      have hRA := Lib.hid (show R = AL by rw [HZ.out, if_neg (by have := HN2.out; simp; omega)])
      clear HZ
      go_enter Tryd.func22, Tryd.ntmps22
      go_wp2_with fail
      refine (HSm.out _ _ (by (repeat' (first | (with_reducible exact Below.refl _ _) | (with_reducible assumption) | (with_reducible refine below_drewN ?_ _) | (with_reducible refine Below.alloc ?_ ?_ _) | (with_reducible refine Below.drew ?_) | (with_reducible refine Below.setCell ?_ ?_ _) | go_size))) (H0V.out _)).mono ?_; rintro r w1 ⟨rfl, hb⟩
      rw [← HW0.out] at hb
      have S1 := Lib.hid (obj_below S0.out hb (heap_lt S0.out))
      have O1 := Lib.hid (obj_below O0.out hb (heap_lt O0.out))
      have B1 := Lib.hid (B0.out.trans (hb.mono B0.out.size))
      clear hb
      obtain ⟨a0, a1, a2, a3, a4, a5, a6, a7⟩ := boxed_nt8 O1.out
      have za := heap_lt O1.out
      go_wp2_with fail
      clear a0 a1 a2 a3 a4 a5 a6 a7 za HSm H0V
      go_loopw [5] (fun jj wr => ∃ j : Nat, j ≤ N ∧ jj = .int .i64 j ∧ Hid (∀ x ∈ l.take j, (x.kind != 3 && rightN s x) = true) ∧ Hid (Below w1.heap.size w1 wr)) (fun jj _ => N - (intOf jj).toNat)
      case atStart => exact ⟨0, by omega, rfl, Lib.hid (by simp), Lib.hid (Below.refl _ _)⟩
      case round =>
        obtain ⟨j, hk, rfl, hall, hB⟩ := hrel
        have hBw := B1.out.trans (hB.out.mono B1.out.size)
        obtain ⟨s0, s1, s2, s3⟩ := boxed_four (obj_below S1.out hB.out (heap_lt S1.out))
        have zs := Nat.lt_of_lt_of_le (heap_lt S1.out) hB.out.size
        obtain ⟨a0, _, _, _, _, _, _, a7⟩ := boxed_nt8 (obj_below O1.out hB.out (heap_lt O1.out))
        have za := Nat.lt_of_lt_of_le (heap_lt O1.out) hB.out.size
        by_cases hlt : j < N
        case neg =>
          obtain rfl : j = N := by omega
          have qk : ((j : Int) < (j : Int)) = False := eq_false (by omega)
          have qk' : (j < j) = False := eq_false (by omega)
          have hful : l.take j = l := List.take_of_length_le (by rw [HN.out]; exact Nat.le_refl _)
          have hR := Lib.hid (hRA.out.trans (HAl.out (by have := hall.out; rwa [hful] at this)))
          have HBW := Lib.hid hBw
          clear hBw hful
          go_wp2_with fail
          go_ret
          exact ⟨by rw [hR.out]; rfl, HBW.out⟩
        have qk : ((j : Int) < (N : Int)) = True := eq_true (by omega)
        have qk' : (j < N) = True := eq_true hlt
        obtain ⟨x, hx⟩ := get_some (L := l) (n := j) (by rw [HN.out]; exact hlt)
        obtain ⟨b9, off, p1, pn1, pc1, u1, un1, uc1, rfl, hbw, hc1, hc2, d0, d1, d2, d3, d4, d5, d6, d7, hxv⟩ := nt_at HX.out hx
        have hmem := List.mem_of_getElem? hx
        have d0 := (hBw.cell (p := ⟨b9, off + j * 8, none⟩) hbw).trans d0
        have d1 := (hBw.cell (p := ⟨b9, off + j * 8 + 1, none⟩) hbw).trans d1
        have d2 := (hBw.cell (p := ⟨b9, off + j * 8 + 2, none⟩) hbw).trans d2
        have d3 := (hBw.cell (p := ⟨b9, off + j * 8 + 3, none⟩) hbw).trans d3
        have d4 := (hBw.cell (p := ⟨b9, off + j * 8 + 4, none⟩) hbw).trans d4
        have d5 := (hBw.cell (p := ⟨b9, off + j * 8 + 5, none⟩) hbw).trans d5
        have d6 := (hBw.cell (p := ⟨b9, off + j * 8 + 6, none⟩) hbw).trans d6
        have d7 := (hBw.cell (p := ⟨b9, off + j * 8 + 7, none⟩) hbw).trans d7
        have zx : b9 < wr.heap.size := Nat.lt_of_lt_of_le hbw hBw.size
        have hk63 : j ≤ 9223372036854775806 := by omega
        have HLT := Lib.hid hlt
        have HBr := Lib.hid hB.out
        have HBW := Lib.hid hBw
        have HF := Lib.hid (HOn.out x hmem)
        have HT9 := Lib.hid (show (x.kind != 3 && rightN s x) = true → ∀ y ∈ l.take (j + 1), (y.kind != 3 && rightN s y) = true from fun h y hy => by
          rw [List.take_add_one, hx] at hy
          rcases List.mem_append.1 hy with hy | hy
          · exact hall.out y hy
          · rw [show y = x by simpa using hy]; exact h)
        have HC := Lib.hid (fun W (h : Below wr.heap.size wr W) => HIH.out x hmem W _ (hBw.trans (h.mono hBw.size)) ((hxv.below hBw).below h))
        generalize rightN s x = rx at *
        clear hxv hmem hx hlt hBw
        generalize x.kind = x0 at *
        generalize x.neg = x1 at *
        generalize x.e.op = x2 at *
        generalize x.e.t = x3 at *
        generalize x.e.n = x4 at *
        generalize x.e.m = x5 at *
        by_cases hkk : x0 = 3
        · have hR := Lib.hid (hRA.out.trans (HF.out (by rw [hkk]; simp)))
          subst hkk
          go_wp2_with fail
          have qq0 := fun wt (h : Below wr.heap.size wr wt) => cellB h s0 zs
          have qq1 := fun wt (h : Below wr.heap.size wr wt) => cellB h s1 zs
          have qq2 := fun wt (h : Below wr.heap.size wr wt) => cellB h s2 zs
          have qq3 := fun wt (h : Below wr.heap.size wr wt) => cellB h s3 zs
          have qq4 := fun wt (h : Below wr.heap.size wr wt) => cellB h a0 za
          have qq5 := fun wt (h : Below wr.heap.size wr wt) => cellB h a7 za
          have qq6 := fun wt (h : Below wr.heap.size wr wt) => cellB h d0 zx
          have qq7 := fun wt (h : Below wr.heap.size wr wt) => cellB h d1 zx
          have qq8 := fun wt (h : Below wr.heap.size wr wt) => cellB h d2 zx
          have qq9 := fun wt (h : Below wr.heap.size wr wt) => cellB h d3 zx
          have qq10 := fun wt (h : Below wr.heap.size wr wt) => cellB h d4 zx
          have qq11 := fun wt (h : Below wr.heap.size wr wt) => cellB h d5 zx
          have qq12 := fun wt (h : Below wr.heap.size wr wt) => cellB h d6 zx
          have qq13 := fun wt (h : Below wr.heap.size wr wt) => cellB h d7 zx
          refine wp_region_held_drew (S := (fun w' => Below wr.heap.size wr w')) (by kernel_rfl) ?_ (fun hHeld => ?_)
          · (try dsimp only); first | assumption | exact Below.alloc hHeld hHeld.size _ | exact (Below.refl _ _).drew | exact Below.drew (Below.refl _ _) | exact Below_drewN _ _ _ | exact Below.refl _ _
          refine tk 0 (v := ?_) (hy := ?_) (h := ?_); rotate_left
          · intro _ _; go_simp <;> with_reducible rfl
          try simp only [pu, pa, pz, ps]
          refine tk 1 (v := ?_) (hy := ?_) (h := ?_); rotate_left
          · intro wt hSw; (try dsimp only at hSw); go_simp <;> with_reducible rfl
          try simp only [pu, pa, pz, ps]
          refine tk 2 (v := ?_) (hy := ?_) (h := ?_); rotate_left
          · intro _ _; go_simp <;> with_reducible rfl
          try simp only [pu, pa, pz, ps]
          refine tk 3 (v := ?_) (hy := ?_) (h := ?_); rotate_left
          · intro _ _; go_simp <;> with_reducible rfl
          try simp only [pu, pa, pz, ps]
          refine tk 4 (v := ?_) (hy := ?_) (h := ?_); rotate_left
          · intro _ _; go_simp <;> with_reducible rfl
          try simp only [pu, pa, pz, ps]
          refine tk 5 (v := ?_) (hy := ?_) (h := ?_); rotate_left
          · intro wt hSw; (try dsimp only at hSw); go_simp <;> with_reducible rfl
          try simp only [pu, pa, pz, ps]
          refine tk 6 (v := ?_) (hy := ?_) (h := ?_); rotate_left
          · intro _ _; go_simp <;> with_reducible rfl
          try simp only [pu, pa, pz, ps]
          refine tk 7 (v := ?_) (hy := ?_) (h := ?_); rotate_left
          · intro wt hSw; (try dsimp only at hSw); go_simp <;> with_reducible rfl
          try simp only [pu, pa, pz, ps]
          refine tk 8 (v := ?_) (hy := ?_) (h := ?_); rotate_left
          · intro _ _; go_simp <;> with_reducible rfl
          try simp only [pu, pa, pz, ps]
          refine tk 9 (v := ?_) (hy := ?_) (h := ?_); rotate_left
          · intro _ _; go_simp <;> with_reducible rfl
          try simp only [pu, pa, pz, ps]
          refine sk 10 (h := ?_)
          try simp only [pu, pa, pz, ps]
          refine sk 11 (h := ?_)
          try simp only [pu, pa, pz, ps]
          refine sk 12 (h := ?_)
          try simp only [pu, pa, pz, ps]
          refine sk 13 (h := ?_)
          try simp only [pu, pa, pz, ps]
          refine sk 14 (h := ?_)
          try simp only [pu, pa, pz, ps]
          refine sk 15 (h := ?_)
          try simp only [pu, pa, pz, ps]
          refine sk 16 (h := ?_)
          try simp only [pu, pa, pz, ps]
          refine sk 17 (h := ?_)
          try simp only [pu, pa, pz, ps]
          refine tk 18 (v := ?_) (hy := ?_) (h := ?_); rotate_left
          · intro _ _; go_simp <;> with_reducible rfl
          try simp only [pu, pa, pz, ps]
          refine wpAnyH_done (by kernel_rfl) ?_ _
          have HBB := Lib.hid (HBW.out.trans (hHeld.mono HBW.out.size))
          go_wp2_with fail
          go_ret
          exact ⟨by rw [hR.out]; rfl, HBB.out⟩
        have qx : (x0 == 3) = false := beq_eq_false_iff_ne.2 hkk
        have qx' : (x0 != 3) = true := by simpa using hkk
        rw [qx', Bool.true_and] at HF HT9
        clear hkk qx'
        cases rx
        · have hR := Lib.hid (hRA.out.trans (HF.out rfl))
          go_wp2_with fail
          have qq0 := fun wt (h : Below wr.heap.size wr wt) => cellB h s0 zs
          have qq1 := fun wt (h : Below wr.heap.size wr wt) => cellB h s1 zs
          have qq2 := fun wt (h : Below wr.heap.size wr wt) => cellB h s2 zs
          have qq3 := fun wt (h : Below wr.heap.size wr wt) => cellB h s3 zs
          have qq4 := fun wt (h : Below wr.heap.size wr wt) => cellB h a0 za
          have qq5 := fun wt (h : Below wr.heap.size wr wt) => cellB h a7 za
          have qq6 := fun wt (h : Below wr.heap.size wr wt) => cellB h d0 zx
          have qq7 := fun wt (h : Below wr.heap.size wr wt) => cellB h d1 zx
          have qq8 := fun wt (h : Below wr.heap.size wr wt) => cellB h d2 zx
          have qq9 := fun wt (h : Below wr.heap.size wr wt) => cellB h d3 zx
          have qq10 := fun wt (h : Below wr.heap.size wr wt) => cellB h d4 zx
          have qq11 := fun wt (h : Below wr.heap.size wr wt) => cellB h d5 zx
          have qq12 := fun wt (h : Below wr.heap.size wr wt) => cellB h d6 zx
          have qq13 := fun wt (h : Below wr.heap.size wr wt) => cellB h d7 zx
          refine wp_region_held_drew (S := (fun w' => Below wr.heap.size wr w')) (by kernel_rfl) ?_ (fun hHeld => ?_)
          · (try dsimp only); first | assumption | exact Below.alloc hHeld hHeld.size _ | exact (Below.refl _ _).drew | exact Below.drew (Below.refl _ _) | exact Below_drewN _ _ _ | exact Below.refl _ _
          refine tk 0 (v := ?_) (hy := ?_) (h := ?_); rotate_left
          · intro _ _; go_simp <;> with_reducible rfl
          try simp only [pu, pa, pz, ps]
          refine tk 1 (v := ?_) (hy := ?_) (h := ?_); rotate_left
          · intro wt hSw; (try dsimp only at hSw); go_simp <;> with_reducible rfl
          try simp only [pu, pa, pz, ps]
          refine tk 2 (v := ?_) (hy := ?_) (h := ?_); rotate_left
          · intro _ _; go_simp <;> with_reducible rfl
          try simp only [pu, pa, pz, ps]
          refine tk 3 (v := ?_) (hy := ?_) (h := ?_); rotate_left
          · intro _ _; go_simp <;> with_reducible rfl
          try simp only [pu, pa, pz, ps]
          refine tk 4 (v := ?_) (hy := ?_) (h := ?_); rotate_left
          · intro _ _; go_simp <;> with_reducible rfl
          try simp only [pu, pa, pz, ps]
          refine tk 5 (v := ?_) (hy := ?_) (h := ?_); rotate_left
          · intro wt hSw; (try dsimp only at hSw); go_simp <;> with_reducible rfl
          try simp only [pu, pa, pz, ps]
          refine tk 6 (v := ?_) (hy := ?_) (h := ?_); rotate_left
          · intro _ _; go_simp <;> with_reducible rfl
          try simp only [pu, pa, pz, ps]
          refine tk 7 (v := ?_) (hy := ?_) (h := ?_); rotate_left
          · intro wt hSw; (try dsimp only at hSw); go_simp <;> with_reducible rfl
          try simp only [pu, pa, pz, ps]
          refine tk 8 (v := ?_) (hy := ?_) (h := ?_); rotate_left
          · intro _ _; go_simp <;> with_reducible rfl
          try simp only [pu, pa, pz, ps]
          refine tk 9 (v := ?_) (hy := ?_) (h := ?_); rotate_left
          · intro _ _; go_simp <;> with_reducible rfl
          try simp only [pu, pa, pz, ps]
          refine tk 10 (v := ?_) (hy := ?_) (h := ?_); rotate_left
          · intro wt hSw; (try dsimp only at hSw); go_simp <;> with_reducible rfl
          try simp only [pu, pa, pz, ps]
          refine tk 11 (v := ?_) (hy := ?_) (h := ?_); rotate_left
          · intro _ _; go_simp <;> with_reducible rfl
          try simp only [pu, pa, pz, ps]
          refine tk 12 (v := ?_) (hy := ?_) (h := ?_); rotate_left
          · intro wt hSw; (try dsimp only at hSw); go_simp <;> with_reducible rfl
          try simp only [pu, pa, pz, ps]
          refine tk 13 (v := ?_) (hy := ?_) (h := ?_); rotate_left
          · intro _ _; go_simp <;> with_reducible rfl
          try simp only [pu, pa, pz, ps]
          refine tk 14 (v := ?_) (hy := ?_) (h := ?_); rotate_left
          · intro _ _; go_simp <;> with_reducible rfl
          try simp only [pu, pa, pz, ps]
          refine tk 15 (v := ?_) (hy := ?_) (h := ?_); rotate_left
          · intro wt hSw; (try dsimp only at hSw); go_simp <;> with_reducible rfl
          try simp only [pu, pa, pz, ps]
          refine wpAnyH_ready (rs := [16]) (by kernel_rfl) (by simp) ?_
          refine AllReadyH.cons (o := ⟨_, _, _, _, _, _⟩) rfl (fun K hK => ?_) AllReadyH.nil
          go_simp
          refine (HC.out _ hHeld).mono ?_; rintro r w2 ⟨rfl, hb⟩; have hHeld := hHeld.trans (hb.mono hHeld.size); clear hb
          go_wp2_with fail
          refine hK.out _ _ ?_ (fun hHeld => ?_)
          · (try dsimp only); first | assumption | exact Below.alloc hHeld hHeld.size _ | exact (Below.refl _ _).drew | exact Below.drew (Below.refl _ _) | exact Below_drewN _ _ _ | exact Below.refl _ _
          clear hK K
          try simp only [pu, pa, pz, ps]
          refine tk 17 (v := ?_) (hy := ?_) (h := ?_); rotate_left
          · intro _ _; go_simp <;> with_reducible rfl
          try simp only [pu, pa, pz, ps]
          refine tk 18 (v := ?_) (hy := ?_) (h := ?_); rotate_left
          · intro _ _; go_simp <;> with_reducible rfl
          try simp only [pu, pa, pz, ps]
          refine wpAnyH_done (by kernel_rfl) ?_ _
          have HBB := Lib.hid (HBW.out.trans (hHeld.mono HBW.out.size))
          go_wp2_with fail
          go_ret
          exact ⟨by rw [hR.out]; rfl, HBB.out⟩
        · have hT9 := Lib.hid (HT9.out rfl)
          go_wp2_with fail
          have qq0 := fun wt (h : Below wr.heap.size wr wt) => cellB h s0 zs
          have qq1 := fun wt (h : Below wr.heap.size wr wt) => cellB h s1 zs
          have qq2 := fun wt (h : Below wr.heap.size wr wt) => cellB h s2 zs
          have qq3 := fun wt (h : Below wr.heap.size wr wt) => cellB h s3 zs
          have qq4 := fun wt (h : Below wr.heap.size wr wt) => cellB h a0 za
          have qq5 := fun wt (h : Below wr.heap.size wr wt) => cellB h a7 za
          have qq6 := fun wt (h : Below wr.heap.size wr wt) => cellB h d0 zx
          have qq7 := fun wt (h : Below wr.heap.size wr wt) => cellB h d1 zx
          have qq8 := fun wt (h : Below wr.heap.size wr wt) => cellB h d2 zx
          have qq9 := fun wt (h : Below wr.heap.size wr wt) => cellB h d3 zx
          have qq10 := fun wt (h : Below wr.heap.size wr wt) => cellB h d4 zx
          have qq11 := fun wt (h : Below wr.heap.size wr wt) => cellB h d5 zx
          have qq12 := fun wt (h : Below wr.heap.size wr wt) => cellB h d6 zx
          have qq13 := fun wt (h : Below wr.heap.size wr wt) => cellB h d7 zx
          refine wp_region_held_drew (S := (fun w' => Below wr.heap.size wr w')) (by kernel_rfl) ?_ (fun hHeld => ?_)
          · (try dsimp only); first | assumption | exact Below.alloc hHeld hHeld.size _ | exact (Below.refl _ _).drew | exact Below.drew (Below.refl _ _) | exact Below_drewN _ _ _ | exact Below.refl _ _
          refine tk 0 (v := ?_) (hy := ?_) (h := ?_); rotate_left
          · intro _ _; go_simp <;> with_reducible rfl
          try simp only [pu, pa, pz, ps]
          refine tk 1 (v := ?_) (hy := ?_) (h := ?_); rotate_left
          · intro wt hSw; (try dsimp only at hSw); go_simp <;> with_reducible rfl
          try simp only [pu, pa, pz, ps]
          refine tk 2 (v := ?_) (hy := ?_) (h := ?_); rotate_left
          · intro _ _; go_simp <;> with_reducible rfl
          try simp only [pu, pa, pz, ps]
          refine tk 3 (v := ?_) (hy := ?_) (h := ?_); rotate_left
          · intro _ _; go_simp <;> with_reducible rfl
          try simp only [pu, pa, pz, ps]
          refine tk 4 (v := ?_) (hy := ?_) (h := ?_); rotate_left
          · intro _ _; go_simp <;> with_reducible rfl
          try simp only [pu, pa, pz, ps]
          refine tk 5 (v := ?_) (hy := ?_) (h := ?_); rotate_left
          · intro wt hSw; (try dsimp only at hSw); go_simp <;> with_reducible rfl
          try simp only [pu, pa, pz, ps]
          refine tk 6 (v := ?_) (hy := ?_) (h := ?_); rotate_left
          · intro _ _; go_simp <;> with_reducible rfl
          try simp only [pu, pa, pz, ps]
          refine tk 7 (v := ?_) (hy := ?_) (h := ?_); rotate_left
          · intro wt hSw; (try dsimp only at hSw); go_simp <;> with_reducible rfl
          try simp only [pu, pa, pz, ps]
          refine tk 8 (v := ?_) (hy := ?_) (h := ?_); rotate_left
          · intro _ _; go_simp <;> with_reducible rfl
          try simp only [pu, pa, pz, ps]
          refine tk 9 (v := ?_) (hy := ?_) (h := ?_); rotate_left
          · intro _ _; go_simp <;> with_reducible rfl
          try simp only [pu, pa, pz, ps]
          refine tk 10 (v := ?_) (hy := ?_) (h := ?_); rotate_left
          · intro wt hSw; (try dsimp only at hSw); go_simp <;> with_reducible rfl
          try simp only [pu, pa, pz, ps]
          refine tk 11 (v := ?_) (hy := ?_) (h := ?_); rotate_left
          · intro _ _; go_simp <;> with_reducible rfl
          try simp only [pu, pa, pz, ps]
          refine tk 12 (v := ?_) (hy := ?_) (h := ?_); rotate_left
          · intro wt hSw; (try dsimp only at hSw); go_simp <;> with_reducible rfl
          try simp only [pu, pa, pz, ps]
          refine tk 13 (v := ?_) (hy := ?_) (h := ?_); rotate_left
          · intro _ _; go_simp <;> with_reducible rfl
          try simp only [pu, pa, pz, ps]
          refine tk 14 (v := ?_) (hy := ?_) (h := ?_); rotate_left
          · intro _ _; go_simp <;> with_reducible rfl
          try simp only [pu, pa, pz, ps]
          refine tk 15 (v := ?_) (hy := ?_) (h := ?_); rotate_left
          · intro wt hSw; (try dsimp only at hSw); go_simp <;> with_reducible rfl
          try simp only [pu, pa, pz, ps]
          refine wpAnyH_ready (rs := [16]) (by kernel_rfl) (by simp) ?_
          refine AllReadyH.cons (o := ⟨_, _, _, _, _, _⟩) rfl (fun K hK => ?_) AllReadyH.nil
          go_simp
          refine (HC.out _ hHeld).mono ?_; rintro r w2 ⟨rfl, hb⟩; have hHeld := hHeld.trans (hb.mono hHeld.size); clear hb
          go_wp2_with fail
          refine hK.out _ _ ?_ (fun hHeld => ?_)
          · (try dsimp only); first | assumption | exact Below.alloc hHeld hHeld.size _ | exact (Below.refl _ _).drew | exact Below.drew (Below.refl _ _) | exact Below_drewN _ _ _ | exact Below.refl _ _
          clear hK K
          try simp only [pu, pa, pz, ps]
          refine tk 17 (v := ?_) (hy := ?_) (h := ?_); rotate_left
          · intro _ _; go_simp <;> with_reducible rfl
          try simp only [pu, pa, pz, ps]
          refine tk 18 (v := ?_) (hy := ?_) (h := ?_); rotate_left
          · intro _ _; go_simp <;> with_reducible rfl
          try simp only [pu, pa, pz, ps]
          refine wpAnyH_done (by kernel_rfl) ?_ _
          have HBB := Lib.hid (HBr.out.trans (hHeld.mono HBr.out.size))
          go_wp2_with fail
          go_roundw
          case rel => exact ⟨j + 1, by have := HLT.out; omega, by simp, hT9, HBB⟩
          case measure => have := HLT.out; first | (simp [intOf]; done) | (simp [intOf]; omega)
end Go.Proofs.YtknbomikiakpmaaDoor
/- One more at a row's end: of LawRefsMore, for other seats. -/
namespace Go.Proofs.YtknbomikiakpmaaDoor
open Go.RowKit
set_option linter.unusedSimpArgs false
set_option linter.unusedVariables false
theorem heap_new (w : World) (o : Obj) : (w.alloc o).heap[w.heap.size]? = some o := by show (w.heap.push o)[w.heap.size]? = _; simp
theorem obj_grown {w w' : World} {ob : Option Nat} {g : Nat} {o : Obj} (h : w.heap[g]? = some o) (hg : w.grownBy w' ob) (hne : ob ≠ some g) : w'.heap[g]? = some o := by
  have hlt : g < w.heap.size := by
    by_cases hgl : g < w.heap.size
    · exact hgl
    · rw [Array.getElem?_eq_none (Nat.le_of_not_lt hgl)] at h; cases h
  exact (hg.block g hlt (fun e => hne e.symm)).trans h
theorem own_ne_empty {w : World} {g p : Nat} {t : TypeId} {C : Array Value} {fr fr' : Nat × Nat} {s : TypeId} (h : w.heap[g]? = some (.cells #[] t fr)) (hp : w.heap[p]? = some (.cells C s fr')) (hC : 0 < C.size) : (Value.slice (some ⟨g, 0, none⟩) 0 0).ownBlock ≠ some p := by
  intro hu
  have : g = p := by simpa [Value.ownBlock] using hu
  subst this
  rw [h] at hp
  simp at hp
  obtain ⟨rfl, _⟩ := hp
  simp at hC
theorem owns_nil_at {w : World} {B g q : Nat} {t : TypeId} (h : w.heap[g]? = some (.cells #[] t)) (hB : B ≤ g) : w.ownsRow B t q (.slice (some ⟨g, 0, none⟩) 0 0) 0 [] :=
  ⟨by simp, Or.inr ⟨g, 0, #[], rfl, hB, h, by omega, by unfold maxLen; omega, by simp, by simp⟩⟩
theorem src_at {w : World} {g n : Nat} {t : TypeId} {C : List Value} (h : w.heap[g]? = some (.cells C.toArray t)) : Src w (.slice (some ⟨g, 0, none⟩) n n) n C :=
  Or.inr ⟨⟨g, 0, none⟩, n, rfl, fun j u hu => by
    rw [add_at, Nat.zero_add]
    unfold World.cell?
    rw [show (⟨g, j, none⟩ : Addr).block = g from rfl, h]
    simpa using hu⟩
theorem chunks_snoc {α : Type} {q : Nat} {R : Rep α} {w : World} {CH : List (Chunk q)} {L : List α} {z : Chunk q} {y : α} (hR : ∀ (i : Nat) (c : Chunk q) (x : α), CH[i]? = some c → L[i]? = some x → R w c.1 x) (hl : CH.length = L.length) (hz : R w z.1 y) : ∀ (i : Nat) (c : Chunk q) (x : α), (CH ++ [z])[i]? = some c → (L ++ [y])[i]? = some x → R w c.1 x := by
  intro i c x hc hx
  by_cases hi : i < CH.length
  · rw [List.getElem?_append_left hi] at hc
    rw [List.getElem?_append_left (by omega)] at hx
    exact hR i c x hc hx
  · have h1 := lt_of_get hc
    obtain rfl : i = CH.length := by simp at h1; omega
    have e1 : z = c := by simpa using hc
    have e2 : y = x := by rw [hl] at hx; simpa using hx
    rw [← e1, ← e2]; exact hz
def moreP (p : Pr) : Pr := ⟨p.consts ++ [(0, 0)], p.vars ++ [⟨[], 0, 0, 0, 0⟩], p.blocks ++ [⟨[], 0⟩], p.units ++ [⟨[], [], 0, [], []⟩]⟩
theorem getD_more {α : Type} {L : List α} {x d : α} {k : Nat} (h : k < L.length) : (L ++ [x]).getD k d = L.getD k d := by
  simp [List.getD, List.getElem?_append_left h]
theorem int_one {w : World} {cs : List Value} {x : Int} (h : intR w cs x) : ∀ u ∈ cs, u.oneCell' = true := by
  obtain ⟨rfl, _⟩ := h; intro u hu; simp at hu; subst hu; rfl
theorem row_more {α : Type} {q : Nat} {R : Rep α} (hS : Stable R) (hO : ∀ w cs x, R w cs x → ∀ u ∈ cs, u.oneCell' = true) {w : World} {v : Value} {L : List α} (h : RowR q R w v L) :
    ∃ X : List Value, X.length = L.length * q ∧ (∀ u ∈ X, u.oneCell' = true) ∧ (∀ W, Below w.heap.size w W → Src W v L.length X) ∧ ∀ W, Below w.heap.size w W → ∀ (B : Nat) (e : TypeId) (r : Value) (z : Chunk q) (y : α), R W z.1 y → W.ownsRow B e q r (L.length + 1) (X ++ z.1) → RowR q R W r (L ++ [y]) := by
  obtain ⟨CH, h1, h2, h3⟩ := row_chunks h
  refine ⟨flatC CH, by rw [flatC_len, h1], chunks_one (fun i c hc => ?_), fun W hW => h3.below hW, fun W hW B e r z y hz hO => ?_⟩
  · obtain ⟨x, hx⟩ := get_some (L := L) (n := i) (by rw [← h1]; exact lt_of_get hc)
    exact hO _ _ _ (h2 i c x hc hx)
  · refine row_of_chunks (CH := CH ++ [z]) (own_eq2 hO rfl (by rw [flatC_app, flatC_one])) (by simp [h1]) (by simp [h1]) (chunks_snoc (fun i c x hc hx => hS _ _ _ _ (h2 i c x hc hx) hW) h1 hz)
end Go.Proofs.YtknbomikiakpmaaDoor
