/- Layer 24: a state of the call's own that is written, while more memory lies behind it. -/
import Derived.Test.YtpnnmhcemecjfaaCyEnd
namespace Go.Proofs.Ytpnnmhcemecjfaa
open Go.RowKit
set_option linter.unusedSimpArgs false
set_option linter.unusedVariables false
/-- G is what there was as the state was made; its rows are written since; Wb lies ahead -/
structure Mid (B : Nat) (Wb G wr : World) (v b : Value) (s : St) (U : List Value) (n f : Value) : Prop where
  own : OwnS B G v b s U
  ext : Below G.heap.size G wr
  low : Below B Wb wr
  c9 : C4 wr G.heap.size v b n f
theorem Mid.lt {B : Nat} {Wb G wr : World} {v b : Value} {s : St} {U : List Value} {n f : Value} (h : Mid B Wb G wr v b s U n f) : G.heap.size < wr.heap.size := World.block_lt_of_cell? _ _ h.c9.1
theorem Mid.step {B : Nat} {Wb G wr w' : World} {v b : Value} {s : St} {U : List Value} {n f : Value} (h : Mid B Wb G wr v b s U n f) (hB : B ≤ wr.heap.size) (hb : Below wr.heap.size wr w') : Mid B Wb G w' v b s U n f :=
  ⟨h.own, h.ext.trans (hb.mono h.ext.size), h.low.trans (hb.mono hB), h.c9.keep h.lt hb⟩
theorem C4.grown {W W' : World} {g q : Nat} {x y z u : Value} (c : C4 W g x y z u) (h : W.grownBy W' (some q)) (hg : g < W.heap.size) (hne : g ≠ q) : C4 W' g x y z u := by
  have e := h.block g hg (by simp [hne])
  obtain ⟨h0, h1, h2, h3⟩ := c
  unfold World.cell? at h0 h1 h2 h3
  refine ⟨?_, ?_, ?_, ?_⟩ <;> (unfold World.cell?; rw [show (⟨g, _, none⟩ : Addr).block = g from rfl] at *; rw [e]; assumption)
theorem Mid.grown {B q : Nat} {Wb G wr w' : World} {v b : Value} {s : St} {U : List Value} {n f : Value} (h : Mid B Wb G wr v b s U n f) (hB : B ≤ G.heap.size) (hb : wr.grownBy w' (some q)) (hq : G.heap.size < q) : Mid B Wb G w' v b s U n f :=
  ⟨h.own, h.ext.trans ⟨hb.os, hb.tape, hb.output, hb.size, fun k hk => hb.block k (by have := h.ext.size; omega) (by simp; omega)⟩,
   h.low.trans ⟨hb.os, hb.tape, hb.output, hb.size, fun k hk => hb.block k (by have := h.ext.size; omega) (by simp; omega)⟩, h.c9.grown hb h.lt (by omega)⟩
theorem Mid.row {B : Nat} {Wb G wr : World} {a : Option Addr} {M c : Nat} {b : Value} {s : St} {U : List Value} {n f : Value} (h : Mid B Wb G wr (.slice a M c) b s U n f) {k : Nat} {l : List Int} (hk : s.vars[k]? = some l) :
    ∃ gv, a = some ⟨gv, 0, none⟩ ∧ gv < G.heap.size ∧ gv < wr.heap.size ∧ ∃ ar cap, wr.cell? ⟨gv, k, none⟩ = some (.slice ar l.length cap) := by
  have hkl : k < s.vars.length := lt_of_get hk
  obtain ⟨u, hu⟩ := get_some (L := U) (n := k) (by rw [h.own.rows.len]; exact hkl)
  obtain ⟨gv, cv, f1, f2, f3, f4⟩ := own_cell h.own.own hu
  obtain ⟨ar, cap, rfl⟩ := owns_form (h.own.rows.row k _ l hu hk)
  injection f1 with e1
  exact ⟨gv, e1, f3, Nat.lt_of_lt_of_le f3 h.ext.size, ar, cap, (h.ext.cell (p := ⟨gv, k, none⟩) f3).trans f4⟩
theorem Mid.at {B : Nat} {Wb G wr : World} {a : Option Addr} {M c : Nat} {b : Value} {s : St} {U : List Value} {n f : Value} (h : Mid B Wb G wr (.slice a M c) b s U n f) (hB : B ≤ G.heap.size) {k m : Nat} {l : List Int} (hk : s.vars[k]? = some l) (hm : m < l.length) {x : Int} (hx : I64 x) :
    ∃ gv bi cap, a = some ⟨gv, 0, none⟩ ∧ gv < G.heap.size ∧ gv < wr.heap.size ∧ wr.cell? ⟨gv, k, none⟩ = some (.slice (some ⟨bi, 0, none⟩) l.length cap) ∧ bi < G.heap.size ∧ bi < wr.heap.size ∧ B ≤ bi ∧ bi ≠ gv ∧
      wr.cell? ⟨bi, m, none⟩ = some (.int .i64 (l.getD m 0)) ∧ wr.frozen? ⟨bi, m, none⟩ = false ∧
      ∃ G' : World, G'.heap.size = G.heap.size ∧ Mid B Wb G' (wr.setCell ⟨bi, m, none⟩ (.int .i64 x)) (.slice a M c) b (setS s k m x) U n f := by
  have hkl : k < s.vars.length := lt_of_get hk
  obtain ⟨u, hu⟩ := get_some (L := U) (n := k) (by rw [h.own.rows.len]; exact hkl)
  obtain ⟨gv, cv, bi, cap, f1, f2, f3, f4, f5, f6, f7, f8, f9⟩ := h.own.set hk hm hx
  injection f1 with e1
  have hne : bi ≠ gv := by
    intro he
    subst he
    obtain ⟨gv', cv', q1, q2, q3, q4⟩ := own_cell h.own.own hu
    injection q1 with q1'
    rw [e1] at q1'
    obtain rfl : bi = gv' := by injection q1' with z; injection z
    obtain rfl : u = .slice (some ⟨bi, 0, none⟩) l.length cap := by rw [q4] at f4; exact Option.some.inj f4
    exact owns_type (h.own.rows.row k _ l hu hk) h.own.own (by decide) rfl (by rw [e1]; rfl)
  have hs : ∀ W : World, (W.setCell ⟨bi, m, none⟩ (.int .i64 x)).heap.size = W.heap.size := fun W => set_size _ _ _
  refine ⟨gv, bi, cap, e1, f3, Nat.lt_of_lt_of_le f3 h.ext.size, (h.ext.cell (p := ⟨gv, k, none⟩) f3).trans f4, f6, Nat.lt_of_lt_of_le f6 h.ext.size, f5, hne, (h.ext.cell (p := ⟨bi, m, none⟩) f6).trans f7, (h.ext.frozen (p := ⟨bi, m, none⟩) f6).trans f8, G.setCell ⟨bi, m, none⟩ (.int .i64 x), hs G, ⟨f9, ?_, ?_, ?_⟩⟩
  · refine ⟨h.ext.os, h.ext.tape, h.ext.output, by rw [hs, hs]; exact h.ext.size, fun j hj => ?_⟩
    rw [hs] at hj
    have := h.ext.block j hj
    unfold World.setCell
    simp only [Array.getElem?_modify, this]
  · exact h.low.setCell (p := ⟨bi, m, none⟩) f5 _
  · rw [hs]
    obtain ⟨h0, h1, h2, h3⟩ := h.c9
    refine ⟨?_, ?_, ?_, ?_⟩ <;> (unfold World.cell? World.setCell at *; simp only [Array.getElem?_modify] at *; rw [if_neg (by omega)]; assumption)
theorem setS_len (s : St) (n m : Nat) (x : Int) : (setS s n m x).vars.map List.length = s.vars.map List.length := by
  unfold setS
  apply List.ext_getElem?
  intro i
  simp only [List.getElem?_map, List.getElem?_set]
  by_cases h : n = i
  · subst h
    by_cases hn : n < s.vars.length
    · simp [hn, List.getD]
    · simp [hn, List.getElem?_eq_none (Nat.le_of_not_lt hn)]
  · simp [h]
theorem fillTo_len (s : St) (i : Nat) (t : Int) (ins : List Int) (n : Nat) : ∀ k, (fillTo s i t ins n k).vars.map List.length = s.vars.map List.length
  | 0 => rfl
  | k + 1 => by rw [fillTo, setS_len]; exact fillTo_len s i t ins n k
theorem begF_len (vs : List Vr) (ins : List Int) (s : St) : ∀ i, (begF vs ins s i).1.vars.map List.length = s.vars.map List.length
  | 0 => rfl
  | i + 1 => by
    have ih := begF_len vs ins s i
    rw [begF]
    split
    · split
      · rw [fillTo_len]; exact ih
      · exact ih
    · exact ih
theorem len_row {s t : St} (h : s.vars.map List.length = t.vars.map List.length) {k : Nat} {l : List Int} (hl : t.vars[k]? = some l) : ∃ l', s.vars[k]? = some l' ∧ l'.length = l.length := by
  have e := congrArg (fun (L : List Nat) => L[k]?) h
  simp only [List.getElem?_map, hl] at e
  cases hs : s.vars[k]? with
  | none => rw [hs] at e; cases e
  | some l' => rw [hs] at e; exact ⟨l', rfl, by simpa using e⟩
theorem len_vars {s t : St} (h : s.vars.map List.length = t.vars.map List.length) : s.vars.length = t.vars.length := by
  have := congrArg List.length h
  simpa using this
theorem begF_yes {vs : List Vr} {ins : List Int} {s : St} {i : Nat} {x : Vr} {l : List Int} (hx : vs[i]? = some x) (hl : s.vars[i]? = some l) (ha : x.area = 1) : begF vs ins s (i + 1) = (fillTo (begF vs ins s i).1 i x.t ins (begF vs ins s i).2 l.length, (begF vs ins s i).2 + l.length) := by
  rw [begF]; simp only [hx, hl, if_pos ha]
theorem begF_no {vs : List Vr} {ins : List Int} {s : St} {i : Nat} {x : Vr} (hx : vs[i]? = some x) (ha : ¬ x.area = 1) : begF vs ins s (i + 1) = begF vs ins s i := by
  rw [begF]; simp only [hx]
  split
  · rename_i x' l' h1 h2
    obtain rfl : x = x' := Option.some.inj h1
    rw [if_neg ha]
  · rfl
theorem begF_past {vs : List Vr} {ins : List Int} {s : St} {i : Nat} (h : s.vars.length ≤ i) : begF vs ins s (i + 1) = begF vs ins s i := by
  rw [begF]; simp only [List.getElem?_eq_none h]; cases vs[i]? <;> rfl
theorem begF_stop {vs : List Vr} {ins : List Int} {s : St} {i : Nat} (h : s.vars.length ≤ i) : ∀ j, i ≤ j → begF vs ins s j = begF vs ins s i
  | 0, hj => by obtain rfl : i = 0 := by omega
                rfl
  | j + 1, hj => by
    by_cases hij : i = j + 1
    · subst hij; rfl
    · rw [begF_past (by omega)]; exact begF_stop h j (by omega)
theorem begF_num {vs : List Vr} {ins : List Int} {s : St} (h : ∀ l ∈ s.vars, l.length ≤ 100) : ∀ i, (begF vs ins s i).2 ≤ i * 100
  | 0 => Nat.le_refl _
  | i + 1 => by
    have ih := begF_num h (vs := vs) (ins := ins) i
    rw [begF]
    split
    · rename_i x l h1 h2
      have := h l (List.mem_of_getElem? h2)
      split
      · simp only; omega
      · omega
    · omega
theorem kWrap_i64 {t v : Int} (hv : I64 v) : I64 (kWrap t v) := by
  by_cases h : 1 ≤ t ∧ t ≤ 6
  · obtain rfl | rfl | rfl | rfl | rfl | rfl : t = 1 ∨ t = 2 ∨ t = 3 ∨ t = 4 ∨ t = 5 ∨ t = 6 := by omega
    · rw [kWrap_1]; unfold I64; split <;> omega
    · rw [kWrap_2]; unfold I64; omega
    · rw [kWrap_3]; unfold I64; omega
    · rw [kWrap_4]; unfold I64; omega
    · rw [kWrap_5]; unfold I64; omega
    · rw [kWrap_6]; exact hv
  · rw [kWrap_no h]; unfold I64; omega
theorem inAt_i64 {ins : List Int} (h : ∀ z ∈ ins, I64 z) (n : Nat) : I64 (inAt ins n) := by
  unfold inAt
  by_cases hn : n < ins.length
  · have : ins.getD n 0 = ins[n] := by simp [List.getD, hn]
    rw [this]; exact h _ (List.getElem_mem hn)
  · have : ins.getD n 0 = 0 := by simp [List.getD, hn]
    rw [this]; unfold I64; omega
theorem inAt_lt {ins : List Int} {n : Nat} {z : Int} (h : ins[n]? = some z) : inAt ins n = z := by simp [inAt, List.getD, h]
theorem inAt_past {ins : List Int} {n : Nat} (h : ins.length ≤ n) : inAt ins n = 0 := by simp [inAt, List.getD, h]
theorem laterF_i64 {now dt : Int} (h : I64 now) : I64 (laterF now dt) := by
  unfold I64 at *
  unfold laterF
  simp only
  split <;> split <;> first | omega | (split <;> omega)
theorem cycle_later (now dt : Int) (hn : I64 now) (hd : I64 dt) (w : World) : Calls Try.prog 19 #[.int .i64 now, .int .i64 dt] w fun e w' => e = .returned (.int .i64 (laterF now dt)) ∧ w = w' := by
  unfold I64 at hn hd
  by_cases h1 : dt < 0
  · have hL : laterF now dt = if 1099511627776 < now then 1099511627776 else now := by unfold laterF; simp [h1]
    by_cases h3 : 1099511627776 < now
    · rw [if_pos h3] at hL; have HL := Lib.hid hL; clear hL
      go_enter Try.func19, Try.ntmps19
      go_wp2
      go_ret
      exact ⟨by rw [HL.out]; rfl, rfl⟩
    · rw [if_neg h3] at hL; have HL := Lib.hid hL; clear hL
      go_enter Try.func19, Try.ntmps19
      go_wp2
      go_ret
      exact ⟨by rw [HL.out]; rfl, rfl⟩
  · by_cases h2 : 1099511627776 < dt
    · have hL : laterF now dt = if 0 < now then 1099511627776 else now + 1099511627776 := by unfold laterF; simp [h1, h2]
      by_cases h3 : 0 < now
      · rw [if_pos h3] at hL; have HL := Lib.hid hL; clear hL
        go_enter Try.func19, Try.ntmps19
        go_wp2
        go_ret
        exact ⟨by rw [HL.out]; rfl, rfl⟩
      · rw [if_neg h3] at hL; have HL := Lib.hid hL; clear hL
        go_enter Try.func19, Try.ntmps19
        go_wp2
        go_ret
        exact ⟨by rw [HL.out]; rfl, rfl⟩
    · have hL : laterF now dt = if 1099511627776 - dt < now then 1099511627776 else now + dt := by unfold laterF; simp [h1, h2]
      by_cases h3 : 1099511627776 - dt < now
      · rw [if_pos h3] at hL; have HL := Lib.hid hL; clear hL
        go_enter Try.func19, Try.ntmps19
        go_wp2
        go_ret
        exact ⟨by rw [HL.out]; rfl, rfl⟩
      · rw [if_neg h3] at hL; have HL := Lib.hid hL; clear hL
        go_enter Try.func19, Try.ntmps19
        go_wp2
        go_ret
        exact ⟨by rw [HL.out]; rfl, rfl⟩
end Go.Proofs.Ytpnnmhcemecjfaa
