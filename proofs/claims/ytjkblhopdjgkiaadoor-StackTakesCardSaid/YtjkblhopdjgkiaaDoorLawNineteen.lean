/- Layer 19: the law StackBelow's walk. -/
import Derived.Test.YtjkblhopdjgkiaaDoorStackStep
import Derived.Test.YtjkblhopdjgkiaaDoorInts
namespace Go.Proofs.YtjkblhopdjgkiaaDoor
open Go.RowKit
set_option linter.unusedSimpArgs false
set_option linter.unusedVariables false
theorem wpList_append_src_g {P : Program} {w : World} {ops : Array Oper} {rest : List Oper} {o : Oper} {a : Act} {Q : Exit → Act → World → Prop} (hw : Region.wanted o (yielded ops a.tmps) = true) (s x : Operand) (t : TypeId)
    (ho : o.op = .call { callee := .builtin .append, args := #[s, x], argTypes := #[t, t] })
    (base : Nat) (e : TypeId) (i : TypeInfo) (z : Value) (q bytes : Nat) (ht : P.underlying t = some (.slice e)) (hi : P.info? e = some i) (hz : i.zero = some z)
    (hsize : i.size = q) (hby : i.bytes = bytes) (hzs : z.cells.size = q) (hq : 0 < q)
    (v : Value) (n : Nat) (xs : List Value) (hs : a.eval s = v) (hown : w.ownsRow base e q v n xs)
    (sv : Value) (m : Nat) (news : List Value) (hx : a.eval x = sv) (hsrc : Src w sv m news) (hl : news.length = m * q) (h1 : ∀ u ∈ news, u.oneCell' = true)
    (h63 : n + m ≤ maxLen) (hbytes : (n + m) * bytes ≤ 140737488355328) (hbase : base ≤ w.heap.size)
    (h : ∀ v' w', w'.ownsRow base e q v' (n + m) (xs ++ news) → w.grownBy w' v.ownBlock → wpList P ops Q rest (a.put o.dst v') w') : wpList P ops Q (o :: rest) a w :=
  wpList_step fun K hK => by
    rw [if_pos hw]
    exact wp_append_src s x t ho base e i z q bytes ht hi hz hsize hby hzs hq v n xs hs hown sv m news hx hsrc hl h1 h63 hbytes hbase fun v' w' h2 h3 => hK _ _ (h v' w' h2 h3)
theorem stepS_err {p : Pr} {u o a b : Int} {st : List Int} (h : stepE p u o a b st ≠ 0) : stepS p u o a b st = [] := by
  unfold stepE at h
  unfold stepS
  split
  · rename_i h1
    rw [if_pos h1] at h
    unfold stpS
    exact if_neg h
  · rfl
theorem stepS_len {p : Pr} {u o a b : Int} {st : List Int} : (stepS p u o a b st).length ≤ 32 := by
  unfold stepS
  split
  · unfold stpS
    split
    · rename_i h
      unfold stpE at h
      split at h
      · omega
      · split at h
        · omega
        · split at h
          · omega
          · rw [List.length_append, List.length_take]; omega
    · simp
  · simp
theorem step_below {p : Pr} {u o a b : Int} {st lo : List Int} (hf : fewP p = true) (h : stepE p u o a b st = 0) (h34 : o ≠ 34) (hs : st.length ≤ 10) (hl : lo.length ≤ 10) : stepE p u o a b (lo ++ st) = 0 ∧ stepS p u o a b (lo ++ st) = lo ++ stepS p u o a b st := by
  unfold stepE at h
  unfold stepE stepS
  by_cases h1 : oneP p u o a b = 0
  case neg => rw [if_neg h1] at h; exact absurd h h1
  rw [if_pos h1] at h
  rw [if_pos h1, if_pos h1, if_pos h1]
  obtain ⟨b1, b2⟩ := tk_small (p := p) (x := unAt p u) (o := o) (a := a) (b := b) hf
  generalize takesL p (unAt p u) o a b = tk at *
  generalize leavesL p (unAt p u) o a b = lv at *
  have hnot : ¬ (st.length < tk.length ∨ (o = 34 ∧ 0 < st.length)) := by
    intro q
    rw [(stp_9 (lv := lv) q).1] at h; cases h
  have hle : tk.length ≤ st.length := by
    by_cases g : st.length < tk.length
    · exact absurd (Or.inl g) hnot
    · omega
  have hfit : fitsT tk (st.drop (lowN tk st)) = true := by
    cases g : fitsT tk (st.drop (lowN tk st))
    · rw [(stp_10 (lv := lv) hnot g).1] at h; cases h
    · rfl
  have hlv : (lvS o lv (st.drop (lowN tk st))).length ≤ 2 := by
    unfold lvS
    repeat' split
    all_goals first | (simp; done) | omega
  have hd : (lo ++ st).drop (lowN tk (lo ++ st)) = st.drop (lowN tk st) := by
    unfold lowN
    rw [List.length_append, show lo.length + st.length - tk.length = lo.length + (st.length - tk.length) by omega, List.drop_append]
    simp
  have ht : (lo ++ st).take (lowN tk (lo ++ st)) = lo ++ st.take (lowN tk st) := by
    unfold lowN
    rw [List.length_append, show lo.length + st.length - tk.length = lo.length + (st.length - tk.length) by omega, List.take_append, List.take_of_length_le (by omega)]
    simp
  have hnot2 : ¬ ((lo ++ st).length < tk.length ∨ (o = 34 ∧ 0 < (lo ++ st).length)) := by
    intro q
    rcases q with q | q
    · rw [List.length_append] at q; omega
    · exact h34 q.1
  have hlow : lowN tk (lo ++ st) ≤ 20 := by unfold lowN; rw [List.length_append]; omega
  have hlow1 : lowN tk st ≤ 10 := by unfold lowN; omega
  have r1 := stp_0 (lv := lv) hnot hfit (by omega)
  have r2 := stp_0 (o := o) (tk := tk) (lv := lv) (st := lo ++ st) hnot2 (by rw [hd]; exact hfit) (by rw [hd]; omega)
  refine ⟨r2.1, ?_⟩
  rw [r2.2, r1.2, hd, ht, List.append_assoc]
def un0 : Un := ⟨[], [], 0, [], []⟩
def pr1 : Pr := ⟨[], [], [], [un0]⟩
theorem pr1_few : fewP pr1 = true := by decide
theorem pr1_step : stepE pr1 0 22 2 0 [6, 2, 2] = 0 ∧ stepS pr1 0 22 2 0 [6, 2, 2] = [6, 1] := by decide
theorem row_cells3 {w : World} {b : Nat} {x y z : Int} (h : w.cell? ⟨b, 0, none⟩ = some (.int .i64 x)) (h' : w.cell? ⟨b, 1, none⟩ = some (.int .i64 y)) (h'' : w.cell? ⟨b, 2, none⟩ = some (.int .i64 z)) (hx : I64 x) (hy : I64 y) (hz : I64 z) : RowR 1 intR w (.slice (some ⟨b, 0, none⟩) 3 3) [x, y, z] :=
  Or.inr ⟨b, 0, 3, rfl, by simp, by simp, by unfold maxLen; omega, World.block_lt_of_cell? w _ h, fun i q hq => by
    have hi : i < 3 := lt_of_get hq
    have hqi : I64 q := by
      have := List.mem_of_getElem? hq
      simp at this
      rcases this with rfl | rfl | rfl
      · exact hx
      · exact hy
      · exact hz
    refine ⟨[.int .i64 q], rfl, fun j u hu => ?_, rfl, hqi⟩
    have hj : j < 1 := lt_of_get hu
    obtain rfl : j = 0 := by omega
    obtain rfl : Value.int .i64 q = u := by simpa using hu
    obtain rfl | rfl | rfl : i = 0 ∨ i = 1 ∨ i = 2 := by omega
    · obtain rfl : x = q := by simpa using hq
      exact h
    · obtain rfl : y = q := by simpa using hq
      exact h'
    · obtain rfl : z = q := by simpa using hq
      exact h''⟩
set_option maxHeartbeats 4000000 in
theorem law19_awake (w : World) (hT : TabR w) (hB : BTab w) : Calls Tryd.prog 6 #[] w fun e w' => e = .returned (.bool true) ∧ Below w.heap.size w w' := by
  have cp := @cell_past
  obtain ⟨j, hj, hjz, hjsize, hjby⟩ : ∃ i, Tryd.prog.info? 50 = some i ∧ i.zero = some (.agg #[.string ⟨#[]⟩, .slice none 0 0, .int .i64 0, .slice none 0 0, .slice none 0 0]) ∧ i.size = 5 ∧ i.bytes = 96 := ⟨(Tryd.prog.info? 50).get!, by kernel_rfl, by kernel_rfl, by kernel_rfl, by kernel_rfl⟩
  have hm : ∀ W, (Instr.makeSlice 25 (.int .i64 1) (.int .i64 1)).run Tryd.prog W = .ok (.slice (some ⟨W.heap.size, 0, none⟩) 1 1) (W.alloc (.cells #[.string ⟨#[]⟩, .slice none 0 0, .int .i64 0, .slice none 0 0, .slice none 0 0] 50)) := fun W => by
    have := run_make W 25 50 j _ Tryd.underlying25 hj hjz .i64 .i64 (1 : Int) (1 : Int) (by omega) (by omega) (by rw [hjby]; omega) (by omega)
    rw [hjsize] at this
    rw [this, show madeCells (Value.agg #[.string ⟨#[]⟩, .slice none 0 0, .int .i64 0, .slice none 0 0, .slice none 0 0]).cells (Int.toNat 1 * 5) = #[.string ⟨#[]⟩, .slice none 0 0, .int .i64 0, .slice none 0 0, .slice none 0 0] by first | rfl | kernel_rfl | simp [madeCells, Value.cells]]; rfl
  clear hj hjz hjsize hjby
  obtain ⟨W0, hW0⟩ : ∃ W0, W0 = (w.alloc (.cells #[.string ⟨#[]⟩, .slice none 0 0, .int .i64 0, .slice none 0 0, .slice none 0 0] 50)).alloc (.cells #[.slice none 0 0, .slice none 0 0, .slice none 0 0, .slice (some ⟨w.heap.size, 0, none⟩) 1 1] 27) := ⟨_, rfl⟩
  obtain ⟨k1, k2, k3, k4⟩ := boxed2 w [.string ⟨#[]⟩, .slice none 0 0, .int .i64 0, .slice none 0 0, .slice none 0 0] [.slice none 0 0, .slice none 0 0, .slice none 0 0, .slice (some ⟨w.heap.size, 0, none⟩) 1 1] 50 27 (W' := W0) (by rw [hW0]; exact Below.refl _ _)
  have hp : PrAt W0 (.slice none 0 0) (.slice none 0 0) (.slice none 0 0) (.slice (some ⟨w.heap.size, 0, none⟩) 1 1) pr1 := by
    refine ⟨row_none, row_none, row_none, Or.inr ⟨w.heap.size, 0, 1, rfl, by decide, by decide, by unfold maxLen; omega, by omega, fun i x hx => ?_⟩⟩
    have hi : i < 1 := lt_of_get hx
    obtain rfl : i = 0 := by omega
    obtain rfl : un0 = x := Option.some.inj hx
    refine ⟨[.string ⟨#[]⟩, .slice none 0 0, .int .i64 0, .slice none 0 0, .slice none 0 0], rfl, fun jj u hu => ?_, .slice none 0 0, .slice none 0 0, .slice none 0 0, rfl, ⟨row_none, row_none, row_none, by unfold sz un0; simp, by unfold I64 un0; simp⟩⟩
    exact k1 _ u (by simpa using hu)
  have HS := Lib.hid (fun v W (hb : Below W0.heap.size W0 W) (hv : RowR 1 intR W v [6, 2, 2]) => stack_Step _ _ _ _ pr1 0 22 2 0 v [6, 2, 2] W (hp.below hb) (hT.below (k4.trans (hb.mono k4.size))) (hB.below (k4.trans (hb.mono k4.size))) pr1_few I64_2 I64_0 hv (by simp))
  have HW0 := Lib.hid hW0
  have HV := Lib.hid pr1_step
  have hsz := Lib.hid (show w.heap.size + 1 + 1 = W0.heap.size by rw [hW0]; simp)
  clear hp hT hB k1 k2 hW0 k3
  go_enter Tryd.func6, Tryd.ntmps6
  go_wp2_with fail
  rw [← HW0.out]
  refine (HS.out _ _ (by (repeat' (first | (with_reducible exact Below.refl _ _) | (with_reducible assumption) | (with_reducible refine below_drewN ?_ _) | (with_reducible refine Below.alloc ?_ ?_ _) | (with_reducible refine Below.drew ?_) | (with_reducible refine Below.setCell ?_ ?_ _) | go_size))) (row_cells3 (by rw [cell_at hsz.out]; rfl) (by rw [cell_at hsz.out]; rfl) (by rw [cell_at hsz.out]; rfl) (by unfold I64; omega) (by unfold I64; omega) (by unfold I64; omega))).mono ?_; rintro e w1 ⟨r, rfl, hr, hb1⟩
  have hb1 : Below W0.heap.size W0 w1 := Below.trans (by (repeat' (first | (with_reducible exact Below.refl _ _) | (with_reducible assumption) | (with_reducible refine below_drewN ?_ _) | (with_reducible refine Below.alloc ?_ ?_ _) | (with_reducible refine Below.drew ?_) | (with_reducible refine Below.setCell ?_ ?_ _) | go_size))) (hb1.mono (by simp))
  rw [HV.out.1]
  rw [HV.out.2] at hr
  obtain ⟨ra, rc, rfl⟩ := row_get hr
  obtain ⟨b3, off3, rfl, hbw3, hg⟩ := ints_at hr (k := 0) (by simp)
  obtain ⟨g0, _⟩ := hg 0 6 rfl
  obtain ⟨g1, _⟩ := hg 1 1 rfl
  simp only [Nat.add_zero, List.length_cons, List.length_nil, Nat.zero_add] at g0 g1 ⊢
  clear hg hr
  go_wp2_with fail
  go_ret
  exact ⟨rfl, k4.trans (hb1.mono k4.size)⟩
set_option maxRecDepth 100000 in
set_option maxHeartbeats 8000000 in
theorem stackBelow_walk (pc pv pb pu : Value) (p : Pr) (o a b : Int) (v : Value) (st : List Int) (lv : Value) (lo : List Int) (w : World) (h : PrAt w pc pv pb pu p) (hT : TabR w) (hB : BTab w) (hia : I64 a) (hib : I64 b) (hst : RowR 1 intR w v st) (hlo : RowR 1 intR w lv lo) :
    Calls Tryd.prog 4 #[.agg #[pc, pv, pb, pu], .agg #[.int .i64 o, .int .i64 a, .int .i64 b, v], lv] w fun e w' => e = .returned (.bool true) ∧ Below w.heap.size w w' := by
  have cp := @cell_past
  have HF := Lib.hid (fun W (hb : Below w.heap.size w W) => law16_Few pc pv pb pu p W (h.below hb))
  have HA := Lib.hid (fun W (hb : Below w.heap.size w W) => law19_awake W (hT.below hb) (hB.below hb))
  have HS := Lib.hid (fun (hf : fewP p = true) (v : Value) (st : List Int) W (hb : Below w.heap.size w W) (hv : RowR 1 intR W v st) (hl : st.length ≤ 100) => stack_Step pc pv pb pu p 0 o a b v st W (h.below hb) (hT.below hb) (hB.below hb) hf hia hib hv hl)
  have HL := Lib.hid (fun W (hb : Below w.heap.size w W) => (src_ints hlo).below hb)
  have HSs := Lib.hid (fun W (hb : Below w.heap.size w W) => (src_ints hst).below hb)
  have HLS := Lib.hid (show ∀ z ∈ lo ++ st, I64 z from fun z hz => (List.mem_append.1 hz).elim (row_ints hlo z) (row_ints hst z))
  have HST := Lib.hid (fun W (hb : Below w.heap.size w W) => hst.below intR_stable hb)
  have lst := hst.len
  have llo := hlo.len
  obtain ⟨sa, ca, rfl⟩ := row_get hst
  obtain ⟨la, lc, rfl⟩ := row_get hlo
  obtain ⟨ns, hns⟩ : ∃ n, st.length = n := ⟨_, rfl⟩
  obtain ⟨nl, hnl⟩ : ∃ n, lo.length = n := ⟨_, rfl⟩
  have HN := Lib.hid (show st.length = ns ∧ lo.length = nl from ⟨hns, hnl⟩)
  rw [hns] at HSs HST lst ⊢
  rw [hnl] at HL llo ⊢
  obtain ⟨W0, hW0⟩ : ∃ W0, W0 = (w.alloc (.cells #[pc, pv, pb, pu] 27)).alloc (.cells #[.int .i64 o, .int .i64 a, .int .i64 b, .slice sa ns ca] 39) := ⟨_, rfl⟩
  obtain ⟨k1, k2, k3, k4⟩ := boxed2 w [pc, pv, pb, pu] [.int .i64 o, .int .i64 a, .int .i64 b, .slice sa ns ca] 27 39 (W' := W0) (by rw [hW0]; exact Below.refl _ _)
  have HW0 := Lib.hid hW0
  have K1 := Lib.hid k1
  have K2 := Lib.hid k2
  have z1 : w.heap.size < W0.heap.size := by omega
  clear k1 k2 h hT hB hst hlo hns hnl hW0
  cases hf : fewP p
  · rw [hf] at HF
    clear hf HS
    go_enter Tryd.func4, Tryd.ntmps4
    go_wp2_with fail
    refine (HF.out _ (by (repeat' (first | (with_reducible exact Below.refl _ _) | (with_reducible assumption) | (with_reducible refine below_drewN ?_ _) | (with_reducible refine Below.alloc ?_ ?_ _) | (with_reducible refine Below.drew ?_) | (with_reducible refine Below.setCell ?_ ?_ _) | go_size)))).mono ?_; rintro e w1 ⟨rfl, hb1⟩
    rw [← HW0.out] at hb1
    have hB1 := k4.trans (hb1.mono k4.size)
    go_wp2_with fail
    refine (HA.out _ hB1).mono ?_; rintro e w2 ⟨rfl, hb2⟩
    go_wp2_with fail
    go_ret
    exact ⟨rfl, hB1.trans (hb2.mono hB1.size)⟩
  rw [hf] at HF
  have HSt := Lib.hid (HS.out hf)
  have HBel := Lib.hid (fun h1 h2 h3 h4 => step_below (u := 0) (o := o) (a := a) (b := b) (st := st) (lo := lo) hf h1 h2 h3 h4)
  have HErr := Lib.hid (fun hh => stepS_err (p := p) (u := 0) (o := o) (a := a) (b := b) (st := st) hh)
  clear hf HS
  by_cases c1 : 10 < ns
  · have q1 : (10 < (ns : Int)) = True := eq_true (by omega)
    clear c1
    go_enter Tryd.func4, Tryd.ntmps4
    go_wp2_with fail
    refine (HF.out _ (by (repeat' (first | (with_reducible exact Below.refl _ _) | (with_reducible assumption) | (with_reducible refine below_drewN ?_ _) | (with_reducible refine Below.alloc ?_ ?_ _) | (with_reducible refine Below.drew ?_) | (with_reducible refine Below.setCell ?_ ?_ _) | go_size)))).mono ?_; rintro e w1 ⟨rfl, hb1⟩
    rw [← HW0.out] at hb1
    have hB1 := k4.trans (hb1.mono k4.size)
    have x1 := Nat.lt_of_lt_of_le z1 hb1.size
    have x2 := Nat.lt_of_lt_of_le k3 hb1.size
    have e20 := (K2.out.keep k3 hb1) 0 _ rfl
    have e00 := (K1.out.keep z1 hb1) 0 _ rfl
    have e01 := (K1.out.keep z1 hb1) 1 _ rfl
    have e02 := (K1.out.keep z1 hb1) 2 _ rfl
    have e03 := (K1.out.keep z1 hb1) 3 _ rfl
    have e21 := (K2.out.keep k3 hb1) 1 _ rfl
    have e22 := (K2.out.keep k3 hb1) 2 _ rfl
    have e23 := (K2.out.keep k3 hb1) 3 _ rfl
    go_wp2_with fail
    refine (HA.out _ hB1).mono ?_; rintro e w2 ⟨rfl, hb2⟩
    go_wp2_with fail
    go_ret
    exact ⟨rfl, hB1.trans (hb2.mono hB1.size)⟩
  have q1 : (10 < (ns : Int)) = False := eq_false (by omega)
  by_cases c2 : 10 < nl
  · have q2 : (10 < (nl : Int)) = True := eq_true (by omega)
    clear c1 c2
    go_enter Tryd.func4, Tryd.ntmps4
    go_wp2_with fail
    refine (HF.out _ (by (repeat' (first | (with_reducible exact Below.refl _ _) | (with_reducible assumption) | (with_reducible refine below_drewN ?_ _) | (with_reducible refine Below.alloc ?_ ?_ _) | (with_reducible refine Below.drew ?_) | (with_reducible refine Below.setCell ?_ ?_ _) | go_size)))).mono ?_; rintro e w1 ⟨rfl, hb1⟩
    rw [← HW0.out] at hb1
    have hB1 := k4.trans (hb1.mono k4.size)
    have x1 := Nat.lt_of_lt_of_le z1 hb1.size
    have x2 := Nat.lt_of_lt_of_le k3 hb1.size
    have e20 := (K2.out.keep k3 hb1) 0 _ rfl
    have e00 := (K1.out.keep z1 hb1) 0 _ rfl
    have e01 := (K1.out.keep z1 hb1) 1 _ rfl
    have e02 := (K1.out.keep z1 hb1) 2 _ rfl
    have e03 := (K1.out.keep z1 hb1) 3 _ rfl
    have e21 := (K2.out.keep k3 hb1) 1 _ rfl
    have e22 := (K2.out.keep k3 hb1) 2 _ rfl
    have e23 := (K2.out.keep k3 hb1) 3 _ rfl
    go_wp2_with fail
    refine (HA.out _ hB1).mono ?_; rintro e w2 ⟨rfl, hb2⟩
    go_wp2_with fail
    go_ret
    exact ⟨rfl, hB1.trans (hb2.mono hB1.size)⟩
  have q2 : (10 < (nl : Int)) = False := eq_false (by omega)
  by_cases c3 : o = 34
  · have q3 : (o == 34) = true := by simpa using c3
    clear c1 c2 c3
    go_enter Tryd.func4, Tryd.ntmps4
    go_wp2_with fail
    refine (HF.out _ (by (repeat' (first | (with_reducible exact Below.refl _ _) | (with_reducible assumption) | (with_reducible refine below_drewN ?_ _) | (with_reducible refine Below.alloc ?_ ?_ _) | (with_reducible refine Below.drew ?_) | (with_reducible refine Below.setCell ?_ ?_ _) | go_size)))).mono ?_; rintro e w1 ⟨rfl, hb1⟩
    rw [← HW0.out] at hb1
    have hB1 := k4.trans (hb1.mono k4.size)
    have x1 := Nat.lt_of_lt_of_le z1 hb1.size
    have x2 := Nat.lt_of_lt_of_le k3 hb1.size
    have e20 := (K2.out.keep k3 hb1) 0 _ rfl
    have e00 := (K1.out.keep z1 hb1) 0 _ rfl
    have e01 := (K1.out.keep z1 hb1) 1 _ rfl
    have e02 := (K1.out.keep z1 hb1) 2 _ rfl
    have e03 := (K1.out.keep z1 hb1) 3 _ rfl
    have e21 := (K2.out.keep k3 hb1) 1 _ rfl
    have e22 := (K2.out.keep k3 hb1) 2 _ rfl
    have e23 := (K2.out.keep k3 hb1) 3 _ rfl
    go_wp2_with fail
    refine (HA.out _ hB1).mono ?_; rintro e w2 ⟨rfl, hb2⟩
    go_wp2_with fail
    go_ret
    exact ⟨rfl, hB1.trans (hb2.mono hB1.size)⟩
  have q3 : (o == 34) = false := by simpa using c3
  have HC := Lib.hid (show o ≠ 34 ∧ ns ≤ 10 ∧ nl ≤ 10 from ⟨c3, by omega, by omega⟩)
  have hns10 : ns ≤ 10 := by omega
  have hnl10 : nl ≤ 10 := by omega
  clear c1 c2 c3
  by_cases hE : stepE p 0 o a b st = 0
  case neg =>
    have hS := HErr.out hE
    have HSS := Lib.hid (HSt.out (.slice sa ns ca) st)
    rw [hS] at HSS
    generalize stepE p 0 o a b st = e1 at *
    have q4 : (e1 != 0) = true := by simpa using hE
    clear hE hS HSt HBel HErr
    go_enter Tryd.func4, Tryd.ntmps4
    go_wp2_with fail
    refine (HF.out _ (by (repeat' (first | (with_reducible exact Below.refl _ _) | (with_reducible assumption) | (with_reducible refine below_drewN ?_ _) | (with_reducible refine Below.alloc ?_ ?_ _) | (with_reducible refine Below.drew ?_) | (with_reducible refine Below.setCell ?_ ?_ _) | go_size)))).mono ?_; rintro e w1 ⟨rfl, hb1⟩
    rw [← HW0.out] at hb1
    have hB1 := k4.trans (hb1.mono k4.size)
    have x1 := Nat.lt_of_lt_of_le z1 hb1.size
    have x2 := Nat.lt_of_lt_of_le k3 hb1.size
    have e20 := (K2.out.keep k3 hb1) 0 _ rfl
    have e00 := (K1.out.keep z1 hb1) 0 _ rfl
    have e01 := (K1.out.keep z1 hb1) 1 _ rfl
    have e02 := (K1.out.keep z1 hb1) 2 _ rfl
    have e03 := (K1.out.keep z1 hb1) 3 _ rfl
    have e21 := (K2.out.keep k3 hb1) 1 _ rfl
    have e22 := (K2.out.keep k3 hb1) 2 _ rfl
    have e23 := (K2.out.keep k3 hb1) 3 _ rfl
    go_wp2_with fail
    refine (HSS.out _ hB1 (HST.out _ hB1) (by rw [HN.out.1]; omega)).mono ?_; rintro e w2 ⟨r, rfl, hr, hb2⟩
    have hB2 := hB1.trans (hb2.mono hB1.size)
    obtain ⟨ra, rc, rfl⟩ := row_get hr
    rw [List.length_nil]
    clear hr
    go_wp2_with fail
    refine (HA.out _ hB2).mono ?_; rintro e w3 ⟨rfl, hb3⟩
    go_wp2_with fail
    go_ret
    exact ⟨rfl, hB2.trans (hb3.mono hB2.size)⟩
  have HSb := Lib.hid (HBel.out hE HC.out.1 (by have := HN.out.1; omega) (by have := HN.out.2; omega))
  have HSS := Lib.hid (HSt.out (.slice sa ns ca) st)
  rw [hE] at HSS
  generalize hLL : stepS p 0 o a b st = L at *
  have HLL := Lib.hid hLL
  clear hE HBel HErr hLL
  obtain ⟨ii, hi, hz, hsize, hby⟩ : ∃ i, Tryd.prog.info? 3 = some i ∧ i.zero = some (.int .i64 0) ∧ i.size = 1 ∧ i.bytes = 8 := ⟨(Tryd.prog.info? 3).get!, by kernel_rfl, by kernel_rfl, by kernel_rfl, by kernel_rfl⟩
  go_enter Tryd.func4, Tryd.ntmps4
  go_wp2_with fail
  refine (HF.out _ (by (repeat' (first | (with_reducible exact Below.refl _ _) | (with_reducible assumption) | (with_reducible refine below_drewN ?_ _) | (with_reducible refine Below.alloc ?_ ?_ _) | (with_reducible refine Below.drew ?_) | (with_reducible refine Below.setCell ?_ ?_ _) | go_size)))).mono ?_; rintro e w1 ⟨rfl, hb1⟩
  rw [← HW0.out] at hb1
  have hB1 := k4.trans (hb1.mono k4.size)
  have x1 := Nat.lt_of_lt_of_le z1 hb1.size
  have x2 := Nat.lt_of_lt_of_le k3 hb1.size
  have e20 := (K2.out.keep k3 hb1) 0 _ rfl
  have e00 := (K1.out.keep z1 hb1) 0 _ rfl
  have e01 := (K1.out.keep z1 hb1) 1 _ rfl
  have e02 := (K1.out.keep z1 hb1) 2 _ rfl
  have e03 := (K1.out.keep z1 hb1) 3 _ rfl
  have e21 := (K2.out.keep k3 hb1) 1 _ rfl
  have e22 := (K2.out.keep k3 hb1) 2 _ rfl
  have e23 := (K2.out.keep k3 hb1) 3 _ rfl
  go_wp2_with fail
  refine (HSS.out _ hB1 (HST.out _ hB1) (by rw [HN.out.1]; omega)).mono ?_; rintro e W5 ⟨r, rfl, hr, hb5⟩
  have hBW5 := hB1.trans (hb5.mono hB1.size)
  have hb5 := hb1.trans (hb5.mono hb1.size)
  have y1 := Nat.lt_of_lt_of_le z1 hb5.size
  have y2 := Nat.lt_of_lt_of_le k3 hb5.size
  clear e00 e01 e02 e03 e20 e21 e22 e23 x1 x2 hb1 hB1
  have e00 := (K1.out.keep z1 hb5) 0 _ rfl
  have e01 := (K1.out.keep z1 hb5) 1 _ rfl
  have e02 := (K1.out.keep z1 hb5) 2 _ rfl
  have e03 := (K1.out.keep z1 hb5) 3 _ rfl
  have e20 := (K2.out.keep k3 hb5) 0 _ rfl
  have e21 := (K2.out.keep k3 hb5) 1 _ rfl
  have e22 := (K2.out.keep k3 hb5) 2 _ rfl
  have e23 := (K2.out.keep k3 hb5) 3 _ rfl
  have HR := Lib.hid hr
  have HRs := Lib.hid (src_ints hr)
  obtain ⟨ra, rc, rfl⟩ := row_get hr
  have HLI := Lib.hid (row_ints hr)
  obtain ⟨q, hq⟩ : ∃ q, L.length = q := ⟨_, rfl⟩
  have Hq := Lib.hid hq
  rw [hq] at HRs ⊢
  clear hr hq
  go_wp2_with fail
  have hE1 : ∀ W', Below (W5.heap.size + 1) (W5.alloc (.cells #[] 3)) W' → W'.ownsRow W5.heap.size 3 1 (.slice (some ⟨W5.heap.size, 0, none⟩) 0 0) 0 [] := fun W' hb => owns_below (owns_empty W5 3 1 (Nat.le_refl _)) (by simpa using hb)
  have Hlen := Lib.hid (show (lo ++ L).length = nl + q by rw [List.length_append, Hq.out, HN.out.2])
  refine wp_region_held_drew (S := (fun w' => Below W5.heap.size W5 w')) (by kernel_rfl) ?_ (fun hHeld => ?_)
  · (try dsimp only); first | assumption | exact Below.alloc hHeld hHeld.size _ | exact (Below.refl _ _).drew | exact Below.drew (Below.refl _ _) | exact Below_drewN _ _ _ | exact Below.refl _ _ | (trace_state; fail)
  refine wpAnyH_take (i := 0) (oi := { dst := some 50, op := Op.load 27 (Operand.tmp 3), type := 27, pos := _, after := #[], guard := none }) (v := ?_) rfl (by kernel_rfl) (by kernel_rfl) (by kernel_rfl) (fun _ _ _ h => h) (Or.inl ⟨by rfl, ?_⟩) (by assumption) ?_
  rotate_left
  · intro wt hSw; (try dsimp only at hSw); have e00 := cellB hSw e00 y1; have e01 := cellB hSw e01 y1; have e02 := cellB hSw e02 y1; have e03 := cellB hSw e03 y1; have e20 := cellB hSw e20 y2; have e21 := cellB hSw e21 y2; have e22 := cellB hSw e22 y2; have e23 := cellB hSw e23 y2; first | (go_simp; done) | (go_simp; with_reducible rfl) | (trace_state; fail)
  try simp only [Act.put, List.setIfInBounds_toArray, List.set_cons_zero, List.set_cons_succ]
  refine wpAnyH_take (i := 1) (oi := { dst := some 51, op := Op.fieldAddr 39 (Operand.tmp 4) 0, type := 0, pos := _, after := #[], guard := none }) (v := ?_) rfl (by kernel_rfl) (by kernel_rfl) (by kernel_rfl) (fun _ _ _ h => h) (Or.inl ⟨by rfl, ?_⟩) (by assumption) ?_
  rotate_left
  · intro wt hSw; (try dsimp only at hSw); have e00 := cellB hSw e00 y1; have e01 := cellB hSw e01 y1; have e02 := cellB hSw e02 y1; have e03 := cellB hSw e03 y1; have e20 := cellB hSw e20 y2; have e21 := cellB hSw e21 y2; have e22 := cellB hSw e22 y2; have e23 := cellB hSw e23 y2; first | (go_simp; done) | (go_simp; with_reducible rfl) | (trace_state; fail)
  try simp only [Act.put, List.setIfInBounds_toArray, List.set_cons_zero, List.set_cons_succ]
  refine wpAnyH_take (i := 2) (oi := { dst := some 52, op := Op.load 29 (Operand.tmp 51), type := 29, pos := _, after := #[{ on := 1, ground := Ground.data }], guard := none }) (v := ?_) rfl (by kernel_rfl) (by kernel_rfl) (by kernel_rfl) (fun _ _ _ h => h) (Or.inl ⟨by rfl, ?_⟩) (by assumption) ?_
  rotate_left
  · intro wt hSw; (try dsimp only at hSw); have e00 := cellB hSw e00 y1; have e01 := cellB hSw e01 y1; have e02 := cellB hSw e02 y1; have e03 := cellB hSw e03 y1; have e20 := cellB hSw e20 y2; have e21 := cellB hSw e21 y2; have e22 := cellB hSw e22 y2; have e23 := cellB hSw e23 y2; first | (go_simp; done) | (go_simp; with_reducible rfl) | (trace_state; fail)
  try simp only [Act.put, List.setIfInBounds_toArray, List.set_cons_zero, List.set_cons_succ]
  refine wpAnyH_take (i := 4) (oi := { dst := some 54, op := Op.move (Operand.tmp 2), type := 32, pos := _, after := #[], guard := none }) (v := ?_) rfl (by kernel_rfl) (by kernel_rfl) (by kernel_rfl) (fun _ _ _ h => h) (Or.inl ⟨by rfl, ?_⟩) (by assumption) ?_
  rotate_left
  · intro wt hSw; (try dsimp only at hSw); have e00 := cellB hSw e00 y1; have e01 := cellB hSw e01 y1; have e02 := cellB hSw e02 y1; have e03 := cellB hSw e03 y1; have e20 := cellB hSw e20 y2; have e21 := cellB hSw e21 y2; have e22 := cellB hSw e22 y2; have e23 := cellB hSw e23 y2; first | (go_simp; done) | (go_simp; with_reducible rfl) | (trace_state; fail)
  try simp only [Act.put, List.setIfInBounds_toArray, List.set_cons_zero, List.set_cons_succ]
  refine wpAnyH_take (i := 6) (oi := { dst := some 56, op := Op.fieldAddr 39 (Operand.tmp 4) 1, type := 0, pos := _, after := #[], guard := none }) (v := ?_) rfl (by kernel_rfl) (by kernel_rfl) (by kernel_rfl) (fun _ _ _ h => h) (Or.inl ⟨by rfl, ?_⟩) (by assumption) ?_
  rotate_left
  · intro wt hSw; (try dsimp only at hSw); have e00 := cellB hSw e00 y1; have e01 := cellB hSw e01 y1; have e02 := cellB hSw e02 y1; have e03 := cellB hSw e03 y1; have e20 := cellB hSw e20 y2; have e21 := cellB hSw e21 y2; have e22 := cellB hSw e22 y2; have e23 := cellB hSw e23 y2; first | (go_simp; done) | (go_simp; with_reducible rfl) | (trace_state; fail)
  try simp only [Act.put, List.setIfInBounds_toArray, List.set_cons_zero, List.set_cons_succ]
  refine wpAnyH_take (i := 7) (oi := { dst := some 57, op := Op.load 32 (Operand.tmp 56), type := 32, pos := _, after := #[{ on := 6, ground := Ground.data }], guard := none }) (v := ?_) rfl (by kernel_rfl) (by kernel_rfl) (by kernel_rfl) (fun _ _ _ h => h) (Or.inl ⟨by rfl, ?_⟩) (by assumption) ?_
  rotate_left
  · intro wt hSw; (try dsimp only at hSw); have e00 := cellB hSw e00 y1; have e01 := cellB hSw e01 y1; have e02 := cellB hSw e02 y1; have e03 := cellB hSw e03 y1; have e20 := cellB hSw e20 y2; have e21 := cellB hSw e21 y2; have e22 := cellB hSw e22 y2; have e23 := cellB hSw e23 y2; first | (go_simp; done) | (go_simp; with_reducible rfl) | (trace_state; fail)
  try simp only [Act.put, List.setIfInBounds_toArray, List.set_cons_zero, List.set_cons_succ]
  refine wpAnyH_ready (rs := [3]) (by kernel_rfl) (by simp) ?_
  refine AllReadyH.cons (o := { dst := some 53, op := Op.buildSlice 32 0 #[], type := 32, pos := _, after := #[], guard := none }) rfl (fun K hK => ?_) AllReadyH.nil
  go_simp
  refine hK.out _ _ ?_ (fun hHeld => ?_)
  · (try dsimp only); first | assumption | exact Below.alloc hHeld hHeld.size _ | exact (Below.refl _ _).drew | exact Below.drew (Below.refl _ _) | exact Below_drewN _ _ _ | exact Below.refl _ _ | (trace_state; fail)
  clear hK K
  try simp only [Act.put, List.setIfInBounds_toArray, List.set_cons_zero, List.set_cons_succ]
  refine wpAnyH_ready (rs := [5]) (by kernel_rfl) (by simp) ?_
  refine AllReadyH.cons (o := { dst := some 55, op := Op.call { callee := Callee.builtin Builtin.append, args := #[Operand.tmp 53, Operand.tmp 54], argTypes := #[32, 32] }, type := 32, pos := _, after := #[{ on := 3, ground := Ground.data }, { on := 4, ground := Ground.data }], guard := none }) rfl (fun K hK => ?_) AllReadyH.nil
  refine wp_append_src (.tmp 53) (.tmp 54) 32 rfl W5.heap.size 3 ii (.int .i64 0) 1 8 Tryd.underlying32 hi hz hsize hby rfl (by omega) _ 0 [] rfl (hE1 _ (by (repeat' (first | (with_reducible exact Below.refl _ _) | (with_reducible assumption) | (with_reducible refine below_drewN ?_ _) | (with_reducible refine Below.alloc ?_ ?_ _) | (with_reducible refine Below.drew ?_) | (with_reducible refine Below.setCell ?_ ?_ _) | go_size)))) _ nl (iV lo) rfl (HL.out _ (hBW5.trans (Below.mono hHeld hBW5.size))) (by rw [iV_len, HN.out.2]; omega) (iV_one lo) (by unfold maxLen; omega) (by omega) hHeld.size ?_; intro v2 w6 hO2 hG2; have hHeld := grown3 hHeld hHeld.size (hE1 _ (by (repeat' (first | (with_reducible exact Below.refl _ _) | (with_reducible assumption) | (with_reducible refine below_drewN ?_ _) | (with_reducible refine Below.alloc ?_ ?_ _) | (with_reducible refine Below.drew ?_) | (with_reducible refine Below.setCell ?_ ?_ _) | go_size)))) hG2; have hO2 := own_eq2 hO2 (Nat.zero_add nl) (List.nil_append _); have HO2 := Lib.hid hO2; obtain ⟨va, vc, rfl⟩ := owns_form hO2; clear hO2 hG2
  refine hK.out _ _ ?_ (fun hHeld => ?_)
  · (try dsimp only); first | assumption | exact Below.alloc hHeld hHeld.size _ | exact (Below.refl _ _).drew | exact Below.drew (Below.refl _ _) | exact Below_drewN _ _ _ | exact Below.refl _ _ | (trace_state; fail)
  clear hK K
  try simp only [Act.put, List.setIfInBounds_toArray, List.set_cons_zero, List.set_cons_succ]
  refine wpAnyH_ready (rs := [8]) (by kernel_rfl) (by simp) ?_
  refine AllReadyH.cons (o := { dst := some 58, op := Op.call { callee := Callee.builtin Builtin.append, args := #[Operand.tmp 55, Operand.tmp 57], argTypes := #[32, 32] }, type := 32, pos := _, after := #[{ on := 5, ground := Ground.data }, { on := 7, ground := Ground.data }, { on := 5, ground := Ground.chain }], guard := none }) rfl (fun K hK => ?_) AllReadyH.nil
  refine wp_append_src (.tmp 55) (.tmp 57) 32 rfl W5.heap.size 3 ii (.int .i64 0) 1 8 Tryd.underlying32 hi hz hsize hby rfl (by omega) _ nl _ rfl HO2.out _ ns (iV st) rfl (HSs.out _ (hBW5.trans (Below.mono hHeld hBW5.size))) (by rw [iV_len, HN.out.1]; omega) (iV_one st) (by unfold maxLen; omega) (by omega) hHeld.size ?_; intro v3 w7 hO3 hG3; have hHeld := grown3 hHeld hHeld.size HO2.out hG3; have HO3 := Lib.hid (show RowR 1 intR w7 v3 (lo ++ st) from row_of_owns (own_eq2 hO3 (by rw [List.length_append, HN.out.1, HN.out.2]) (by rw [iV_app])) HLS.out); obtain ⟨vb, vd, rfl⟩ := owns_form hO3; clear hO3 hG3
  refine hK.out _ _ ?_ (fun hHeld => ?_)
  · (try dsimp only); first | assumption | exact Below.alloc hHeld hHeld.size _ | exact (Below.refl _ _).drew | exact Below.drew (Below.refl _ _) | exact Below_drewN _ _ _ | exact Below.refl _ _ | (trace_state; fail)
  clear hK K
  try simp only [Act.put, List.setIfInBounds_toArray, List.set_cons_zero, List.set_cons_succ]
  refine wpAnyH_ready (rs := [9]) (by kernel_rfl) (by simp) ?_
  refine AllReadyH.cons (o := { dst := some 59, op := Op.call { callee := Callee.value (Operand.func 13), args := #[Operand.tmp 50, Operand.const (Value.int IntKind.i64 0), Operand.tmp 52, Operand.tmp 58], argTypes := #[27, 3, 29, 32] }, type := 40, pos := _, after := #[{ on := 0, ground := Ground.data }, { on := 2, ground := Ground.data }, { on := 8, ground := Ground.data }, { on := 8, ground := Ground.chain }], guard := none }) rfl (fun K hK => ?_) AllReadyH.nil
  go_simp
  refine (HSt.out _ (lo ++ st) _ (hBW5.trans (hHeld.mono hBW5.size)) HO3.out (by rw [List.length_append, HN.out.1, HN.out.2]; omega)).mono ?_; rintro e w8 ⟨r8, rfl, hr8, hb8⟩; rw [HSb.out.1]; rw [HSb.out.2] at hr8; have HR8 := Lib.hid hr8; obtain ⟨ra8, rc8, rfl⟩ := row_get hr8; rw [Hlen.out] at HR8 ⊢; have hHeld := hHeld.trans (hb8.mono hHeld.size); clear hb8 hr8
  go_wp2_with fail
  refine hK.out _ _ ?_ (fun hHeld => ?_)
  · (try dsimp only); first | assumption | exact Below.alloc hHeld hHeld.size _ | exact (Below.refl _ _).drew | exact Below.drew (Below.refl _ _) | exact Below_drewN _ _ _ | exact Below.refl _ _ | (trace_state; fail)
  clear hK K
  try simp only [Act.put, List.setIfInBounds_toArray, List.set_cons_zero, List.set_cons_succ]
  refine wpAnyH_take (i := 10) (oi := { dst := some 49, op := Op.move (Operand.tmp 59), type := 40, pos := _, after := #[{ on := 9, ground := Ground.data }], guard := none }) (v := ?_) rfl (by kernel_rfl) (by kernel_rfl) (by kernel_rfl) (fun _ _ _ h => h) (Or.inl ⟨by rfl, ?_⟩) (by assumption) ?_
  rotate_left
  · intro wt hSw; (try dsimp only at hSw); have e00 := cellB hSw e00 y1; have e01 := cellB hSw e01 y1; have e02 := cellB hSw e02 y1; have e03 := cellB hSw e03 y1; have e20 := cellB hSw e20 y2; have e21 := cellB hSw e21 y2; have e22 := cellB hSw e22 y2; have e23 := cellB hSw e23 y2; first | (go_simp; done) | (go_simp; with_reducible rfl) | (trace_state; fail)
  try simp only [Act.put, List.setIfInBounds_toArray, List.set_cons_zero, List.set_cons_succ]
  refine wpAnyH_take (i := 11) (oi := { dst := some 60, op := Op.extract (Operand.tmp 49) 0, type := 32, pos := _, after := #[{ on := 10, ground := Ground.data }], guard := none }) (v := ?_) rfl (by kernel_rfl) (by kernel_rfl) (by kernel_rfl) (fun _ _ _ h => h) (Or.inl ⟨by rfl, ?_⟩) (by assumption) ?_
  rotate_left
  · intro wt hSw; (try dsimp only at hSw); have e00 := cellB hSw e00 y1; have e01 := cellB hSw e01 y1; have e02 := cellB hSw e02 y1; have e03 := cellB hSw e03 y1; have e20 := cellB hSw e20 y2; have e21 := cellB hSw e21 y2; have e22 := cellB hSw e22 y2; have e23 := cellB hSw e23 y2; first | (go_simp; done) | (go_simp; with_reducible rfl) | (trace_state; fail)
  try simp only [Act.put, List.setIfInBounds_toArray, List.set_cons_zero, List.set_cons_succ]
  refine wpAnyH_take (i := 12) (oi := { dst := some 61, op := Op.extract (Operand.tmp 49) 1, type := 34, pos := _, after := #[{ on := 10, ground := Ground.data }, { on := 13, ground := Ground.gcOnly Departure.lateStores }], guard := none }) (v := ?_) rfl (by kernel_rfl) (by kernel_rfl) (by kernel_rfl) (fun _ _ _ h => h) (Or.inl ⟨by rfl, ?_⟩) (by assumption) ?_
  rotate_left
  · intro wt hSw; (try dsimp only at hSw); have e00 := cellB hSw e00 y1; have e01 := cellB hSw e01 y1; have e02 := cellB hSw e02 y1; have e03 := cellB hSw e03 y1; have e20 := cellB hSw e20 y2; have e21 := cellB hSw e21 y2; have e22 := cellB hSw e22 y2; have e23 := cellB hSw e23 y2; first | (go_simp; done) | (go_simp; with_reducible rfl) | (trace_state; fail)
  try simp only [Act.put, List.setIfInBounds_toArray, List.set_cons_zero, List.set_cons_succ]
  refine wpAnyH_take (i := 13) (oi := { dst := some 9, op := Op.assign (Operand.tmp 60), type := 32, pos := _, after := #[{ on := 11, ground := Ground.data }, { on := 9, ground := Ground.chain }, { on := 0, ground := Ground.phase }, { on := 1, ground := Ground.phase }, { on := 2, ground := Ground.phase }, { on := 3, ground := Ground.phase }, { on := 4, ground := Ground.phase }, { on := 5, ground := Ground.phase }, { on := 6, ground := Ground.phase }, { on := 7, ground := Ground.phase }, { on := 8, ground := Ground.phase }, { on := 9, ground := Ground.phase }, { on := 10, ground := Ground.phase }, { on := 11, ground := Ground.phase }, { on := 12, ground := Ground.textOnly Departure.lateStores }], guard := none }) (v := ?_) rfl (by kernel_rfl) (by kernel_rfl) (by kernel_rfl) (fun _ _ _ h => h) (Or.inl ⟨by rfl, ?_⟩) (by assumption) ?_
  rotate_left
  · intro wt hSw; (try dsimp only at hSw); have e00 := cellB hSw e00 y1; have e01 := cellB hSw e01 y1; have e02 := cellB hSw e02 y1; have e03 := cellB hSw e03 y1; have e20 := cellB hSw e20 y2; have e21 := cellB hSw e21 y2; have e22 := cellB hSw e22 y2; have e23 := cellB hSw e23 y2; first | (go_simp; done) | (go_simp; with_reducible rfl) | (trace_state; fail)
  try simp only [Act.put, List.setIfInBounds_toArray, List.set_cons_zero, List.set_cons_succ]
  refine wpAnyH_take (i := 14) (oi := { dst := some 10, op := Op.assign (Operand.tmp 61), type := 34, pos := _, after := #[{ on := 12, ground := Ground.data }, { on := 13, ground := Ground.chain }, { on := 0, ground := Ground.phase }, { on := 1, ground := Ground.phase }, { on := 2, ground := Ground.phase }, { on := 3, ground := Ground.phase }, { on := 4, ground := Ground.phase }, { on := 5, ground := Ground.phase }, { on := 6, ground := Ground.phase }, { on := 7, ground := Ground.phase }, { on := 8, ground := Ground.phase }, { on := 9, ground := Ground.phase }, { on := 10, ground := Ground.phase }, { on := 11, ground := Ground.phase }, { on := 12, ground := Ground.phase }, { on := 13, ground := Ground.phase }], guard := none }) (v := ?_) rfl (by kernel_rfl) (by kernel_rfl) (by kernel_rfl) (fun _ _ _ h => h) (Or.inl ⟨by rfl, ?_⟩) (by assumption) ?_
  rotate_left
  · intro wt hSw; (try dsimp only at hSw); have e00 := cellB hSw e00 y1; have e01 := cellB hSw e01 y1; have e02 := cellB hSw e02 y1; have e03 := cellB hSw e03 y1; have e20 := cellB hSw e20 y2; have e21 := cellB hSw e21 y2; have e22 := cellB hSw e22 y2; have e23 := cellB hSw e23 y2; first | (go_simp; done) | (go_simp; with_reducible rfl) | (trace_state; fail)
  try simp only [Act.put, List.setIfInBounds_toArray, List.set_cons_zero, List.set_cons_succ]
  refine wpAnyH_done (by kernel_rfl) ?_ _
  have hB8 := hBW5.trans (hHeld.mono hBW5.size)
  have HR' := Lib.hid (fun W (hb : Below W5.heap.size W5 W) => HRs.out.below hb)
  have HhH := Lib.hid hHeld
  have HE8 := Lib.hid (owns_empty w8 3 1 (base := w8.heap.size) (Nat.le_refl _))
  have HLS2 := Lib.hid (show ∀ z ∈ lo ++ L, I64 z from fun z hz => (List.mem_append.1 hz).elim (fun h => HLS.out z (List.mem_append.2 (Or.inl h))) (HLI.out z))
  have hq12 : q ≤ 100000 := by have h1 := stepS_len (p := p) (u := 0) (o := o) (a := a) (b := b) (st := st); rw [HLL.out, Hq.out] at h1; omega
  clear hE1 hHeld
  go_wp2_with (first | (at_builtin; go_loud (refine wpList_append_src_g (by rfl) (.tmp 66) (.tmp 67) 32 rfl w8.heap.size 3 ii (.int .i64 0) 1 8 Tryd.underlying32 hi hz hsize hby rfl (by omega) _ 0 [] rfl HE8.out _ nl (iV lo) rfl (HL.out _ (hB8.trans (Below.mono (show Below w8.heap.size w8 _ by (repeat' (first | (with_reducible exact Below.refl _ _) | (with_reducible assumption) | (with_reducible refine below_drewN ?_ _) | (with_reducible refine Below.alloc ?_ ?_ _) | (with_reducible refine Below.drew ?_) | (with_reducible refine Below.setCell ?_ ?_ _) | go_size))) hB8.size))) (by rw [iV_len, HN.out.2]; omega) (iV_one lo) (by unfold maxLen; omega) (by omega) (by simp) ?_; intro v9 w9 hO9 hG9; have hB9 := grown3 (show Below w8.heap.size w8 (w8.alloc (.cells #[] 3)) from by (repeat' (first | (with_reducible exact Below.refl _ _) | (with_reducible assumption) | (with_reducible refine below_drewN ?_ _) | (with_reducible refine Below.alloc ?_ ?_ _) | (with_reducible refine Below.drew ?_) | (with_reducible refine Below.setCell ?_ ?_ _) | go_size))) (by simp) HE8.out hG9; have hO9 := own_eq2 hO9 (Nat.zero_add nl) (List.nil_append _); have HO9 := Lib.hid hO9; obtain ⟨v9a, v9c, rfl⟩ := owns_form hO9; clear hO9 hG9)) | (at_builtin; go_loud (refine wpList_append_src_g (by rfl) (.tmp 68) (.tmp 69) 32 rfl w8.heap.size 3 ii (.int .i64 0) 1 8 Tryd.underlying32 hi hz hsize hby rfl (by omega) _ nl _ rfl HO9.out _ q (iV L) rfl (HR'.out _ (HhH.out.trans (Below.mono hB9 HhH.out.size))) (by rw [iV_len, Hq.out]; omega) (iV_one L) (by unfold maxLen; omega) (by omega) hB9.size ?_; intro v10 w10 hO10 hG10; have hB10 := grown3 hB9 hB9.size HO9.out hG10; have HO10 := Lib.hid (show RowR 1 intR w10 v10 (lo ++ L) from row_of_owns (own_eq2 hO10 (by rw [List.length_append, Hq.out, HN.out.2]) (by rw [iV_app])) HLS2.out); obtain ⟨v10a, v10c, rfl⟩ := owns_form hO10; clear hO10 hG10)) | fail)
  refine (ref15_Ints _ _ (lo ++ L) (lo ++ L) _ (HR8.out.below intR_stable hB10) HO10.out).mono ?_; rintro e w11 ⟨rfl, m11, rfl⟩
  rw [decide_eq_true rfl]
  have hB11 := below_drewN (hB8.trans (hB10.mono hB8.size)) m11
  go_wp2_with fail
  refine (HA.out _ hB11).mono ?_; rintro e w12 ⟨rfl, hb12⟩
  go_wp2_with fail
  go_ret
  exact ⟨rfl, hB11.trans (hb12.mono hB11.size)⟩
end Go.Proofs.YtjkblhopdjgkiaaDoor
