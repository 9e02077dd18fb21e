/- Layer 23: the walk of Clone. -/
import Derived.Test.YthanmbfelihkfaaStClone
namespace Go.Proofs.Ythanmbfelihkfaa
open Go.RowKit
set_option linter.unusedSimpArgs false
set_option linter.unusedVariables false
theorem row_ints_all {w : World} {v : Value} {L : List (List Int)} (h : RowR 1 intsR w v L) : ∀ l ∈ L, ∀ z ∈ l, I64 z := by
  intro l hl
  obtain ⟨k, hk, rfl⟩ := List.getElem_of_mem hl
  obtain ⟨a, cap, rfl⟩ := row_get h
  obtain ⟨b, off, _, _, hc⟩ := rows_at h hk
  obtain ⟨u, _, hu⟩ := hc k L[k] (by simp [hk])
  exact row_ints hu
set_option maxHeartbeats 4000000 in
theorem state_Clone (v b : Value) (s : St) (w : World) (h : StAt w v b s) (hsh : shortS s = true) : Calls Try.prog 22 #[.agg #[v, b, .int .i64 s.now, .int .i64 s.fault]] w fun e w' => ∃ (v' b' : Value) (g : Nat) (U : Array Value) (C : Nat), e = .returned (.agg #[v', b', .int .i64 s.now, .int .i64 s.fault]) ∧ OwnSt w.heap.size w' v' b' s g U C ∧ Below w.heap.size w w' := by
  obtain ⟨s1, s2, s3⟩ : s.vars.length ≤ 100 ∧ s.blocks.length ≤ 100 ∧ ∀ l ∈ s.vars, l.length ≤ 100 := of_decide_eq_true hsh
  obtain ⟨i, hi, hz, hsize, hby⟩ : ∃ i, Try.prog.info? 3 = some i ∧ i.zero = some (.int .i64 0) ∧ i.size = 1 ∧ i.bytes = 8 := ⟨(Try.prog.info? 3).get!, by kernel_rfl, by kernel_rfl, by kernel_rfl, by kernel_rfl⟩
  obtain ⟨j, hj, hjz, hjsize, hjby⟩ : ∃ i, Try.prog.info? 45 = some i ∧ i.zero = some (.slice none 0 0) ∧ i.size = 1 ∧ i.bytes = 24 := ⟨(Try.prog.info? 45).get!, by kernel_rfl, by kernel_rfl, by kernel_rfl, by kernel_rfl⟩
  obtain ⟨ii, hii, hiz, hisize, hiby⟩ : ∃ i, Try.prog.info? 62 = some i ∧ i.zero = some (.agg #[.int .i64 0, .int .i64 0, .int .i64 0, .int .i64 0, .int .i64 0, .int .i64 0, .int .i64 0, .int .i64 0, .int .i64 0, .int .i64 0]) ∧ i.size = 10 ∧ i.bytes = 80 := ⟨(Try.prog.info? 62).get!, by kernel_rfl, by kernel_rfl, by kernel_rfl, by kernel_rfl⟩
  have hv := h.vs
  have hbs := h.bs
  obtain ⟨sa, ca, rfl⟩ := row_get h.vs
  obtain ⟨sb, cb, rfl⟩ := row_get h.bs
  generalize hL : s.vars = L at *
  generalize hN : L.length = N at *
  generalize hNB : s.blocks.length = NB at *
  have HL := Lib.hid hL
  have HN := Lib.hid hN
  have HNB := Lib.hid hNB
  have hmk := fun W => run_make W 28 45 j _ Try.underlying28 hj hjz .i64 .i64 (N : Int) (N : Int) (by omega) (by omega) (by rw [hjby]; omega) (by omega)
  rw [hjsize, Nat.mul_one, show ((N : Int)).toNat = N by omega] at hmk
  obtain ⟨Z, hZ⟩ : ∃ Z, madeCells (Value.slice none 0 0).cells N = Z := ⟨_, rfl⟩
  have hZs : Z.size = N := by rw [← hZ]; simp [madeCells]
  rw [hZ] at hmk
  clear hZ
  have mc := @more_cell
  have mf := @more_frozen
  have ms := @more_set
  have md := more_drewN
  have md1 := more_drew
  have mm := more_more
  go_enter Try.func22, Try.ntmps22
  go_wp2_with fail
  clear hmk
  go_loopw [15] (fun jj wr => ∃ (k : Nat) (U : Array Value) (l : Array Obj) (d : Nat), k ≤ N ∧ jj = .int .i64 k ∧ U.size = N ∧ Hid (OwnRows (w.heap.size + 1 + 1 + 1 + 1) 3 wr (U.toList.take k) (L.take k)) ∧ wr = wmore ((((w.alloc (.cells #[.slice sa N ca, .slice sb NB cb, .int .i64 s.now, .int .i64 s.fault] 31)).alloc (.cells #[.slice none 0 0, .slice none 0 0, .int .i64 0, .int .i64 0] 31)).alloc (.cells #[.slice (some ⟨w.heap.size + 1 + 1 + 1, 0, none⟩) N N, .slice sb NB cb, .int .i64 s.now, .int .i64 s.fault] 31)).alloc (.cells U 45)) l d) (fun jj _ => N - (intOf jj).toNat)
  case atStart => exact ⟨0, Z, #[], _, by omega, rfl, hZs, Lib.hid (by simp; exact OwnRows.nil _ _ _), more_start _⟩
  case round =>
    obtain ⟨k, U, l, d, hk, rfl, hU, hR, rfl⟩ := hrel
    have hB : Below w.heap.size w (wmore ((((w.alloc (.cells #[.slice sa N ca, .slice sb NB cb, .int .i64 s.now, .int .i64 s.fault] 31)).alloc (.cells #[.slice none 0 0, .slice none 0 0, .int .i64 0, .int .i64 0] 31)).alloc (.cells #[.slice (some ⟨w.heap.size + 1 + 1 + 1, 0, none⟩) N N, .slice sb NB cb, .int .i64 s.now, .int .i64 s.fault] 31)).alloc (.cells U 45)) l d) := by (repeat' (first | (with_reducible exact Below.refl _ _) | (with_reducible assumption) | (with_reducible refine more_below ?_ ?_ _ _) | (with_reducible refine below_drewN ?_ _) | (with_reducible refine Below.alloc ?_ ?_ _) | (with_reducible refine Below.drew ?_) | (with_reducible refine Below.setCell ?_ ?_ _) | (simp only [World.size_alloc, World.size_setCell, World.size_drew, more_size, World.heap_drewN]; omega) | go_size))
    by_cases hlt : k < N
    · obtain ⟨b, off, rfl, hbw, hc⟩ := rows_at hv (k := k) (by omega)
      obtain ⟨lr, hx⟩ : ∃ lr, L[k]? = some lr := ⟨L[k]'(by omega), by simp [hN, hlt]⟩
      obtain ⟨u, c0, hu⟩ := hc k lr hx
      have c0 := (hB.cell (p := ⟨b, off + k, none⟩) hbw).trans c0
      have hlr : lr.length ≤ 100 := s3 lr (by exact List.mem_of_getElem? hx)
      have hts := Lib.hid (take_snoc hx)
      have hsrc := src_ints hu
      obtain ⟨su, cu, rfl⟩ := row_get hu
      obtain ⟨m, hm⟩ : ∃ m, lr.length = m := ⟨_, rfl⟩
      have Hm := Lib.hid hm
      rw [hm] at hsrc hlr c0
      have Hsrc := Lib.hid (fun W (hW : W = wmore ((((w.alloc (.cells #[.slice (some ⟨b, off, none⟩) N ca, .slice sb NB cb, .int .i64 s.now, .int .i64 s.fault] 31)).alloc (.cells #[.slice none 0 0, .slice none 0 0, .int .i64 0, .int .i64 0] 31)).alloc (.cells #[.slice (some ⟨w.heap.size + 1 + 1 + 1, 0, none⟩) N N, .slice sb NB cb, .int .i64 s.now, .int .i64 s.fault] 31)).alloc (.cells U 45)) l (d + 1)) => show Src W (.slice su m cu) m (iV lr) from by rw [hW]; exact hsrc.below (by (repeat' (first | (with_reducible exact Below.refl _ _) | (with_reducible assumption) | (with_reducible refine more_below ?_ ?_ _ _) | (with_reducible refine below_drewN ?_ _) | (with_reducible refine Below.alloc ?_ ?_ _) | (with_reducible refine Below.drew ?_) | (with_reducible refine Below.setCell ?_ ?_ _) | (simp only [World.size_alloc, World.size_setCell, World.size_drew, more_size, World.heap_drewN]; omega) | go_size))))
      obtain ⟨uk, huk⟩ : ∃ uk, U[k]? = some uk := ⟨U[k]'(by omega), by simp [hU, hlt]⟩
      clear hc hx hu hsrc hm
      go_wp2_with fail
      refine wp_region_held_drew (S := (fun w' => ∃ (l' : Array Obj) (d' : Nat) (U' : Array Value), w' = wmore ((((w.alloc (.cells #[.slice (some ⟨b, off, none⟩) N ca, .slice sb NB cb, .int .i64 s.now, .int .i64 s.fault] 31)).alloc (.cells #[.slice none 0 0, .slice none 0 0, .int .i64 0, .int .i64 0] 31)).alloc (.cells #[.slice (some ⟨w.heap.size + 1 + 1 + 1, 0, none⟩) N N, .slice sb NB cb, .int .i64 s.now, .int .i64 s.fault] 31)).alloc (.cells U' 45)) l' d')) (by kernel_rfl) ?_ (fun hHeld => ?_)
      · (try dsimp only); first | exact ⟨_, _, _, rfl⟩ | exact ⟨_, _, _, more_drew _ _ _⟩ | (trace_state; fail)
      refine wpAnyH_take (i := 0) (oi := { dst := some 20, op := Op.fieldAddr 31 (Operand.tmp 3) 0, type := 0, pos := _, after := #[], guard := none }) (v := ?_) rfl (by kernel_rfl) (by kernel_rfl) (by kernel_rfl) (fun _ _ _ h => h) (Or.inl ⟨by rfl, ?_⟩) (by assumption) ?_
      rotate_left
      · intro w hSw; (try dsimp only at hSw); first | (go_simp; done) | (go_simp; with_reducible rfl)
      try simp only [Act.put, List.setIfInBounds_toArray, List.set_cons_zero, List.set_cons_succ]
      refine wpAnyH_take (i := 1) (oi := { dst := some 21, op := Op.load 28 (Operand.tmp 20), type := 28, pos := _, after := #[{ on := 0, ground := Ground.data }], guard := none }) (v := ?_) rfl (by kernel_rfl) (by kernel_rfl) (by kernel_rfl) (fun _ _ _ h => h) (Or.inl ⟨by rfl, ?_⟩) (by assumption) ?_
      rotate_left
      · intro wt hSw; (try dsimp only at hSw); obtain ⟨lt, dt, Ut, rfl⟩ := hSw; first | (go_simp; done) | (go_simp; with_reducible rfl) | (trace_state; fail)
      try simp only [Act.put, List.setIfInBounds_toArray, List.set_cons_zero, List.set_cons_succ]
      refine wpAnyH_take (i := 2) (oi := { dst := some 22, op := Op.move (Operand.tmp 4), type := 3, pos := _, after := #[], guard := none }) (v := ?_) rfl (by kernel_rfl) (by kernel_rfl) (by kernel_rfl) (fun _ _ _ h => h) (Or.inl ⟨by rfl, ?_⟩) (by assumption) ?_
      rotate_left
      · intro w hSw; (try dsimp only at hSw); first | (go_simp; done) | (go_simp; with_reducible rfl)
      try simp only [Act.put, List.setIfInBounds_toArray, List.set_cons_zero, List.set_cons_succ]
      refine wpAnyH_take (i := 3) (oi := { dst := some 23, op := Op.move (Operand.tmp 5), type := 45, pos := _, after := #[], guard := none }) (v := ?_) rfl (by kernel_rfl) (by kernel_rfl) (by kernel_rfl) (fun _ _ _ h => h) (Or.inl ⟨by rfl, ?_⟩) (by assumption) ?_
      rotate_left
      · intro w hSw; (try dsimp only at hSw); first | (go_simp; done) | (go_simp; with_reducible rfl)
      try simp only [Act.put, List.setIfInBounds_toArray, List.set_cons_zero, List.set_cons_succ]
      refine wpAnyH_ready (rs := [4]) (by kernel_rfl) (by simp) ?_
      refine AllReadyH.cons (o := { dst := some 24, op := Op.call { callee := Callee.builtin Builtin.append, args := #[Operand.const (Value.slice none 0 0), Operand.tmp 23], argTypes := #[45, 45] }, type := 45, pos := _, after := #[{ on := 3, ground := Ground.data }], guard := none }) rfl (fun K hK => ?_) AllReadyH.nil
      refine wp_append_src _ (.tmp 23) 45 rfl _ 3 i (.int .i64 0) 1 8 Try.underlying45 hi hz hsize hby rfl (by omega) (.slice none 0 0) 0 [] rfl (World.ownsRow_nil _ _ _ _) _ m (iV lr) rfl (Hsrc.out _ rfl) (by rw [iV_len, Hm.out]; omega) (iV_one lr) (by unfold maxLen; omega) (by omega) (Nat.le_refl _) ?_; intro v2 w2 hO2 hG2; have hb2 := below_none hG2; obtain ⟨l2, d2, rfl⟩ := more_of hb2; simp only [more_drew, more_more, Nat.zero_add, List.nil_append] at hO2 ⊢; obtain ⟨av, cv, rfl⟩ := owns_form hO2; have HO2 := Lib.hid hO2; clear hO2 hG2 hb2
      refine hK.out _ _ ?_ (fun hHeld => ?_)
      · (try dsimp only); first | exact ⟨_, _, _, rfl⟩ | exact ⟨_, _, _, more_drew _ _ _⟩ | (trace_state; fail)
      clear hK K
      try simp only [Act.put, List.setIfInBounds_toArray, List.set_cons_zero, List.set_cons_succ]
      refine wpAnyH_take (i := 5) (oi := { dst := some 25, op := Op.indexAddr 28 (Operand.tmp 21) (Operand.tmp 22), type := 0, pos := _, after := #[{ on := 1, ground := Ground.data }, { on := 2, ground := Ground.data }, { on := 0, ground := Ground.phase }, { on := 1, ground := Ground.phase }, { on := 2, ground := Ground.phase }, { on := 3, ground := Ground.phase }, { on := 4, ground := Ground.phase }], guard := none }) (v := ?_) rfl (by kernel_rfl) (by kernel_rfl) (by kernel_rfl) (fun _ _ _ h => h) (Or.inl ⟨by rfl, ?_⟩) (by assumption) ?_
      rotate_left
      · intro w hSw; (try dsimp only at hSw); first | (go_simp; done) | (go_simp; with_reducible rfl)
      try simp only [Act.put, List.setIfInBounds_toArray, List.set_cons_zero, List.set_cons_succ]
      refine wpAnyH_ready (rs := [6]) (by kernel_rfl) (by simp) ?_
      refine AllReadyH.cons (o := { dst := none, op := Op.store 45 (Operand.tmp 25) (Operand.tmp 24), type := 0, pos := _, after := #[{ on := 5, ground := Ground.data }, { on := 4, ground := Ground.data }, { on := 4, ground := Ground.chain }, { on := 0, ground := Ground.phase }, { on := 1, ground := Ground.phase }, { on := 2, ground := Ground.phase }, { on := 3, ground := Ground.phase }, { on := 4, ground := Ground.phase }], guard := none }) rfl (fun K hK => ?_) AllReadyH.nil
      go_simp
      refine hK.out _ _ ?_ (fun hHeld => ?_)
      · (try dsimp only); first | exact ⟨_, _, _, rfl⟩ | exact ⟨_, _, _, more_drew _ _ _⟩ | (trace_state; fail)
      clear hK K
      try simp only [Act.put, List.setIfInBounds_toArray, List.set_cons_zero, List.set_cons_succ]
      refine wpAnyH_done (by kernel_rfl) ?_ _
      go_wp2_with fail
      go_roundw
      case rel => exact ⟨k + 1, _, l ++ l2, d2, by omega, by simp, by simp [hU], Lib.hid (by
        rw [take_set (by omega), hts.out]
        exact (OwnRows.snoc hR.out (more_grow _ l l2 d d2) (by simp [more_size]) (own_eq2 HO2.out Hm.out.symm rfl)).congr (more_congr (by simp) (by simp))), rfl⟩
      case measure => first | (simp [intOf]; done) | (simp [intOf]; omega)
    · obtain rfl : k = N := by omega
      have hsrcb := src_insts hbs
      have hlens := inst_lens hbs
      have hbl := bV_len (fun l hl => (hlens l hl).1)
      rw [hNB] at hsrcb hbl
      have HS := Lib.hid (fun W (hW : Below w.heap.size w W) => hsrcb.below hW)
      have HBL := Lib.hid hbl
      clear hsrcb hbl
      have hint := row_ints_all hv
      go_wp2_with (first | (at_builtin; go_loud (refine wpList_append_src rfl _ (.tmp 28) 29 rfl _ 62 ii (.agg #[.int .i64 0, .int .i64 0, .int .i64 0, .int .i64 0, .int .i64 0, .int .i64 0, .int .i64 0, .int .i64 0, .int .i64 0, .int .i64 0]) 10 80 Try.underlying29 hii hiz hisize hiby rfl (by omega) (.slice none 0 0) 0 [] rfl (World.ownsRow_nil _ _ _ _) _ NB (bV s.blocks) rfl (HS.out _ (by (repeat' (first | (with_reducible exact Below.refl _ _) | (with_reducible assumption) | (with_reducible refine more_below ?_ ?_ _ _) | (with_reducible refine below_drewN ?_ _) | (with_reducible refine Below.alloc ?_ ?_ _) | (with_reducible refine Below.drew ?_) | (with_reducible refine Below.setCell ?_ ?_ _) | (simp only [World.size_alloc, World.size_setCell, World.size_drew, more_size, World.heap_drewN]; omega) | go_size)))) HBL.out (bV_one _) (by unfold maxLen; omega) (by omega) (Nat.le_refl _) ?_; intro v2 w2 hO2 hG2; have hb2 := below_none hG2; obtain ⟨l2, d2, rfl⟩ := more_of hb2; simp only [more_drew, more_more, Nat.zero_add, List.nil_append] at hO2 ⊢; obtain ⟨av, cv, rfl⟩ := owns_form hO2; have HO2 := Lib.hid hO2; clear hO2 hG2 hb2)) | fail)
      refine bodyPost_ret (by simp [results, Try.results22, go_sem, more_cell, more_size, more_frozen]; try rfl) rfl ?_
      refine ⟨_, _, w.heap.size + 1 + 1 + 1, U, w.heap.size + 1 + 1 + 1 + 1 + l.size, rfl, ?_, by (repeat' (first | (with_reducible exact Below.refl _ _) | (with_reducible assumption) | (with_reducible refine more_below ?_ ?_ _ _) | (with_reducible refine below_drewN ?_ _) | (with_reducible refine Below.alloc ?_ ?_ _) | (with_reducible refine Below.drew ?_) | (with_reducible refine Below.setCell ?_ ?_ _) | (simp only [World.size_alloc, World.size_setCell, World.size_drew, more_size, World.heap_drewN]; omega) | go_size))⟩
      refine ⟨by rw [HL.out, HN.out], by omega, by omega, ?_, by rw [HL.out, HN.out, hU], ?_, own_base (own_eq2 (owns_congr HO2.out (more_congr (by simp) (by simp [more_size]))) HNB.out.symm rfl) (by simp [more_size]), by rw [HL.out]; exact hint, hlens, h.n64, h.f64, by rw [HL.out, HN.out]; exact s1⟩
      · rw [more_get _ _ _ (by simp)]
        exact alloc_get (by simp)
      · rw [HL.out]
        have hr := hR.out
        rw [List.take_of_length_le (by simp; omega), List.take_of_length_le (by omega)] at hr
        exact (hr.below (more_grow _ l l2 d d2)).congr (more_congr (by simp) (by simp))
end Go.Proofs.Ythanmbfelihkfaa
