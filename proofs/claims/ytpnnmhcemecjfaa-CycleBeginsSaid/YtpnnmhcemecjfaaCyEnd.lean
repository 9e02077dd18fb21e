/- Layer 24: a scan's end, by both. -/
import Derived.Test.YtpnnmhcemecjfaaStAreaR
import Derived.Test.YtpnnmhcemecjfaaCyOwn
namespace Go.Proofs.Ytpnnmhcemecjfaa
open Go.RowKit
set_option linter.unusedSimpArgs false
set_option linter.unusedVariables false
def offV (L : List Vr) (s : St) : List Int := List.replicate (areaF L s.vars 2).length 0
def endS (s t : St) (f : Int) : St := if f = 0 then t else { s with fault := f }
def endO (L : List Vr) (s t : St) (f : Int) : List Int := if f = 0 then areaF L t.vars 2 else offV L s
theorem endS_0 {s t : St} {f : Int} (h : f = 0) : endS s t f = t := if_pos h
theorem endS_1 {s t : St} {f : Int} (h : ¬ f = 0) : endS s t f = { s with fault := f } := if_neg h
theorem endO_0 {L : List Vr} {s t : St} {f : Int} (h : f = 0) : endO L s t f = areaF L t.vars 2 := if_pos h
theorem endO_1 {L : List Vr} {s t : St} {f : Int} (h : ¬ f = 0) : endO L s t f = offV L s := if_neg h
theorem st_fault {w : World} {v b : Value} {s : St} {f : Int} (h : StAt w v b s) (hf : I64 f) : StAt w v b { s with fault := f } := ⟨h.vs, h.bs, h.n64, hf⟩
theorem more_dd (A : World) (l : Array Obj) (d d' : Nat) (B : Nat) : Below B (wmore A l d) (wmore A l d') := ⟨rfl, rfl, rfl, Nat.le_refl _, fun _ _ => rfl⟩
theorem C4.past {A A' : World} {l : Array Obj} {d d' : Nat} {g : Nat} {x y z u : Value} (h : C4 (wmore A l d) g x y z u) (hA : A.heap.size = A'.heap.size) (hg : A.heap.size ≤ g) : C4 (wmore A' l d') g x y z u := by
  have e : (wmore A' l d').heap[g]? = (wmore A l d).heap[g]? := more_congr hA hg g (Nat.le_refl _)
  obtain ⟨h0, h1, h2, h3⟩ := h
  unfold World.cell? at h0 h1 h2 h3
  refine ⟨?_, ?_, ?_, ?_⟩ <;> (unfold World.cell?; rw [show (⟨g, _, none⟩ : Addr).block = g from rfl] at *; rw [e]; assumption)
theorem own_zeros {w : World} {g n B : Nat} {Z : Array Value} {t : TypeId} (hg : g = w.heap.size) (hB : B ≤ w.heap.size) (hn : n ≤ 100000) (hZ : ∀ i, i < n → Z[i]? = some (.int .i64 0)) (hs : Z.size = n) : (w.alloc (.cells Z t)).ownsRow B t 1 (.slice (some ⟨g, 0, none⟩) n n) (List.replicate n (0 : Int)).length (iV (List.replicate n 0)) := by
  subst hg
  refine ⟨by rw [iV_len]; simp, Or.inr ⟨w.heap.size, n, Z, by rw [List.length_replicate], hB, alloc_get rfl, by rw [List.length_replicate]; exact Nat.le_refl _, by unfold maxLen; omega, by omega, ?_⟩⟩
  apply List.ext_getElem?
  intro i
  rw [List.getElem?_take, List.length_replicate]
  by_cases hi : i < n
  · rw [if_pos (by omega)]
    have := hZ i hi
    simp [iV, hi]
    simpa using this
  · rw [if_neg (by omega)]
    simp [iV, hi]
theorem made_zeros (n i : Nat) (h : i < n) : (madeCells (Value.int .i64 0).cells n)[i]? = some (.int .i64 0) := by
  simp [madeCells, h, Value.cells, Nat.mod_one]
set_option maxHeartbeats 4000000 in
theorem cycle_OffO (vv v b : Value) (L : List Vr) (s : St) (w : World) (hvv : RowR 5 varR w vv L) (h : StAt w v b s) (hsh : shortS s = true) (hL : L.length ≤ 70) :
    Calls Try.prog 15 #[vv, .agg #[v, b, .int .i64 s.now, .int .i64 s.fault]] w fun e w' => ∃ r : Value, e = .returned r ∧ w'.ownsRow w.heap.size 3 1 r (offV L s).length (iV (offV L s)) ∧ Below w.heap.size w w' := by
  obtain ⟨s1, s2, s3⟩ : s.vars.length ≤ 100 ∧ s.blocks.length ≤ 100 ∧ ∀ l ∈ s.vars, l.length ≤ 100 := of_decide_eq_true hsh
  obtain ⟨i, hi, hz, hsize, hby⟩ : ∃ i, Try.prog.info? 3 = some i ∧ i.zero = some (.int .i64 0) ∧ i.size = 1 ∧ i.bytes = 8 := ⟨(Try.prog.info? 3).get!, by kernel_rfl, by kernel_rfl, by kernel_rfl, by kernel_rfl⟩
  have hlen := areaF_len (vs := L) (a := 2) s3
  have hA := Lib.hid (fun W (hb : Below w.heap.size w W) => state_Area vv v b L s 2 W (hvv.below varR_stable hb) (h.below hb) hsh hL)
  have HO : offV L s = List.replicate (areaF L s.vars 2).length 0 := rfl
  have HO := Lib.hid HO
  clear h hvv
  generalize areaF L s.vars 2 = R at *
  obtain ⟨N, hN⟩ : ∃ N, R.length = N := ⟨_, rfl⟩
  have HN := Lib.hid hN
  rw [hN] at hlen
  have hmk := fun W => run_make W 32 3 i _ Try.underlying32 hi hz .i64 .i64 (N : Int) (N : Int) (by omega) (by omega) (by rw [hby]; omega) (by omega)
  rw [hsize, Nat.mul_one, show ((N : Int)).toNat = N by omega] at hmk
  have cp := @cell_past
  go_enter Try.func15, Try.ntmps15
  go_wp2_with fail
  refine (hA.out _ (by (repeat' (first | (with_reducible exact Below.refl _ _) | (with_reducible assumption) | (with_reducible refine below_drewN ?_ _) | (with_reducible refine Below.alloc ?_ ?_ _) | (with_reducible refine Below.drew ?_) | (with_reducible refine Below.setCell ?_ ?_ _) | go_size)))).mono ?_; rintro e W1 ⟨r, rfl, hr, hb1⟩
  have hB1 : Below w.heap.size w W1 := Below.trans (by (repeat' (first | (with_reducible exact Below.refl _ _) | (with_reducible assumption) | (with_reducible refine below_drewN ?_ _) | (with_reducible refine Below.alloc ?_ ?_ _) | (with_reducible refine Below.drew ?_) | (with_reducible refine Below.setCell ?_ ?_ _) | go_size))) (hb1.mono (by simp))
  obtain ⟨ar, cr, rfl⟩ := row_get hr
  rw [hN] at hr ⊢
  clear hr hN
  go_wp2_with fail
  go_returns
  exact ⟨_, rfl, by rw [HO.out, HN.out]; exact own_zeros rfl hB1.size (by omega) (fun j hj => made_zeros N j hj) (by simp [madeCells]), hB1.trans (by (show Below _ W1 _); exact (show Below W1.heap.size W1 _ by (repeat' (first | (with_reducible exact Below.refl _ _) | (with_reducible assumption) | (with_reducible refine below_drewN ?_ _) | (with_reducible refine Below.alloc ?_ ?_ _) | (with_reducible refine Below.drew ?_) | (with_reducible refine Below.setCell ?_ ?_ _) | go_size))).mono hB1.size)⟩
set_option maxHeartbeats 4000000 in
theorem ref24_OffO (vv v b : Value) (L : List Vr) (s : St) (w : World) (hvv : RowR 5 varR w vv L) (h : StAt w v b s) (hsh : shortS s = true) (hL : L.length ≤ 70) :
    Calls Try.prog 16 #[vv, .agg #[v, b, .int .i64 s.now, .int .i64 s.fault]] w fun e w' => ∃ r : Value, e = .returned r ∧ w'.ownsRow w.heap.size 3 1 r (offV L s).length (iV (offV L s)) ∧ Below w.heap.size w w' := by
  obtain ⟨s1, s2, s3⟩ : s.vars.length ≤ 100 ∧ s.blocks.length ≤ 100 ∧ ∀ l ∈ s.vars, l.length ≤ 100 := of_decide_eq_true hsh
  obtain ⟨i, hi, hz, hsize, hby⟩ : ∃ i, Try.prog.info? 3 = some i ∧ i.zero = some (.int .i64 0) ∧ i.size = 1 ∧ i.bytes = 8 := ⟨(Try.prog.info? 3).get!, by kernel_rfl, by kernel_rfl, by kernel_rfl, by kernel_rfl⟩
  have hlen := areaF_len (vs := L) (a := 2) s3
  have hA := Lib.hid (fun W (hb : Below w.heap.size w W) => ref23_Area vv v b L s 2 W (hvv.below varR_stable hb) (h.below hb) hsh hL)
  have HO : offV L s = List.replicate (areaF L s.vars 2).length 0 := rfl
  have HO := Lib.hid HO
  clear h hvv
  generalize areaF L s.vars 2 = R at *
  obtain ⟨N, hN⟩ : ∃ N, R.length = N := ⟨_, rfl⟩
  have HN := Lib.hid hN
  rw [hN] at hlen
  have hmk := fun W => run_make W 32 3 i _ Try.underlying32 hi hz .i64 .i64 (N : Int) (N : Int) (by omega) (by omega) (by rw [hby]; omega) (by omega)
  rw [hsize, Nat.mul_one, show ((N : Int)).toNat = N by omega] at hmk
  have cp := @cell_past
  go_enter Try.func16, Try.ntmps16
  go_wp2_with fail
  refine (hA.out _ (by (repeat' (first | (with_reducible exact Below.refl _ _) | (with_reducible assumption) | (with_reducible refine below_drewN ?_ _) | (with_reducible refine Below.alloc ?_ ?_ _) | (with_reducible refine Below.drew ?_) | (with_reducible refine Below.setCell ?_ ?_ _) | go_size)))).mono ?_; rintro e W1 ⟨r, rfl, hr, hb1⟩
  have hB1 : Below w.heap.size w W1 := Below.trans (by (repeat' (first | (with_reducible exact Below.refl _ _) | (with_reducible assumption) | (with_reducible refine below_drewN ?_ _) | (with_reducible refine Below.alloc ?_ ?_ _) | (with_reducible refine Below.drew ?_) | (with_reducible refine Below.setCell ?_ ?_ _) | go_size))) (hb1.mono (by simp))
  obtain ⟨ar, cr, rfl⟩ := row_get hr
  rw [hN] at hr ⊢
  clear hr hN
  go_wp2_with fail
  go_returns
  exact ⟨_, rfl, by rw [HO.out, HN.out]; exact own_zeros rfl hB1.size (by omega) (fun j hj => made_zeros N j hj) (by simp [madeCells]), hB1.trans (by (show Below _ W1 _); exact (show Below W1.heap.size W1 _ by (repeat' (first | (with_reducible exact Below.refl _ _) | (with_reducible assumption) | (with_reducible refine below_drewN ?_ _) | (with_reducible refine Below.alloc ?_ ?_ _) | (with_reducible refine Below.drew ?_) | (with_reducible refine Below.setCell ?_ ?_ _) | go_size))).mono hB1.size)⟩
set_option maxHeartbeats 4000000 in
theorem cycle_End (vv v b v2 b2 : Value) (L : List Vr) (s t : St) (f : Int) (w : World) (hvv : RowR 5 varR w vv L) (h : StAt w v b s) (k : StAt w v2 b2 t) (hsh : shortS s = true) (ksh : shortS t = true) (hL : L.length ≤ 70) (hf : I64 f) :
    Calls Try.prog 12 #[vv, .agg #[v, b, .int .i64 s.now, .int .i64 s.fault], .agg #[v2, b2, .int .i64 t.now, .int .i64 t.fault], .int .i64 f] w fun e w' => ∃ v' b' r : Value, e = .returned (.tuple #[.agg #[v', b', .int .i64 (endS s t f).now, .int .i64 (endS s t f).fault], r]) ∧ StAt w' v' b' (endS s t f) ∧ RowR 1 intR w' r (endO L s t f) ∧ Below w.heap.size w w' := by
  have cp := @cell_past
  have mc := @more_cell
  have mf := @more_frozen
  have ms := @more_set
  have md := more_drewN
  have md1 := more_drew
  have mm := more_more
  have HI1 := Lib.hid (areaF_ints (vs := L) (a := 2) (row_ints_all k.vs))
  have HI2 : ∀ z ∈ offV L s, I64 z := fun z hz => by rw [(List.mem_replicate.1 hz).2]; unfold I64; omega
  have HI2 := Lib.hid HI2
  by_cases hf0 : f = 0
  · rw [endS_0 hf0, endO_0 hf0]
    have q0 : (f == 0) = true := by simpa using hf0
    have hC := Lib.hid (fun W (hb : Below w.heap.size w W) => state_Clone v2 b2 t W (k.below hb) ksh)
    have hA := Lib.hid (fun W (hb : Below w.heap.size w W) => state_AreaO vv v2 b2 L t 2 W (hvv.below varR_stable hb) (k.below hb) ksh hL)
    clear hf0
    go_enter Try.func12, Try.ntmps12
    go_wp2_with fail
    refine wp_region_held_drew (S := (fun w' => ∃ (l' : Array Obj) (d' : Nat) (X' : Array Value), w' = wmore (((w.alloc (.cells #[v, b, .int .i64 s.now, .int .i64 s.fault] 31)).alloc (.cells #[v2, b2, .int .i64 t.now, .int .i64 t.fault] 31)).alloc (.cells X' 31)) l' d')) (by kernel_rfl) ?_ (fun hHeld => ?_)
    · (try dsimp only); first | exact ⟨_, _, _, rfl⟩ | exact ⟨_, _, _, more_drew _ _ _⟩ | exact ⟨#[], _, _, more_start _⟩ | (trace_state; fail)
    refine wpAnyH_take (i := 0) (oi := { dst := some 13, op := Op.load 31 (Operand.tmp 6), type := 31, pos := _, after := #[], guard := none }) (v := ?_) rfl (by kernel_rfl) (by kernel_rfl) (by kernel_rfl) (fun _ _ _ h => h) (Or.inl ⟨by rfl, ?_⟩) (by assumption) ?_
    rotate_left
    · intro wt hSw; (try dsimp only at hSw); obtain ⟨lt, dt, Xt, rfl⟩ := hSw; first | (go_simp; done) | (go_simp; with_reducible rfl) | (trace_state; fail)
    try simp only [Act.put, List.setIfInBounds_toArray, List.set_cons_zero, List.set_cons_succ]
    refine wpAnyH_take (i := 2) (oi := { dst := some 15, op := Op.move (Operand.tmp 0), type := 23, pos := _, after := #[], guard := none }) (v := ?_) rfl (by kernel_rfl) (by kernel_rfl) (by kernel_rfl) (fun _ _ _ h => h) (Or.inl ⟨by rfl, ?_⟩) (by assumption) ?_
    rotate_left
    · intro w hSw; (try dsimp only at hSw); first | (go_simp; done) | (go_simp; with_reducible rfl)
    try simp only [Act.put, List.setIfInBounds_toArray, List.set_cons_zero, List.set_cons_succ]
    refine wpAnyH_take (i := 3) (oi := { dst := some 16, op := Op.load 31 (Operand.tmp 6), type := 31, pos := _, after := #[], guard := none }) (v := ?_) rfl (by kernel_rfl) (by kernel_rfl) (by kernel_rfl) (fun _ _ _ h => h) (Or.inl ⟨by rfl, ?_⟩) (by assumption) ?_
    rotate_left
    · intro wt hSw; (try dsimp only at hSw); obtain ⟨lt, dt, Xt, rfl⟩ := hSw; first | (go_simp; done) | (go_simp; with_reducible rfl) | (trace_state; fail)
    try simp only [Act.put, List.setIfInBounds_toArray, List.set_cons_zero, List.set_cons_succ]
    refine wpAnyH_ready (rs := [1]) (by kernel_rfl) (by simp) ?_
    refine AllReadyH.cons (o := { dst := some 14, op := Op.call { callee := Callee.value (Operand.func 18), args := #[Operand.tmp 13], argTypes := #[31] }, type := 31, pos := _, after := #[{ on := 0, ground := Ground.data }], guard := none }) rfl (fun K hK => ?_) AllReadyH.nil
    go_simp
    refine (hC.out _ (by (repeat' (first | (with_reducible exact Below.refl _ _) | (with_reducible assumption) | (with_reducible refine more_below ?_ ?_ _ _) | (with_reducible refine below_drewN ?_ _) | (with_reducible refine Below.alloc ?_ ?_ _) | (with_reducible refine Below.drew ?_) | (with_reducible refine Below.setCell ?_ ?_ _) | (simp only [World.size_alloc, World.size_setCell, World.size_drew, more_size, World.heap_drewN]; omega) | go_size)))).mono ?_; rintro e W1 ⟨v', b', g, U, C, rfl, hO, hb1⟩; have hO := Lib.hid hO; obtain rfl := hO.out.form; obtain ⟨ab, cbb, rfl⟩ := owns_form hO.out.inst; obtain ⟨l1, d1, rfl⟩ := more_of hb1; simp only [mm] at hO ⊢; clear hb1
    go_wp2_with fail
    refine hK.out _ _ ?_ (fun hHeld => ?_)
    · (try dsimp only); first | exact ⟨_, _, _, rfl⟩ | exact ⟨_, _, _, more_drew _ _ _⟩ | exact ⟨#[], _, _, more_start _⟩ | (trace_state; fail)
    clear hK K
    try simp only [Act.put, List.setIfInBounds_toArray, List.set_cons_zero, List.set_cons_succ]
    refine wpAnyH_ready (rs := [4]) (by kernel_rfl) (by simp) ?_
    refine AllReadyH.cons (o := { dst := some 17, op := Op.call { callee := Callee.value (Operand.func 23), args := #[Operand.tmp 15, Operand.tmp 16, Operand.const (Value.int IntKind.i64 2)], argTypes := #[23, 31, 3] }, type := 32, pos := _, after := #[{ on := 2, ground := Ground.data }, { on := 3, ground := Ground.data }, { on := 1, ground := Ground.chain }], guard := none }) rfl (fun K hK => ?_) AllReadyH.nil
    go_simp
    refine (hA.out _ (by (repeat' (first | (with_reducible exact Below.refl _ _) | (with_reducible assumption) | (with_reducible refine more_below ?_ ?_ _ _) | (with_reducible refine below_drewN ?_ _) | (with_reducible refine Below.alloc ?_ ?_ _) | (with_reducible refine Below.drew ?_) | (with_reducible refine Below.setCell ?_ ?_ _) | (simp only [World.size_alloc, World.size_setCell, World.size_drew, more_size, World.heap_drewN]; omega) | go_size)))).mono ?_; rintro e W2 ⟨r, rfl, hr, hb2⟩; have hO := Lib.hid (hO.out.below (Below.trans (by (repeat' (first | (with_reducible exact Below.refl _ _) | (with_reducible assumption) | (with_reducible refine more_below ?_ ?_ _ _) | (with_reducible refine below_drewN ?_ _) | (with_reducible refine Below.alloc ?_ ?_ _) | (with_reducible refine Below.drew ?_) | (with_reducible refine Below.setCell ?_ ?_ _) | (simp only [World.size_alloc, World.size_setCell, World.size_drew, more_size, World.heap_drewN]; omega) | go_size))) hb2)); have hr := Lib.hid hr; obtain ⟨l2, d2, rfl⟩ := more_of hb2; simp only [mm] at hO hr ⊢; clear hb2
    go_wp2_with fail
    refine hK.out _ _ ?_ (fun hHeld => ?_)
    · (try dsimp only); first | exact ⟨_, _, _, rfl⟩ | exact ⟨_, _, _, more_drew _ _ _⟩ | exact ⟨#[], _, _, more_start _⟩ | (trace_state; fail)
    clear hK K
    try simp only [Act.put, List.setIfInBounds_toArray, List.set_cons_zero, List.set_cons_succ]
    refine wpAnyH_ready (rs := [5]) (by kernel_rfl) (by simp) ?_
    refine AllReadyH.cons (o := { dst := none, op := Op.store 31 (Operand.tmp 8) (Operand.tmp 14), type := 0, pos := _, after := #[{ on := 1, ground := Ground.data }, { on := 4, ground := Ground.chain }, { on := 0, ground := Ground.phase }, { on := 1, ground := Ground.phase }, { on := 2, ground := Ground.textOnly Departure.lateStores }, { on := 3, ground := Ground.textOnly Departure.lateStores }, { on := 4, ground := Ground.textOnly Departure.lateStoresUnsure }], guard := none }) rfl (fun K hK => ?_) AllReadyH.nil
    go_simp
    refine hK.out _ _ ?_ (fun hHeld => ?_)
    · (try dsimp only); first | exact ⟨_, _, _, rfl⟩ | exact ⟨_, _, _, more_drew _ _ _⟩ | exact ⟨#[], _, _, more_start _⟩ | (trace_state; fail)
    clear hK K
    try simp only [Act.put, List.setIfInBounds_toArray, List.set_cons_zero, List.set_cons_succ]
    refine wpAnyH_take (i := 6) (oi := { dst := some 9, op := Op.assign (Operand.tmp 17), type := 32, pos := _, after := #[{ on := 4, ground := Ground.data }, { on := 5, ground := Ground.chain }, { on := 0, ground := Ground.phase }, { on := 1, ground := Ground.phase }, { on := 2, ground := Ground.phase }, { on := 3, ground := Ground.phase }, { on := 4, ground := Ground.phase }, { on := 5, ground := Ground.phase }], guard := none }) (v := ?_) rfl (by kernel_rfl) (by kernel_rfl) (by kernel_rfl) (fun _ _ _ h => h) (Or.inl ⟨by rfl, ?_⟩) (by assumption) ?_
    rotate_left
    · intro w hSw; (try dsimp only at hSw); first | (go_simp; done) | (go_simp; with_reducible rfl)
    try simp only [Act.put, List.setIfInBounds_toArray, List.set_cons_zero, List.set_cons_succ]
    refine wpAnyH_done (by kernel_rfl) ?_ _
    go_wp2_with fail
    refine bodyPost_ret (by simp [results, Try.results12, go_sem, more_cell, more_size, more_frozen]; try rfl) rfl ?_
    refine ⟨_, _, _, rfl, ?st, ?row, by (repeat' (first | (with_reducible exact Below.refl _ _) | (with_reducible assumption) | (with_reducible refine more_below ?_ ?_ _ _) | (with_reducible refine below_drewN ?_ _) | (with_reducible refine Below.alloc ?_ ?_ _) | (with_reducible refine Below.drew ?_) | (with_reducible refine Below.setCell ?_ ?_ _) | (simp only [World.size_alloc, World.size_setCell, World.size_drew, more_size, World.heap_drewN]; omega) | go_size))⟩
    case st => exact (hO.out.congr (more_congr (by simp) (by simp [more_size] <;> omega))).st
    case row => exact row_of_owns (owns_congr hr.out (more_congr (by simp) (by simp [more_size] <;> omega))) HI1.out
  · rw [endS_1 hf0, endO_1 hf0]
    have q0 : (f == 0) = false := by simpa using hf0
    have hC := Lib.hid (fun W (hb : Below w.heap.size w W) => state_Clone v b s W (h.below hb) hsh)
    have hA := Lib.hid (fun W (hb : Below w.heap.size w W) => cycle_OffO vv v b L s W (hvv.below varR_stable hb) (h.below hb) hsh hL)
    clear hf0
    go_enter Try.func12, Try.ntmps12
    go_wp2_with fail
    refine (hC.out _ (by (repeat' (first | (with_reducible exact Below.refl _ _) | (with_reducible assumption) | (with_reducible refine more_below ?_ ?_ _ _) | (with_reducible refine below_drewN ?_ _) | (with_reducible refine Below.alloc ?_ ?_ _) | (with_reducible refine Below.drew ?_) | (with_reducible refine Below.setCell ?_ ?_ _) | (simp only [World.size_alloc, World.size_setCell, World.size_drew, more_size, World.heap_drewN]; omega) | go_size)))).mono ?_; rintro e W1 ⟨v', b', g, U, C, rfl, hO, hb1⟩
    obtain rfl := hO.form
    obtain ⟨ab, cbb, rfl⟩ := owns_form hO.inst
    have hO := Lib.hid hO
    obtain ⟨l1, d1, rfl⟩ := more_of hb1
    simp only [mm] at hO ⊢
    clear hb1
    go_wp2_with fail
    have hk4 := C4.new (wmore (((w.alloc (.cells #[v, b, .int .i64 s.now, .int .i64 s.fault] 31)).alloc (.cells #[v2, b2, .int .i64 t.now, .int .i64 t.fault] 31)).alloc (.cells #[.slice none 0 0, .slice none 0 0, .int .i64 0, .int .i64 0] 31)) l1 d1) (.slice (some ⟨g, 0, none⟩) s.vars.length s.vars.length) (.slice ab s.blocks.length cbb) (.int .i64 s.now) (.int .i64 f) 31 (Below.refl _ _)
    have hO := Lib.hid (hO.out.below ((Below.refl _ _).alloc (Nat.le_refl _) (.cells #[.slice (some ⟨g, 0, none⟩) s.vars.length s.vars.length, .slice ab s.blocks.length cbb, .int .i64 s.now, .int .i64 f] 31)))
    have hg5 : w.heap.size + 1 + 1 + 1 ≤ (wmore (((w.alloc (.cells #[v, b, .int .i64 s.now, .int .i64 s.fault] 31)).alloc (.cells #[v2, b2, .int .i64 t.now, .int .i64 t.fault] 31)).alloc (.cells #[.slice none 0 0, .slice none 0 0, .int .i64 0, .int .i64 0] 31)) l1 d1).heap.size := by simp [more_size]
    generalize hg10 : (wmore (((w.alloc (.cells #[v, b, .int .i64 s.now, .int .i64 s.fault] 31)).alloc (.cells #[v2, b2, .int .i64 t.now, .int .i64 t.fault] 31)).alloc (.cells #[.slice none 0 0, .slice none 0 0, .int .i64 0, .int .i64 0] 31)) l1 d1).heap.size = g10 at hk4 hg5 ⊢
    clear hg10
    rw [more_alloc] at hk4 ⊢
    have hO := Lib.hid (show OwnSt _ (wmore (((w.alloc (.cells #[v, b, .int .i64 s.now, .int .i64 s.fault] 31)).alloc (.cells #[v2, b2, .int .i64 t.now, .int .i64 t.fault] 31)).alloc (.cells #[.slice none 0 0, .slice none 0 0, .int .i64 0, .int .i64 0] 31)) (l1.push (.cells #[.slice (some ⟨g, 0, none⟩) s.vars.length s.vars.length, .slice ab s.blocks.length cbb, .int .i64 s.now, .int .i64 f] 31)) d1) _ _ _ _ _ _ from by rw [← more_alloc]; exact hO.out)
    generalize l1.push (.cells #[.slice (some ⟨g, 0, none⟩) s.vars.length s.vars.length, .slice ab s.blocks.length cbb, .int .i64 s.now, .int .i64 f] 31) = l5 at *
    refine wp_region_held_drew (S := (fun w' => (∃ (l' : Array Obj) (d' : Nat) (X' : Array Value), w' = wmore (((w.alloc (.cells #[v, b, .int .i64 s.now, .int .i64 s.fault] 31)).alloc (.cells #[v2, b2, .int .i64 t.now, .int .i64 t.fault] 31)).alloc (.cells X' 31)) l' d') ∧ C4 w' g10 (.slice (some ⟨g, 0, none⟩) s.vars.length s.vars.length) (.slice ab s.blocks.length cbb) (.int .i64 s.now) (.int .i64 f))) (by kernel_rfl) ?_ (fun hHeld => ?_)
    · (try dsimp only); first | exact ⟨⟨_, _, _, rfl⟩, hk4⟩ | exact ⟨⟨_, _, _, more_drew _ _ _⟩, hk4⟩ | (trace_state; fail)
    refine wpAnyH_take (i := 0) (oi := { dst := some 22, op := Op.load 31 (Operand.tmp 10), type := 31, pos := _, after := #[], guard := none }) (v := ?_) rfl (by kernel_rfl) (by kernel_rfl) (by kernel_rfl) (fun _ _ _ h => h) (Or.inl ⟨by rfl, ?_⟩) (by assumption) ?_
    rotate_left
    · intro wt hSw; (try dsimp only at hSw); obtain ⟨⟨lt, dt, Xt, rfl⟩, t0, t1, t2, t3⟩ := hSw; first | (go_simp; done) | (go_simp; with_reducible rfl) | (trace_state; fail)
    try simp only [Act.put, List.setIfInBounds_toArray, List.set_cons_zero, List.set_cons_succ]
    refine wpAnyH_take (i := 1) (oi := { dst := some 23, op := Op.move (Operand.tmp 0), type := 23, pos := _, after := #[], guard := none }) (v := ?_) rfl (by kernel_rfl) (by kernel_rfl) (by kernel_rfl) (fun _ _ _ h => h) (Or.inl ⟨by rfl, ?_⟩) (by assumption) ?_
    rotate_left
    · intro w hSw; (try dsimp only at hSw); first | (go_simp; done) | (go_simp; with_reducible rfl)
    try simp only [Act.put, List.setIfInBounds_toArray, List.set_cons_zero, List.set_cons_succ]
    refine wpAnyH_take (i := 2) (oi := { dst := some 24, op := Op.load 31 (Operand.tmp 5), type := 31, pos := _, after := #[], guard := none }) (v := ?_) rfl (by kernel_rfl) (by kernel_rfl) (by kernel_rfl) (fun _ _ _ h => h) (Or.inl ⟨by rfl, ?_⟩) (by assumption) ?_
    rotate_left
    · intro wt hSw; (try dsimp only at hSw); obtain ⟨⟨lt, dt, Xt, rfl⟩, t0, t1, t2, t3⟩ := hSw; first | (go_simp; done) | (go_simp; with_reducible rfl) | (trace_state; fail)
    try simp only [Act.put, List.setIfInBounds_toArray, List.set_cons_zero, List.set_cons_succ]
    refine wpAnyH_ready (rs := [3]) (by kernel_rfl) (by simp) ?_
    refine AllReadyH.cons (o := { dst := some 25, op := Op.call { callee := Callee.value (Operand.func 15), args := #[Operand.tmp 23, Operand.tmp 24], argTypes := #[23, 31] }, type := 32, pos := _, after := #[{ on := 1, ground := Ground.data }, { on := 2, ground := Ground.data }], guard := none }) rfl (fun K hK => ?_) AllReadyH.nil
    go_simp
    refine (hA.out _ (by (repeat' (first | (with_reducible exact Below.refl _ _) | (with_reducible assumption) | (with_reducible refine more_below ?_ ?_ _ _) | (with_reducible refine below_drewN ?_ _) | (with_reducible refine Below.alloc ?_ ?_ _) | (with_reducible refine Below.drew ?_) | (with_reducible refine Below.setCell ?_ ?_ _) | (simp only [World.size_alloc, World.size_setCell, World.size_drew, more_size, World.heap_drewN]; omega) | go_size)))).mono ?_; rintro e W2 ⟨r, rfl, hr, hb2⟩; have hO := Lib.hid (hO.out.below (Below.trans (more_dd _ _ _ _ _) hb2)); have hk4 := hk4.keep (World.block_lt_of_cell? _ _ hk4.1) (Below.trans (more_dd _ _ _ _ _) hb2); have hr := Lib.hid hr; obtain ⟨l2, d2, rfl⟩ := more_of hb2; simp only [mm] at hO hr hk4 ⊢; clear hb2
    go_wp2_with fail
    refine hK.out _ _ ?_ (fun hHeld => ?_)
    · (try dsimp only); first | exact ⟨⟨_, _, _, rfl⟩, hk4⟩ | exact ⟨⟨_, _, _, more_drew _ _ _⟩, hk4⟩ | (trace_state; fail)
    clear hK K
    try simp only [Act.put, List.setIfInBounds_toArray, List.set_cons_zero, List.set_cons_succ]
    refine wpAnyH_ready (rs := [4]) (by kernel_rfl) (by simp) ?_
    refine AllReadyH.cons (o := { dst := none, op := Op.store 31 (Operand.tmp 8) (Operand.tmp 22), type := 0, pos := _, after := #[{ on := 0, ground := Ground.data }, { on := 3, ground := Ground.chain }, { on := 0, ground := Ground.phase }, { on := 1, ground := Ground.textOnly Departure.lateStores }, { on := 2, ground := Ground.textOnly Departure.lateStores }, { on := 3, ground := Ground.textOnly Departure.lateStoresUnsure }], guard := none }) rfl (fun K hK => ?_) AllReadyH.nil
    go_simp
    refine hK.out _ _ ?_ (fun hHeld => ?_)
    · (try dsimp only); exact ⟨⟨_, _, _, by first | rfl | exact more_drew _ _ _⟩, C4.past hk4 (by simp) (by simpa using hg5)⟩
    clear hK K
    try simp only [Act.put, List.setIfInBounds_toArray, List.set_cons_zero, List.set_cons_succ]
    refine wpAnyH_take (i := 5) (oi := { dst := some 9, op := Op.assign (Operand.tmp 25), type := 32, pos := _, after := #[{ on := 3, ground := Ground.data }, { on := 4, ground := Ground.chain }, { on := 0, ground := Ground.phase }, { on := 1, ground := Ground.phase }, { on := 2, ground := Ground.phase }, { on := 3, ground := Ground.phase }, { on := 4, ground := Ground.phase }], guard := none }) (v := ?_) rfl (by kernel_rfl) (by kernel_rfl) (by kernel_rfl) (fun _ _ _ h => h) (Or.inl ⟨by rfl, ?_⟩) (by assumption) ?_
    rotate_left
    · intro w hSw; (try dsimp only at hSw); first | (go_simp; done) | (go_simp; with_reducible rfl)
    try simp only [Act.put, List.setIfInBounds_toArray, List.set_cons_zero, List.set_cons_succ]
    refine wpAnyH_done (by kernel_rfl) ?_ _
    go_wp2_with fail
    refine bodyPost_ret (by simp [results, Try.results12, go_sem, more_cell, more_size, more_frozen]; try rfl) rfl ?_
    refine ⟨_, _, _, rfl, ?st, ?row, by (repeat' (first | (with_reducible exact Below.refl _ _) | (with_reducible assumption) | (with_reducible refine more_below ?_ ?_ _ _) | (with_reducible refine below_drewN ?_ _) | (with_reducible refine Below.alloc ?_ ?_ _) | (with_reducible refine Below.drew ?_) | (with_reducible refine Below.setCell ?_ ?_ _) | (simp only [World.size_alloc, World.size_setCell, World.size_drew, more_size, World.heap_drewN]; omega) | go_size))⟩
    case st => exact st_fault (hO.out.congr (more_congr (by simp) (by simp [more_size] <;> omega))).st hf
    case row => exact row_of_owns (owns_congr hr.out (more_congr (by simp) (by simp [more_size] <;> omega))) HI2.out
set_option maxHeartbeats 4000000 in
theorem ref24_End (vv v b v2 b2 : Value) (L : List Vr) (s t : St) (f : Int) (w : World) (hvv : RowR 5 varR w vv L) (h : StAt w v b s) (k : StAt w v2 b2 t) (hsh : shortS s = true) (ksh : shortS t = true) (hL : L.length ≤ 70) (hf : I64 f) :
    Calls Try.prog 13 #[vv, .agg #[v, b, .int .i64 s.now, .int .i64 s.fault], .agg #[v2, b2, .int .i64 t.now, .int .i64 t.fault], .int .i64 f] w fun e w' => ∃ v' b' r : Value, e = .returned (.tuple #[.agg #[v', b', .int .i64 (endS s t f).now, .int .i64 (endS s t f).fault], r]) ∧ StAt w' v' b' (endS s t f) ∧ RowR 1 intR w' r (endO L s t f) ∧ Below w.heap.size w w' := by
  have cp := @cell_past
  have mc := @more_cell
  have mf := @more_frozen
  have ms := @more_set
  have md := more_drewN
  have md1 := more_drew
  have mm := more_more
  have HI1 := Lib.hid (areaF_ints (vs := L) (a := 2) (row_ints_all k.vs))
  have HI2 : ∀ z ∈ offV L s, I64 z := fun z hz => by rw [(List.mem_replicate.1 hz).2]; unfold I64; omega
  have HI2 := Lib.hid HI2
  obtain ⟨sv, cv, rfl⟩ := row_get h.vs
  obtain ⟨sb, cb, rfl⟩ := row_get h.bs
  obtain ⟨sv2, cv2, rfl⟩ := row_get k.vs
  obtain ⟨sb2, cb2, rfl⟩ := row_get k.bs
  by_cases hf0 : f = 0
  · rw [endS_0 hf0, endO_0 hf0]
    have q0 : (f == 0) = true := by simpa using hf0
    have hA := Lib.hid (fun W (hb : Below w.heap.size w W) => ref23_AreaO vv _ _ L t 2 W (hvv.below varR_stable hb) (k.below hb) ksh hL)
    clear hf0
    go_enter Try.func13, Try.ntmps13
    go_wp2_with fail
    refine wp_region_held_drew (S := (fun w' => ∃ (l' : Array Obj) (d' : Nat) (X' : Array Value), w' = wmore (((w.alloc (.cells #[.slice sv s.vars.length cv, .slice sb s.blocks.length cb, .int .i64 s.now, .int .i64 s.fault] 31)).alloc (.cells #[.slice sv2 t.vars.length cv2, .slice sb2 t.blocks.length cb2, .int .i64 t.now, .int .i64 t.fault] 31)).alloc (.cells X' 31)) l' d')) (by kernel_rfl) ?_ (fun hHeld => ?_)
    · (try dsimp only); first | exact ⟨_, _, _, rfl⟩ | exact ⟨_, _, _, more_drew _ _ _⟩ | exact ⟨#[], _, _, more_start _⟩ | (trace_state; fail)
    refine wpAnyH_take (i := 0) (oi := { dst := some 12, op := Op.load 31 (Operand.tmp 6), type := 31, pos := _, after := #[], guard := none }) (v := ?_) rfl (by kernel_rfl) (by kernel_rfl) (by kernel_rfl) (fun _ _ _ h => h) (Or.inl ⟨by rfl, ?_⟩) (by assumption) ?_
    rotate_left
    · intro wt hSw; (try dsimp only at hSw); obtain ⟨lt, dt, Xt, rfl⟩ := hSw; first | (go_simp; done) | (go_simp; with_reducible rfl) | (trace_state; fail)
    try simp only [Act.put, List.setIfInBounds_toArray, List.set_cons_zero, List.set_cons_succ]
    refine wpAnyH_take (i := 1) (oi := { dst := some 13, op := Op.move (Operand.tmp 0), type := 23, pos := _, after := #[], guard := none }) (v := ?_) rfl (by kernel_rfl) (by kernel_rfl) (by kernel_rfl) (fun _ _ _ h => h) (Or.inl ⟨by rfl, ?_⟩) (by assumption) ?_
    rotate_left
    · intro w hSw; (try dsimp only at hSw); first | (go_simp; done) | (go_simp; with_reducible rfl)
    try simp only [Act.put, List.setIfInBounds_toArray, List.set_cons_zero, List.set_cons_succ]
    refine wpAnyH_take (i := 2) (oi := { dst := some 14, op := Op.load 31 (Operand.tmp 6), type := 31, pos := _, after := #[], guard := none }) (v := ?_) rfl (by kernel_rfl) (by kernel_rfl) (by kernel_rfl) (fun _ _ _ h => h) (Or.inl ⟨by rfl, ?_⟩) (by assumption) ?_
    rotate_left
    · intro wt hSw; (try dsimp only at hSw); obtain ⟨lt, dt, Xt, rfl⟩ := hSw; first | (go_simp; done) | (go_simp; with_reducible rfl) | (trace_state; fail)
    try simp only [Act.put, List.setIfInBounds_toArray, List.set_cons_zero, List.set_cons_succ]
    refine wpAnyH_ready (rs := [3]) (by kernel_rfl) (by simp) ?_
    refine AllReadyH.cons (o := { dst := some 15, op := Op.call { callee := Callee.value (Operand.func 24), args := #[Operand.tmp 13, Operand.tmp 14, Operand.const (Value.int IntKind.i64 2)], argTypes := #[23, 31, 3] }, type := 32, pos := _, after := #[{ on := 1, ground := Ground.data }, { on := 2, ground := Ground.data }], guard := none }) rfl (fun K hK => ?_) AllReadyH.nil
    go_simp
    refine (hA.out _ (by (repeat' (first | (with_reducible exact Below.refl _ _) | (with_reducible assumption) | (with_reducible refine more_below ?_ ?_ _ _) | (with_reducible refine below_drewN ?_ _) | (with_reducible refine Below.alloc ?_ ?_ _) | (with_reducible refine Below.drew ?_) | (with_reducible refine Below.setCell ?_ ?_ _) | (simp only [World.size_alloc, World.size_setCell, World.size_drew, more_size, World.heap_drewN]; omega) | go_size)))).mono ?_; rintro e W2 ⟨r, rfl, hr, hb2⟩; have hr := Lib.hid hr; obtain ⟨l2, d2, rfl⟩ := more_of hb2; simp only [mm] at hr ⊢; clear hb2
    go_wp2_with fail
    refine hK.out _ _ ?_ (fun hHeld => ?_)
    · (try dsimp only); first | exact ⟨_, _, _, rfl⟩ | exact ⟨_, _, _, more_drew _ _ _⟩ | exact ⟨#[], _, _, more_start _⟩ | (trace_state; fail)
    clear hK K
    try simp only [Act.put, List.setIfInBounds_toArray, List.set_cons_zero, List.set_cons_succ]
    refine wpAnyH_ready (rs := [4]) (by kernel_rfl) (by simp) ?_
    refine AllReadyH.cons (o := { dst := none, op := Op.store 31 (Operand.tmp 8) (Operand.tmp 12), type := 0, pos := _, after := #[{ on := 0, ground := Ground.data }, { on := 3, ground := Ground.chain }, { on := 0, ground := Ground.phase }, { on := 1, ground := Ground.textOnly Departure.lateStores }, { on := 2, ground := Ground.textOnly Departure.lateStores }, { on := 3, ground := Ground.textOnly Departure.lateStoresUnsure }], guard := none }) rfl (fun K hK => ?_) AllReadyH.nil
    go_simp
    refine hK.out _ _ ?_ (fun hHeld => ?_)
    · (try dsimp only); first | exact ⟨_, _, _, rfl⟩ | exact ⟨_, _, _, more_drew _ _ _⟩ | exact ⟨#[], _, _, more_start _⟩ | (trace_state; fail)
    clear hK K
    try simp only [Act.put, List.setIfInBounds_toArray, List.set_cons_zero, List.set_cons_succ]
    refine wpAnyH_take (i := 5) (oi := { dst := some 9, op := Op.assign (Operand.tmp 15), type := 32, pos := _, after := #[{ on := 3, ground := Ground.data }, { on := 4, ground := Ground.chain }, { on := 0, ground := Ground.phase }, { on := 1, ground := Ground.phase }, { on := 2, ground := Ground.phase }, { on := 3, ground := Ground.phase }, { on := 4, ground := Ground.phase }], guard := none }) (v := ?_) rfl (by kernel_rfl) (by kernel_rfl) (by kernel_rfl) (fun _ _ _ h => h) (Or.inl ⟨by rfl, ?_⟩) (by assumption) ?_
    rotate_left
    · intro w hSw; (try dsimp only at hSw); first | (go_simp; done) | (go_simp; with_reducible rfl)
    try simp only [Act.put, List.setIfInBounds_toArray, List.set_cons_zero, List.set_cons_succ]
    refine wpAnyH_done (by kernel_rfl) ?_ _
    go_wp2_with fail
    refine bodyPost_ret (by simp [results, Try.results13, go_sem, more_cell, more_size, more_frozen]; try rfl) rfl ?_
    refine ⟨_, _, _, rfl, ?st, ?row, by (repeat' (first | (with_reducible exact Below.refl _ _) | (with_reducible assumption) | (with_reducible refine more_below ?_ ?_ _ _) | (with_reducible refine below_drewN ?_ _) | (with_reducible refine Below.alloc ?_ ?_ _) | (with_reducible refine Below.drew ?_) | (with_reducible refine Below.setCell ?_ ?_ _) | (simp only [World.size_alloc, World.size_setCell, World.size_drew, more_size, World.heap_drewN]; omega) | go_size))⟩
    case st => exact k.below (by (repeat' (first | (with_reducible exact Below.refl _ _) | (with_reducible assumption) | (with_reducible refine more_below ?_ ?_ _ _) | (with_reducible refine below_drewN ?_ _) | (with_reducible refine Below.alloc ?_ ?_ _) | (with_reducible refine Below.drew ?_) | (with_reducible refine Below.setCell ?_ ?_ _) | (simp only [World.size_alloc, World.size_setCell, World.size_drew, more_size, World.heap_drewN]; omega) | go_size)))
    case row => exact row_of_owns (owns_congr hr.out (more_congr (by simp) (by simp [more_size] <;> omega))) HI1.out
  · rw [endS_1 hf0, endO_1 hf0]
    have q0 : (f == 0) = false := by simpa using hf0
    have hA := Lib.hid (fun W (hb : Below w.heap.size w W) => ref24_OffO vv _ _ L { s with fault := f } W (hvv.below varR_stable hb) (st_fault (h.below hb) hf) hsh hL)
    clear hf0
    go_enter Try.func13, Try.ntmps13
    go_wp2_with fail
    refine wp_region_held_drew (S := (fun w' => ∃ (l' : Array Obj) (d' : Nat) (X' : Array Value), w' = wmore (((w.alloc (.cells #[.slice sv s.vars.length cv, .slice sb s.blocks.length cb, .int .i64 s.now, .int .i64 f] 31)).alloc (.cells #[.slice sv2 t.vars.length cv2, .slice sb2 t.blocks.length cb2, .int .i64 t.now, .int .i64 t.fault] 31)).alloc (.cells X' 31)) l' d')) (by kernel_rfl) ?_ (fun hHeld => ?_)
    · (try dsimp only); first | exact ⟨_, _, _, rfl⟩ | exact ⟨_, _, _, more_drew _ _ _⟩ | exact ⟨#[], _, _, more_start _⟩ | (trace_state; fail)
    refine wpAnyH_take (i := 0) (oi := { dst := some 18, op := Op.load 31 (Operand.tmp 5), type := 31, pos := _, after := #[], guard := none }) (v := ?_) rfl (by kernel_rfl) (by kernel_rfl) (by kernel_rfl) (fun _ _ _ h => h) (Or.inl ⟨by rfl, ?_⟩) (by assumption) ?_
    rotate_left
    · intro wt hSw; (try dsimp only at hSw); obtain ⟨lt, dt, Xt, rfl⟩ := hSw; first | (go_simp; done) | (go_simp; with_reducible rfl) | (trace_state; fail)
    try simp only [Act.put, List.setIfInBounds_toArray, List.set_cons_zero, List.set_cons_succ]
    refine wpAnyH_take (i := 1) (oi := { dst := some 19, op := Op.move (Operand.tmp 0), type := 23, pos := _, after := #[], guard := none }) (v := ?_) rfl (by kernel_rfl) (by kernel_rfl) (by kernel_rfl) (fun _ _ _ h => h) (Or.inl ⟨by rfl, ?_⟩) (by assumption) ?_
    rotate_left
    · intro w hSw; (try dsimp only at hSw); first | (go_simp; done) | (go_simp; with_reducible rfl)
    try simp only [Act.put, List.setIfInBounds_toArray, List.set_cons_zero, List.set_cons_succ]
    refine wpAnyH_take (i := 2) (oi := { dst := some 20, op := Op.load 31 (Operand.tmp 5), type := 31, pos := _, after := #[], guard := none }) (v := ?_) rfl (by kernel_rfl) (by kernel_rfl) (by kernel_rfl) (fun _ _ _ h => h) (Or.inl ⟨by rfl, ?_⟩) (by assumption) ?_
    rotate_left
    · intro wt hSw; (try dsimp only at hSw); obtain ⟨lt, dt, Xt, rfl⟩ := hSw; first | (go_simp; done) | (go_simp; with_reducible rfl) | (trace_state; fail)
    try simp only [Act.put, List.setIfInBounds_toArray, List.set_cons_zero, List.set_cons_succ]
    refine wpAnyH_ready (rs := [3]) (by kernel_rfl) (by simp) ?_
    refine AllReadyH.cons (o := { dst := some 21, op := Op.call { callee := Callee.value (Operand.func 16), args := #[Operand.tmp 19, Operand.tmp 20], argTypes := #[23, 31] }, type := 32, pos := _, after := #[{ on := 1, ground := Ground.data }, { on := 2, ground := Ground.data }], guard := none }) rfl (fun K hK => ?_) AllReadyH.nil
    go_simp
    refine (hA.out _ (by (repeat' (first | (with_reducible exact Below.refl _ _) | (with_reducible assumption) | (with_reducible refine more_below ?_ ?_ _ _) | (with_reducible refine below_drewN ?_ _) | (with_reducible refine Below.alloc ?_ ?_ _) | (with_reducible refine Below.drew ?_) | (with_reducible refine Below.setCell ?_ ?_ _) | (simp only [World.size_alloc, World.size_setCell, World.size_drew, more_size, World.heap_drewN]; omega) | go_size)))).mono ?_; rintro e W2 ⟨r, rfl, hr, hb2⟩; have hr := Lib.hid hr; obtain ⟨l2, d2, rfl⟩ := more_of hb2; simp only [mm] at hr ⊢; clear hb2
    go_wp2_with fail
    refine hK.out _ _ ?_ (fun hHeld => ?_)
    · (try dsimp only); first | exact ⟨_, _, _, rfl⟩ | exact ⟨_, _, _, more_drew _ _ _⟩ | exact ⟨#[], _, _, more_start _⟩ | (trace_state; fail)
    clear hK K
    try simp only [Act.put, List.setIfInBounds_toArray, List.set_cons_zero, List.set_cons_succ]
    refine wpAnyH_ready (rs := [4]) (by kernel_rfl) (by simp) ?_
    refine AllReadyH.cons (o := { dst := none, op := Op.store 31 (Operand.tmp 8) (Operand.tmp 18), type := 0, pos := _, after := #[{ on := 0, ground := Ground.data }, { on := 3, ground := Ground.chain }, { on := 0, ground := Ground.phase }, { on := 1, ground := Ground.textOnly Departure.lateStores }, { on := 2, ground := Ground.textOnly Departure.lateStores }, { on := 3, ground := Ground.textOnly Departure.lateStoresUnsure }], guard := none }) rfl (fun K hK => ?_) AllReadyH.nil
    go_simp
    refine hK.out _ _ ?_ (fun hHeld => ?_)
    · (try dsimp only); first | exact ⟨_, _, _, rfl⟩ | exact ⟨_, _, _, more_drew _ _ _⟩ | exact ⟨#[], _, _, more_start _⟩ | (trace_state; fail)
    clear hK K
    try simp only [Act.put, List.setIfInBounds_toArray, List.set_cons_zero, List.set_cons_succ]
    refine wpAnyH_take (i := 5) (oi := { dst := some 9, op := Op.assign (Operand.tmp 21), type := 32, pos := _, after := #[{ on := 3, ground := Ground.data }, { on := 4, ground := Ground.chain }, { on := 0, ground := Ground.phase }, { on := 1, ground := Ground.phase }, { on := 2, ground := Ground.phase }, { on := 3, ground := Ground.phase }, { on := 4, ground := Ground.phase }], guard := none }) (v := ?_) rfl (by kernel_rfl) (by kernel_rfl) (by kernel_rfl) (fun _ _ _ h => h) (Or.inl ⟨by rfl, ?_⟩) (by assumption) ?_
    rotate_left
    · intro w hSw; (try dsimp only at hSw); first | (go_simp; done) | (go_simp; with_reducible rfl)
    try simp only [Act.put, List.setIfInBounds_toArray, List.set_cons_zero, List.set_cons_succ]
    refine wpAnyH_done (by kernel_rfl) ?_ _
    go_wp2_with fail
    refine bodyPost_ret (by simp [results, Try.results13, go_sem, more_cell, more_size, more_frozen]; try rfl) rfl ?_
    refine ⟨_, _, _, rfl, ?st, ?row, by (repeat' (first | (with_reducible exact Below.refl _ _) | (with_reducible assumption) | (with_reducible refine more_below ?_ ?_ _ _) | (with_reducible refine below_drewN ?_ _) | (with_reducible refine Below.alloc ?_ ?_ _) | (with_reducible refine Below.drew ?_) | (with_reducible refine Below.setCell ?_ ?_ _) | (simp only [World.size_alloc, World.size_setCell, World.size_drew, more_size, World.heap_drewN]; omega) | go_size))⟩
    case st => exact (st_fault h hf).below (by (repeat' (first | (with_reducible exact Below.refl _ _) | (with_reducible assumption) | (with_reducible refine more_below ?_ ?_ _ _) | (with_reducible refine below_drewN ?_ _) | (with_reducible refine Below.alloc ?_ ?_ _) | (with_reducible refine Below.drew ?_) | (with_reducible refine Below.setCell ?_ ?_ _) | (simp only [World.size_alloc, World.size_setCell, World.size_drew, more_size, World.heap_drewN]; omega) | go_size)))
    case row => exact row_of_owns (owns_congr hr.out (more_congr (by simp) (by simp [more_size] <;> omega))) HI2.out
end Go.Proofs.Ytpnnmhcemecjfaa
