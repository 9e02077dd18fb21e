/- Layer 17: a variable; all of a list. -/
import Derived.Test.YtogmbfhefblbjaaDeclA
namespace Go.Proofs.Ytogmbfhefblbjaa
open Go.RowKit
set_option linter.unusedSimpArgs false
set_option linter.unusedVariables false
/-- a function that answers e in every later world -/
def Asks (w : World) (f : Fun) (e : Int) : Prop :=
  (∀ (args : Array Value) (W : World), (callFunc f.1 args).run Try.prog W = .ok (.enter f.1 args) W) ∧ ∀ W, Below w.heap.size w W → Calls Try.prog f.1 f.2 W fun x W' => x = .returned (.int .i64 e) ∧ Below W.heap.size W W'
theorem Asks.later {w w' : World} {f : Fun} {e : Int} (h : Asks w f e) (hb : Below w.heap.size w w') : Asks w' f e := ⟨h.1, fun W hW => h.2 W (hb.trans (hW.mono hb.size))⟩
theorem asks_all (v : Value) (fs : List Fun) (es : List Int) (w : World) (hv : RowR 1 funcR w v fs) (hl : es.length = fs.length) (h : ∀ (i : Nat) (f : Fun) (e : Int), fs[i]? = some f → es[i]? = some e → Asks w f e) :
    Calls Try.prog 18 #[v] w fun e w' => e = .returned (.int .i64 (firstE es)) ∧ Below w.heap.size w w' :=
  decl_asks v fs es w hv hl (fun f hf => by
    obtain ⟨i, hi, rfl⟩ := List.getElem_of_mem hf
    obtain ⟨e, he⟩ := get_some (L := es) (n := i) (by omega)
    exact (h i _ e (by simp [hi]) he).1) (fun i f e hf he => (h i f e hf he).2)
theorem heap_lt {w : World} {g : Nat} {o : Obj} (h : w.heap[g]? = some o) : g < w.heap.size := by
  by_cases hl : g < w.heap.size
  · exact hl
  · rw [Array.getElem?_eq_none (Nat.le_of_not_lt hl)] at h; cases h
def allE (b : Bool) : Int := if b then 0 else 10
theorem row_funcs {w : World} {g : Nat} {A : Array Value} {t : TypeId} {fs : List Fun} (h : w.heap[g]? = some (.cells A t)) (hA : A.toList = fs.map fun f => Value.func (.func f.1) #[] f.2) (h0 : 0 < fs.length) (hm : fs.length ≤ maxLen) : RowR 1 funcR w (.slice (some ⟨g, 0, none⟩) fs.length fs.length) fs :=
  Or.inr ⟨g, 0, fs.length, rfl, h0, Nat.le_refl _, hm, heap_lt h, fun i f hf => ⟨[.func (.func f.1) #[] f.2], rfl, fun j u hu => by
      have hj : j < 1 := lt_of_get hu
      obtain rfl : j = 0 := by omega
      obtain rfl : Value.func (.func f.1) #[] f.2 = u := by simpa using hu
      simp only [Nat.zero_add, Nat.mul_one, Nat.add_zero]
      refine obj_cell h ?_
      rw [← Array.getElem?_toList, hA, List.getElem?_map, hf]
      rfl, rfl⟩⟩
theorem below_any {w0 wa w1 : World} (h : Below w0.heap.size w0 wa) (hb : Below wa.heap.size wa w1) {w : World} (hw : w.heap.size ≤ w0.heap.size) : Below w.heap.size w0 w1 := (h.trans (hb.mono h.size)).mono hw
theorem decl_rightVar (x : Vr) (w : World) : Calls Try.prog 23 #[.agg #[.string ⟨x.name.toArray⟩, .int .i64 x.t, .int .i64 x.n, .int .i64 x.area, .int .i64 x.init]] w fun e w' => e = .returned (.bool (goodV x)) ∧ Below w.heap.size w w' := by
  have hI := kind_In x.t x.init
  have hkr : kIn x.t x.init = true → kRight x.t = true := fun h => by unfold kIn at h; simp at h; exact h.1
  by_cases g1 : x.n < 1
  · have hno := Lib.hid (good_no (x := x) (Or.inr (Or.inr (by omega))))
    have pg1 : (1 ≤ x.n) = False := eq_false (by omega)
    clear hI hkr g1
    go_enter Try.func23, Try.ntmps23
    go_wp2_with fail
    go_ret
    exact ⟨by rw [hno.out]; rfl, by (repeat' (first | (with_reducible exact Below.refl _ _) | (with_reducible assumption) | (with_reducible refine below_drewN ?_ _) | (with_reducible refine Below.alloc ?_ ?_ _) | (with_reducible refine Below.drew ?_) | (with_reducible refine Below.setCell ?_ ?_ _) | go_size))⟩
  have pg1 : (1 ≤ x.n) = True := eq_true (by omega)
  by_cases g2 : 16 < x.n
  · have hno := Lib.hid (good_no (x := x) (Or.inr (Or.inr (by omega))))
    have pg2 : (x.n ≤ 16) = False := eq_false (by omega)
    clear hI hkr g2 g1
    go_enter Try.func23, Try.ntmps23
    go_wp2_with fail
    go_ret
    exact ⟨by rw [hno.out]; rfl, by (repeat' (first | (with_reducible exact Below.refl _ _) | (with_reducible assumption) | (with_reducible refine below_drewN ?_ _) | (with_reducible refine Below.alloc ?_ ?_ _) | (with_reducible refine Below.drew ?_) | (with_reducible refine Below.setCell ?_ ?_ _) | go_size))⟩
  have pg2 : (x.n ≤ 16) = True := eq_true (by omega)
  by_cases g3 : x.area < 0
  · have hno := Lib.hid (good_no (x := x) (Or.inr (Or.inr (by omega))))
    have pg3 : (0 ≤ x.area) = False := eq_false (by omega)
    clear hI hkr g3 g1 g2
    go_enter Try.func23, Try.ntmps23
    go_wp2_with fail
    go_ret
    exact ⟨by rw [hno.out]; rfl, by (repeat' (first | (with_reducible exact Below.refl _ _) | (with_reducible assumption) | (with_reducible refine below_drewN ?_ _) | (with_reducible refine Below.alloc ?_ ?_ _) | (with_reducible refine Below.drew ?_) | (with_reducible refine Below.setCell ?_ ?_ _) | go_size))⟩
  have pg3 : (0 ≤ x.area) = True := eq_true (by omega)
  by_cases g4 : 2 < x.area
  · have hno := Lib.hid (good_no (x := x) (Or.inr (Or.inr (by omega))))
    have pg4 : (x.area ≤ 2) = False := eq_false (by omega)
    clear hI hkr g4 g1 g2 g3
    go_enter Try.func23, Try.ntmps23
    go_wp2_with fail
    go_ret
    exact ⟨by rw [hno.out]; rfl, by (repeat' (first | (with_reducible exact Below.refl _ _) | (with_reducible assumption) | (with_reducible refine below_drewN ?_ _) | (with_reducible refine Below.alloc ?_ ?_ _) | (with_reducible refine Below.drew ?_) | (with_reducible refine Below.setCell ?_ ?_ _) | go_size))⟩
  have pg4 : (x.area ≤ 2) = True := eq_true (by omega)
  cases hi : kIn x.t x.init
  · rw [hi] at hI
    have hno := Lib.hid (good_no (x := x) (Or.inr (Or.inl hi)))
    clear hkr g1 g2 g3 g4
    go_enter Try.func23, Try.ntmps23
    go_wp2_with fail
    refine (hI _).mono ?_; rintro e w2 ⟨rfl, rfl⟩
    go_wp2_with fail
    go_ret
    exact ⟨by rw [hno.out]; rfl, by (repeat' (first | (with_reducible exact Below.refl _ _) | (with_reducible assumption) | (with_reducible refine below_drewN ?_ _) | (with_reducible refine Below.alloc ?_ ?_ _) | (with_reducible refine Below.drew ?_) | (with_reducible refine Below.setCell ?_ ?_ _) | go_size))⟩
  · rw [hi] at hI
    have hno := Lib.hid (good_yes (x := x) (hkr hi) hi (by omega))
    clear hkr g1 g2 g3 g4
    go_enter Try.func23, Try.ntmps23
    go_wp2_with fail
    refine (hI _).mono ?_; rintro e w2 ⟨rfl, rfl⟩
    go_wp2_with fail
    go_ret
    exact ⟨by rw [hno.out]; rfl, by (repeat' (first | (with_reducible exact Below.refl _ _) | (with_reducible assumption) | (with_reducible refine below_drewN ?_ _) | (with_reducible refine Below.alloc ?_ ?_ _) | (with_reducible refine Below.drew ?_) | (with_reducible refine Below.setCell ?_ ?_ _) | go_size))⟩
set_option maxHeartbeats 4000000 in
theorem eachVar_1 (p1 p2 : Nat) (v : Value) (L : List (Vr)) (ok : Vr → Bool) (fn : Nat) (w : World) (h1 : w.cell? ⟨p1, 0, none⟩ = some v) (h2 : w.cell? ⟨p2, 0, none⟩ = some (.func (.func fn) #[] #[])) (hv : RowR 5 varR w v L)
    (he : ∀ (args : Array Value) (W : World), (callFunc fn args).run Try.prog W = .ok (.enter fn args) W) (hf : ∀ (x : Vr) (W : World), x ∈ L → Calls Try.prog fn #[.agg #[.string ⟨x.name.toArray⟩, .int .i64 x.t, .int .i64 x.n, .int .i64 x.area, .int .i64 x.init]] W fun e W' => e = .returned (.bool (ok x)) ∧ Below W.heap.size W W') :
    Calls Try.prog 47 #[.pointer (some ⟨p1, 0, none⟩), .pointer (some ⟨p2, 0, none⟩)] w fun e w' => e = .returned (.int .i64 (allE (L.all ok))) ∧ Below w.heap.size w w' := by
  have hvl := hv.len
  have hp1 := World.block_lt_of_cell? _ _ h1
  have hp2 := World.block_lt_of_cell? _ _ h2
  obtain ⟨sv, cv, rfl⟩ := row_get hv
  obtain ⟨N, hN⟩ : ∃ N, L.length = N := ⟨_, rfl⟩
  have HN := Lib.hid hN
  rw [hN] at hv hvl h1
  clear hN
  go_enter Try.func47, Try.ntmps47
  go_wp2_with fail
  go_loopw [7] (fun jj wr => ∃ (k : Nat), k ≤ N ∧ jj = .int .i64 k ∧ Hid ((L.take k).all ok = true) ∧ Hid (Below w.heap.size w wr)) (fun jj _ => N - (intOf jj).toNat)
  case atStart => exact ⟨0, by omega, rfl, Lib.hid (by simp), Lib.hid (Below.refl _ _)⟩
  case round =>
    obtain ⟨k, hk, rfl, hall, HB⟩ := hrel
    by_cases hlt : k < N
    · have qk : ((k : Int) < (N : Int)) = True := eq_true (by omega)
      obtain ⟨x, hx⟩ := get_some (L := L) (n := k) (by rw [HN.out]; exact hlt)
      obtain ⟨b, off, rfl, hbw, hc⟩ := var_at hv (k := k) (by rw [HN.out]; exact hlt)
      obtain ⟨d0, d1, d2, d3, d4, _⟩ := hc k x hx
      have d0 := (HB.out.cell (p := ⟨b, off + k * 5, none⟩) hbw).trans d0
      have d1 := (HB.out.cell (p := ⟨b, off + k * 5 + 1, none⟩) hbw).trans d1
      have d2 := (HB.out.cell (p := ⟨b, off + k * 5 + 2, none⟩) hbw).trans d2
      have d3 := (HB.out.cell (p := ⟨b, off + k * 5 + 3, none⟩) hbw).trans d3
      have d4 := (HB.out.cell (p := ⟨b, off + k * 5 + 4, none⟩) hbw).trans d4
      have c2 := (HB.out.cell (p := ⟨p2, 0, none⟩) hp2).trans h2
      have hwr := HB.out.size
      have z2 : p2 < wr.heap.size := Nat.lt_of_lt_of_le hp2 hwr
      have HT := Lib.hid (take_snoc hx)
      have HF := fun W => hf x W (List.mem_of_getElem? hx)
      have HM := Lib.hid (List.mem_of_getElem? hx)
      clear hc hx
      cases ho : ok x
      · rw [ho] at HF
        have hno := Lib.hid (show L.all ok = false from List.all_eq_false.2 ⟨x, HM.out, by simp [ho]⟩)
        clear hf
        go_wp2_with fail
        refine (HF _).mono ?_; rintro e w2 ⟨rfl, hb2⟩
        go_wp2_with fail
        go_ret
        exact ⟨by rw [hno.out]; rfl, HB.out.trans (below_any (by (repeat' (first | (with_reducible exact Below.refl _ _) | (with_reducible assumption) | (with_reducible refine below_drewN ?_ _) | (with_reducible refine Below.alloc ?_ ?_ _) | (with_reducible refine Below.drew ?_) | (with_reducible refine Below.setCell ?_ ?_ _) | go_size))) hb2 hwr)⟩
      · rw [ho] at HF
        have hgood := Lib.hid (show (L.take (k + 1)).all ok = true by rw [HT.out, List.all_append, hall.out]; simp [ho])
        go_wp2_with fail
        refine (HF _).mono ?_; rintro e w2 ⟨rfl, hb2⟩
        have HB2 := Lib.hid (HB.out.trans (below_any (w0 := wr) (by (repeat' (first | (with_reducible exact Below.refl _ _) | (with_reducible assumption) | (with_reducible refine below_drewN ?_ _) | (with_reducible refine Below.alloc ?_ ?_ _) | (with_reducible refine Below.drew ?_) | (with_reducible refine Below.setCell ?_ ?_ _) | go_size))) hb2 hwr))
        clear hb2
        go_wp2_with fail
        go_roundw
        case rel => exact ⟨k + 1, by omega, by simp, hgood, HB2⟩
        case measure => first | (simp [intOf]; done) | (simp [intOf]; omega)
    · obtain rfl : k = N := by omega
      have qk : ((k : Int) < (k : Int)) = False := eq_false (by omega)
      have hyes := Lib.hid (show L.all ok = true by have := hall.out; rwa [List.take_of_length_le (by rw [HN.out]; exact Nat.le_refl _)] at this)
      go_wp2_with fail
      go_ret
      exact ⟨by rw [hyes.out]; rfl, HB.out⟩
theorem decl_eachVar (v : Value) (L : List (Vr)) (ok : Vr → Bool) (fn : Nat) (w : World) (hv : RowR 5 varR w v L)
    (he : ∀ (args : Array Value) (W : World), (callFunc fn args).run Try.prog W = .ok (.enter fn args) W) (hf : ∀ (x : Vr) (W : World), x ∈ L → Calls Try.prog fn #[.agg #[.string ⟨x.name.toArray⟩, .int .i64 x.t, .int .i64 x.n, .int .i64 x.area, .int .i64 x.init]] W fun e W' => e = .returned (.bool (ok x)) ∧ Below W.heap.size W W') :
    Calls Try.prog 22 #[v, .func (.func fn) #[] #[]] w fun e w' => ∃ f : Fun, e = .returned (.func (.func f.1) #[] f.2) ∧ Asks w' f (allE (L.all ok)) ∧ Below w.heap.size w w' := by
  have hmf : ∀ (fn : Fn) (first cap : Array Value) (w : World), (Instr.makeFunc fn first cap).run Try.prog w = .ok (.func fn first cap) w := fun _ _ _ _ => rfl
  obtain ⟨sv, cv, rfl⟩ := row_get hv
  obtain ⟨W1, hW1⟩ : ∃ W1, W1 = (w.alloc (.cells #[.slice sv L.length cv] 23)).alloc (.cells #[.func (.func fn) #[] #[]] 57) := ⟨_, rfl⟩
  have hb : Below w.heap.size w W1 := by rw [hW1]; exact by (repeat' (first | (with_reducible exact Below.refl _ _) | (with_reducible assumption) | (with_reducible refine below_drewN ?_ _) | (with_reducible refine Below.alloc ?_ ?_ _) | (with_reducible refine Below.drew ?_) | (with_reducible refine Below.setCell ?_ ?_ _) | go_size))
  have c1 : W1.cell? ⟨w.heap.size, 0, none⟩ = some (.slice sv L.length cv) := by rw [hW1]; exact obj_cell ((get_past (by simp)).trans (get_last rfl)) rfl
  have c2 : W1.cell? ⟨w.heap.size + 1, 0, none⟩ = some (.func (.func fn) #[] #[]) := by rw [hW1]; exact obj_cell (get_last (by simp)) rfl
  have HW1 := Lib.hid hW1
  have HA := Lib.hid (show Asks W1 (47, #[.pointer (some ⟨w.heap.size, 0, none⟩), .pointer (some ⟨w.heap.size + 1, 0, none⟩)]) (allE (L.all ok)) from
    ⟨fun _ _ => rfl, fun W hW => eachVar_1 _ _ _ L ok fn W ((hW.cell (p := ⟨w.heap.size, 0, none⟩) (World.block_lt_of_cell? _ _ c1)).trans c1) ((hW.cell (p := ⟨w.heap.size + 1, 0, none⟩) (World.block_lt_of_cell? _ _ c2)).trans c2) (hv.below varR_stable (hb.trans (hW.mono hb.size))) he hf⟩)
  clear hW1 c1 c2
  go_enter Try.func22, Try.ntmps22
  go_wp2_with fail
  rw [← HW1.out]
  go_ret
  exact ⟨(_, _), rfl, HA.out, hb⟩
set_option maxHeartbeats 4000000 in
theorem eachBlock_1 (p1 p2 : Nat) (v : Value) (L : List (Bk)) (ok : Bk → Bool) (fn : Nat) (w : World) (h1 : w.cell? ⟨p1, 0, none⟩ = some v) (h2 : w.cell? ⟨p2, 0, none⟩ = some (.func (.func fn) #[] #[])) (hv : RowR 2 blkR w v L)
    (he : ∀ (args : Array Value) (W : World), (callFunc fn args).run Try.prog W = .ok (.enter fn args) W) (hf : ∀ (x : Bk) (W : World), x ∈ L → Calls Try.prog fn #[.agg #[.string ⟨x.name.toArray⟩, .int .i64 x.kind]] W fun e W' => e = .returned (.bool (ok x)) ∧ Below W.heap.size W W') :
    Calls Try.prog 49 #[.pointer (some ⟨p1, 0, none⟩), .pointer (some ⟨p2, 0, none⟩)] w fun e w' => e = .returned (.int .i64 (allE (L.all ok))) ∧ Below w.heap.size w w' := by
  have hvl := hv.len
  have hp1 := World.block_lt_of_cell? _ _ h1
  have hp2 := World.block_lt_of_cell? _ _ h2
  obtain ⟨sv, cv, rfl⟩ := row_get hv
  obtain ⟨N, hN⟩ : ∃ N, L.length = N := ⟨_, rfl⟩
  have HN := Lib.hid hN
  rw [hN] at hv hvl h1
  clear hN
  go_enter Try.func49, Try.ntmps49
  go_wp2_with fail
  go_loopw [7] (fun jj wr => ∃ (k : Nat), k ≤ N ∧ jj = .int .i64 k ∧ Hid ((L.take k).all ok = true) ∧ Hid (Below w.heap.size w wr)) (fun jj _ => N - (intOf jj).toNat)
  case atStart => exact ⟨0, by omega, rfl, Lib.hid (by simp), Lib.hid (Below.refl _ _)⟩
  case round =>
    obtain ⟨k, hk, rfl, hall, HB⟩ := hrel
    by_cases hlt : k < N
    · have qk : ((k : Int) < (N : Int)) = True := eq_true (by omega)
      obtain ⟨x, hx⟩ := get_some (L := L) (n := k) (by rw [HN.out]; exact hlt)
      obtain ⟨b, off, rfl, hbw, hc⟩ := blk_at hv (k := k) (by rw [HN.out]; exact hlt)
      obtain ⟨d0, d1, _⟩ := hc k x hx
      have d0 := (HB.out.cell (p := ⟨b, off + k * 2, none⟩) hbw).trans d0
      have d1 := (HB.out.cell (p := ⟨b, off + k * 2 + 1, none⟩) hbw).trans d1
      have c2 := (HB.out.cell (p := ⟨p2, 0, none⟩) hp2).trans h2
      have hwr := HB.out.size
      have z2 : p2 < wr.heap.size := Nat.lt_of_lt_of_le hp2 hwr
      have HT := Lib.hid (take_snoc hx)
      have HF := fun W => hf x W (List.mem_of_getElem? hx)
      have HM := Lib.hid (List.mem_of_getElem? hx)
      clear hc hx
      cases ho : ok x
      · rw [ho] at HF
        have hno := Lib.hid (show L.all ok = false from List.all_eq_false.2 ⟨x, HM.out, by simp [ho]⟩)
        clear hf
        go_wp2_with fail
        refine (HF _).mono ?_; rintro e w2 ⟨rfl, hb2⟩
        go_wp2_with fail
        go_ret
        exact ⟨by rw [hno.out]; rfl, HB.out.trans (below_any (by (repeat' (first | (with_reducible exact Below.refl _ _) | (with_reducible assumption) | (with_reducible refine below_drewN ?_ _) | (with_reducible refine Below.alloc ?_ ?_ _) | (with_reducible refine Below.drew ?_) | (with_reducible refine Below.setCell ?_ ?_ _) | go_size))) hb2 hwr)⟩
      · rw [ho] at HF
        have hgood := Lib.hid (show (L.take (k + 1)).all ok = true by rw [HT.out, List.all_append, hall.out]; simp [ho])
        go_wp2_with fail
        refine (HF _).mono ?_; rintro e w2 ⟨rfl, hb2⟩
        have HB2 := Lib.hid (HB.out.trans (below_any (w0 := wr) (by (repeat' (first | (with_reducible exact Below.refl _ _) | (with_reducible assumption) | (with_reducible refine below_drewN ?_ _) | (with_reducible refine Below.alloc ?_ ?_ _) | (with_reducible refine Below.drew ?_) | (with_reducible refine Below.setCell ?_ ?_ _) | go_size))) hb2 hwr))
        clear hb2
        go_wp2_with fail
        go_roundw
        case rel => exact ⟨k + 1, by omega, by simp, hgood, HB2⟩
        case measure => first | (simp [intOf]; done) | (simp [intOf]; omega)
    · obtain rfl : k = N := by omega
      have qk : ((k : Int) < (k : Int)) = False := eq_false (by omega)
      have hyes := Lib.hid (show L.all ok = true by have := hall.out; rwa [List.take_of_length_le (by rw [HN.out]; exact Nat.le_refl _)] at this)
      go_wp2_with fail
      go_ret
      exact ⟨by rw [hyes.out]; rfl, HB.out⟩
theorem decl_eachBlock (v : Value) (L : List (Bk)) (ok : Bk → Bool) (fn : Nat) (w : World) (hv : RowR 2 blkR w v L)
    (he : ∀ (args : Array Value) (W : World), (callFunc fn args).run Try.prog W = .ok (.enter fn args) W) (hf : ∀ (x : Bk) (W : World), x ∈ L → Calls Try.prog fn #[.agg #[.string ⟨x.name.toArray⟩, .int .i64 x.kind]] W fun e W' => e = .returned (.bool (ok x)) ∧ Below W.heap.size W W') :
    Calls Try.prog 24 #[v, .func (.func fn) #[] #[]] w fun e w' => ∃ f : Fun, e = .returned (.func (.func f.1) #[] f.2) ∧ Asks w' f (allE (L.all ok)) ∧ Below w.heap.size w w' := by
  have hmf : ∀ (fn : Fn) (first cap : Array Value) (w : World), (Instr.makeFunc fn first cap).run Try.prog w = .ok (.func fn first cap) w := fun _ _ _ _ => rfl
  obtain ⟨sv, cv, rfl⟩ := row_get hv
  obtain ⟨W1, hW1⟩ : ∃ W1, W1 = (w.alloc (.cells #[.slice sv L.length cv] 24)).alloc (.cells #[.func (.func fn) #[] #[]] 59) := ⟨_, rfl⟩
  have hb : Below w.heap.size w W1 := by rw [hW1]; exact by (repeat' (first | (with_reducible exact Below.refl _ _) | (with_reducible assumption) | (with_reducible refine below_drewN ?_ _) | (with_reducible refine Below.alloc ?_ ?_ _) | (with_reducible refine Below.drew ?_) | (with_reducible refine Below.setCell ?_ ?_ _) | go_size))
  have c1 : W1.cell? ⟨w.heap.size, 0, none⟩ = some (.slice sv L.length cv) := by rw [hW1]; exact obj_cell ((get_past (by simp)).trans (get_last rfl)) rfl
  have c2 : W1.cell? ⟨w.heap.size + 1, 0, none⟩ = some (.func (.func fn) #[] #[]) := by rw [hW1]; exact obj_cell (get_last (by simp)) rfl
  have HW1 := Lib.hid hW1
  have HA := Lib.hid (show Asks W1 (49, #[.pointer (some ⟨w.heap.size, 0, none⟩), .pointer (some ⟨w.heap.size + 1, 0, none⟩)]) (allE (L.all ok)) from
    ⟨fun _ _ => rfl, fun W hW => eachBlock_1 _ _ _ L ok fn W ((hW.cell (p := ⟨w.heap.size, 0, none⟩) (World.block_lt_of_cell? _ _ c1)).trans c1) ((hW.cell (p := ⟨w.heap.size + 1, 0, none⟩) (World.block_lt_of_cell? _ _ c2)).trans c2) (hv.below blkR_stable (hb.trans (hW.mono hb.size))) he hf⟩)
  clear hW1 c1 c2
  go_enter Try.func24, Try.ntmps24
  go_wp2_with fail
  rw [← HW1.out]
  go_ret
  exact ⟨(_, _), rfl, HA.out, hb⟩
set_option maxHeartbeats 4000000 in
theorem eachConst_1 (p1 p2 : Nat) (v : Value) (L : List (Int × Int)) (ok : Int × Int → Bool) (fn : Nat) (w : World) (h1 : w.cell? ⟨p1, 0, none⟩ = some v) (h2 : w.cell? ⟨p2, 0, none⟩ = some (.func (.func fn) #[] #[])) (hv : RowR 2 constR w v L)
    (he : ∀ (args : Array Value) (W : World), (callFunc fn args).run Try.prog W = .ok (.enter fn args) W) (hf : ∀ (x : Int × Int) (W : World), x ∈ L → Calls Try.prog fn #[.agg #[.int .i64 x.1, .int .i64 x.2]] W fun e W' => e = .returned (.bool (ok x)) ∧ Below W.heap.size W W') :
    Calls Try.prog 53 #[.pointer (some ⟨p1, 0, none⟩), .pointer (some ⟨p2, 0, none⟩)] w fun e w' => e = .returned (.int .i64 (allE (L.all ok))) ∧ Below w.heap.size w w' := by
  have hvl := hv.len
  have hp1 := World.block_lt_of_cell? _ _ h1
  have hp2 := World.block_lt_of_cell? _ _ h2
  obtain ⟨sv, cv, rfl⟩ := row_get hv
  obtain ⟨N, hN⟩ : ∃ N, L.length = N := ⟨_, rfl⟩
  have HN := Lib.hid hN
  rw [hN] at hv hvl h1
  clear hN
  go_enter Try.func53, Try.ntmps53
  go_wp2_with fail
  go_loopw [7] (fun jj wr => ∃ (k : Nat), k ≤ N ∧ jj = .int .i64 k ∧ Hid ((L.take k).all ok = true) ∧ Hid (Below w.heap.size w wr)) (fun jj _ => N - (intOf jj).toNat)
  case atStart => exact ⟨0, by omega, rfl, Lib.hid (by simp), Lib.hid (Below.refl _ _)⟩
  case round =>
    obtain ⟨k, hk, rfl, hall, HB⟩ := hrel
    by_cases hlt : k < N
    · have qk : ((k : Int) < (N : Int)) = True := eq_true (by omega)
      obtain ⟨x, hx⟩ := get_some (L := L) (n := k) (by rw [HN.out]; exact hlt)
      obtain ⟨b, off, rfl, hbw, hc⟩ := const_at hv (k := k) (by rw [HN.out]; exact hlt)
      obtain ⟨d0, d1, _⟩ := hc k x hx
      have d0 := (HB.out.cell (p := ⟨b, off + k * 2, none⟩) hbw).trans d0
      have d1 := (HB.out.cell (p := ⟨b, off + k * 2 + 1, none⟩) hbw).trans d1
      have c2 := (HB.out.cell (p := ⟨p2, 0, none⟩) hp2).trans h2
      have hwr := HB.out.size
      have z2 : p2 < wr.heap.size := Nat.lt_of_lt_of_le hp2 hwr
      have HT := Lib.hid (take_snoc hx)
      have HF := fun W => hf x W (List.mem_of_getElem? hx)
      have HM := Lib.hid (List.mem_of_getElem? hx)
      clear hc hx
      cases ho : ok x
      · rw [ho] at HF
        have hno := Lib.hid (show L.all ok = false from List.all_eq_false.2 ⟨x, HM.out, by simp [ho]⟩)
        clear hf
        go_wp2_with fail
        refine (HF _).mono ?_; rintro e w2 ⟨rfl, hb2⟩
        go_wp2_with fail
        go_ret
        exact ⟨by rw [hno.out]; rfl, HB.out.trans (below_any (by (repeat' (first | (with_reducible exact Below.refl _ _) | (with_reducible assumption) | (with_reducible refine below_drewN ?_ _) | (with_reducible refine Below.alloc ?_ ?_ _) | (with_reducible refine Below.drew ?_) | (with_reducible refine Below.setCell ?_ ?_ _) | go_size))) hb2 hwr)⟩
      · rw [ho] at HF
        have hgood := Lib.hid (show (L.take (k + 1)).all ok = true by rw [HT.out, List.all_append, hall.out]; simp [ho])
        go_wp2_with fail
        refine (HF _).mono ?_; rintro e w2 ⟨rfl, hb2⟩
        have HB2 := Lib.hid (HB.out.trans (below_any (w0 := wr) (by (repeat' (first | (with_reducible exact Below.refl _ _) | (with_reducible assumption) | (with_reducible refine below_drewN ?_ _) | (with_reducible refine Below.alloc ?_ ?_ _) | (with_reducible refine Below.drew ?_) | (with_reducible refine Below.setCell ?_ ?_ _) | go_size))) hb2 hwr))
        clear hb2
        go_wp2_with fail
        go_roundw
        case rel => exact ⟨k + 1, by omega, by simp, hgood, HB2⟩
        case measure => first | (simp [intOf]; done) | (simp [intOf]; omega)
    · obtain rfl : k = N := by omega
      have qk : ((k : Int) < (k : Int)) = False := eq_false (by omega)
      have hyes := Lib.hid (show L.all ok = true by have := hall.out; rwa [List.take_of_length_le (by rw [HN.out]; exact Nat.le_refl _)] at this)
      go_wp2_with fail
      go_ret
      exact ⟨by rw [hyes.out]; rfl, HB.out⟩
theorem decl_eachConst (v : Value) (L : List (Int × Int)) (ok : Int × Int → Bool) (fn : Nat) (w : World) (hv : RowR 2 constR w v L)
    (he : ∀ (args : Array Value) (W : World), (callFunc fn args).run Try.prog W = .ok (.enter fn args) W) (hf : ∀ (x : Int × Int) (W : World), x ∈ L → Calls Try.prog fn #[.agg #[.int .i64 x.1, .int .i64 x.2]] W fun e W' => e = .returned (.bool (ok x)) ∧ Below W.heap.size W W') :
    Calls Try.prog 30 #[v, .func (.func fn) #[] #[]] w fun e w' => ∃ f : Fun, e = .returned (.func (.func f.1) #[] f.2) ∧ Asks w' f (allE (L.all ok)) ∧ Below w.heap.size w w' := by
  have hmf : ∀ (fn : Fn) (first cap : Array Value) (w : World), (Instr.makeFunc fn first cap).run Try.prog w = .ok (.func fn first cap) w := fun _ _ _ _ => rfl
  obtain ⟨sv, cv, rfl⟩ := row_get hv
  obtain ⟨W1, hW1⟩ : ∃ W1, W1 = (w.alloc (.cells #[.slice sv L.length cv] 22)).alloc (.cells #[.func (.func fn) #[] #[]] 66) := ⟨_, rfl⟩
  have hb : Below w.heap.size w W1 := by rw [hW1]; exact by (repeat' (first | (with_reducible exact Below.refl _ _) | (with_reducible assumption) | (with_reducible refine below_drewN ?_ _) | (with_reducible refine Below.alloc ?_ ?_ _) | (with_reducible refine Below.drew ?_) | (with_reducible refine Below.setCell ?_ ?_ _) | go_size))
  have c1 : W1.cell? ⟨w.heap.size, 0, none⟩ = some (.slice sv L.length cv) := by rw [hW1]; exact obj_cell ((get_past (by simp)).trans (get_last rfl)) rfl
  have c2 : W1.cell? ⟨w.heap.size + 1, 0, none⟩ = some (.func (.func fn) #[] #[]) := by rw [hW1]; exact obj_cell (get_last (by simp)) rfl
  have HW1 := Lib.hid hW1
  have HA := Lib.hid (show Asks W1 (53, #[.pointer (some ⟨w.heap.size, 0, none⟩), .pointer (some ⟨w.heap.size + 1, 0, none⟩)]) (allE (L.all ok)) from
    ⟨fun _ _ => rfl, fun W hW => eachConst_1 _ _ _ L ok fn W ((hW.cell (p := ⟨w.heap.size, 0, none⟩) (World.block_lt_of_cell? _ _ c1)).trans c1) ((hW.cell (p := ⟨w.heap.size + 1, 0, none⟩) (World.block_lt_of_cell? _ _ c2)).trans c2) (hv.below constR_stable (hb.trans (hW.mono hb.size))) he hf⟩)
  clear hW1 c1 c2
  go_enter Try.func30, Try.ntmps30
  go_wp2_with fail
  rw [← HW1.out]
  go_ret
  exact ⟨(_, _), rfl, HA.out, hb⟩
set_option maxHeartbeats 4000000 in
theorem eachInt_1 (p1 p2 : Nat) (v : Value) (L : List (Int)) (ok : Int → Bool) (fn : Nat) (w : World) (h1 : w.cell? ⟨p1, 0, none⟩ = some v) (h2 : w.cell? ⟨p2, 0, none⟩ = some (.func (.func fn) #[] #[])) (hv : RowR 1 intR w v L)
    (he : ∀ (args : Array Value) (W : World), (callFunc fn args).run Try.prog W = .ok (.enter fn args) W) (hf : ∀ (x : Int) (W : World), x ∈ L → Calls Try.prog fn #[.int .i64 x] W fun e W' => e = .returned (.bool (ok x)) ∧ Below W.heap.size W W') :
    Calls Try.prog 54 #[.pointer (some ⟨p1, 0, none⟩), .pointer (some ⟨p2, 0, none⟩)] w fun e w' => e = .returned (.int .i64 (allE (L.all ok))) ∧ Below w.heap.size w w' := by
  have hvl := hv.len
  have hp1 := World.block_lt_of_cell? _ _ h1
  have hp2 := World.block_lt_of_cell? _ _ h2
  obtain ⟨sv, cv, rfl⟩ := row_get hv
  obtain ⟨N, hN⟩ : ∃ N, L.length = N := ⟨_, rfl⟩
  have HN := Lib.hid hN
  rw [hN] at hv hvl h1
  clear hN
  go_enter Try.func54, Try.ntmps54
  go_wp2_with fail
  go_loopw [7] (fun jj wr => ∃ (k : Nat), k ≤ N ∧ jj = .int .i64 k ∧ Hid ((L.take k).all ok = true) ∧ Hid (Below w.heap.size w wr)) (fun jj _ => N - (intOf jj).toNat)
  case atStart => exact ⟨0, by omega, rfl, Lib.hid (by simp), Lib.hid (Below.refl _ _)⟩
  case round =>
    obtain ⟨k, hk, rfl, hall, HB⟩ := hrel
    by_cases hlt : k < N
    · have qk : ((k : Int) < (N : Int)) = True := eq_true (by omega)
      obtain ⟨x, hx⟩ := get_some (L := L) (n := k) (by rw [HN.out]; exact hlt)
      obtain ⟨b, off, rfl, hbw, hc⟩ := ints_at hv (k := k) (by rw [HN.out]; exact hlt)
      obtain ⟨d0, _⟩ := hc k x hx
      have d0 := (HB.out.cell (p := ⟨b, off + k, none⟩) hbw).trans d0
      have c2 := (HB.out.cell (p := ⟨p2, 0, none⟩) hp2).trans h2
      have hwr := HB.out.size
      have z2 : p2 < wr.heap.size := Nat.lt_of_lt_of_le hp2 hwr
      have HT := Lib.hid (take_snoc hx)
      have HF := fun W => hf x W (List.mem_of_getElem? hx)
      have HM := Lib.hid (List.mem_of_getElem? hx)
      clear hc hx
      cases ho : ok x
      · rw [ho] at HF
        have hno := Lib.hid (show L.all ok = false from List.all_eq_false.2 ⟨x, HM.out, by simp [ho]⟩)
        clear hf
        go_wp2_with fail
        refine (HF _).mono ?_; rintro e w2 ⟨rfl, hb2⟩
        go_wp2_with fail
        go_ret
        exact ⟨by rw [hno.out]; rfl, HB.out.trans (below_any (by (repeat' (first | (with_reducible exact Below.refl _ _) | (with_reducible assumption) | (with_reducible refine below_drewN ?_ _) | (with_reducible refine Below.alloc ?_ ?_ _) | (with_reducible refine Below.drew ?_) | (with_reducible refine Below.setCell ?_ ?_ _) | go_size))) hb2 hwr)⟩
      · rw [ho] at HF
        have hgood := Lib.hid (show (L.take (k + 1)).all ok = true by rw [HT.out, List.all_append, hall.out]; simp [ho])
        go_wp2_with fail
        refine (HF _).mono ?_; rintro e w2 ⟨rfl, hb2⟩
        have HB2 := Lib.hid (HB.out.trans (below_any (w0 := wr) (by (repeat' (first | (with_reducible exact Below.refl _ _) | (with_reducible assumption) | (with_reducible refine below_drewN ?_ _) | (with_reducible refine Below.alloc ?_ ?_ _) | (with_reducible refine Below.drew ?_) | (with_reducible refine Below.setCell ?_ ?_ _) | go_size))) hb2 hwr))
        clear hb2
        go_wp2_with fail
        go_roundw
        case rel => exact ⟨k + 1, by omega, by simp, hgood, HB2⟩
        case measure => first | (simp [intOf]; done) | (simp [intOf]; omega)
    · obtain rfl : k = N := by omega
      have qk : ((k : Int) < (k : Int)) = False := eq_false (by omega)
      have hyes := Lib.hid (show L.all ok = true by have := hall.out; rwa [List.take_of_length_le (by rw [HN.out]; exact Nat.le_refl _)] at this)
      go_wp2_with fail
      go_ret
      exact ⟨by rw [hyes.out]; rfl, HB.out⟩
theorem decl_eachInt (v : Value) (L : List (Int)) (ok : Int → Bool) (fn : Nat) (w : World) (hv : RowR 1 intR w v L)
    (he : ∀ (args : Array Value) (W : World), (callFunc fn args).run Try.prog W = .ok (.enter fn args) W) (hf : ∀ (x : Int) (W : World), x ∈ L → Calls Try.prog fn #[.int .i64 x] W fun e W' => e = .returned (.bool (ok x)) ∧ Below W.heap.size W W') :
    Calls Try.prog 43 #[v, .func (.func fn) #[] #[]] w fun e w' => ∃ f : Fun, e = .returned (.func (.func f.1) #[] f.2) ∧ Asks w' f (allE (L.all ok)) ∧ Below w.heap.size w w' := by
  have hmf : ∀ (fn : Fn) (first cap : Array Value) (w : World), (Instr.makeFunc fn first cap).run Try.prog w = .ok (.func fn first cap) w := fun _ _ _ _ => rfl
  obtain ⟨sv, cv, rfl⟩ := row_get hv
  obtain ⟨W1, hW1⟩ : ∃ W1, W1 = (w.alloc (.cells #[.slice sv L.length cv] 35)).alloc (.cells #[.func (.func fn) #[] #[]] 61) := ⟨_, rfl⟩
  have hb : Below w.heap.size w W1 := by rw [hW1]; exact by (repeat' (first | (with_reducible exact Below.refl _ _) | (with_reducible assumption) | (with_reducible refine below_drewN ?_ _) | (with_reducible refine Below.alloc ?_ ?_ _) | (with_reducible refine Below.drew ?_) | (with_reducible refine Below.setCell ?_ ?_ _) | go_size))
  have c1 : W1.cell? ⟨w.heap.size, 0, none⟩ = some (.slice sv L.length cv) := by rw [hW1]; exact obj_cell ((get_past (by simp)).trans (get_last rfl)) rfl
  have c2 : W1.cell? ⟨w.heap.size + 1, 0, none⟩ = some (.func (.func fn) #[] #[]) := by rw [hW1]; exact obj_cell (get_last (by simp)) rfl
  have HW1 := Lib.hid hW1
  have HA := Lib.hid (show Asks W1 (54, #[.pointer (some ⟨w.heap.size, 0, none⟩), .pointer (some ⟨w.heap.size + 1, 0, none⟩)]) (allE (L.all ok)) from
    ⟨fun _ _ => rfl, fun W hW => eachInt_1 _ _ _ L ok fn W ((hW.cell (p := ⟨w.heap.size, 0, none⟩) (World.block_lt_of_cell? _ _ c1)).trans c1) ((hW.cell (p := ⟨w.heap.size + 1, 0, none⟩) (World.block_lt_of_cell? _ _ c2)).trans c2) (hv.below intR_stable (hb.trans (hW.mono hb.size))) he hf⟩)
  clear hW1 c1 c2
  go_enter Try.func43, Try.ntmps43
  go_wp2_with fail
  rw [← HW1.out]
  go_ret
  exact ⟨(_, _), rfl, HA.out, hb⟩
end Go.Proofs.Ytogmbfhefblbjaa
