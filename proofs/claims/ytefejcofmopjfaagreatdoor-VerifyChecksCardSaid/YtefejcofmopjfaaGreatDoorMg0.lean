/- Merged texts: OwnLow, Obj, Heap, TablesR, DeclA, DeclB, DeclC, UnSlots, DeclD, DeclF, DeclG, DeclPl. -/
import Derived.Test.YtefejcofmopjfaaGreatDoorOwn
import Derived.Test.YtefejcofmopjfaaGreatDoorPgm
import Derived.Test.YtefejcofmopjfaaGreatDoorKind
import Derived.Test.YtefejcofmopjfaaGreatDoorKeep
import Derived.Test.YtefejcofmopjfaaGreatDoorMoreB
import Derived.Test.YtefejcofmopjfaaGreatDoorHeldMore
import Derived.Deep.RegionHeld3
import Derived.LoopTactic
import Derived.OwnWalk
import Derived.Deep.QuietTactic
import Derived.BigQuiet
import Derived.WalkSmall
import Derived.IntWalk
import Derived.Test.YtefejcofmopjfaaGreatDoorBlockC
import Derived.Test.YtefejcofmopjfaaGreatDoorSlots
import Derived.Deep.Cut
import Derived.Deep.CutRange
import Derived.RegionTactic
/- Rows of the call's own: with a lower bound; as what is appended. -/
namespace Go.Proofs.YtefejcofmopjfaaGreatDoor
open Go.RowKit
set_option linter.unusedSimpArgs false
set_option linter.unusedVariables false
theorem own_low {w : World} {B C : Nat} {e : TypeId} {q n : Nat} {v : Value} {xs : List Value} (h : w.ownsRow C e q v n xs) (hB : B ≤ C) : w.ownsRow B e q v n xs := by
  obtain ⟨hl, h⟩ := h
  refine ⟨hl, ?_⟩
  rcases h with h | ⟨g, cap, cur, h0, h1, h2⟩
  · exact Or.inl h
  · exact Or.inr ⟨g, cap, cur, h0, by omega, h2⟩
theorem src_own {w : World} {B : Nat} {e : TypeId} {n : Nat} {v : Value} {xs : List Value} (h : w.ownsRow B e 1 v n xs) : Src w v n xs := by
  obtain ⟨hl, h⟩ := h
  rcases h with ⟨rfl, h0⟩ | ⟨g, cap, cur, rfl, hb, hg, h1, h2, h3, h4⟩
  · subst h0; exact Or.inl ⟨rfl, rfl, List.length_eq_zero_iff.1 (by simpa using hl)⟩
  · refine Or.inr ⟨_, cap, rfl, fun j u hu => ?_⟩
    have hj : j < n := by
      by_cases hj : j < n
      · exact hj
      · rw [List.getElem?_eq_none (by omega)] at hu; cases hu
    rw [← h4, List.getElem?_take, if_pos (by omega)] at hu
    rw [add_at]
    unfold World.cell?
    rw [show (⟨g, 0 + j, none⟩ : Addr).block = g from rfl, hg]
    simpa using hu
end Go.Proofs.YtefejcofmopjfaaGreatDoor

/- Blocks of memory, by what lies in them; rows of the call's own that are written. -/
namespace Go.Proofs.YtefejcofmopjfaaGreatDoor
open Go.RowKit
set_option linter.unusedSimpArgs false
set_option linter.unusedVariables false
theorem owns_put {w : World} {B : Nat} {e : TypeId} {n : Nat} {v : Value} {xs : List Value} (h : w.ownsRow B e 1 v n xs) {k : Nat} (hk : k < n) {x : Value} :
    ∃ g cap, v = .slice (some ⟨g, 0, none⟩) n cap ∧ B ≤ g ∧ g < w.heap.size ∧ (∃ u, xs[k]? = some u ∧ w.cell? ⟨g, k, none⟩ = some u) ∧ w.frozen? ⟨g, k, none⟩ = false ∧ (w.setCell ⟨g, k, none⟩ x).ownsRow B e 1 v n (xs.set k x) := by
  obtain ⟨hl, h⟩ := h
  rcases h with ⟨rfl, h0⟩ | ⟨g, cap, cur, rfl, hb, hg, h1, h2, h3, h4⟩
  · subst h0; simp at hl; omega
  · have hlt : g < w.heap.size := by
      by_cases hgl : g < w.heap.size
      · exact hgl
      · rw [Array.getElem?_eq_none (Nat.le_of_not_lt hgl)] at hg; cases hg
    obtain ⟨u, hu⟩ : ∃ u, xs[k]? = some u := get_some (by omega)
    have hcell : cur[k]? = some u := by
      have h5 := hu
      rw [← h4, List.getElem?_take, if_pos (by omega)] at h5
      simpa using h5
    refine ⟨g, cap, rfl, hb, hlt, ⟨u, hu, ?_⟩, ?_, ?_⟩
    · unfold World.cell?
      rw [show (⟨g, k, none⟩ : Addr).block = g from rfl, hg]
      simpa using hcell
    · unfold World.frozen?
      rw [show (⟨g, k, none⟩ : Addr).block = g from rfl, hg]
      simp
    · refine ⟨by simpa using hl, Or.inr ⟨g, cap, cur.setIfInBounds k x, rfl, hb, ?_, h1, h2, by simpa using h3, ?_⟩⟩
      · unfold World.setCell
        show (w.heap.modify g _)[g]? = _
        rw [Array.getElem?_modify, if_pos rfl, hg]
        rfl
      · rw [← h4]
        apply List.ext_getElem?
        intro i
        rw [List.getElem?_take, List.getElem?_set, List.getElem?_take]
        by_cases hi : i < n * 1
        · rw [if_pos hi]
          by_cases hki : k = i
          · subst hki
            have : k < cur.size := by omega
            have h0 : k < (cur.setIfInBounds k x).toList.length := by simp; omega
            simp [this, hk]; try omega
          · simp only [Array.toList_setIfInBounds, List.getElem?_set, if_neg hki]
            rw [if_pos hi]
        · rw [if_neg hi, if_neg (by omega : ¬ k = i), if_neg hi]
theorem owns_arr (w : World) (Z : Array Value) (e : TypeId) (q m : Nat) (hZ : Z.size = m * q) (hm : m ≤ maxLen) : (w.alloc (.cells Z e)).ownsRow w.heap.size e q (.slice (some ⟨w.heap.size, 0, none⟩) m m) m Z.toList := by
  refine ⟨by simp [hZ], Or.inr ⟨w.heap.size, m, Z, rfl, Nat.le_refl _, ?_, Nat.le_refl _, hm, hZ, by rw [List.take_of_length_le (by simp [hZ])]⟩⟩
  show (w.heap.push _)[w.heap.size]? = _
  simp
/-- a block of another type stays as it is, whatever is written into a row of the call's own -/
theorem obj_set {w : World} {B : Nat} {e t : TypeId} {q n p : Nat} {v : Value} {xs A : _} {g o : Nat} {x : Value} (hp : w.heap[p]? = some (.cells A t)) (h : w.ownsRow B e q v n xs) (hg : v.ownBlock = some g) (he : t ≠ e) : (w.setCell ⟨g, o, none⟩ x).heap[p]? = some (.cells A t) := by
  have hne : g ≠ p := by
    intro hgp
    subst hgp
    rcases h.2 with ⟨h0, _⟩ | ⟨b, cap, cur, h0, _, h1, _⟩
    · rw [h0] at hg; simp [Value.ownBlock] at hg
    · rw [h0] at hg
      have e1 : b = g := by simpa [Value.ownBlock] using hg
      subst e1
      rw [hp] at h1
      simp at h1
      exact he h1.2
  rw [← hp]
  unfold World.setCell
  show (w.heap.modify g _)[p]? = _
  rw [Array.getElem?_modify, if_neg hne]
theorem obj_cell {w : World} {p : Nat} {A : Array Value} {t : TypeId} (hp : w.heap[p]? = some (.cells A t)) {i : Nat} {u : Value} (hu : A[i]? = some u) : w.cell? ⟨p, i, none⟩ = some u := by
  unfold World.cell?
  rw [show (⟨p, i, none⟩ : Addr).block = p from rfl, hp]
  simpa using hu
theorem heap_push (w : World) (o : Obj) : (w.alloc o).heap = w.heap.push o := rfl
theorem get_last {w : World} {o : Obj} {g : Nat} (h : g = w.heap.size) : (w.alloc o).heap[g]? = some o := by
  subst h
  show (w.heap.push o)[w.heap.size]? = _
  simp
theorem get_past {w : World} {o : Obj} {g : Nat} (h : g < w.heap.size) : (w.alloc o).heap[g]? = w.heap[g]? := by
  show (w.heap.push o)[g]? = _
  rw [Array.getElem?_push, if_neg (by omega)]
theorem obj_below {B : Nat} {w w' : World} {p : Nat} {o : Obj} (hp : w.heap[p]? = some o) (hb : Below B w w') (h : p < B) : w'.heap[p]? = some o := (hb.block p h).trans hp
theorem obj_frozen {w : World} {p : Nat} {A : Array Value} {t : TypeId} (hp : w.heap[p]? = some (.cells A t)) (i : Nat) : w.frozen? ⟨p, i, none⟩ = false := by
  unfold World.frozen?
  rw [show (⟨p, i, none⟩ : Addr).block = p from rfl, hp]
  simp
theorem obj_self {w : World} {p i : Nat} {A : Array Value} {t : TypeId} {x : Value} (hp : w.heap[p]? = some (.cells A t)) : (w.setCell ⟨p, i, none⟩ x).heap[p]? = some (.cells (A.setIfInBounds i x) t) := by
  unfold World.setCell
  show (w.heap.modify p _)[p]? = _
  rw [Array.getElem?_modify, if_pos rfl, hp]
  rfl
theorem get_set {w : World} {a : Addr} {x : Value} {g : Nat} (h : a.block ≠ g) : (w.setCell a x).heap[g]? = w.heap[g]? := by
  unfold World.setCell
  show (w.heap.modify a.block _)[g]? = _
  rw [Array.getElem?_modify, if_neg h]
theorem drew_heap (w : World) : w.drew.heap = w.heap := rfl
end Go.Proofs.YtefejcofmopjfaaGreatDoor

/- A block's number is below the heap's size. -/
namespace Go.Proofs.YtefejcofmopjfaaGreatDoor
open Go.RowKit
theorem heap_lt {w : World} {g : Nat} {o : Obj} (h : w.heap[g]? = some o) : g < w.heap.size := by
  by_cases hl : g < w.heap.size
  · exact hl
  · rw [Array.getElem?_eq_none (Nat.le_of_not_lt hl)] at h; cases h
end Go.Proofs.YtefejcofmopjfaaGreatDoor

/- Layer 17: what is wrong of tables, by the answer. -/
namespace Go.Proofs.YtefejcofmopjfaaGreatDoor
open Go.RowKit
set_option linter.unusedSimpArgs false
set_option linter.unusedVariables false
def goodV (x : Vr) : Bool := kRight x.t && (kIn x.t x.init && decide (1 ≤ x.n ∧ x.n ≤ 16 ∧ 0 ≤ x.area ∧ x.area ≤ 2))
def goodB (x : Bk) : Bool := decide (1 ≤ x.kind ∧ x.kind ≤ 8)
def tablesE (V : List Vr) (B : List Bk) : Int := if 64 < V.length ∨ 32 < B.length then 5 else if V.all goodV && B.all goodB then 0 else 10
theorem good_no {x : Vr} (h : kRight x.t = false ∨ kIn x.t x.init = false ∨ ¬ (1 ≤ x.n ∧ x.n ≤ 16 ∧ 0 ≤ x.area ∧ x.area ≤ 2)) : goodV x = false := by
  unfold goodV
  rcases h with h | h | h
  · rw [h]; rfl
  · rw [h]; simp
  · rw [decide_eq_false h]; simp
theorem good_yes {x : Vr} (h1 : kRight x.t = true) (h2 : kIn x.t x.init = true) (h3 : 1 ≤ x.n ∧ x.n ≤ 16 ∧ 0 ≤ x.area ∧ x.area ≤ 2) : goodV x = true := by
  unfold goodV; rw [h1, h2, decide_eq_true h3]; rfl
set_option maxRecDepth 100000 in
set_option maxHeartbeats 8000000 in
theorem ref17_Tables (vv bv : Value) (V : List Vr) (B : List Bk) (w : World) (hvv : RowR 5 varR w vv V) (hbv : RowR 2 blkR w bv B) :
    Calls Tryz.prog 25 #[vv, bv] w fun e w' => e = .returned (.int .i64 (tablesE V B)) ∧ Below w.heap.size w w' := by
  have hvl := hvv.len
  have hbl := hbv.len
  obtain ⟨sv, cv, rfl⟩ := row_get hvv
  obtain ⟨sb, cb, rfl⟩ := row_get hbv
  obtain ⟨N, hN⟩ : ∃ N, V.length = N := ⟨_, rfl⟩
  obtain ⟨M, hM⟩ : ∃ N, B.length = N := ⟨_, rfl⟩
  have HL := Lib.hid (And.intro hN hM)
  rw [hN] at hvv hvl ⊢
  rw [hM] at hbv hbl ⊢
  clear hN hM
  by_cases h1 : 64 < N
  · have q1 : (64 < (N : Int)) = True := eq_true (by omega)
    have hq := Lib.hid (show tablesE V B = 5 by unfold tablesE; rw [if_pos (Or.inl (by have := HL.out; omega))])
    clear h1
    go_enter Tryz.func25, Tryz.ntmps25
    go_wp2_with fail
    go_ret
    exact ⟨by rw [hq.out]; rfl, by (repeat' (first | (with_reducible exact Below.refl _ _) | (with_reducible assumption) | (with_reducible refine below_drewN ?_ _) | (with_reducible refine Below.alloc ?_ ?_ _) | (with_reducible refine Below.drew ?_) | (with_reducible refine Below.setCell ?_ ?_ _) | go_size))⟩
  have q1 : (64 < (N : Int)) = False := eq_false (by omega)
  by_cases h2 : 32 < M
  · have q2 : (32 < (M : Int)) = True := eq_true (by omega)
    have hq := Lib.hid (show tablesE V B = 5 by unfold tablesE; rw [if_pos (Or.inr (by have := HL.out; omega))])
    clear h1 h2
    go_enter Tryz.func25, Tryz.ntmps25
    go_wp2_with fail
    go_ret
    exact ⟨by rw [hq.out]; rfl, by (repeat' (first | (with_reducible exact Below.refl _ _) | (with_reducible assumption) | (with_reducible refine below_drewN ?_ _) | (with_reducible refine Below.alloc ?_ ?_ _) | (with_reducible refine Below.drew ?_) | (with_reducible refine Below.setCell ?_ ?_ _) | go_size))⟩
  have q2 : (32 < (M : Int)) = False := eq_false (by omega)
  have hNs : N ≤ 64 := by omega
  have hMs : M ≤ 32 := by omega
  have HT := Lib.hid (show tablesE V B = if V.all goodV && B.all goodB then 0 else 10 by unfold tablesE; rw [if_neg (by have := HL.out; omega)])
  clear h1 h2 hvl hbl
  go_enter Tryz.func25, Tryz.ntmps25
  go_wp2_with fail
  go_loopw [5] (fun jj wr => ∃ (k : Nat), k ≤ N ∧ jj = .int .i64 k ∧ Hid ((V.take k).all goodV = true) ∧ Hid (Below w.heap.size w wr)) (fun jj _ => N - (intOf jj).toNat)
  case atStart => exact ⟨0, by omega, rfl, Lib.hid (by simp), Lib.hid (Below.refl _ _)⟩
  case round =>
    obtain ⟨k, hk, rfl, hall, hB⟩ := hrel
    by_cases hlt : k < N
    · have qk : ((k : Int) < (N : Int)) = True := eq_true (by omega)
      obtain ⟨x, hx⟩ := get_some (L := V) (n := k) (by have := HL.out.1; omega)
      obtain ⟨bb, off, rfl, hbw, hc⟩ := var_at hvv (k := k) (lt_of_get hx)
      obtain ⟨_, c1, c2, c3, c4, _⟩ := hc k x hx
      have c1 := (hB.out.cell (p := ⟨bb, off + k * 5 + 1, none⟩) hbw).trans c1
      have c2 := (hB.out.cell (p := ⟨bb, off + k * 5 + 2, none⟩) hbw).trans c2
      have c3 := (hB.out.cell (p := ⟨bb, off + k * 5 + 3, none⟩) hbw).trans c3
      have c4 := (hB.out.cell (p := ⟨bb, off + k * 5 + 4, none⟩) hbw).trans c4
      have zv : bb < wr.heap.size := World.block_lt_of_cell? _ _ c1
      have HNo := Lib.hid (fun h : goodV x = false => HT.out.trans (by rw [show V.all goodV = false from List.all_eq_false.2 ⟨x, List.mem_of_getElem? hx, by simp [h]⟩]; try rfl))
      have HTs := Lib.hid (take_snoc hx)
      have HI := Lib.hid (fun W => (ref01_In x.t x.init W).mono fun e w' (h : e = .returned (.bool (kIn x.t x.init)) ∧ W = w') => (⟨h.1, h.2.symm⟩ : e = .returned (.bool (kIn x.t x.init)) ∧ w' = W))
      have HRr := Lib.hid (fun W => (ref01_Right x.t W).mono fun e w' (h : e = .returned (.bool (kRight x.t)) ∧ W = w') => (⟨h.1, h.2.symm⟩ : e = .returned (.bool (kRight x.t)) ∧ w' = W))
      clear hc hx
      cases hr : kRight x.t
      · rw [hr] at HRr
        have hno := Lib.hid (HNo.out (by exact good_no (Or.inl hr)))
        go_wp2_with fail
        go_quiet ((first | (go_at_call 23; exact Calls.quiet_of_same (HRr.out _)) | (go_at_call 24; exact Calls.quiet_of_same (HI.out _))))
        go_wp2_with fail
        go_ret
        exact ⟨by rw [hno.out]; rfl, hB.out.trans ((Below_drewN _ wr _).mono hB.out.size)⟩
      rw [hr] at HRr
      cases hi : kIn x.t x.init
      · rw [hi] at HI
        have hno := Lib.hid (HNo.out (by exact good_no (Or.inr (Or.inl hi))))
        go_wp2_with fail
        go_quiet ((first | (go_at_call 23; exact Calls.quiet_of_same (HRr.out _)) | (go_at_call 24; exact Calls.quiet_of_same (HI.out _))))
        go_wp2_with fail
        go_ret
        exact ⟨by rw [hno.out]; rfl, hB.out.trans ((Below_drewN _ wr _).mono hB.out.size)⟩
      rw [hi] at HI
      by_cases g1 : x.n < 1
      · have p1 : (x.n < 1) = True := eq_true g1
        have hno := Lib.hid (HNo.out (by exact good_no (Or.inr (Or.inr (by omega)))))
        clear g1
        go_wp2_with fail
        go_quiet ((first | (go_at_call 23; exact Calls.quiet_of_same (HRr.out _)) | (go_at_call 24; exact Calls.quiet_of_same (HI.out _))))
        go_wp2_with fail
        go_ret
        exact ⟨by rw [hno.out]; rfl, hB.out.trans ((Below_drewN _ wr _).mono hB.out.size)⟩
      have p1 : (x.n < 1) = False := eq_false g1
      by_cases g2 : 16 < x.n
      · have p2 : (16 < x.n) = True := eq_true g2
        have hno := Lib.hid (HNo.out (by exact good_no (Or.inr (Or.inr (by omega)))))
        clear g1 g2
        go_wp2_with fail
        go_quiet ((first | (go_at_call 23; exact Calls.quiet_of_same (HRr.out _)) | (go_at_call 24; exact Calls.quiet_of_same (HI.out _))))
        go_wp2_with fail
        go_ret
        exact ⟨by rw [hno.out]; rfl, hB.out.trans ((Below_drewN _ wr _).mono hB.out.size)⟩
      have p2 : (16 < x.n) = False := eq_false g2
      by_cases g3 : x.area < 0
      · have p3 : (x.area < 0) = True := eq_true g3
        have hno := Lib.hid (HNo.out (by exact good_no (Or.inr (Or.inr (by omega)))))
        clear g1 g2 g3
        go_wp2_with fail
        go_quiet ((first | (go_at_call 23; exact Calls.quiet_of_same (HRr.out _)) | (go_at_call 24; exact Calls.quiet_of_same (HI.out _))))
        go_wp2_with fail
        go_ret
        exact ⟨by rw [hno.out]; rfl, hB.out.trans ((Below_drewN _ wr _).mono hB.out.size)⟩
      have p3 : (x.area < 0) = False := eq_false g3
      by_cases g4 : 2 < x.area
      · have p4 : (2 < x.area) = True := eq_true g4
        have hno := Lib.hid (HNo.out (by exact good_no (Or.inr (Or.inr (by omega)))))
        clear g1 g2 g3 g4
        go_wp2_with fail
        go_quiet ((first | (go_at_call 23; exact Calls.quiet_of_same (HRr.out _)) | (go_at_call 24; exact Calls.quiet_of_same (HI.out _))))
        go_wp2_with fail
        go_ret
        exact ⟨by rw [hno.out]; rfl, hB.out.trans ((Below_drewN _ wr _).mono hB.out.size)⟩
      have p4 : (2 < x.area) = False := eq_false g4
      have hgood := Lib.hid (show (V.take (k + 1)).all goodV = true by rw [HTs.out, List.all_append, hall.out]; simp [good_yes hr hi (by omega)])
      clear g1 g2 g3 g4
      go_wp2_with fail
      go_quiet ((first | (go_at_call 23; exact Calls.quiet_of_same (HRr.out _)) | (go_at_call 24; exact Calls.quiet_of_same (HI.out _))))
      have hBn := Lib.hid (fun nq => (hB.out.trans ((Below_drewN _ wr nq).mono hB.out.size) : Below w.heap.size w (wr.drewN nq)))
      go_wp2_with fail
      go_roundw
      case rel => exact ⟨k + 1, by omega, by simp, hgood, Lib.hid (hBn.out _)⟩
      case measure => first | (simp [intOf]; done) | (simp [intOf]; omega)
    · obtain rfl : k = N := by omega
      have qk : ((k : Int) < (k : Int)) = False := eq_false (by omega)
      have hV := Lib.hid (show V.all goodV = true by have := hall.out; rwa [List.take_of_length_le (by have := HL.out.1; omega)] at this)
      have HB1 := hB
      clear hall hB
      go_wp2_with fail
      go_loopw [6] (fun jj wr2 => ∃ (q : Nat), q ≤ M ∧ jj = .int .i64 q ∧ Hid ((B.take q).all goodB = true) ∧ wr2 = wr) (fun jj _ => M - (intOf jj).toNat)
      case atStart => exact ⟨0, by omega, rfl, Lib.hid (by simp), rfl⟩
      case round =>
        obtain ⟨q, hq, rfl, hal, rfl⟩ := hrel
        by_cases hqm : q < M
        · have qq : ((q : Int) < (M : Int)) = True := eq_true (by omega)
          obtain ⟨y, hy⟩ := get_some (L := B) (n := q) (by have := HL.out.2; omega)
          obtain ⟨bc, off2, rfl, hbc, hd⟩ := blk_at hbv (k := q) (lt_of_get hy)
          obtain ⟨_, d1, _, _⟩ := hd q y hy
          have d1 := (HB1.out.cell (p := ⟨bc, off2 + q * 2 + 1, none⟩) hbc).trans d1
          have HNo := Lib.hid (fun h : goodB y = false => HT.out.trans (by rw [hV.out, show B.all goodB = false from List.all_eq_false.2 ⟨y, List.mem_of_getElem? hy, by simp [h]⟩]; try rfl))
          have HTs := Lib.hid (take_snoc hy)
          clear hd hy
          by_cases g1 : y.kind < 1
          · have p1 : (y.kind < 1) = True := eq_true g1
            have hno := Lib.hid (HNo.out (decide_eq_false (by omega)))
            clear g1
            go_wp2_with fail
            go_ret
            exact ⟨by rw [hno.out]; rfl, HB1.out⟩
          have p1 : (y.kind < 1) = False := eq_false g1
          by_cases g2 : 8 < y.kind
          · have p2 : (8 < y.kind) = True := eq_true g2
            have hno := Lib.hid (HNo.out (decide_eq_false (by omega)))
            clear g1 g2
            go_wp2_with fail
            go_ret
            exact ⟨by rw [hno.out]; rfl, HB1.out⟩
          have p2 : (8 < y.kind) = False := eq_false g2
          have hgood := Lib.hid (show (B.take (q + 1)).all goodB = true by rw [HTs.out, List.all_append, hal.out]; simp [show goodB y = true from decide_eq_true (by omega)])
          clear g1 g2
          go_wp2_with fail
          go_roundw
          case rel => exact ⟨q + 1, by omega, by simp, hgood, by first | rfl | trivial⟩
          case measure => first | (simp [intOf]; done) | (simp [intOf]; omega)
        · obtain rfl : q = M := by omega
          have qq : ((q : Int) < (q : Int)) = False := eq_false (by omega)
          have hyes := Lib.hid (show tablesE V B = 0 by rw [HT.out, hV.out, show B.all goodB = true by have := hal.out; rwa [List.take_of_length_le (by have := HL.out.2; omega)] at this]; try rfl)
          go_wp2_with fail
          go_ret
          exact ⟨by rw [hyes.out]; rfl, HB1.out⟩
end Go.Proofs.YtefejcofmopjfaaGreatDoor

/- Layer 17: functions that ask, one behind the other; what each asks. -/
namespace Go.Proofs.YtefejcofmopjfaaGreatDoor
open Go.RowKit
set_option linter.unusedSimpArgs false
set_option linter.unusedVariables false
abbrev Fun := Nat × Array Value
def funcR : Rep Fun := fun _ cs f => cs = [.func (.func f.1) #[] f.2]
theorem funcR_stable : Stable funcR := fun _ _ _ _ h _ => h
def firstE (es : List Int) : Int := (es.find? (· != 0)).getD 0
theorem firstE_at {es : List Int} {k : Nat} {z : Int} (h : ∀ x ∈ es.take k, x = 0) (hk : es[k]? = some z) (hz : z ≠ 0) : firstE es = z := by
  unfold firstE
  rw [← List.take_append_drop k es, List.find?_append]
  have h0 : (es.take k).find? (· != 0) = none := List.find?_eq_none.2 fun x hx => by simp [h x hx]
  have hd : es.drop k = z :: es.drop (k + 1) := by
    have hl := lt_of_get hk
    rw [List.drop_eq_getElem_cons hl]
    congr 1
    have := List.getElem?_eq_some_iff.1 hk
    obtain ⟨_, this⟩ := this
    exact this
  rw [h0, hd]
  simp [hz]
theorem firstE_none {es : List Int} (h : ∀ x ∈ es, x = 0) : firstE es = 0 := by
  unfold firstE
  rw [List.find?_eq_none.2 fun x hx => by simp [h x hx]]
  rfl
set_option maxHeartbeats 4000000 in
theorem decl_asks (v : Value) (fs : List Fun) (es : List Int) (w : World) (hv : RowR 1 funcR w v fs) (hl : es.length = fs.length)
    (he : ∀ f ∈ fs, ∀ (args : Array Value) (W : World), (callFunc f.1 args).run Tryz.prog W = .ok (.enter f.1 args) W)
    (hf : ∀ (i : Nat) (f : Fun) (e : Int), fs[i]? = some f → es[i]? = some e → ∀ W, Below w.heap.size w W → Calls Tryz.prog f.1 f.2 W fun x W' => x = .returned (.int .i64 e) ∧ Below W.heap.size W W') :
    Calls Tryz.prog 44 #[v] w fun e w' => e = .returned (.int .i64 (firstE es)) ∧ Below w.heap.size w w' := by
  have hvl := hv.len
  obtain ⟨sv, cv, rfl⟩ := row_get hv
  obtain ⟨N, hN⟩ : ∃ N, fs.length = N := ⟨_, rfl⟩
  have HN := Lib.hid hN
  have HL := Lib.hid hl
  rw [hN] at hv hvl ⊢
  clear hN hl
  go_enter Tryz.func44, Tryz.ntmps44
  go_wp2_with fail
  go_loopw [8] (fun jj wr => ∃ (k : Nat), k ≤ N ∧ jj = .int .i64 k ∧ Hid (∀ x ∈ es.take k, x = 0) ∧ Hid (Below w.heap.size w wr)) (fun jj _ => N - (intOf jj).toNat)
  case atStart => exact ⟨0, by omega, rfl, Lib.hid (by simp), Lib.hid (Below.refl _ _)⟩
  case round =>
    obtain ⟨k, hk, rfl, hall, HB⟩ := hrel
    by_cases hlt : k < N
    · have qk : ((k : Int) < (N : Int)) = True := eq_true (by omega)
      obtain ⟨f, hfk⟩ := get_some (L := fs) (n := k) (by rw [HN.out]; exact hlt)
      obtain ⟨z, hz⟩ := get_some (L := es) (n := k) (by rw [HL.out, HN.out]; exact hlt)
      obtain ⟨b, off, rfl, hbw, hc⟩ := row_at hv (k := k) (by rw [HN.out]; exact hlt)
      obtain ⟨C, _, hc2, hc3⟩ := hc k f hfk
      obtain ⟨n, cap⟩ := f
      obtain rfl : C = [.func (.func n) #[] cap] := hc3
      have c0 := (HB.out.cell (p := ⟨b, off + k * 1 + 0, none⟩) hbw).trans (hc2 0 _ rfl)
      simp only [Nat.mul_one, Nat.add_zero] at c0
      have HF := hf k _ z hfk hz wr HB.out
      have eg := he _ (List.mem_of_getElem? hfk)
      have HZ := Lib.hid hz
      have HT := Lib.hid (take_snoc hz)
      clear hc hc2 hfk hz
      by_cases h0 : z = 0
      · subst h0
        go_wp2_with fail
        refine HF.mono ?_; rintro e w2 ⟨rfl, hb2⟩
        have HB2 := Lib.hid (HB.out.trans (hb2.mono HB.out.size))
        clear hb2
        go_wp2_with fail
        go_roundw
        case rel => exact ⟨k + 1, by omega, by simp, Lib.hid (by rw [HT.out]; intro x hx; rcases List.mem_append.1 hx with h | h; exact hall.out x h; simpa using h), HB2⟩
        case measure => first | (simp [intOf]; done) | (simp [intOf]; omega)
      · have q0 : (z != 0) = true := by simpa using h0
        have hfe := Lib.hid (firstE_at hall.out HZ.out h0)
        go_wp2_with fail
        refine HF.mono ?_; rintro e w2 ⟨rfl, hb2⟩
        have HB2 := Lib.hid (HB.out.trans (hb2.mono HB.out.size))
        clear hb2
        go_wp2_with fail
        go_ret
        exact ⟨by rw [hfe.out]; rfl, HB2.out⟩
    · obtain rfl : k = N := by omega
      have qk : ((k : Int) < (k : Int)) = False := eq_false (by omega)
      have hfe := Lib.hid (firstE_none (es := es) (by have := hall.out; rwa [List.take_of_length_le (by rw [HL.out, HN.out]; exact Nat.le_refl _)] at this))
      go_wp2_with fail
      go_ret
      exact ⟨by rw [hfe.out]; rfl, HB.out⟩
def unlessE (b : Bool) (z : Int) : Int := if b then 0 else z
theorem decl_unless (b : Bool) (z : Int) (w : World) : Calls Tryz.prog 46 #[.bool b, .int .i64 z] w fun e w' => e = .returned (.int .i64 (unlessE b z)) ∧ w' = w := by
  cases b
  · go_enter Tryz.func46, Tryz.ntmps46
    go_wp2_with fail
    go_ret
    exact ⟨rfl, rfl⟩
  · go_enter Tryz.func46, Tryz.ntmps46
    go_wp2_with fail
    go_ret
    exact ⟨rfl, rfl⟩
theorem decl_few (a b : Option Addr) (n m c d : Nat) (w : World) : Calls Tryz.prog 48 #[.slice a n c, .slice b m d] w fun e w' => e = .returned (.bool (decide (n ≤ 64 ∧ m ≤ 32))) ∧ w' = w := by
  by_cases h1 : n ≤ 64
  · have q1 : ((n : Int) ≤ 64) = True := eq_true (by omega)
    go_enter Tryz.func48, Tryz.ntmps48
    go_wp2_with fail
    go_ret
    exact ⟨by simp [h1]; omega, rfl⟩
  · have q1 : ((n : Int) ≤ 64) = False := eq_false (by omega)
    go_enter Tryz.func48, Tryz.ntmps48
    go_wp2_with fail
    go_ret
    exact ⟨by simp [h1], rfl⟩
theorem decl_rightConst (x : Int × Int) (w : World) : Calls Tryz.prog 50 #[.agg #[.int .i64 x.1, .int .i64 x.2]] w fun e w' => e = .returned (.bool (kIn x.1 x.2)) ∧ Below w.heap.size w w' := by
  go_enter Tryz.func50, Tryz.ntmps50
  go_wp2_with fail
  refine (kind_In _ _ _).mono ?_; rintro e w2 ⟨rfl, rfl⟩
  go_wp2_with fail
  go_ret
  exact ⟨rfl, by (repeat' (first | (with_reducible exact Below.refl _ _) | (with_reducible assumption) | (with_reducible refine below_drewN ?_ _) | (with_reducible refine Below.alloc ?_ ?_ _) | (with_reducible refine Below.drew ?_) | (with_reducible refine Below.setCell ?_ ?_ _) | go_size))⟩
theorem decl_rightBlock (x : Bk) (w : World) : Calls Tryz.prog 72 #[.agg #[.string ⟨x.name.toArray⟩, .int .i64 x.kind]] w fun e w' => e = .returned (.bool (goodB x)) ∧ Below w.heap.size w w' := by
  go_enter Tryz.func72, Tryz.ntmps72
  go_wp2_with fail
  refine (block_Right _ _).mono ?_; rintro e w2 ⟨rfl, rfl⟩
  go_wp2_with fail
  go_ret
  exact ⟨rfl, by (repeat' (first | (with_reducible exact Below.refl _ _) | (with_reducible assumption) | (with_reducible refine below_drewN ?_ _) | (with_reducible refine Below.alloc ?_ ?_ _) | (with_reducible refine Below.drew ?_) | (with_reducible refine Below.setCell ?_ ?_ _) | go_size))⟩
end Go.Proofs.YtefejcofmopjfaaGreatDoor

/- Layer 17: a variable; all of a list. -/
namespace Go.Proofs.YtefejcofmopjfaaGreatDoor
open Go.RowKit
set_option linter.unusedSimpArgs false
set_option linter.unusedVariables false
/-- a function that answers e in every later world -/
def Asks (w : World) (f : Fun) (e : Int) : Prop :=
  (∀ (args : Array Value) (W : World), (callFunc f.1 args).run Tryz.prog W = .ok (.enter f.1 args) W) ∧ ∀ W, Below w.heap.size w W → Calls Tryz.prog f.1 f.2 W fun x W' => x = .returned (.int .i64 e) ∧ Below W.heap.size W W'
theorem Asks.later {w w' : World} {f : Fun} {e : Int} (h : Asks w f e) (hb : Below w.heap.size w w') : Asks w' f e := ⟨h.1, fun W hW => h.2 W (hb.trans (hW.mono hb.size))⟩
theorem asks_all (v : Value) (fs : List Fun) (es : List Int) (w : World) (hv : RowR 1 funcR w v fs) (hl : es.length = fs.length) (h : ∀ (i : Nat) (f : Fun) (e : Int), fs[i]? = some f → es[i]? = some e → Asks w f e) :
    Calls Tryz.prog 44 #[v] w fun e w' => e = .returned (.int .i64 (firstE es)) ∧ Below w.heap.size w w' :=
  decl_asks v fs es w hv hl (fun f hf => by
    obtain ⟨i, hi, rfl⟩ := List.getElem_of_mem hf
    obtain ⟨e, he⟩ := get_some (L := es) (n := i) (by omega)
    exact (h i _ e (by simp [hi]) he).1) (fun i f e hf he => (h i f e hf he).2)
def allE (b : Bool) : Int := if b then 0 else 10
theorem row_funcs {w : World} {g : Nat} {A : Array Value} {t : TypeId} {fs : List Fun} (h : w.heap[g]? = some (.cells A t)) (hA : A.toList = fs.map fun f => Value.func (.func f.1) #[] f.2) (h0 : 0 < fs.length) (hm : fs.length ≤ maxLen) : RowR 1 funcR w (.slice (some ⟨g, 0, none⟩) fs.length fs.length) fs :=
  Or.inr ⟨g, 0, fs.length, rfl, h0, Nat.le_refl _, hm, heap_lt h, fun i f hf => ⟨[.func (.func f.1) #[] f.2], rfl, fun j u hu => by
      have hj : j < 1 := lt_of_get hu
      obtain rfl : j = 0 := by omega
      obtain rfl : Value.func (.func f.1) #[] f.2 = u := by simpa using hu
      simp only [Nat.zero_add, Nat.mul_one, Nat.add_zero]
      refine obj_cell h ?_
      rw [← Array.getElem?_toList, hA, List.getElem?_map, hf]
      rfl, rfl⟩⟩
theorem below_any {w0 wa w1 : World} (h : Below w0.heap.size w0 wa) (hb : Below wa.heap.size wa w1) {w : World} (hw : w.heap.size ≤ w0.heap.size) : Below w.heap.size w0 w1 := (h.trans (hb.mono h.size)).mono hw
theorem decl_rightVar (x : Vr) (w : World) : Calls Tryz.prog 70 #[.agg #[.string ⟨x.name.toArray⟩, .int .i64 x.t, .int .i64 x.n, .int .i64 x.area, .int .i64 x.init]] w fun e w' => e = .returned (.bool (goodV x)) ∧ Below w.heap.size w w' := by
  have hI := kind_In x.t x.init
  have hkr : kIn x.t x.init = true → kRight x.t = true := fun h => by unfold kIn at h; simp at h; exact h.1
  by_cases g1 : x.n < 1
  · have hno := Lib.hid (good_no (x := x) (Or.inr (Or.inr (by omega))))
    have pg1 : (1 ≤ x.n) = False := eq_false (by omega)
    clear hI hkr g1
    go_enter Tryz.func70, Tryz.ntmps70
    go_wp2_with fail
    go_ret
    exact ⟨by rw [hno.out]; rfl, by (repeat' (first | (with_reducible exact Below.refl _ _) | (with_reducible assumption) | (with_reducible refine below_drewN ?_ _) | (with_reducible refine Below.alloc ?_ ?_ _) | (with_reducible refine Below.drew ?_) | (with_reducible refine Below.setCell ?_ ?_ _) | go_size))⟩
  have pg1 : (1 ≤ x.n) = True := eq_true (by omega)
  by_cases g2 : 16 < x.n
  · have hno := Lib.hid (good_no (x := x) (Or.inr (Or.inr (by omega))))
    have pg2 : (x.n ≤ 16) = False := eq_false (by omega)
    clear hI hkr g2 g1
    go_enter Tryz.func70, Tryz.ntmps70
    go_wp2_with fail
    go_ret
    exact ⟨by rw [hno.out]; rfl, by (repeat' (first | (with_reducible exact Below.refl _ _) | (with_reducible assumption) | (with_reducible refine below_drewN ?_ _) | (with_reducible refine Below.alloc ?_ ?_ _) | (with_reducible refine Below.drew ?_) | (with_reducible refine Below.setCell ?_ ?_ _) | go_size))⟩
  have pg2 : (x.n ≤ 16) = True := eq_true (by omega)
  by_cases g3 : x.area < 0
  · have hno := Lib.hid (good_no (x := x) (Or.inr (Or.inr (by omega))))
    have pg3 : (0 ≤ x.area) = False := eq_false (by omega)
    clear hI hkr g3 g1 g2
    go_enter Tryz.func70, Tryz.ntmps70
    go_wp2_with fail
    go_ret
    exact ⟨by rw [hno.out]; rfl, by (repeat' (first | (with_reducible exact Below.refl _ _) | (with_reducible assumption) | (with_reducible refine below_drewN ?_ _) | (with_reducible refine Below.alloc ?_ ?_ _) | (with_reducible refine Below.drew ?_) | (with_reducible refine Below.setCell ?_ ?_ _) | go_size))⟩
  have pg3 : (0 ≤ x.area) = True := eq_true (by omega)
  by_cases g4 : 2 < x.area
  · have hno := Lib.hid (good_no (x := x) (Or.inr (Or.inr (by omega))))
    have pg4 : (x.area ≤ 2) = False := eq_false (by omega)
    clear hI hkr g4 g1 g2 g3
    go_enter Tryz.func70, Tryz.ntmps70
    go_wp2_with fail
    go_ret
    exact ⟨by rw [hno.out]; rfl, by (repeat' (first | (with_reducible exact Below.refl _ _) | (with_reducible assumption) | (with_reducible refine below_drewN ?_ _) | (with_reducible refine Below.alloc ?_ ?_ _) | (with_reducible refine Below.drew ?_) | (with_reducible refine Below.setCell ?_ ?_ _) | go_size))⟩
  have pg4 : (x.area ≤ 2) = True := eq_true (by omega)
  cases hi : kIn x.t x.init
  · rw [hi] at hI
    have hno := Lib.hid (good_no (x := x) (Or.inr (Or.inl hi)))
    clear hkr g1 g2 g3 g4
    go_enter Tryz.func70, Tryz.ntmps70
    go_wp2_with fail
    refine (hI _).mono ?_; rintro e w2 ⟨rfl, rfl⟩
    go_wp2_with fail
    go_ret
    exact ⟨by rw [hno.out]; rfl, by (repeat' (first | (with_reducible exact Below.refl _ _) | (with_reducible assumption) | (with_reducible refine below_drewN ?_ _) | (with_reducible refine Below.alloc ?_ ?_ _) | (with_reducible refine Below.drew ?_) | (with_reducible refine Below.setCell ?_ ?_ _) | go_size))⟩
  · rw [hi] at hI
    have hno := Lib.hid (good_yes (x := x) (hkr hi) hi (by omega))
    clear hkr g1 g2 g3 g4
    go_enter Tryz.func70, Tryz.ntmps70
    go_wp2_with fail
    refine (hI _).mono ?_; rintro e w2 ⟨rfl, rfl⟩
    go_wp2_with fail
    go_ret
    exact ⟨by rw [hno.out]; rfl, by (repeat' (first | (with_reducible exact Below.refl _ _) | (with_reducible assumption) | (with_reducible refine below_drewN ?_ _) | (with_reducible refine Below.alloc ?_ ?_ _) | (with_reducible refine Below.drew ?_) | (with_reducible refine Below.setCell ?_ ?_ _) | go_size))⟩
set_option maxRecDepth 100000 in
set_option maxHeartbeats 4000000 in
theorem eachVar_1 (p1 p2 : Nat) (v : Value) (L : List (Vr)) (ok : Vr → Bool) (fn : Nat) (w : World) (h1 : w.cell? ⟨p1, 0, none⟩ = some v) (h2 : w.cell? ⟨p2, 0, none⟩ = some (.func (.func fn) #[] #[])) (hv : RowR 5 varR w v L)
    (he : ∀ (args : Array Value) (W : World), (callFunc fn args).run Tryz.prog W = .ok (.enter fn args) W) (hf : ∀ (x : Vr) (W : World), x ∈ L → Calls Tryz.prog fn #[.agg #[.string ⟨x.name.toArray⟩, .int .i64 x.t, .int .i64 x.n, .int .i64 x.area, .int .i64 x.init]] W fun e W' => e = .returned (.bool (ok x)) ∧ Below W.heap.size W W') :
    Calls Tryz.prog 91 #[.pointer (some ⟨p1, 0, none⟩), .pointer (some ⟨p2, 0, none⟩)] w fun e w' => e = .returned (.int .i64 (allE (L.all ok))) ∧ Below w.heap.size w w' := by
  have hvl := hv.len
  have hp1 := World.block_lt_of_cell? _ _ h1
  have hp2 := World.block_lt_of_cell? _ _ h2
  obtain ⟨sv, cv, rfl⟩ := row_get hv
  obtain ⟨N, hN⟩ : ∃ N, L.length = N := ⟨_, rfl⟩
  have HN := Lib.hid hN
  rw [hN] at hv hvl h1
  clear hN
  go_enter Tryz.func91, Tryz.ntmps91
  go_wp2_with fail
  go_loopw [7] (fun jj wr => ∃ (k : Nat), k ≤ N ∧ jj = .int .i64 k ∧ Hid ((L.take k).all ok = true) ∧ Hid (Below w.heap.size w wr)) (fun jj _ => N - (intOf jj).toNat)
  case atStart => exact ⟨0, by omega, rfl, Lib.hid (by simp), Lib.hid (Below.refl _ _)⟩
  case round =>
    obtain ⟨k, hk, rfl, hall, HB⟩ := hrel
    by_cases hlt : k < N
    · have qk : ((k : Int) < (N : Int)) = True := eq_true (by omega)
      obtain ⟨x, hx⟩ := get_some (L := L) (n := k) (by rw [HN.out]; exact hlt)
      obtain ⟨b, off, rfl, hbw, hc⟩ := var_at hv (k := k) (by rw [HN.out]; exact hlt)
      obtain ⟨d0, d1, d2, d3, d4, _⟩ := hc k x hx
      have d0 := (HB.out.cell (p := ⟨b, off + k * 5, none⟩) hbw).trans d0
      have d1 := (HB.out.cell (p := ⟨b, off + k * 5 + 1, none⟩) hbw).trans d1
      have d2 := (HB.out.cell (p := ⟨b, off + k * 5 + 2, none⟩) hbw).trans d2
      have d3 := (HB.out.cell (p := ⟨b, off + k * 5 + 3, none⟩) hbw).trans d3
      have d4 := (HB.out.cell (p := ⟨b, off + k * 5 + 4, none⟩) hbw).trans d4
      have c2 := (HB.out.cell (p := ⟨p2, 0, none⟩) hp2).trans h2
      have hwr := HB.out.size
      have z2 : p2 < wr.heap.size := Nat.lt_of_lt_of_le hp2 hwr
      have HT := Lib.hid (take_snoc hx)
      have HF := fun W => hf x W (List.mem_of_getElem? hx)
      have HM := Lib.hid (List.mem_of_getElem? hx)
      clear hc hx
      cases ho : ok x
      · rw [ho] at HF
        have hno := Lib.hid (show L.all ok = false from List.all_eq_false.2 ⟨x, HM.out, by simp [ho]⟩)
        clear hf
        go_wp2_with fail
        refine (HF _).mono ?_; rintro e w2 ⟨rfl, hb2⟩
        go_wp2_with fail
        go_ret
        exact ⟨by rw [hno.out]; rfl, HB.out.trans (below_any (by (repeat' (first | (with_reducible exact Below.refl _ _) | (with_reducible assumption) | (with_reducible refine below_drewN ?_ _) | (with_reducible refine Below.alloc ?_ ?_ _) | (with_reducible refine Below.drew ?_) | (with_reducible refine Below.setCell ?_ ?_ _) | go_size))) hb2 hwr)⟩
      · rw [ho] at HF
        have hgood := Lib.hid (show (L.take (k + 1)).all ok = true by rw [HT.out, List.all_append, hall.out]; simp [ho])
        go_wp2_with fail
        refine (HF _).mono ?_; rintro e w2 ⟨rfl, hb2⟩
        have HB2 := Lib.hid (HB.out.trans (below_any (w0 := wr) (by (repeat' (first | (with_reducible exact Below.refl _ _) | (with_reducible assumption) | (with_reducible refine below_drewN ?_ _) | (with_reducible refine Below.alloc ?_ ?_ _) | (with_reducible refine Below.drew ?_) | (with_reducible refine Below.setCell ?_ ?_ _) | go_size))) hb2 hwr))
        clear hb2
        go_wp2_with fail
        go_roundw
        case rel => exact ⟨k + 1, by omega, by simp, hgood, HB2⟩
        case measure => first | (simp [intOf]; done) | (simp [intOf]; omega)
    · obtain rfl : k = N := by omega
      have qk : ((k : Int) < (k : Int)) = False := eq_false (by omega)
      have hyes := Lib.hid (show L.all ok = true by have := hall.out; rwa [List.take_of_length_le (by rw [HN.out]; exact Nat.le_refl _)] at this)
      go_wp2_with fail
      go_ret
      exact ⟨by rw [hyes.out]; rfl, HB.out⟩
set_option maxRecDepth 100000 in
theorem decl_eachVar (v : Value) (L : List (Vr)) (ok : Vr → Bool) (fn : Nat) (w : World) (hv : RowR 5 varR w v L)
    (he : ∀ (args : Array Value) (W : World), (callFunc fn args).run Tryz.prog W = .ok (.enter fn args) W) (hf : ∀ (x : Vr) (W : World), x ∈ L → Calls Tryz.prog fn #[.agg #[.string ⟨x.name.toArray⟩, .int .i64 x.t, .int .i64 x.n, .int .i64 x.area, .int .i64 x.init]] W fun e W' => e = .returned (.bool (ok x)) ∧ Below W.heap.size W W') :
    Calls Tryz.prog 69 #[v, .func (.func fn) #[] #[]] w fun e w' => ∃ f : Fun, e = .returned (.func (.func f.1) #[] f.2) ∧ Asks w' f (allE (L.all ok)) ∧ Below w.heap.size w w' := by
  have hmf : ∀ (fn : Fn) (first cap : Array Value) (w : World), (Instr.makeFunc fn first cap).run Tryz.prog w = .ok (.func fn first cap) w := fun _ _ _ _ => rfl
  obtain ⟨sv, cv, rfl⟩ := row_get hv
  obtain ⟨W1, hW1⟩ : ∃ W1, W1 = (w.alloc (.cells #[.slice sv L.length cv] 23)).alloc (.cells #[.func (.func fn) #[] #[]] 126) := ⟨_, rfl⟩
  have hb : Below w.heap.size w W1 := by rw [hW1]; exact by (repeat' (first | (with_reducible exact Below.refl _ _) | (with_reducible assumption) | (with_reducible refine below_drewN ?_ _) | (with_reducible refine Below.alloc ?_ ?_ _) | (with_reducible refine Below.drew ?_) | (with_reducible refine Below.setCell ?_ ?_ _) | go_size))
  have c1 : W1.cell? ⟨w.heap.size, 0, none⟩ = some (.slice sv L.length cv) := by rw [hW1]; exact obj_cell ((get_past (by simp)).trans (get_last rfl)) rfl
  have c2 : W1.cell? ⟨w.heap.size + 1, 0, none⟩ = some (.func (.func fn) #[] #[]) := by rw [hW1]; exact obj_cell (get_last (by simp)) rfl
  have HW1 := Lib.hid hW1
  have HA := Lib.hid (show Asks W1 (91, #[.pointer (some ⟨w.heap.size, 0, none⟩), .pointer (some ⟨w.heap.size + 1, 0, none⟩)]) (allE (L.all ok)) from
    ⟨fun _ _ => rfl, fun W hW => eachVar_1 _ _ _ L ok fn W ((hW.cell (p := ⟨w.heap.size, 0, none⟩) (World.block_lt_of_cell? _ _ c1)).trans c1) ((hW.cell (p := ⟨w.heap.size + 1, 0, none⟩) (World.block_lt_of_cell? _ _ c2)).trans c2) (hv.below varR_stable (hb.trans (hW.mono hb.size))) he hf⟩)
  clear hW1 c1 c2
  go_enter Tryz.func69, Tryz.ntmps69
  go_wp2_with fail
  rw [← HW1.out]
  go_ret
  exact ⟨(_, _), rfl, HA.out, hb⟩
set_option maxRecDepth 100000 in
set_option maxHeartbeats 4000000 in
theorem eachBlock_1 (p1 p2 : Nat) (v : Value) (L : List (Bk)) (ok : Bk → Bool) (fn : Nat) (w : World) (h1 : w.cell? ⟨p1, 0, none⟩ = some v) (h2 : w.cell? ⟨p2, 0, none⟩ = some (.func (.func fn) #[] #[])) (hv : RowR 2 blkR w v L)
    (he : ∀ (args : Array Value) (W : World), (callFunc fn args).run Tryz.prog W = .ok (.enter fn args) W) (hf : ∀ (x : Bk) (W : World), x ∈ L → Calls Tryz.prog fn #[.agg #[.string ⟨x.name.toArray⟩, .int .i64 x.kind]] W fun e W' => e = .returned (.bool (ok x)) ∧ Below W.heap.size W W') :
    Calls Tryz.prog 92 #[.pointer (some ⟨p1, 0, none⟩), .pointer (some ⟨p2, 0, none⟩)] w fun e w' => e = .returned (.int .i64 (allE (L.all ok))) ∧ Below w.heap.size w w' := by
  have hvl := hv.len
  have hp1 := World.block_lt_of_cell? _ _ h1
  have hp2 := World.block_lt_of_cell? _ _ h2
  obtain ⟨sv, cv, rfl⟩ := row_get hv
  obtain ⟨N, hN⟩ : ∃ N, L.length = N := ⟨_, rfl⟩
  have HN := Lib.hid hN
  rw [hN] at hv hvl h1
  clear hN
  go_enter Tryz.func92, Tryz.ntmps92
  go_wp2_with fail
  go_loopw [7] (fun jj wr => ∃ (k : Nat), k ≤ N ∧ jj = .int .i64 k ∧ Hid ((L.take k).all ok = true) ∧ Hid (Below w.heap.size w wr)) (fun jj _ => N - (intOf jj).toNat)
  case atStart => exact ⟨0, by omega, rfl, Lib.hid (by simp), Lib.hid (Below.refl _ _)⟩
  case round =>
    obtain ⟨k, hk, rfl, hall, HB⟩ := hrel
    by_cases hlt : k < N
    · have qk : ((k : Int) < (N : Int)) = True := eq_true (by omega)
      obtain ⟨x, hx⟩ := get_some (L := L) (n := k) (by rw [HN.out]; exact hlt)
      obtain ⟨b, off, rfl, hbw, hc⟩ := blk_at hv (k := k) (by rw [HN.out]; exact hlt)
      obtain ⟨d0, d1, _⟩ := hc k x hx
      have d0 := (HB.out.cell (p := ⟨b, off + k * 2, none⟩) hbw).trans d0
      have d1 := (HB.out.cell (p := ⟨b, off + k * 2 + 1, none⟩) hbw).trans d1
      have c2 := (HB.out.cell (p := ⟨p2, 0, none⟩) hp2).trans h2
      have hwr := HB.out.size
      have z2 : p2 < wr.heap.size := Nat.lt_of_lt_of_le hp2 hwr
      have HT := Lib.hid (take_snoc hx)
      have HF := fun W => hf x W (List.mem_of_getElem? hx)
      have HM := Lib.hid (List.mem_of_getElem? hx)
      clear hc hx
      cases ho : ok x
      · rw [ho] at HF
        have hno := Lib.hid (show L.all ok = false from List.all_eq_false.2 ⟨x, HM.out, by simp [ho]⟩)
        clear hf
        go_wp2_with fail
        refine (HF _).mono ?_; rintro e w2 ⟨rfl, hb2⟩
        go_wp2_with fail
        go_ret
        exact ⟨by rw [hno.out]; rfl, HB.out.trans (below_any (by (repeat' (first | (with_reducible exact Below.refl _ _) | (with_reducible assumption) | (with_reducible refine below_drewN ?_ _) | (with_reducible refine Below.alloc ?_ ?_ _) | (with_reducible refine Below.drew ?_) | (with_reducible refine Below.setCell ?_ ?_ _) | go_size))) hb2 hwr)⟩
      · rw [ho] at HF
        have hgood := Lib.hid (show (L.take (k + 1)).all ok = true by rw [HT.out, List.all_append, hall.out]; simp [ho])
        go_wp2_with fail
        refine (HF _).mono ?_; rintro e w2 ⟨rfl, hb2⟩
        have HB2 := Lib.hid (HB.out.trans (below_any (w0 := wr) (by (repeat' (first | (with_reducible exact Below.refl _ _) | (with_reducible assumption) | (with_reducible refine below_drewN ?_ _) | (with_reducible refine Below.alloc ?_ ?_ _) | (with_reducible refine Below.drew ?_) | (with_reducible refine Below.setCell ?_ ?_ _) | go_size))) hb2 hwr))
        clear hb2
        go_wp2_with fail
        go_roundw
        case rel => exact ⟨k + 1, by omega, by simp, hgood, HB2⟩
        case measure => first | (simp [intOf]; done) | (simp [intOf]; omega)
    · obtain rfl : k = N := by omega
      have qk : ((k : Int) < (k : Int)) = False := eq_false (by omega)
      have hyes := Lib.hid (show L.all ok = true by have := hall.out; rwa [List.take_of_length_le (by rw [HN.out]; exact Nat.le_refl _)] at this)
      go_wp2_with fail
      go_ret
      exact ⟨by rw [hyes.out]; rfl, HB.out⟩
set_option maxRecDepth 100000 in
theorem decl_eachBlock (v : Value) (L : List (Bk)) (ok : Bk → Bool) (fn : Nat) (w : World) (hv : RowR 2 blkR w v L)
    (he : ∀ (args : Array Value) (W : World), (callFunc fn args).run Tryz.prog W = .ok (.enter fn args) W) (hf : ∀ (x : Bk) (W : World), x ∈ L → Calls Tryz.prog fn #[.agg #[.string ⟨x.name.toArray⟩, .int .i64 x.kind]] W fun e W' => e = .returned (.bool (ok x)) ∧ Below W.heap.size W W') :
    Calls Tryz.prog 71 #[v, .func (.func fn) #[] #[]] w fun e w' => ∃ f : Fun, e = .returned (.func (.func f.1) #[] f.2) ∧ Asks w' f (allE (L.all ok)) ∧ Below w.heap.size w w' := by
  have hmf : ∀ (fn : Fn) (first cap : Array Value) (w : World), (Instr.makeFunc fn first cap).run Tryz.prog w = .ok (.func fn first cap) w := fun _ _ _ _ => rfl
  obtain ⟨sv, cv, rfl⟩ := row_get hv
  obtain ⟨W1, hW1⟩ : ∃ W1, W1 = (w.alloc (.cells #[.slice sv L.length cv] 24)).alloc (.cells #[.func (.func fn) #[] #[]] 128) := ⟨_, rfl⟩
  have hb : Below w.heap.size w W1 := by rw [hW1]; exact by (repeat' (first | (with_reducible exact Below.refl _ _) | (with_reducible assumption) | (with_reducible refine below_drewN ?_ _) | (with_reducible refine Below.alloc ?_ ?_ _) | (with_reducible refine Below.drew ?_) | (with_reducible refine Below.setCell ?_ ?_ _) | go_size))
  have c1 : W1.cell? ⟨w.heap.size, 0, none⟩ = some (.slice sv L.length cv) := by rw [hW1]; exact obj_cell ((get_past (by simp)).trans (get_last rfl)) rfl
  have c2 : W1.cell? ⟨w.heap.size + 1, 0, none⟩ = some (.func (.func fn) #[] #[]) := by rw [hW1]; exact obj_cell (get_last (by simp)) rfl
  have HW1 := Lib.hid hW1
  have HA := Lib.hid (show Asks W1 (92, #[.pointer (some ⟨w.heap.size, 0, none⟩), .pointer (some ⟨w.heap.size + 1, 0, none⟩)]) (allE (L.all ok)) from
    ⟨fun _ _ => rfl, fun W hW => eachBlock_1 _ _ _ L ok fn W ((hW.cell (p := ⟨w.heap.size, 0, none⟩) (World.block_lt_of_cell? _ _ c1)).trans c1) ((hW.cell (p := ⟨w.heap.size + 1, 0, none⟩) (World.block_lt_of_cell? _ _ c2)).trans c2) (hv.below blkR_stable (hb.trans (hW.mono hb.size))) he hf⟩)
  clear hW1 c1 c2
  go_enter Tryz.func71, Tryz.ntmps71
  go_wp2_with fail
  rw [← HW1.out]
  go_ret
  exact ⟨(_, _), rfl, HA.out, hb⟩
set_option maxRecDepth 100000 in
set_option maxHeartbeats 4000000 in
theorem eachConst_1 (p1 p2 : Nat) (v : Value) (L : List (Int × Int)) (ok : Int × Int → Bool) (fn : Nat) (w : World) (h1 : w.cell? ⟨p1, 0, none⟩ = some v) (h2 : w.cell? ⟨p2, 0, none⟩ = some (.func (.func fn) #[] #[])) (hv : RowR 2 constR w v L)
    (he : ∀ (args : Array Value) (W : World), (callFunc fn args).run Tryz.prog W = .ok (.enter fn args) W) (hf : ∀ (x : Int × Int) (W : World), x ∈ L → Calls Tryz.prog fn #[.agg #[.int .i64 x.1, .int .i64 x.2]] W fun e W' => e = .returned (.bool (ok x)) ∧ Below W.heap.size W W') :
    Calls Tryz.prog 66 #[.pointer (some ⟨p1, 0, none⟩), .pointer (some ⟨p2, 0, none⟩)] w fun e w' => e = .returned (.int .i64 (allE (L.all ok))) ∧ Below w.heap.size w w' := by
  have hvl := hv.len
  have hp1 := World.block_lt_of_cell? _ _ h1
  have hp2 := World.block_lt_of_cell? _ _ h2
  obtain ⟨sv, cv, rfl⟩ := row_get hv
  obtain ⟨N, hN⟩ : ∃ N, L.length = N := ⟨_, rfl⟩
  have HN := Lib.hid hN
  rw [hN] at hv hvl h1
  clear hN
  go_enter Tryz.func66, Tryz.ntmps66
  go_wp2_with fail
  go_loopw [7] (fun jj wr => ∃ (k : Nat), k ≤ N ∧ jj = .int .i64 k ∧ Hid ((L.take k).all ok = true) ∧ Hid (Below w.heap.size w wr)) (fun jj _ => N - (intOf jj).toNat)
  case atStart => exact ⟨0, by omega, rfl, Lib.hid (by simp), Lib.hid (Below.refl _ _)⟩
  case round =>
    obtain ⟨k, hk, rfl, hall, HB⟩ := hrel
    by_cases hlt : k < N
    · have qk : ((k : Int) < (N : Int)) = True := eq_true (by omega)
      obtain ⟨x, hx⟩ := get_some (L := L) (n := k) (by rw [HN.out]; exact hlt)
      obtain ⟨b, off, rfl, hbw, hc⟩ := const_at hv (k := k) (by rw [HN.out]; exact hlt)
      obtain ⟨d0, d1, _⟩ := hc k x hx
      have d0 := (HB.out.cell (p := ⟨b, off + k * 2, none⟩) hbw).trans d0
      have d1 := (HB.out.cell (p := ⟨b, off + k * 2 + 1, none⟩) hbw).trans d1
      have c2 := (HB.out.cell (p := ⟨p2, 0, none⟩) hp2).trans h2
      have hwr := HB.out.size
      have z2 : p2 < wr.heap.size := Nat.lt_of_lt_of_le hp2 hwr
      have HT := Lib.hid (take_snoc hx)
      have HF := fun W => hf x W (List.mem_of_getElem? hx)
      have HM := Lib.hid (List.mem_of_getElem? hx)
      clear hc hx
      cases ho : ok x
      · rw [ho] at HF
        have hno := Lib.hid (show L.all ok = false from List.all_eq_false.2 ⟨x, HM.out, by simp [ho]⟩)
        clear hf
        go_wp2_with fail
        refine (HF _).mono ?_; rintro e w2 ⟨rfl, hb2⟩
        go_wp2_with fail
        go_ret
        exact ⟨by rw [hno.out]; rfl, HB.out.trans (below_any (by (repeat' (first | (with_reducible exact Below.refl _ _) | (with_reducible assumption) | (with_reducible refine below_drewN ?_ _) | (with_reducible refine Below.alloc ?_ ?_ _) | (with_reducible refine Below.drew ?_) | (with_reducible refine Below.setCell ?_ ?_ _) | go_size))) hb2 hwr)⟩
      · rw [ho] at HF
        have hgood := Lib.hid (show (L.take (k + 1)).all ok = true by rw [HT.out, List.all_append, hall.out]; simp [ho])
        go_wp2_with fail
        refine (HF _).mono ?_; rintro e w2 ⟨rfl, hb2⟩
        have HB2 := Lib.hid (HB.out.trans (below_any (w0 := wr) (by (repeat' (first | (with_reducible exact Below.refl _ _) | (with_reducible assumption) | (with_reducible refine below_drewN ?_ _) | (with_reducible refine Below.alloc ?_ ?_ _) | (with_reducible refine Below.drew ?_) | (with_reducible refine Below.setCell ?_ ?_ _) | go_size))) hb2 hwr))
        clear hb2
        go_wp2_with fail
        go_roundw
        case rel => exact ⟨k + 1, by omega, by simp, hgood, HB2⟩
        case measure => first | (simp [intOf]; done) | (simp [intOf]; omega)
    · obtain rfl : k = N := by omega
      have qk : ((k : Int) < (k : Int)) = False := eq_false (by omega)
      have hyes := Lib.hid (show L.all ok = true by have := hall.out; rwa [List.take_of_length_le (by rw [HN.out]; exact Nat.le_refl _)] at this)
      go_wp2_with fail
      go_ret
      exact ⟨by rw [hyes.out]; rfl, HB.out⟩
set_option maxRecDepth 100000 in
theorem decl_eachConst (v : Value) (L : List (Int × Int)) (ok : Int × Int → Bool) (fn : Nat) (w : World) (hv : RowR 2 constR w v L)
    (he : ∀ (args : Array Value) (W : World), (callFunc fn args).run Tryz.prog W = .ok (.enter fn args) W) (hf : ∀ (x : Int × Int) (W : World), x ∈ L → Calls Tryz.prog fn #[.agg #[.int .i64 x.1, .int .i64 x.2]] W fun e W' => e = .returned (.bool (ok x)) ∧ Below W.heap.size W W') :
    Calls Tryz.prog 49 #[v, .func (.func fn) #[] #[]] w fun e w' => ∃ f : Fun, e = .returned (.func (.func f.1) #[] f.2) ∧ Asks w' f (allE (L.all ok)) ∧ Below w.heap.size w w' := by
  have hmf : ∀ (fn : Fn) (first cap : Array Value) (w : World), (Instr.makeFunc fn first cap).run Tryz.prog w = .ok (.func fn first cap) w := fun _ _ _ _ => rfl
  obtain ⟨sv, cv, rfl⟩ := row_get hv
  obtain ⟨W1, hW1⟩ : ∃ W1, W1 = (w.alloc (.cells #[.slice sv L.length cv] 22)).alloc (.cells #[.func (.func fn) #[] #[]] 106) := ⟨_, rfl⟩
  have hb : Below w.heap.size w W1 := by rw [hW1]; exact by (repeat' (first | (with_reducible exact Below.refl _ _) | (with_reducible assumption) | (with_reducible refine below_drewN ?_ _) | (with_reducible refine Below.alloc ?_ ?_ _) | (with_reducible refine Below.drew ?_) | (with_reducible refine Below.setCell ?_ ?_ _) | go_size))
  have c1 : W1.cell? ⟨w.heap.size, 0, none⟩ = some (.slice sv L.length cv) := by rw [hW1]; exact obj_cell ((get_past (by simp)).trans (get_last rfl)) rfl
  have c2 : W1.cell? ⟨w.heap.size + 1, 0, none⟩ = some (.func (.func fn) #[] #[]) := by rw [hW1]; exact obj_cell (get_last (by simp)) rfl
  have HW1 := Lib.hid hW1
  have HA := Lib.hid (show Asks W1 (66, #[.pointer (some ⟨w.heap.size, 0, none⟩), .pointer (some ⟨w.heap.size + 1, 0, none⟩)]) (allE (L.all ok)) from
    ⟨fun _ _ => rfl, fun W hW => eachConst_1 _ _ _ L ok fn W ((hW.cell (p := ⟨w.heap.size, 0, none⟩) (World.block_lt_of_cell? _ _ c1)).trans c1) ((hW.cell (p := ⟨w.heap.size + 1, 0, none⟩) (World.block_lt_of_cell? _ _ c2)).trans c2) (hv.below constR_stable (hb.trans (hW.mono hb.size))) he hf⟩)
  clear hW1 c1 c2
  go_enter Tryz.func49, Tryz.ntmps49
  go_wp2_with fail
  rw [← HW1.out]
  go_ret
  exact ⟨(_, _), rfl, HA.out, hb⟩
set_option maxRecDepth 100000 in
set_option maxHeartbeats 4000000 in
theorem eachInt_1 (p1 p2 : Nat) (v : Value) (L : List (Int)) (ok : Int → Bool) (fn : Nat) (w : World) (h1 : w.cell? ⟨p1, 0, none⟩ = some v) (h2 : w.cell? ⟨p2, 0, none⟩ = some (.func (.func fn) #[] #[])) (hv : RowR 1 intR w v L)
    (he : ∀ (args : Array Value) (W : World), (callFunc fn args).run Tryz.prog W = .ok (.enter fn args) W) (hf : ∀ (x : Int) (W : World), x ∈ L → Calls Tryz.prog fn #[.int .i64 x] W fun e W' => e = .returned (.bool (ok x)) ∧ Below W.heap.size W W') :
    Calls Tryz.prog 109 #[.pointer (some ⟨p1, 0, none⟩), .pointer (some ⟨p2, 0, none⟩)] w fun e w' => e = .returned (.int .i64 (allE (L.all ok))) ∧ Below w.heap.size w w' := by
  have hvl := hv.len
  have hp1 := World.block_lt_of_cell? _ _ h1
  have hp2 := World.block_lt_of_cell? _ _ h2
  obtain ⟨sv, cv, rfl⟩ := row_get hv
  obtain ⟨N, hN⟩ : ∃ N, L.length = N := ⟨_, rfl⟩
  have HN := Lib.hid hN
  rw [hN] at hv hvl h1
  clear hN
  go_enter Tryz.func109, Tryz.ntmps109
  go_wp2_with fail
  go_loopw [7] (fun jj wr => ∃ (k : Nat), k ≤ N ∧ jj = .int .i64 k ∧ Hid ((L.take k).all ok = true) ∧ Hid (Below w.heap.size w wr)) (fun jj _ => N - (intOf jj).toNat)
  case atStart => exact ⟨0, by omega, rfl, Lib.hid (by simp), Lib.hid (Below.refl _ _)⟩
  case round =>
    obtain ⟨k, hk, rfl, hall, HB⟩ := hrel
    by_cases hlt : k < N
    · have qk : ((k : Int) < (N : Int)) = True := eq_true (by omega)
      obtain ⟨x, hx⟩ := get_some (L := L) (n := k) (by rw [HN.out]; exact hlt)
      obtain ⟨b, off, rfl, hbw, hc⟩ := ints_at hv (k := k) (by rw [HN.out]; exact hlt)
      obtain ⟨d0, _⟩ := hc k x hx
      have d0 := (HB.out.cell (p := ⟨b, off + k, none⟩) hbw).trans d0
      have c2 := (HB.out.cell (p := ⟨p2, 0, none⟩) hp2).trans h2
      have hwr := HB.out.size
      have z2 : p2 < wr.heap.size := Nat.lt_of_lt_of_le hp2 hwr
      have HT := Lib.hid (take_snoc hx)
      have HF := fun W => hf x W (List.mem_of_getElem? hx)
      have HM := Lib.hid (List.mem_of_getElem? hx)
      clear hc hx
      cases ho : ok x
      · rw [ho] at HF
        have hno := Lib.hid (show L.all ok = false from List.all_eq_false.2 ⟨x, HM.out, by simp [ho]⟩)
        clear hf
        go_wp2_with fail
        refine (HF _).mono ?_; rintro e w2 ⟨rfl, hb2⟩
        go_wp2_with fail
        go_ret
        exact ⟨by rw [hno.out]; rfl, HB.out.trans (below_any (by (repeat' (first | (with_reducible exact Below.refl _ _) | (with_reducible assumption) | (with_reducible refine below_drewN ?_ _) | (with_reducible refine Below.alloc ?_ ?_ _) | (with_reducible refine Below.drew ?_) | (with_reducible refine Below.setCell ?_ ?_ _) | go_size))) hb2 hwr)⟩
      · rw [ho] at HF
        have hgood := Lib.hid (show (L.take (k + 1)).all ok = true by rw [HT.out, List.all_append, hall.out]; simp [ho])
        go_wp2_with fail
        refine (HF _).mono ?_; rintro e w2 ⟨rfl, hb2⟩
        have HB2 := Lib.hid (HB.out.trans (below_any (w0 := wr) (by (repeat' (first | (with_reducible exact Below.refl _ _) | (with_reducible assumption) | (with_reducible refine below_drewN ?_ _) | (with_reducible refine Below.alloc ?_ ?_ _) | (with_reducible refine Below.drew ?_) | (with_reducible refine Below.setCell ?_ ?_ _) | go_size))) hb2 hwr))
        clear hb2
        go_wp2_with fail
        go_roundw
        case rel => exact ⟨k + 1, by omega, by simp, hgood, HB2⟩
        case measure => first | (simp [intOf]; done) | (simp [intOf]; omega)
    · obtain rfl : k = N := by omega
      have qk : ((k : Int) < (k : Int)) = False := eq_false (by omega)
      have hyes := Lib.hid (show L.all ok = true by have := hall.out; rwa [List.take_of_length_le (by rw [HN.out]; exact Nat.le_refl _)] at this)
      go_wp2_with fail
      go_ret
      exact ⟨by rw [hyes.out]; rfl, HB.out⟩
set_option maxRecDepth 100000 in
theorem decl_eachInt (v : Value) (L : List (Int)) (ok : Int → Bool) (fn : Nat) (w : World) (hv : RowR 1 intR w v L)
    (he : ∀ (args : Array Value) (W : World), (callFunc fn args).run Tryz.prog W = .ok (.enter fn args) W) (hf : ∀ (x : Int) (W : World), x ∈ L → Calls Tryz.prog fn #[.int .i64 x] W fun e W' => e = .returned (.bool (ok x)) ∧ Below W.heap.size W W') :
    Calls Tryz.prog 96 #[v, .func (.func fn) #[] #[]] w fun e w' => ∃ f : Fun, e = .returned (.func (.func f.1) #[] f.2) ∧ Asks w' f (allE (L.all ok)) ∧ Below w.heap.size w w' := by
  have hmf : ∀ (fn : Fn) (first cap : Array Value) (w : World), (Instr.makeFunc fn first cap).run Tryz.prog w = .ok (.func fn first cap) w := fun _ _ _ _ => rfl
  obtain ⟨sv, cv, rfl⟩ := row_get hv
  obtain ⟨W1, hW1⟩ : ∃ W1, W1 = (w.alloc (.cells #[.slice sv L.length cv] 35)).alloc (.cells #[.func (.func fn) #[] #[]] 72) := ⟨_, rfl⟩
  have hb : Below w.heap.size w W1 := by rw [hW1]; exact by (repeat' (first | (with_reducible exact Below.refl _ _) | (with_reducible assumption) | (with_reducible refine below_drewN ?_ _) | (with_reducible refine Below.alloc ?_ ?_ _) | (with_reducible refine Below.drew ?_) | (with_reducible refine Below.setCell ?_ ?_ _) | go_size))
  have c1 : W1.cell? ⟨w.heap.size, 0, none⟩ = some (.slice sv L.length cv) := by rw [hW1]; exact obj_cell ((get_past (by simp)).trans (get_last rfl)) rfl
  have c2 : W1.cell? ⟨w.heap.size + 1, 0, none⟩ = some (.func (.func fn) #[] #[]) := by rw [hW1]; exact obj_cell (get_last (by simp)) rfl
  have HW1 := Lib.hid hW1
  have HA := Lib.hid (show Asks W1 (109, #[.pointer (some ⟨w.heap.size, 0, none⟩), .pointer (some ⟨w.heap.size + 1, 0, none⟩)]) (allE (L.all ok)) from
    ⟨fun _ _ => rfl, fun W hW => eachInt_1 _ _ _ L ok fn W ((hW.cell (p := ⟨w.heap.size, 0, none⟩) (World.block_lt_of_cell? _ _ c1)).trans c1) ((hW.cell (p := ⟨w.heap.size + 1, 0, none⟩) (World.block_lt_of_cell? _ _ c2)).trans c2) (hv.below intR_stable (hb.trans (hW.mono hb.size))) he hf⟩)
  clear hW1 c1 c2
  go_enter Tryz.func96, Tryz.ntmps96
  go_wp2_with fail
  rw [← HW1.out]
  go_ret
  exact ⟨(_, _), rfl, HA.out, hb⟩
end Go.Proofs.YtefejcofmopjfaaGreatDoor

/- Layer 17: tables. -/
namespace Go.Proofs.YtefejcofmopjfaaGreatDoor
open Go.RowKit
set_option linter.unusedSimpArgs false
set_option linter.unusedVariables false
theorem tables_1 (p q : Nat) (a b : Option Addr) (n m c d : Nat) (w : World) (h1 : w.cell? ⟨p, 0, none⟩ = some (.slice a n c)) (h2 : w.cell? ⟨q, 0, none⟩ = some (.slice b m d)) :
    Calls Tryz.prog 68 #[.pointer (some ⟨p, 0, none⟩), .pointer (some ⟨q, 0, none⟩)] w fun e w' => e = .returned (.int .i64 (unlessE (decide (n ≤ 64) && decide (m ≤ 32)) 5)) ∧ Below w.heap.size w w' := by
  go_enter Tryz.func68, Tryz.ntmps68
  go_wp2_with fail
  refine (decl_few _ _ _ _ _ _ _).mono ?_; rintro e w1 ⟨rfl, rfl⟩
  go_wp2_with fail
  refine (decl_unless _ _ _).mono ?_; rintro e w1 ⟨rfl, rfl⟩
  go_wp2_with fail
  go_ret
  exact ⟨rfl, Below.refl _ _⟩
theorem first_cons0 (z : Int) (l : List Int) (h : z = 0) : firstE (z :: l) = firstE l := by subst h; rfl
theorem first_cons1 (z : Int) (l : List Int) (h : z ≠ 0) : firstE (z :: l) = z := by
  unfold firstE
  rw [List.find?_cons_of_pos (by simpa using h)]
  rfl
theorem unless_yes {b : Bool} {z : Int} (h : b = true) : unlessE b z = 0 := by subst h; rfl
theorem unless_no {b : Bool} {z : Int} (h : b = false) : unlessE b z = z := by subst h; rfl
theorem all_yes {b : Bool} (h : b = true) : allE b = 0 := by subst h; rfl
theorem all_no {b : Bool} (h : b = false) : allE b = 10 := by subst h; rfl
theorem tables_first (V : List Vr) (B : List Bk) : firstE [unlessE (decide (V.length ≤ 64) && decide (B.length ≤ 32)) 5, allE (V.all goodV), allE (B.all goodB)] = tablesE V B := by
  unfold tablesE
  by_cases h1 : V.length ≤ 64 ∧ B.length ≤ 32
  · rw [if_neg (by omega), first_cons0 _ _ (unless_yes (by simp; exact h1))]
    cases V.all goodV <;> cases B.all goodB <;> rfl
  · rw [if_pos (by omega), first_cons1 _ _ (by rw [unless_no (by simp; omega)]; decide), unless_no (by simp; omega)]
theorem asks3 {w : World} {f1 f2 f3 : Fun} {e1 e2 e3 : Int} (h1 : Asks w f1 e1) (h2 : Asks w f2 e2) (h3 : Asks w f3 e3) : ∀ (i : Nat) (f : Fun) (e : Int), [f1, f2, f3][i]? = some f → [e1, e2, e3][i]? = some e → Asks w f e
  | 0, f, e, hf, he => by cases hf; cases he; exact h1
  | 1, f, e, hf, he => by cases hf; cases he; exact h2
  | 2, f, e, hf, he => by cases hf; cases he; exact h3
  | (_ + 3), f, e, hf, he => by simp at hf
theorem asks5 {w : World} {f1 f2 f3 f4 f5 : Fun} {e1 e2 e3 e4 e5 : Int} (h1 : Asks w f1 e1) (h2 : Asks w f2 e2) (h3 : Asks w f3 e3) (h4 : Asks w f4 e4) (h5 : Asks w f5 e5) : ∀ (i : Nat) (f : Fun) (e : Int), [f1, f2, f3, f4, f5][i]? = some f → [e1, e2, e3, e4, e5][i]? = some e → Asks w f e
  | 0, f, e, hf, he => by cases hf; cases he; exact h1
  | 1, f, e, hf, he => by cases hf; cases he; exact h2
  | 2, f, e, hf, he => by cases hf; cases he; exact h3
  | 3, f, e, hf, he => by cases hf; cases he; exact h4
  | 4, f, e, hf, he => by cases hf; cases he; exact h5
  | (_ + 5), f, e, hf, he => by simp at hf
set_option maxRecDepth 100000 in
set_option maxHeartbeats 4000000 in
theorem decl_Tables (vv bv : Value) (V : List Vr) (B : List Bk) (w : World) (hvv : RowR 5 varR w vv V) (hbv : RowR 2 blkR w bv B) :
    Calls Tryz.prog 52 #[vv, bv] w fun e w' => e = .returned (.int .i64 (tablesE V B)) ∧ Below w.heap.size w w' := by
  have hmf : ∀ (fn : Fn) (first cap : Array Value) (w : World), (Instr.makeFunc fn first cap).run Tryz.prog w = .ok (.func fn first cap) w := fun _ _ _ _ => rfl
  have HE := Lib.hid (show firstE [unlessE (decide (V.length ≤ 64) && decide (B.length ≤ 32)) 5, allE (V.all goodV), allE (B.all goodB)] = tablesE V B by
    exact tables_first V B)
  obtain ⟨sv, cv, rfl⟩ := row_get hvv
  obtain ⟨sb, cb, rfl⟩ := row_get hbv
  obtain ⟨W1, hW1⟩ : ∃ W1, W1 = (w.alloc (.cells #[.slice sv V.length cv] 23)).alloc (.cells #[.slice sb B.length cb] 24) := ⟨_, rfl⟩
  have hb : Below w.heap.size w W1 := by rw [hW1]; exact by (repeat' (first | (with_reducible exact Below.refl _ _) | (with_reducible assumption) | (with_reducible refine below_drewN ?_ _) | (with_reducible refine Below.alloc ?_ ?_ _) | (with_reducible refine Below.drew ?_) | (with_reducible refine Below.setCell ?_ ?_ _) | go_size))
  have hz : W1.heap.size = w.heap.size + 2 := by rw [hW1]; simp
  have c1 : W1.cell? ⟨w.heap.size, 0, none⟩ = some (.slice sv V.length cv) := by rw [hW1]; exact obj_cell ((get_past (by simp)).trans (get_last rfl)) rfl
  have c2 : W1.cell? ⟨w.heap.size + 1, 0, none⟩ = some (.slice sb B.length cb) := by rw [hW1]; exact obj_cell (get_last (by simp)) rfl
  have HW1 := Lib.hid hW1
  have HB := Lib.hid hb
  have HV := Lib.hid (fun W (h : Below W1.heap.size W1 W) => hvv.below varR_stable (hb.trans (h.mono hb.size)))
  have HK := Lib.hid (fun W (h : Below W1.heap.size W1 W) => hbv.below blkR_stable (hb.trans (h.mono hb.size)))
  have HT := Lib.hid (show Asks W1 (68, #[.pointer (some ⟨w.heap.size, 0, none⟩), .pointer (some ⟨w.heap.size + 1, 0, none⟩)]) (unlessE (decide (V.length ≤ 64) && decide (B.length ≤ 32)) 5) from
    ⟨fun _ _ => rfl, fun W hW => tables_1 _ _ _ _ _ _ _ _ W ((hW.cell (p := ⟨w.heap.size, 0, none⟩) (World.block_lt_of_cell? _ _ c1)).trans c1) ((hW.cell (p := ⟨w.heap.size + 1, 0, none⟩) (World.block_lt_of_cell? _ _ c2)).trans c2)⟩)
  have y1 : w.heap.size < W1.heap.size := by omega
  have y2 : w.heap.size + 1 < W1.heap.size := by omega
  clear hW1 hb hvv hbv
  go_enter Tryz.func52, Tryz.ntmps52
  go_wp2_with fail
  rw [← HW1.out]
  refine wp_region_held_drew (S := (fun w' => Below W1.heap.size W1 w')) (by kernel_rfl) ?_ (fun hHeld => ?_)
  · (try dsimp only); first | assumption | exact Below.alloc hHeld hHeld.size _ | exact (Below.refl _ _).drew | exact Below.drew (Below.refl _ _) | exact Below_drewN _ _ _ | exact Below.refl _ _ | (trace_state; fail)
  refine wpAnyH_take (i := 0) (oi := { dst := some 5, op := Op.makeFunc (Fn.func 68) #[] #[Operand.tmp 2, Operand.tmp 3], type := 103, pos := _, after := #[], guard := none }) (v := ?_) rfl (by kernel_rfl) (by kernel_rfl) (by kernel_rfl) (fun _ _ _ h => h) (Or.inl ⟨by rfl, ?_⟩) (by assumption) ?_
  rotate_left
  · intro wt hSw; (try dsimp only at hSw); have c1 := cellB hSw c1 y1; have c2 := cellB hSw c2 y2; first | (go_simp; done) | (go_simp; with_reducible rfl) | (trace_state; fail)
  try simp only [Act.put, List.setIfInBounds_toArray, List.set_cons_zero, List.set_cons_succ]
  refine wpAnyH_take (i := 1) (oi := { dst := some 6, op := Op.load 23 (Operand.tmp 2), type := 23, pos := _, after := #[], guard := none }) (v := ?_) rfl (by kernel_rfl) (by kernel_rfl) (by kernel_rfl) (fun _ _ _ h => h) (Or.inl ⟨by rfl, ?_⟩) (by assumption) ?_
  rotate_left
  · intro wt hSw; (try dsimp only at hSw); have c1 := cellB hSw c1 y1; have c2 := cellB hSw c2 y2; first | (go_simp; done) | (go_simp; with_reducible rfl) | (trace_state; fail)
  try simp only [Act.put, List.setIfInBounds_toArray, List.set_cons_zero, List.set_cons_succ]
  refine wpAnyH_take (i := 3) (oi := { dst := some 8, op := Op.load 24 (Operand.tmp 3), type := 24, pos := _, after := #[], guard := none }) (v := ?_) rfl (by kernel_rfl) (by kernel_rfl) (by kernel_rfl) (fun _ _ _ h => h) (Or.inl ⟨by rfl, ?_⟩) (by assumption) ?_
  rotate_left
  · intro wt hSw; (try dsimp only at hSw); have c1 := cellB hSw c1 y1; have c2 := cellB hSw c2 y2; first | (go_simp; done) | (go_simp; with_reducible rfl) | (trace_state; fail)
  try simp only [Act.put, List.setIfInBounds_toArray, List.set_cons_zero, List.set_cons_succ]
  refine wpAnyH_ready (rs := [2]) (by kernel_rfl) (by simp) ?_
  refine AllReadyH.cons (o := { dst := some 7, op := Op.call { callee := Callee.value (Operand.func 69), args := #[Operand.tmp 6, Operand.func 70], argTypes := #[23, 126] }, type := 103, pos := _, after := #[{ on := 1, ground := Ground.data }], guard := none }) rfl (fun K hK => ?_) AllReadyH.nil
  go_simp
  refine (decl_eachVar _ V goodV 70 _ (HV.out _ hHeld) (fun _ _ => rfl) (fun x W _ => decl_rightVar x W)).mono ?_; rintro e v1 ⟨⟨f1, g1⟩, rfl, hA1, hb1⟩; have hHeld := hHeld.trans (hb1.mono hHeld.size); have hA1 := Lib.hid hA1; clear hb1
  go_wp2_with fail
  refine hK.out _ _ ?_ (fun hHeld => ?_)
  · (try dsimp only); first | assumption | exact Below.alloc hHeld hHeld.size _ | exact (Below.refl _ _).drew | exact Below.drew (Below.refl _ _) | exact Below_drewN _ _ _ | exact Below.refl _ _ | (trace_state; fail)
  clear hK K
  try simp only [Act.put, List.setIfInBounds_toArray, List.set_cons_zero, List.set_cons_succ]
  refine wpAnyH_ready (rs := [4]) (by kernel_rfl) (by simp) ?_
  refine AllReadyH.cons (o := { dst := some 9, op := Op.call { callee := Callee.value (Operand.func 71), args := #[Operand.tmp 8, Operand.func 72], argTypes := #[24, 128] }, type := 103, pos := _, after := #[{ on := 3, ground := Ground.data }, { on := 2, ground := Ground.chain }], guard := none }) rfl (fun K hK => ?_) AllReadyH.nil
  go_simp
  refine (decl_eachBlock _ B goodB 72 _ (HK.out _ hHeld) (fun _ _ => rfl) (fun x W _ => decl_rightBlock x W)).mono ?_; rintro e v2 ⟨⟨f2, g2⟩, rfl, hA2, hb2⟩; have hHeld := hHeld.trans (hb2.mono hHeld.size); have hA1 := Lib.hid (hA1.out.later hb2); have hA2 := Lib.hid hA2; clear hb2
  go_wp2_with fail
  refine hK.out _ _ ?_ (fun hHeld => ?_)
  · (try dsimp only); first | assumption | exact Below.alloc hHeld hHeld.size _ | exact (Below.refl _ _).drew | exact Below.drew (Below.refl _ _) | exact Below_drewN _ _ _ | exact Below.refl _ _ | (trace_state; fail)
  clear hK K
  try simp only [Act.put, List.setIfInBounds_toArray, List.set_cons_zero, List.set_cons_succ]
  refine wpAnyH_ready (rs := [5]) (by kernel_rfl) (by simp) ?_
  refine AllReadyH.cons (o := { dst := some 10, op := Op.buildSlice 108 3 #[(0, Operand.tmp 5), (1, Operand.tmp 7), (2, Operand.tmp 9)], type := 108, pos := _, after := #[{ on := 0, ground := Ground.data }, { on := 2, ground := Ground.data }, { on := 4, ground := Ground.data }], guard := none }) rfl (fun K hK => ?_) AllReadyH.nil
  go_simp
  refine hK.out _ _ ?_ (fun hHeld => ?_)
  · (try dsimp only); first | assumption | exact Below.alloc hHeld hHeld.size _ | exact (Below.refl _ _).drew | exact Below.drew (Below.refl _ _) | exact Below_drewN _ _ _ | exact Below.refl _ _ | (trace_state; fail)
  clear hK K
  try simp only [Act.put, List.setIfInBounds_toArray, List.set_cons_zero, List.set_cons_succ]
  refine wpAnyH_ready (rs := [6]) (by kernel_rfl) (by simp) ?_
  refine AllReadyH.cons (o := { dst := some 11, op := Op.call { callee := Callee.value (Operand.func 44), args := #[Operand.tmp 10], argTypes := #[108] }, type := 30, pos := _, after := #[{ on := 5, ground := Ground.data }, { on := 4, ground := Ground.chain }], guard := none }) rfl (fun K hK => ?_) AllReadyH.nil
  go_simp
  refine (asks_all _ [(68, #[.pointer (some ⟨w.heap.size, 0, none⟩), .pointer (some ⟨w.heap.size + 1, 0, none⟩)]), (f1, g1), (f2, g2)] _ _ (row_funcs (get_last rfl) rfl (by simp) (by unfold maxLen; simp)) rfl (asks3 (HT.out.later hHeld) (hA1.out.later (by (repeat' (first | (with_reducible exact Below.refl _ _) | (with_reducible assumption) | (with_reducible refine below_drewN ?_ _) | (with_reducible refine Below.alloc ?_ ?_ _) | (with_reducible refine Below.drew ?_) | (with_reducible refine Below.setCell ?_ ?_ _) | go_size)))) (hA2.out.later (by (repeat' (first | (with_reducible exact Below.refl _ _) | (with_reducible assumption) | (with_reducible refine below_drewN ?_ _) | (with_reducible refine Below.alloc ?_ ?_ _) | (with_reducible refine Below.drew ?_) | (with_reducible refine Below.setCell ?_ ?_ _) | go_size)))))).mono ?_; rintro e v3 ⟨rfl, hb3⟩; have hHeld := hHeld.trans (hb3.mono hHeld.size); clear hb3
  go_wp2_with fail
  refine hK.out _ _ ?_ (fun hHeld => ?_)
  · (try dsimp only); first | assumption | exact Below.alloc hHeld hHeld.size _ | exact (Below.refl _ _).drew | exact Below.drew (Below.refl _ _) | exact Below_drewN _ _ _ | exact Below.refl _ _ | (trace_state; fail)
  clear hK K
  try simp only [Act.put, List.setIfInBounds_toArray, List.set_cons_zero, List.set_cons_succ]
  refine wpAnyH_take (i := 7) (oi := { dst := some 4, op := Op.assign (Operand.tmp 11), type := 30, pos := _, after := #[{ on := 6, ground := Ground.data }, { on := 6, ground := Ground.chain }, { on := 0, ground := Ground.phase }, { on := 1, ground := Ground.phase }, { on := 2, ground := Ground.phase }, { on := 3, ground := Ground.phase }, { on := 4, ground := Ground.phase }, { on := 5, ground := Ground.phase }, { on := 6, ground := Ground.phase }], guard := none }) (v := ?_) rfl (by kernel_rfl) (by kernel_rfl) (by kernel_rfl) (fun _ _ _ h => h) (Or.inl ⟨by rfl, ?_⟩) (by assumption) ?_
  rotate_left
  · intro wt hSw; (try dsimp only at hSw); have c1 := cellB hSw c1 y1; have c2 := cellB hSw c2 y2; first | (go_simp; done) | (go_simp; with_reducible rfl) | (trace_state; fail)
  try simp only [Act.put, List.setIfInBounds_toArray, List.set_cons_zero, List.set_cons_succ]
  refine wpAnyH_done (by kernel_rfl) ?_ _
  go_wp2_with fail
  go_ret
  exact ⟨by rw [← HE.out]; rfl, HB.out.trans (hHeld.mono HB.out.size)⟩
end Go.Proofs.YtefejcofmopjfaaGreatDoor

/- Layer 15: a unit's slots, by the program. -/
namespace Go.Proofs.YtefejcofmopjfaaGreatDoor
open Go.RowKit
set_option linter.unusedSimpArgs false
set_option linter.unusedVariables false
set_option maxHeartbeats 4000000 in
theorem unit_Slots (a b c : Value) (x : Un) (w : World) (h : UnAt w a b c x) (hf : fewU x = true) : Calls Tryz.prog 94 #[.agg #[.string ⟨x.name.toArray⟩, a, .int .i64 x.result, b, c]] w fun e w' => ∃ v, e = .returned v ∧ RowR 1 intR w' v (slotsL x) ∧ Below w.heap.size w w' := by
  obtain ⟨_, f1, f2, _⟩ : x.name.length ≤ 300 ∧ x.params.length ≤ 20 ∧ x.locals.length ≤ 1100 ∧ x.code.length ≤ 300 := of_decide_eq_true hf
  obtain ⟨i, hi, hz, hsize, hby⟩ : ∃ i, Tryz.prog.info? 3 = some i ∧ i.zero = some (.int .i64 0) ∧ i.size = 1 ∧ i.bytes = 8 := ⟨(Tryz.prog.info? 3).get!, by kernel_rfl, by kernel_rfl, by kernel_rfl, by kernel_rfl⟩
  have HI := Lib.hid (show ∀ z ∈ slotsL x, I64 z by
    intro z hz
    have hp := row_ints h.ps
    have hl := row_ints h.ls
    have hr := h.r64
    unfold slotsL at hz
    rcases List.mem_append.1 hz with hz | hz
    · rcases List.mem_append.1 hz with hz | hz
      · exact hp z hz
      · by_cases h0 : x.result = 0
        · rw [if_pos h0] at hz; cases hz
        · rw [if_neg h0] at hz
          have : z = x.result := by simpa using hz
          rw [this]; exact hr
    · exact hl z hz)
  have HS1 := Lib.hid (fun W (hb : Below w.heap.size w W) => (src_ints h.ps).below hb)
  have HS2 := Lib.hid (fun W (hb : Below w.heap.size w W) => (src_ints h.ls).below hb)
  obtain ⟨sa, ca, ea⟩ := row_get h.ps
  obtain ⟨sb, cb, eb⟩ := row_get h.ls
  subst ea eb
  have HD := Lib.hid (show slotsL x = x.params ++ (if x.result = 0 then [] else [x.result]) ++ x.locals from rfl)
  clear h hf
  generalize (⟨x.name.toArray⟩ : ByteArray) = nm at *
  generalize x.result = rs at *
  generalize hp : x.params = P at *
  generalize hq : x.locals = L at *
  obtain ⟨n1, hn1⟩ : ∃ n, P.length = n := ⟨_, rfl⟩
  obtain ⟨n2, hn2⟩ : ∃ n, L.length = n := ⟨_, rfl⟩
  have HN := Lib.hid (show P.length = n1 ∧ L.length = n2 from ⟨hn1, hn2⟩)
  rw [hn1] at f1 HS1 ⊢
  rw [hn2] at f2 HS2 ⊢
  clear hp hq hn1 hn2
  obtain ⟨W0, hW0⟩ : ∃ W0, W0 = w.alloc (.cells #[.string nm, .slice sa n1 ca, .int .i64 rs, .slice sb n2 cb, c] 38) := ⟨_, rfl⟩
  have hs0 : W0.heap.size = w.heap.size + 1 := by rw [hW0]; simp
  have hB0 : Below (w.heap.size + 1) W0 W0 := Below.refl _ _
  have hb0 : Below w.heap.size w W0 := by rw [hW0]; exact (Below.refl _ _).alloc (Nat.le_refl _) _
  have K := Lib.hid (fun W (hW : Below (w.heap.size + 1) W0 W) => Boxed.new w [.string nm, .slice sa n1 ca, .int .i64 rs, .slice sb n2 cb, c] 38 (by rw [hW0] at hW; exact hW))
  have hmk := run_make W0 35 3 i _ Tryz.underlying35 hi hz .i64 .i64 (0 : Int) (n1 + 1 + n2 : Int) (by omega) (by omega) (by rw [hby]; omega) (by omega)
  rw [hsize, Nat.mul_one, show ((0 : Int)).toNat = 0 from rfl, show (n1 + 1 + n2 : Int).toNat = n1 + 1 + n2 by omega] at hmk
  obtain ⟨Z, hZ⟩ : ∃ Z, madeCells (Value.int .i64 0).cells (n1 + 1 + n2) = Z := ⟨_, rfl⟩
  have hZs : Z.size = (n1 + 1 + n2) * 1 := by rw [← hZ]; simp [madeCells]
  rw [hZ] at hmk
  have HO0 := Lib.hid (own_base (owns_made W0 Z 3 1 (n1 + 1 + n2) hZs (by unfold maxLen; omega)) hs0)
  obtain ⟨W1, hW1⟩ : ∃ W1, W1 = W0.alloc (.cells Z 3) := ⟨_, rfl⟩
  have hB1 : Below (w.heap.size + 1) W0 W1 := by rw [hW1]; exact hB0.alloc (by omega) _
  have hz1 : w.heap.size + 1 ≤ W1.heap.size := by rw [hW1]; simp; omega
  rw [← hW1] at hmk HO0
  rw [hs0] at HO0 hmk
  rw [hW0] at hmk
  have HW0 := Lib.hid hW0
  have hw1 : IntKind.i64.wrap ((n1 : Int) + 1) = (n1 : Int) + 1 := IntWalk.i64_in _ (by omega)
  have hw2 : IntKind.i64.wrap ((n1 : Int) + 1 + n2) = (n1 : Int) + 1 + n2 := IntWalk.i64_in _ (by omega)
  have bx1 := K.out _ hB1
  have d1 := bx1 1 _ rfl
  clear hZ hZs hW0 hW1 bx1 hB0
  by_cases h0 : rs = 0
  · have q : (rs != 0) = false := by simp [h0]
    rw [if_pos h0, List.append_nil] at HD
    clear h0
    go_enter Tryz.func94, Tryz.ntmps94
    go_wp2_with (first | (at_builtin; go_loud (refine wpList_append_src rfl (.tmp 13) (.tmp 15) 35 rfl (w.heap.size + 1) 3 i (.int .i64 0) 1 8 Tryz.underlying35 hi hz hsize hby rfl (by omega) _ 0 [] rfl HO0.out _ n1 (iV P) rfl (HS1.out _ (hb0.trans (hB1.mono (by omega)))) (by rw [iV_len, HN.out.1]; omega) (iV_one P) (by unfold maxLen; omega) (by omega) (by omega) ?_; intro v2 w2 hO2 hG2; have hB2 := grown3 hB1 hz1 HO0.out hG2; have HO2 := Lib.hid (own_eq2 hO2 (Nat.zero_add n1) (List.nil_append _)); have z2 : w.heap.size + 1 ≤ w2.heap.size := Nat.le_trans hz1 hG2.size; have e2 := K.out _ hB2 2 _ rfl; have e3 := K.out _ hB2 3 _ rfl; clear hO2 hG2 d1)) | (at_builtin; go_loud (refine wpList_append_src rfl (.tmp 25) (.tmp 27) 35 rfl (w.heap.size + 1) 3 i (.int .i64 0) 1 8 Tryz.underlying35 hi hz hsize hby rfl (by omega) _ n1 _ rfl HO2.out _ n2 (iV L) rfl (HS2.out _ (hb0.trans (hB2.mono (by omega)))) (by rw [iV_len, HN.out.2]; omega) (iV_one L) (by unfold maxLen; omega) (by omega) (by omega) ?_; intro v3 w3 hO3 hG3; have hB3 := grown3 hB2 z2 HO2.out hG3; have HO3 := Lib.hid hO3; clear hO3 hG3)) | fail)
    trace_state
    go_ret
    exact ⟨_, rfl, row_of_owns (own_eq2 HO3.out (by rw [HD.out, List.length_append, HN.out.1, HN.out.2]) (by rw [HD.out, iV_app])) HI.out, hb0.trans (hB3.mono (by omega))⟩
  · have q : (rs != 0) = true := by simpa using h0
    rw [if_neg h0] at HD
    clear h0
    go_enter Tryz.func94, Tryz.ntmps94
    go_wp2_with (first | (at_builtin; go_loud (refine wpList_append_src rfl (.tmp 13) (.tmp 15) 35 rfl (w.heap.size + 1) 3 i (.int .i64 0) 1 8 Tryz.underlying35 hi hz hsize hby rfl (by omega) _ 0 [] rfl HO0.out _ n1 (iV P) rfl (HS1.out _ (hb0.trans (hB1.mono (by omega)))) (by rw [iV_len, HN.out.1]; omega) (iV_one P) (by unfold maxLen; omega) (by omega) (by omega) ?_; intro v2 w2 hO2 hG2; have hB2 := grown3 hB1 hz1 HO0.out hG2; have HO2 := Lib.hid (own_eq2 hO2 (Nat.zero_add n1) (List.nil_append _)); have z2 : w.heap.size + 1 ≤ w2.heap.size := Nat.le_trans hz1 hG2.size; have e2 := K.out _ hB2 2 _ rfl; have e3 := K.out _ hB2 3 _ rfl; clear hO2 hG2 d1)) | (at_builtin; go_loud (refine wpList_append_src rfl (.tmp 20) (.tmp 23) 35 rfl (w.heap.size + 1) 3 i (.int .i64 0) 1 8 Tryz.underlying35 hi hz hsize hby rfl (by omega) _ n1 _ rfl (owns_below HO2.out ((Below.refl _ _).alloc (Nat.le_refl _) _)) _ 1 [.int .i64 rs] rfl (src_new _ _ _) rfl (by intro u hu; simp at hu; rw [hu]; rfl) (by unfold maxLen; omega) (by omega) (by simp; omega) ?_; intro v3 w3 hO3 hG3; have hB3 := grown3 (hB2.alloc z2 _) (by simp; omega) (owns_below HO2.out ((Below.refl _ _).alloc (Nat.le_refl _) _)) hG3; have HO3 := Lib.hid hO3; have z3 : w.heap.size + 1 ≤ w3.heap.size := (by have := hG3.size; simp at this; omega); have g3 := K.out _ hB3 3 _ rfl; clear hO3 hG3 e2 e3)) | (at_builtin; go_loud (refine wpList_append_src rfl (.tmp 25) (.tmp 27) 35 rfl (w.heap.size + 1) 3 i (.int .i64 0) 1 8 Tryz.underlying35 hi hz hsize hby rfl (by omega) _ (n1 + 1) _ rfl HO3.out _ n2 (iV L) rfl (HS2.out _ (hb0.trans (hB3.mono (by omega)))) (by rw [iV_len, HN.out.2]; omega) (iV_one L) (by unfold maxLen; omega) (by omega) (by omega) ?_; intro v4 w4 hO4 hG4; have hB4 := grown3 hB3 z3 HO3.out hG4; have HO4 := Lib.hid hO4; clear hO4 hG4)) | fail)
    trace_state
    go_ret
    exact ⟨_, rfl, row_of_owns (own_eq2 HO4.out (by rw [HD.out]; simp only [List.length_append, List.length_cons, List.length_nil, HN.out.1, HN.out.2]) (by rw [HD.out, iV_app, iV_app]; rfl)) HI.out, hb0.trans (hB4.mono (by omega))⟩
end Go.Proofs.YtefejcofmopjfaaGreatDoor

/- Layer 17: a unit's head. -/
namespace Go.Proofs.YtefejcofmopjfaaGreatDoor
open Go.RowKit
set_option linter.unusedSimpArgs false
set_option linter.unusedVariables false
def headS (P L : List Int) (r : Int) : List Int := P ++ (if r = 0 then [] else [r]) ++ L
def emptyN (n : Nat) : Bool := decide (n = 0)
def headE (P L : List Int) (r : Int) (m : Bool) : Int := firstE [unlessE (decide (P.length ≤ 8) && decide ((headS P L r).length ≤ 1024)) 5, allE ((headS P L r).all kRight), unlessE (!m || (emptyN P.length && r == 0)) 10]
theorem head_1 (p q : Nat) (a b : Option Addr) (n m c d : Nat) (w : World) (h1 : w.cell? ⟨p, 0, none⟩ = some (.slice a n c)) (h2 : w.cell? ⟨q, 0, none⟩ = some (.slice b m d)) :
    Calls Tryz.prog 95 #[.pointer (some ⟨p, 0, none⟩), .pointer (some ⟨q, 0, none⟩)] w fun e w' => e = .returned (.int .i64 (unlessE (decide (n ≤ 8) && decide (m ≤ 1024)) 5)) ∧ Below w.heap.size w w' := by
  by_cases h8 : n ≤ 8
  · have q1 : ((n : Int) ≤ 8) = True := eq_true (by omega)
    have d1 := Lib.hid (decide_eq_true h8)
    go_enter Tryz.func95, Tryz.ntmps95
    go_wp2_with fail
    refine (decl_unless _ _ _).mono ?_; rintro e w1 ⟨rfl, rfl⟩
    go_wp2_with fail
    go_ret
    refine ⟨?_, Below.refl _ _⟩
    rw [d1.out, Bool.true_and]
    rw [← (decide_eq_decide.2 (by omega : ((m : Int) ≤ 1024) ↔ m ≤ 1024))]
    rfl
  · have q1 : ((n : Int) ≤ 8) = False := eq_false (by omega)
    have d1 := Lib.hid (decide_eq_false h8)
    go_enter Tryz.func95, Tryz.ntmps95
    go_wp2_with fail
    refine (decl_unless _ _ _).mono ?_; rintro e w1 ⟨rfl, rfl⟩
    go_wp2_with fail
    go_ret
    exact ⟨by rw [d1.out]; rfl, Below.refl _ _⟩
theorem head_2 (o p q : Nat) (a : Option Addr) (n c : Nat) (r : Int) (m : Bool) (w : World) (h0 : w.cell? ⟨o, 0, none⟩ = some (.bool m)) (h1 : w.cell? ⟨p, 0, none⟩ = some (.slice a n c)) (h2 : w.cell? ⟨q, 0, none⟩ = some (.int .i64 r)) :
    Calls Tryz.prog 97 #[.pointer (some ⟨o, 0, none⟩), .pointer (some ⟨p, 0, none⟩), .pointer (some ⟨q, 0, none⟩)] w fun e w' => e = .returned (.int .i64 (unlessE (!m || (emptyN n && r == 0)) 10)) ∧ Below w.heap.size w w' := by
  cases m
  · go_enter Tryz.func97, Tryz.ntmps97
    go_wp2_with fail
    refine (decl_unless _ _ _).mono ?_; rintro e w1 ⟨rfl, rfl⟩
    go_wp2_with fail
    go_ret
    exact ⟨rfl, Below.refl _ _⟩
  · by_cases hn : n = 0
    · subst hn
      go_enter Tryz.func97, Tryz.ntmps97
      go_wp2_with fail
      refine (decl_unless _ _ _).mono ?_; rintro e w1 ⟨rfl, rfl⟩
      go_wp2_with fail
      go_ret
      exact ⟨rfl, Below.refl _ _⟩
    · have q1 : ((n : Int) == 0) = false := by simp; omega
      have d1 := Lib.hid (show emptyN n = false from decide_eq_false hn)
      go_enter Tryz.func97, Tryz.ntmps97
      go_wp2_with fail
      refine (decl_unless _ _ _).mono ?_; rintro e w1 ⟨rfl, rfl⟩
      go_wp2_with fail
      go_ret
      exact ⟨by rw [d1.out]; rfl, Below.refl _ _⟩
set_option maxRecDepth 100000 in
set_option maxHeartbeats 4000000 in
theorem decl_Head (pv lv : Value) (P L : List Int) (r : Int) (m : Bool) (w : World) (hp : RowR 1 intR w pv P) (hl : RowR 1 intR w lv L) (hr : I64 r) (hp20 : P.length ≤ 20) (hl20 : L.length ≤ 1100) :
    Calls Tryz.prog 73 #[pv, .int .i64 r, lv, .bool m] w fun e w' => e = .returned (.int .i64 (headE P L r m)) ∧ Below w.heap.size w w' := by
  have hmf : ∀ (fn : Fn) (first cap : Array Value) (w : World), (Instr.makeFunc fn first cap).run Tryz.prog w = .ok (.func fn first cap) w := fun _ _ _ _ => rfl
  have HE := Lib.hid (show headE P L r m = firstE [unlessE (decide (P.length ≤ 8) && decide ((headS P L r).length ≤ 1024)) 5, allE ((headS P L r).all kRight), unlessE (!m || (emptyN P.length && r == 0)) 10] from rfl)
  obtain ⟨sp, cp, rfl⟩ := row_get hp
  obtain ⟨sl, cl, rfl⟩ := row_get hl
  obtain ⟨S, hS⟩ : ∃ S, headS P L r = S := ⟨_, rfl⟩
  rw [hS] at HE
  obtain ⟨W1, hW1⟩ : ∃ W1, W1 = ((w.alloc (.cells #[.slice sp P.length cp] 35)).alloc (.cells #[.int .i64 r] 3)).alloc (.cells #[.bool m] 4) := ⟨_, rfl⟩
  have hb : Below w.heap.size w W1 := by rw [hW1]; exact by (repeat' (first | (with_reducible exact Below.refl _ _) | (with_reducible assumption) | (with_reducible refine below_drewN ?_ _) | (with_reducible refine Below.alloc ?_ ?_ _) | (with_reducible refine Below.drew ?_) | (with_reducible refine Below.setCell ?_ ?_ _) | go_size))
  have hz : W1.heap.size = w.heap.size + 3 := by rw [hW1]; simp
  have c1 : W1.cell? ⟨w.heap.size, 0, none⟩ = some (.slice sp P.length cp) := by rw [hW1]; exact obj_cell ((get_past (by simp; omega)).trans ((get_past (by simp)).trans (get_last rfl))) rfl
  have c2 : W1.cell? ⟨w.heap.size + 1, 0, none⟩ = some (.int .i64 r) := by rw [hW1]; exact obj_cell ((get_past (by simp)).trans (get_last (by simp))) rfl
  have c3 : W1.cell? ⟨w.heap.size + 2, 0, none⟩ = some (.bool m) := by rw [hW1]; exact obj_cell (get_last (by simp)) rfl
  have HW1 := Lib.hid hW1
  have HB := Lib.hid hb
  have hu := unit_Slots (.slice sp P.length cp) (.slice sl L.length cl) (.slice none 0 0) ⟨[], P, r, L, []⟩ W1 ⟨hp.below intR_stable hb, hl.below intR_stable hb, row_none, by simp [sz], hr⟩ (decide_eq_true ⟨by simp, hp20, hl20, by simp⟩)
  rw [show slotsL ⟨[], P, r, L, []⟩ = S from hS] at hu
  have hu' : Calls Tryz.prog 94 #[.agg #[.string ⟨#[]⟩, .slice sp P.length cp, .int .i64 r, .slice sl L.length cl, .slice none 0 0]] W1 fun e w' => ∃ v, e = .returned v ∧ RowR 1 intR w' v S ∧ Below W1.heap.size W1 w' := hu
  clear hW1 hb hp hl hu hS
  go_enter Tryz.func73, Tryz.ntmps73
  go_upto_region 1 with fail
  rw [← HW1.out]
  go_wp2_with fail
  refine hu'.mono ?_; rintro e w2 ⟨v, rfl, hv, hb2⟩
  obtain ⟨ss, cs, rfl⟩ := row_get hv
  obtain ⟨W3, hW3⟩ : ∃ W3, W3 = w2.alloc (.cells #[.slice ss S.length cs] 35) := ⟨_, rfl⟩
  have hb3 : Below w2.heap.size w2 W3 := by rw [hW3]; exact by (repeat' (first | (with_reducible exact Below.refl _ _) | (with_reducible assumption) | (with_reducible refine below_drewN ?_ _) | (with_reducible refine Below.alloc ?_ ?_ _) | (with_reducible refine Below.drew ?_) | (with_reducible refine Below.setCell ?_ ?_ _) | go_size))
  have hbW : Below W1.heap.size W1 W3 := hb2.trans (hb3.mono hb2.size)
  have c1 := (hbW.cell (p := ⟨w.heap.size, 0, none⟩) (World.block_lt_of_cell? _ _ c1)).trans c1
  have c2 := (hbW.cell (p := ⟨w.heap.size + 1, 0, none⟩) (World.block_lt_of_cell? _ _ c2)).trans c2
  have c3 := (hbW.cell (p := ⟨w.heap.size + 2, 0, none⟩) (World.block_lt_of_cell? _ _ c3)).trans c3
  have c4 : W3.cell? ⟨w2.heap.size, 0, none⟩ = some (.slice ss S.length cs) := by rw [hW3]; exact obj_cell (get_last rfl) rfl
  have HV := Lib.hid (hv.below intR_stable hb3)
  have HBW := Lib.hid (HB.out.trans (hbW.mono HB.out.size))
  have HW3 := Lib.hid hW3
  have HA1 := Lib.hid (show Asks W3 (95, #[.pointer (some ⟨w.heap.size, 0, none⟩), .pointer (some ⟨w2.heap.size, 0, none⟩)]) (unlessE (decide (P.length ≤ 8) && decide (S.length ≤ 1024)) 5) from
    ⟨fun _ _ => rfl, fun W hW => head_1 _ _ _ _ _ _ _ _ W ((hW.cell (p := ⟨w.heap.size, 0, none⟩) (World.block_lt_of_cell? _ _ c1)).trans c1) ((hW.cell (p := ⟨w2.heap.size, 0, none⟩) (World.block_lt_of_cell? _ _ c4)).trans c4)⟩)
  have HA2 := Lib.hid (show Asks W3 (97, #[.pointer (some ⟨w.heap.size + 2, 0, none⟩), .pointer (some ⟨w.heap.size, 0, none⟩), .pointer (some ⟨w.heap.size + 1, 0, none⟩)]) (unlessE (!m || (emptyN P.length && r == 0)) 10) from
    ⟨fun _ _ => rfl, fun W hW => head_2 _ _ _ _ _ _ _ _ W ((hW.cell (p := ⟨w.heap.size + 2, 0, none⟩) (World.block_lt_of_cell? _ _ c3)).trans c3) ((hW.cell (p := ⟨w.heap.size, 0, none⟩) (World.block_lt_of_cell? _ _ c1)).trans c1) ((hW.cell (p := ⟨w.heap.size + 1, 0, none⟩) (World.block_lt_of_cell? _ _ c2)).trans c2)⟩)
  clear hW3 hb2 hb3 hbW hv
  go_upto_region 2 with fail
  rw [← HW3.out]
  go_wp2_with fail
  refine (decl_eachInt _ S kRight 89 W3 HV.out (fun _ _ => rfl) (fun x W _ => (kind_Right x W).mono (fun _ _ h => ⟨h.1, h.2 ▸ Below.refl _ _⟩))).mono ?_; rintro e w4 ⟨⟨f1, g1⟩, rfl, hA3, hb4⟩
  have HA3 := Lib.hid hA3
  have HB4 := Lib.hid hb4
  clear hA3 hb4
  go_wp2_with fail
  refine (asks_all _ [(95, #[.pointer (some ⟨w.heap.size, 0, none⟩), .pointer (some ⟨w2.heap.size, 0, none⟩)]), (f1, g1), (97, #[.pointer (some ⟨w.heap.size + 2, 0, none⟩), .pointer (some ⟨w.heap.size, 0, none⟩), .pointer (some ⟨w.heap.size + 1, 0, none⟩)])] _ _ (row_funcs (get_last rfl) rfl (by simp) (by unfold maxLen; simp)) rfl (asks3 (HA1.out.later (HB4.out.alloc HB4.out.size _)) (HA3.out.later (by (repeat' (first | (with_reducible exact Below.refl _ _) | (with_reducible assumption) | (with_reducible refine below_drewN ?_ _) | (with_reducible refine Below.alloc ?_ ?_ _) | (with_reducible refine Below.drew ?_) | (with_reducible refine Below.setCell ?_ ?_ _) | go_size)))) (HA2.out.later (HB4.out.alloc HB4.out.size _)))).mono ?_; rintro e w5 ⟨rfl, hb5⟩
  have HB5 := Lib.hid (show Below w.heap.size w w5 from HBW.out.trans ((HB4.out.mono HBW.out.size).trans (below_any (w0 := w4) (by (repeat' (first | (with_reducible exact Below.refl _ _) | (with_reducible assumption) | (with_reducible refine below_drewN ?_ _) | (with_reducible refine Below.alloc ?_ ?_ _) | (with_reducible refine Below.drew ?_) | (with_reducible refine Below.setCell ?_ ?_ _) | go_size))) hb5 (Nat.le_trans HBW.out.size HB4.out.size))))
  clear hb5
  go_wp2_with fail
  go_ret
  exact ⟨by rw [HE.out]; rfl, HB5.out⟩
end Go.Proofs.YtefejcofmopjfaaGreatDoor

/- Layer 17: all units; a program. -/
namespace Go.Proofs.YtefejcofmopjfaaGreatDoor
open Go.RowKit
set_option linter.unusedSimpArgs false
set_option linter.unusedVariables false
def codeE (n : Nat) : Int := unlessE (decide (0 < n) && decide (n ≤ 16384)) 5
def unitE (x : Un) (m : Bool) : Int := if headE x.params x.locals x.result m = 0 then codeE x.code.length else headE x.params x.locals x.result m
def unitsL (us : List Un) : List Int := us.mapIdx fun i x => unitE x ((i : Int) == 0)
def checkE (p : Pr) : Int := firstE [unlessE (decide (0 < p.units.length) && decide (p.units.length ≤ 8)) 5, unlessE (decide (p.consts.length ≤ 1024) && (decide (p.vars.length ≤ 64) && decide (p.blocks.length ≤ 32))) 5, allE (p.consts.all fun x => kIn x.1 x.2), tablesE p.vars p.blocks, firstE (unitsL p.units)]
theorem unitsL_at {us : List Un} {k : Nat} {x : Un} (h : us[k]? = some x) : (unitsL us)[k]? = some (unitE x ((k : Int) == 0)) := by
  unfold unitsL
  rw [List.getElem?_mapIdx, h]
  rfl
theorem unitsL_len (us : List Un) : (unitsL us).length = us.length := by simp [unitsL]
set_option maxRecDepth 100000 in
set_option maxHeartbeats 4000000 in
theorem decl_units (v : Value) (us : List Un) (w : World) (hv : RowR 5 unitR w v us) (hf : ∀ x ∈ us, fewU x = true) : Calls Tryz.prog 54 #[v] w fun e w' => e = .returned (.int .i64 (firstE (unitsL us))) ∧ Below w.heap.size w w' := by
  have hvl := hv.len
  obtain ⟨sv, cv, rfl⟩ := row_get hv
  obtain ⟨N, hN⟩ : ∃ N, us.length = N := ⟨_, rfl⟩
  have HN := Lib.hid hN
  rw [hN] at hv hvl ⊢
  clear hN
  have HL := Lib.hid (unitsL_len us)
  go_enter Tryz.func54, Tryz.ntmps54
  go_wp2_with fail
  go_loopw [8] (fun jj wr => ∃ (k : Nat), k ≤ N ∧ jj = .int .i64 k ∧ Hid (∀ z ∈ (unitsL us).take k, z = 0) ∧ Hid (Below w.heap.size w wr)) (fun jj _ => N - (intOf jj).toNat)
  case atStart => exact ⟨0, by omega, rfl, Lib.hid (by simp), Lib.hid (Below.refl _ _)⟩
  case round =>
    obtain ⟨k, hk, rfl, hall, HB⟩ := hrel
    by_cases hlt : k < N
    · have qk : ((k : Int) < (N : Int)) = True := eq_true (by omega)
      obtain ⟨x, hx⟩ := get_some (L := us) (n := k) (by rw [HN.out]; exact hlt)
      obtain ⟨b, off, rfl, hbw, hc⟩ := unit_at hv (k := k) (by rw [HN.out]; exact hlt)
      obtain ⟨u1, u3, u4, d0, d1, d2, d3, d4, hU⟩ := hc k x hx
      have d0 := (HB.out.cell (p := ⟨b, off + k * 5, none⟩) hbw).trans d0
      have d1 := (HB.out.cell (p := ⟨b, off + k * 5 + 1, none⟩) hbw).trans d1
      have d2 := (HB.out.cell (p := ⟨b, off + k * 5 + 2, none⟩) hbw).trans d2
      have d3 := (HB.out.cell (p := ⟨b, off + k * 5 + 3, none⟩) hbw).trans d3
      have d4 := (HB.out.cell (p := ⟨b, off + k * 5 + 4, none⟩) hbw).trans d4
      have hwr := HB.out.size
      have hfx := hf x (List.mem_of_getElem? hx)
      have hfx' : x.name.length ≤ 300 ∧ x.params.length ≤ 20 ∧ x.locals.length ≤ 1100 ∧ x.code.length ≤ 300 := of_decide_eq_true hfx
      obtain ⟨a1, b1, rfl⟩ := row_get hU.ps
      obtain ⟨a3, b3, rfl⟩ := row_get hU.ls
      obtain ⟨a4, b4, rfl⟩ := row_get hU.cs
      have hU' := hU.below HB.out
      have HZ := Lib.hid (unitsL_at hx)
      obtain ⟨mm, hmm⟩ : ∃ m, ((k : Int) == 0) = m := ⟨_, rfl⟩
      rw [hmm] at HZ
      have HT := Lib.hid (take_snoc HZ.out)
      obtain ⟨W1, hW1⟩ : ∃ W1, W1 = wr.alloc (.cells #[.string ⟨x.name.toArray⟩, .slice a1 x.params.length b1, .int .i64 x.result, .slice a3 x.locals.length b3, .slice a4 x.code.length b4] 38) := ⟨_, rfl⟩
      have hb1 : Below wr.heap.size wr W1 := by rw [hW1]; exact by (repeat' (first | (with_reducible exact Below.refl _ _) | (with_reducible assumption) | (with_reducible refine below_drewN ?_ _) | (with_reducible refine Below.alloc ?_ ?_ _) | (with_reducible refine Below.drew ?_) | (with_reducible refine Below.setCell ?_ ?_ _) | go_size))
      have hj1 : W1.heap[wr.heap.size]? = some (.cells #[.string ⟨x.name.toArray⟩, .slice a1 x.params.length b1, .int .i64 x.result, .slice a3 x.locals.length b3, .slice a4 x.code.length b4] 38) := by rw [hW1]; exact get_last rfl
      have e1 := obj_cell hj1 (i := 1) rfl
      have e2 := obj_cell hj1 (i := 2) rfl
      have e3 := obj_cell hj1 (i := 3) rfl
      have HJ := Lib.hid hj1
      have HHd := decl_Head (.slice a1 x.params.length b1) (.slice a3 x.locals.length b3) x.params x.locals x.result mm W1 (hU'.ps.below intR_stable hb1) (hU'.ls.below intR_stable hb1) hU'.r64 hfx'.2.1 hfx'.2.2.1
      have HB1 := Lib.hid (HB.out.trans (hb1.mono hwr))
      have hz1 : W1.heap.size = wr.heap.size + 1 := by rw [hW1]; simp
      have HW1 := Lib.hid hW1
      clear hc hx hU hU' hW1 hb1 hj1 hfx
      go_upto_region 4 with fail
      rw [← HW1.out]
      by_cases h0 : headE x.params x.locals x.result mm = 0
      · rw [h0] at HHd
        have HC := Lib.hid (show unitE x mm = codeE x.code.length from if_pos h0)
        clear h0
        go_wp2_with fail
        refine HHd.mono ?_; rintro e w2 ⟨rfl, hb2⟩
        have hj2 := obj_below HJ.out hb2 (by omega)
        have e4 := obj_cell hj2 (i := 4) rfl
        have HB2 := Lib.hid (HB1.out.trans (hb2.mono HB1.out.size))
        clear hb2 hj2
        by_cases hp : 0 < x.code.length
        · have q1 : (0 < (x.code.length : Int)) = True := eq_true (by omega)
          have q1' : (0 < x.code.length) = True := eq_true hp
          have q2 : ((x.code.length : Int) ≤ 16384) = True := eq_true (by omega)
          have q2' : (x.code.length ≤ 16384) = True := eq_true (by omega)
          have HC0 := Lib.hid (show unitE x mm = 0 by rw [HC.out]; exact unless_yes (by simp [hp]; omega))
          clear hp
          go_wp2_with fail
          refine (decl_unless _ _ _).mono ?_; rintro e w3 ⟨rfl, rfl⟩
          rw [unless_yes rfl]
          go_wp2_with fail
          go_roundw
          case rel => exact ⟨k + 1, by omega, by simp, Lib.hid (by rw [HT.out]; intro z hz; rcases List.mem_append.1 hz with h | h; exact hall.out z h; rw [List.mem_singleton.1 h]; exact HC0.out), HB2⟩
          case measure => first | (simp [intOf]; done) | (simp [intOf]; omega)
        · have q1 : (0 < (x.code.length : Int)) = False := eq_false (by omega)
          have q1' : (0 < x.code.length) = False := eq_false hp
          have HC5 := Lib.hid (show unitE x mm = 5 by rw [HC.out]; exact unless_no (by simp; omega))
          have hfe := Lib.hid (firstE_at hall.out HZ.out (by rw [HC5.out]; decide))
          clear hp
          go_wp2_with fail
          refine (decl_unless _ _ _).mono ?_; rintro e w3 ⟨rfl, rfl⟩
          rw [unless_no rfl]
          go_wp2_with fail
          go_ret
          exact ⟨by rw [hfe.out, HC5.out]; rfl, HB2.out⟩
      · obtain ⟨z, hz⟩ : ∃ z, headE x.params x.locals x.result mm = z := ⟨_, rfl⟩
        rw [hz] at HHd h0
        have HC := Lib.hid (show unitE x mm = z by unfold unitE; rw [hz, if_neg h0])
        have hfe := Lib.hid (firstE_at hall.out HZ.out (by rw [HC.out]; exact h0))
        have q0 : (z != 0) = true := by simpa using h0
        have q0' : (z == 0) = false := by simpa using h0
        clear hz
        go_wp2_with fail
        refine HHd.mono ?_; rintro e w2 ⟨rfl, hb2⟩
        have HB2 := Lib.hid (HB1.out.trans (hb2.mono HB1.out.size))
        clear hb2
        go_wp2_with fail
        go_ret
        exact ⟨by rw [hfe.out, HC.out]; rfl, HB2.out⟩
    · obtain rfl : k = N := by omega
      have qk : ((k : Int) < (k : Int)) = False := eq_false (by omega)
      have hfe := Lib.hid (firstE_none (es := unitsL us) (by have := hall.out; rwa [List.take_of_length_le (by rw [HL.out, HN.out]; exact Nat.le_refl _)] at this))
      go_wp2_with fail
      go_ret
      exact ⟨by rw [hfe.out]; rfl, HB.out⟩
end Go.Proofs.YtefejcofmopjfaaGreatDoor

/- Layer 17: a program's declarations. -/
namespace Go.Proofs.YtefejcofmopjfaaGreatDoor
open Go.RowKit
set_option linter.unusedSimpArgs false
set_option linter.unusedVariables false
theorem check_1 (p : Nat) (a : Option Addr) (n c : Nat) (w : World) (h : w.cell? ⟨p, 3, none⟩ = some (.slice a n c)) :
    Calls Tryz.prog 45 #[.pointer (some ⟨p, 0, none⟩)] w fun e w' => e = .returned (.int .i64 (unlessE (decide (0 < n) && decide (n ≤ 8)) 5)) ∧ Below w.heap.size w w' := by
  by_cases h0 : 0 < n
  · have q1 : (0 < (n : Int)) = True := eq_true (by omega)
    have q1' : (0 < n) = True := eq_true h0
    have d1 := Lib.hid (decide_eq_true h0)
    clear h0
    go_enter Tryz.func45, Tryz.ntmps45
    go_wp2_with fail
    refine (decl_unless _ _ _).mono ?_; rintro e w1 ⟨rfl, rfl⟩
    go_wp2_with fail
    go_ret
    refine ⟨?_, Below.refl _ _⟩
    rw [d1.out, Bool.true_and, ← (decide_eq_decide.2 (by omega : ((n : Int) ≤ 8) ↔ n ≤ 8))]
    rfl
  · have q1 : (0 < (n : Int)) = False := eq_false (by omega)
    have q1' : (0 < n) = False := eq_false h0
    have d1 := Lib.hid (decide_eq_false h0)
    clear h0
    go_enter Tryz.func45, Tryz.ntmps45
    go_wp2_with fail
    refine (decl_unless _ _ _).mono ?_; rintro e w1 ⟨rfl, rfl⟩
    go_wp2_with fail
    go_ret
    exact ⟨by rw [d1.out]; rfl, Below.refl _ _⟩
theorem check_2 (p : Nat) (a b d : Option Addr) (n m l c c2 c3 : Nat) (w : World) (h0 : w.cell? ⟨p, 0, none⟩ = some (.slice a n c)) (h1 : w.cell? ⟨p, 1, none⟩ = some (.slice b m c2)) (h2 : w.cell? ⟨p, 2, none⟩ = some (.slice d l c3)) :
    Calls Tryz.prog 47 #[.pointer (some ⟨p, 0, none⟩)] w fun e w' => e = .returned (.int .i64 (unlessE (decide (n ≤ 1024) && (decide (m ≤ 64) && decide (l ≤ 32))) 5)) ∧ Below w.heap.size w w' := by
  have HF := decl_few b d m l c2 c3 w
  by_cases hn : n ≤ 1024
  · have q1 : ((n : Int) ≤ 1024) = True := eq_true (by omega)
    have q1' : (n ≤ 1024) = True := eq_true hn
    have d1 := Lib.hid (decide_eq_true hn)
    clear hn
    go_enter Tryz.func47, Tryz.ntmps47
    go_wp2_with fail
    refine HF.mono ?_; rintro e w1 ⟨rfl, rfl⟩
    go_wp2_with fail
    refine (decl_unless _ _ _).mono ?_; rintro e w1 ⟨rfl, rfl⟩
    go_wp2_with fail
    go_ret
    refine ⟨?_, Below.refl _ _⟩
    rw [d1.out, Bool.true_and]
    first | rfl | (rw [Bool.decide_and]; rfl) | (rw [← Bool.decide_and]; rfl)
  · have q1 : ((n : Int) ≤ 1024) = False := eq_false (by omega)
    have q1' : (n ≤ 1024) = False := eq_false hn
    have d1 := Lib.hid (decide_eq_false hn)
    clear hn
    go_enter Tryz.func47, Tryz.ntmps47
    go_wp2_with fail
    refine (decl_unless _ _ _).mono ?_; rintro e w1 ⟨rfl, rfl⟩
    go_wp2_with fail
    go_ret
    exact ⟨by rw [d1.out]; rfl, Below.refl _ _⟩
theorem check_3 (p : Nat) (vv bv : Value) (V : List Vr) (B : List Bk) (w : World) (h1 : w.cell? ⟨p, 1, none⟩ = some vv) (h2 : w.cell? ⟨p, 2, none⟩ = some bv) (hv : RowR 5 varR w vv V) (hb : RowR 2 blkR w bv B) :
    Calls Tryz.prog 51 #[.pointer (some ⟨p, 0, none⟩)] w fun e w' => e = .returned (.int .i64 (tablesE V B)) ∧ Below w.heap.size w w' := by
  have HT := decl_Tables vv bv V B w hv hb
  obtain ⟨sv, cv, rfl⟩ := row_get hv
  obtain ⟨sb, cb, rfl⟩ := row_get hb
  go_enter Tryz.func51, Tryz.ntmps51
  go_wp2_with fail
  refine HT.mono ?_; rintro e w1 ⟨rfl, hb1⟩
  go_wp2_with fail
  go_ret
  exact ⟨rfl, hb1⟩
theorem check_4 (p : Nat) (v : Value) (us : List Un) (w : World) (h : w.cell? ⟨p, 3, none⟩ = some v) (hv : RowR 5 unitR w v us) (hf : ∀ x ∈ us, fewU x = true) :
    Calls Tryz.prog 53 #[.pointer (some ⟨p, 0, none⟩)] w fun e w' => e = .returned (.int .i64 (firstE (unitsL us))) ∧ Below w.heap.size w w' := by
  have HT := decl_units v us w hv hf
  obtain ⟨sv, cv, rfl⟩ := row_get hv
  go_enter Tryz.func53, Tryz.ntmps53
  go_wp2_with fail
  refine HT.mono ?_; rintro e w1 ⟨rfl, hb1⟩
  go_wp2_with fail
  go_ret
  exact ⟨rfl, hb1⟩
set_option maxRecDepth 100000 in
set_option maxHeartbeats 4000000 in
theorem decl_Check (pa pb pc pd : Value) (p : Pr) (w : World) (hp : PrAt w pa pb pc pd p) (hf : ∀ x ∈ p.units, fewU x = true) :
    Calls Tryz.prog 35 #[.agg #[pa, pb, pc, pd]] w fun e w' => e = .returned (.int .i64 (checkE p)) ∧ Below w.heap.size w w' := by
  have hmf : ∀ (fn : Fn) (first cap : Array Value) (w : World), (Instr.makeFunc fn first cap).run Tryz.prog w = .ok (.func fn first cap) w := fun _ _ _ _ => rfl
  have HE := Lib.hid (show checkE p = firstE [unlessE (decide (0 < p.units.length) && decide (p.units.length ≤ 8)) 5, unlessE (decide (p.consts.length ≤ 1024) && (decide (p.vars.length ≤ 64) && decide (p.blocks.length ≤ 32))) 5, allE (p.consts.all fun x => kIn x.1 x.2), tablesE p.vars p.blocks, firstE (unitsL p.units)] from rfl)
  obtain ⟨sa, ca, rfl⟩ := row_get hp.cs
  obtain ⟨sb, cb, rfl⟩ := row_get hp.vs
  obtain ⟨sc, cc, rfl⟩ := row_get hp.bs
  obtain ⟨sd, cd, rfl⟩ := row_get hp.us
  obtain ⟨W1, hW1⟩ : ∃ W1, W1 = w.alloc (.cells #[.slice sa p.consts.length ca, .slice sb p.vars.length cb, .slice sc p.blocks.length cc, .slice sd p.units.length cd] 27) := ⟨_, rfl⟩
  have hb : Below w.heap.size w W1 := by rw [hW1]; exact by (repeat' (first | (with_reducible exact Below.refl _ _) | (with_reducible assumption) | (with_reducible refine below_drewN ?_ _) | (with_reducible refine Below.alloc ?_ ?_ _) | (with_reducible refine Below.drew ?_) | (with_reducible refine Below.setCell ?_ ?_ _) | go_size))
  have hz : W1.heap.size = w.heap.size + 1 := by rw [hW1]; simp
  have hj : W1.heap[w.heap.size]? = some (.cells #[.slice sa p.consts.length ca, .slice sb p.vars.length cb, .slice sc p.blocks.length cc, .slice sd p.units.length cd] 27) := by rw [hW1]; exact get_last rfl
  have c0 := obj_cell hj (i := 0) rfl
  have hp1 := hp.below hb
  have hjW := fun W (h : Below W1.heap.size W1 W) => obj_below hj h (by omega)
  have HW1 := Lib.hid hW1
  have HB := Lib.hid hb
  have HC := Lib.hid (fun W (h : Below W1.heap.size W1 W) => hp1.cs.below constR_stable h)
  have HA1 := Lib.hid (show Asks W1 (45, #[.pointer (some ⟨w.heap.size, 0, none⟩)]) (unlessE (decide (0 < p.units.length) && decide (p.units.length ≤ 8)) 5) from
    ⟨fun _ _ => rfl, fun W hW => check_1 _ _ _ _ W (obj_cell (hjW W hW) rfl)⟩)
  have HA2 := Lib.hid (show Asks W1 (47, #[.pointer (some ⟨w.heap.size, 0, none⟩)]) (unlessE (decide (p.consts.length ≤ 1024) && (decide (p.vars.length ≤ 64) && decide (p.blocks.length ≤ 32))) 5) from
    ⟨fun _ _ => rfl, fun W hW => check_2 _ _ _ _ _ _ _ _ _ _ W (obj_cell (hjW W hW) rfl) (obj_cell (hjW W hW) rfl) (obj_cell (hjW W hW) rfl)⟩)
  have HA4 := Lib.hid (show Asks W1 (51, #[.pointer (some ⟨w.heap.size, 0, none⟩)]) (tablesE p.vars p.blocks) from
    ⟨fun _ _ => rfl, fun W hW => check_3 _ _ _ _ _ W (obj_cell (hjW W hW) rfl) (obj_cell (hjW W hW) rfl) (hp1.vs.below varR_stable hW) (hp1.bs.below blkR_stable hW)⟩)
  have HA5 := Lib.hid (show Asks W1 (53, #[.pointer (some ⟨w.heap.size, 0, none⟩)]) (firstE (unitsL p.units)) from
    ⟨fun _ _ => rfl, fun W hW => check_4 _ _ _ W (obj_cell (hjW W hW) rfl) (hp1.us.below unitR_stable hW) hf⟩)
  clear hW1 hb hj hp hp1 hjW hf
  go_enter Tryz.func35, Tryz.ntmps35
  go_upto_region 1 with fail
  rw [← HW1.out]
  go_wp2_with fail
  refine (decl_eachConst _ p.consts (fun x => kIn x.1 x.2) 50 W1 (HC.out _ (Below.refl _ _)) (fun _ _ => rfl) (fun x W _ => decl_rightConst x W)).mono ?_; rintro e w4 ⟨⟨f1, g1⟩, rfl, hA3, hb4⟩
  have HA3 := Lib.hid hA3
  have HB4 := Lib.hid hb4
  clear hA3 hb4
  go_wp2_with fail
  refine (asks_all _ [(45, #[.pointer (some ⟨w.heap.size, 0, none⟩)]), (47, #[.pointer (some ⟨w.heap.size, 0, none⟩)]), (f1, g1), (51, #[.pointer (some ⟨w.heap.size, 0, none⟩)]), (53, #[.pointer (some ⟨w.heap.size, 0, none⟩)])] _ _ (row_funcs (get_last rfl) rfl (by simp) (by unfold maxLen; simp)) rfl (asks5 (HA1.out.later (HB4.out.alloc HB4.out.size _)) (HA2.out.later (HB4.out.alloc HB4.out.size _)) (HA3.out.later (by (repeat' (first | (with_reducible exact Below.refl _ _) | (with_reducible assumption) | (with_reducible refine below_drewN ?_ _) | (with_reducible refine Below.alloc ?_ ?_ _) | (with_reducible refine Below.drew ?_) | (with_reducible refine Below.setCell ?_ ?_ _) | go_size)))) (HA4.out.later (HB4.out.alloc HB4.out.size _)) (HA5.out.later (HB4.out.alloc HB4.out.size _)))).mono ?_; rintro e w5 ⟨rfl, hb5⟩
  have HB5 := Lib.hid (show Below w.heap.size w w5 from HB.out.trans ((HB4.out.mono HB.out.size).trans (below_any (w0 := w4) (by (repeat' (first | (with_reducible exact Below.refl _ _) | (with_reducible assumption) | (with_reducible refine below_drewN ?_ _) | (with_reducible refine Below.alloc ?_ ?_ _) | (with_reducible refine Below.drew ?_) | (with_reducible refine Below.setCell ?_ ?_ _) | go_size))) hb5 (Nat.le_trans HB.out.size HB4.out.size))))
  clear hb5
  go_wp2_with fail
  go_ret
  exact ⟨by rw [HE.out]; rfl, HB5.out⟩
end Go.Proofs.YtefejcofmopjfaaGreatDoor

/- Layer 17, plain: what is right stays so with less; rows cut short. -/
namespace Go.Proofs.YtefejcofmopjfaaGreatDoor
open Go.RowKit
set_option linter.unusedSimpArgs false
set_option linter.unusedVariables false
theorem firstE_zero {es : List Int} (h : firstE es = 0) : ∀ z ∈ es, z = 0 := by
  intro z hz
  unfold firstE at h
  cases hf : es.find? (· != 0) with
  | none => have := List.find?_eq_none.1 hf z hz; simpa using this
  | some y =>
    rw [hf] at h
    have := List.find?_some hf
    simp at h this
    exact absurd h this
theorem unlessE_zero {b : Bool} {z : Int} (hz : z ≠ 0) (h : unlessE b z = 0) : b = true := by
  cases b
  · exact absurd h hz
  · rfl
theorem allE_zero {b : Bool} (h : allE b = 0) : b = true := by
  cases b
  · exact absurd h (by decide)
  · rfl
theorem all_take {α : Type} {f : α → Bool} {L : List α} (h : L.all f = true) (k : Nat) : (L.take k).all f = true := by
  rw [List.all_eq_true] at h ⊢
  exact fun x hx => h x (List.mem_of_mem_take hx)
theorem tablesE_zero {V : List Vr} {B : List Bk} (h : tablesE V B = 0) : V.length ≤ 64 ∧ B.length ≤ 32 ∧ V.all goodV = true ∧ B.all goodB = true := by
  unfold tablesE at h
  by_cases h1 : 64 < V.length ∨ 32 < B.length
  · rw [if_pos h1] at h; exact absurd h (by decide)
  · rw [if_neg h1] at h
    cases hv : V.all goodV <;> cases hb : B.all goodB <;> rw [hv, hb] at h
    · exact absurd h (by decide)
    · exact absurd h (by decide)
    · exact absurd h (by decide)
    · exact ⟨by omega, by omega, rfl, rfl⟩
theorem tablesE_take {V : List Vr} {B : List Bk} (h : tablesE V B = 0) (k m : Nat) : tablesE (V.take k) (B.take m) = 0 := by
  obtain ⟨h1, h2, h3, h4⟩ := tablesE_zero h
  unfold tablesE
  have hv : (V.take k).length ≤ V.length := List.length_take_le' k V
  have hb : (B.take m).length ≤ B.length := List.length_take_le' m B
  rw [if_neg (by omega), all_take h3, all_take h4]
  rfl
theorem unitsL_take (us : List Un) (k : Nat) : unitsL (us.take k) = (unitsL us).take k := by
  apply List.ext_getElem?
  intro i
  unfold unitsL
  rw [List.getElem?_mapIdx, List.getElem?_take, List.getElem?_take]
  by_cases hi : i < k
  · rw [if_pos hi, if_pos hi, List.getElem?_mapIdx]
  · rw [if_neg hi, if_neg hi]; rfl
theorem checkE_less {p : Pr} (h : checkE p = 0) (a b c d : Nat) (hd : 0 < d) : checkE ⟨p.consts.take a, p.vars.take b, p.blocks.take c, p.units.take d⟩ = 0 := by
  have hz := firstE_zero h
  have h1 := unlessE_zero (by decide) (hz _ (List.mem_cons_self ..))
  have h2 := unlessE_zero (z := 5) (by decide) (hz (unlessE (decide (p.consts.length ≤ 1024) && (decide (p.vars.length ≤ 64) && decide (p.blocks.length ≤ 32))) 5) (by simp))
  have h3 := allE_zero (hz (allE (p.consts.all fun x => kIn x.1 x.2)) (by simp))
  have h4 : tablesE p.vars p.blocks = 0 := hz _ (by simp)
  have h5 : firstE (unitsL p.units) = 0 := hz _ (by simp)
  have h6 := firstE_zero h5
  simp only [Bool.and_eq_true, decide_eq_true_eq] at h1 h2
  refine firstE_none (fun z hz => ?_)
  have la : (p.consts.take a).length ≤ p.consts.length := List.length_take_le' a p.consts
  have lb : (p.vars.take b).length ≤ p.vars.length := List.length_take_le' b p.vars
  have lc : (p.blocks.take c).length ≤ p.blocks.length := List.length_take_le' c p.blocks
  have ld : (p.units.take d).length ≤ p.units.length := List.length_take_le' d p.units
  have ld0 : 0 < (p.units.take d).length := by simp; omega
  simp only [List.mem_cons, List.not_mem_nil, or_false] at hz
  rcases hz with rfl | rfl | rfl | rfl | rfl
  · exact unless_yes (by simp only [Bool.and_eq_true, decide_eq_true_eq]; omega)
  · exact unless_yes (by simp only [Bool.and_eq_true, decide_eq_true_eq]; omega)
  · exact all_yes (all_take h3 a)
  · exact tablesE_take h4 b c
  · refine firstE_none (fun z hz => ?_)
    rw [unitsL_take] at hz
    exact h6 z (List.mem_of_mem_take hz)
theorem row_takeP {α : Type} {q : Nat} {R : Rep α} {w : World} {a : Option Addr} {n c : Nat} {L : List α} (h : RowR q R w (.slice a n c) L) {m : Nat} (hm : m ≤ L.length) : RowR q R w (.slice a m c) (L.take m) := by
  rcases h with ⟨a', cap, h0, rfl, h1⟩ | ⟨b, off, cap, h1, h2, h3, h4, h5, h6⟩
  · injection h0 with e1 e2 e3
    subst e1 e3
    have : m = 0 := by simpa using hm
    subst this
    exact Or.inl ⟨a, c, rfl, by simp, h1⟩
  · injection h1 with e1 e2 e3
    subst e1 e3
    by_cases h0 : m = 0
    · subst h0
      exact Or.inl ⟨_, _, rfl, by simp, fun h => by cases h⟩
    · have hl : (L.take m).length = m := by simp; omega
      refine Or.inr ⟨b, off, c, by rw [hl], by omega, by omega, h4, h5, fun i x hx => h6 i x ?_⟩
      rw [List.getElem?_take] at hx
      split at hx
      · exact hx
      · cases hx
theorem row_cap {α : Type} {q : Nat} {R : Rep α} {w : World} {a : Option Addr} {n c : Nat} {L : List α} (h : RowR q R w (.slice a n c) L) : n ≤ c ∧ n = L.length := by
  rcases h with ⟨a', cap, h0, rfl, h1⟩ | ⟨b, off, cap, h1, h2, h3, h4, h5, h6⟩
  · injection h0 with e1 e2 e3
    subst e2
    exact ⟨by omega, rfl⟩
  · injection h1 with e1 e2 e3
    exact ⟨by omega, e2⟩
end Go.Proofs.YtefejcofmopjfaaGreatDoor
