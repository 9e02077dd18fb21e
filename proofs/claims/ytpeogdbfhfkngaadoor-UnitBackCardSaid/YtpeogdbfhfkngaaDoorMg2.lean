/- Merged texts: UnFit, RowOwn, Chunk, Facts, UnPutA, UnPut, UnGetF, Ints, UnSame, UnAwake, Few. -/
import Derived.Test.YtpeogdbfhfkngaaDoorMg0
import Derived.Test.YtpeogdbfhfkngaaDoorMg1
import Derived.Deep.RegionHeld3
import Derived.LoopTactic
import Derived.OwnWalk
import Derived.WalkKit
import Derived.WalkSpells
import Derived.WalkLawsBesides
import Derived.Deep.QuietTactic
import Derived.BigQuiet
import Derived.WalkSmall
import Derived.IntWalk
import Derived.Lib.SlBytesConst
/- Layer 15: whether a unit has bytes: both sides. -/
namespace Go.Proofs.YtpeogdbfhfkngaaDoor
open Go.RowKit
set_option linter.unusedSimpArgs false
set_option linter.unusedVariables false
def lenU (x : Un) : Prop := x.name.length ≤ 255 ∧ x.params.length ≤ 8 ∧ x.locals.length ≤ 1024 ∧ x.code.length ≤ 16384
instance (x : Un) : Decidable (lenU x) := by unfold lenU; infer_instance
def fitU (x : Un) : Bool := decide (lenU x) && (x.params.all fitB && (x.locals.all fitB && (fitB x.result && x.code.all rI)))
theorem fitU_len {x : Un} (h : ¬ lenU x) : fitU x = false := by unfold fitU; rw [decide_eq_false h]; rfl
theorem fitU_ps {x : Un} (h : x.params.all fitB = false) : fitU x = false := by unfold fitU; rw [h]; simp
theorem fitU_ls {x : Un} (h : x.locals.all fitB = false) : fitU x = false := by unfold fitU; rw [h]; simp
theorem fitU_rs {x : Un} (h : fitB x.result = false) : fitU x = false := by unfold fitU; rw [h]; simp
theorem fitU_cs {x : Un} (h : x.code.all rI = false) : fitU x = false := by unfold fitU; rw [h]; simp
theorem fitU_ok {x : Un} (h0 : lenU x) (h1 : x.params.all fitB = true) (h2 : x.locals.all fitB = true) (h3 : fitB x.result = true) (h4 : x.code.all rI = true) : fitU x = true := by unfold fitU; rw [decide_eq_true h0, h1, h2, h3, h4]; rfl
theorem fitU_is {x : Un} (h : fitU x = true) : lenU x ∧ x.params.all fitB = true ∧ x.locals.all fitB = true ∧ fitB x.result = true ∧ x.code.all rI = true := by
  unfold fitU at h
  simp only [Bool.and_eq_true, decide_eq_true_eq] at h
  exact h
theorem below_drew_of {w w' : World} (h : ∃ m, w' = w.drewN m) : Below w.heap.size w w' := by obtain ⟨m, rfl⟩ := h; exact Below_drewN _ _ _
theorem row_lit1 (w : World) (z : Int) (t : TypeId) (hz : I64 z) : RowR 1 intR (w.alloc (.cells #[.int .i64 z] t)) (.slice (some ⟨w.heap.size, 0, none⟩) 1 1) [z] := row_cells1 (cell_new w _ t (0, 0) 0 rfl) hz
set_option maxHeartbeats 4000000 in
theorem unit_Fits (a b c : Value) (x : Un) (w : World) (hT : STab w) (h : UnAt w a b c x) :
    Calls Tryd.prog 10 #[.agg #[.string ⟨x.name.toArray⟩, a, .int .i64 x.result, b, c]] w fun e w' => e = .returned (.bool (fitU x)) ∧ Below w.heap.size w w' := by
  have l0 : x.name.length ≤ 9223372036854775807 := h.ns
  have hcs := h.cs
  have R64 := Lib.hid h.r64
  obtain ⟨sa, ca, ea⟩ := row_get h.ps
  obtain ⟨sb, cb, eb⟩ := row_get h.ls
  obtain ⟨sc, cc, ec⟩ := row_get h.cs
  subst ea eb ec
  have l1 := h.ps.len
  have l2 := h.ls.len
  have l3 := h.cs.len
  have HLN := Lib.hid (fun q : ¬ lenU x => fitU_len q)
  have HPS := Lib.hid (fun q => fitU_ps (x := x) q)
  have HLS := Lib.hid (fun q => fitU_ls (x := x) q)
  have HRS := Lib.hid (fun q => fitU_rs (x := x) q)
  have HCS := Lib.hid (fun q => fitU_cs (x := x) q)
  have HOK := Lib.hid (fun q0 q1 q2 q3 q4 => fitU_ok (x := x) q0 q1 q2 q3 q4)
  have HDF := Lib.hid (show lenU x ↔ (x.name.length ≤ 255 ∧ x.params.length ≤ 8 ∧ x.locals.length ≤ 1024 ∧ x.code.length ≤ 16384) from Iff.rfl)
  have HS1 := Lib.hid (fun W (hb : Below w.heap.size w W) => (unit_small _ x.params W (h.ps.below intR_stable hb)).mono (fun _ _ q => And.intro q.1 (below_drew_of q.2)))
  have HS2 := Lib.hid (fun W (hb : Below w.heap.size w W) => (unit_small _ x.locals W (h.ls.below intR_stable hb)).mono (fun _ _ q => And.intro q.1 (below_drew_of q.2)))
  clear h
  have hsz : (⟨x.name.toArray⟩ : ByteArray).size = x.name.length := by simp [ByteArray.size]
  generalize (⟨x.name.toArray⟩ : ByteArray) = nm at *
  generalize hn0 : x.name.length = n0 at *
  generalize hn1 : x.params.length = n1 at *
  generalize hn2 : x.locals.length = n2 at *
  generalize hL : x.code = L at *
  generalize hn3 : L.length = n3 at *
  generalize x.result = rs at *
  have HR := Lib.hid (fun W => (unit_small (.slice (some ⟨W.heap.size, 0, none⟩) 1 1) [rs] (W.alloc (.cells #[.int .i64 rs] 3)) (row_lit1 W rs _ R64.out)).mono (fun _ _ q => And.intro q.1 (below_drew_of q.2)))
  rw [show ([rs].all fitB) = fitB rs by simp] at HR
  clear hn0 hn1 hn2 hL
  obtain ⟨W0, hW0⟩ : ∃ W0, W0 = w.alloc (.cells #[.string nm, .slice sa n1 ca, .int .i64 rs, .slice sb n2 cb, .slice sc n3 cc] 25) := ⟨_, rfl⟩
  have K := Lib.hid (show Boxed W0 w.heap.size [.string nm, .slice sa n1 ca, .int .i64 rs, .slice sb n2 cb, .slice sc n3 cc] by rw [hW0]; exact Boxed.new w _ _ (Below.refl _ _))
  have hz0 : w.heap.size < W0.heap.size := by rw [hW0]; simp
  have hB0 : Below w.heap.size w W0 := by rw [hW0]; exact (Below.refl _ _).alloc (Nat.le_refl _) _
  have HW0 := Lib.hid hW0
  clear hW0
  by_cases h0 : n0 ≤ 255
  case neg =>
    have q0 : (255 < (n0 : Int)) = True := eq_true (by omega)
    have hs := Lib.hid (HLN.out (fun g => h0 (HDF.out.1 g).1))
    clear h0
    go_enter Tryd.func10, Tryd.ntmps10
    go_wp2_with fail
    go_ret
    exact ⟨by rw [hs.out]; rfl, by rw [← HW0.out]; exact hB0⟩
  have q0 : (255 < (n0 : Int)) = False := eq_false (by omega)
  by_cases h1 : n1 ≤ 8
  case neg =>
    have q1 : (8 < (n1 : Int)) = True := eq_true (by omega)
    have hs := Lib.hid (HLN.out (fun g => h1 (HDF.out.1 g).2.1))
    clear h0 h1
    go_enter Tryd.func10, Tryd.ntmps10
    go_wp2_with fail
    go_ret
    exact ⟨by rw [hs.out]; rfl, by rw [← HW0.out]; exact hB0⟩
  have q1 : (8 < (n1 : Int)) = False := eq_false (by omega)
  by_cases h2 : n2 ≤ 1024
  case neg =>
    have q2 : (1024 < (n2 : Int)) = True := eq_true (by omega)
    have hs := Lib.hid (HLN.out (fun g => h2 (HDF.out.1 g).2.2.1))
    clear h0 h1 h2
    go_enter Tryd.func10, Tryd.ntmps10
    go_wp2_with fail
    go_ret
    exact ⟨by rw [hs.out]; rfl, by rw [← HW0.out]; exact hB0⟩
  have q2 : (1024 < (n2 : Int)) = False := eq_false (by omega)
  by_cases h3 : n3 ≤ 16384
  case neg =>
    have q3 : (16384 < (n3 : Int)) = True := eq_true (by omega)
    have hs := Lib.hid (HLN.out (fun g => h3 (HDF.out.1 g).2.2.2))
    clear h0 h1 h2 h3
    go_enter Tryd.func10, Tryd.ntmps10
    go_wp2_with fail
    go_ret
    exact ⟨by rw [hs.out]; rfl, by rw [← HW0.out]; exact hB0⟩
  have q3 : (16384 < (n3 : Int)) = False := eq_false (by omega)
  have HL0 := Lib.hid (HDF.out.2 ⟨h0, h1, h2, h3⟩)
  clear HLN HDF h0 h1 h2 h3
  cases hp : x.params.all fitB
  · have hs := Lib.hid (HPS.out hp)
    rw [hp] at HS1
    clear hp
    go_enter Tryd.func10, Tryd.ntmps10
    go_wp2_with fail
    refine (HS1.out _ (by rw [← HW0.out]; exact hB0)).mono ?_; rintro e w1 ⟨rfl, hb1⟩
    rw [← HW0.out] at hb1
    have hB1 := hB0.trans (hb1.mono hB0.size)
    go_wp2_with fail
    go_ret
    exact ⟨by rw [hs.out]; rfl, hB1⟩
  rw [hp] at HS1
  cases hq : x.locals.all fitB
  · have hs := Lib.hid (HLS.out hq)
    rw [hq] at HS2
    clear hp hq
    go_enter Tryd.func10, Tryd.ntmps10
    go_wp2_with fail
    refine (HS1.out _ (by rw [← HW0.out]; exact hB0)).mono ?_; rintro e w1 ⟨rfl, hb1⟩
    rw [← HW0.out] at hb1
    have hB1 := hB0.trans (hb1.mono hB0.size)
    have e3 := (K.out.keep hz0 hb1) 3 _ rfl
    go_wp2_with fail
    refine (HS2.out _ hB1).mono ?_; rintro e w2 ⟨rfl, hb2⟩
    have hB2 := hB1.trans (hb2.mono hB1.size)
    clear e3
    go_wp2_with fail
    go_ret
    exact ⟨by rw [hs.out]; rfl, hB2⟩
  rw [hq] at HS2
  have HOK := Lib.hid (HOK.out HL0.out hp hq)
  clear hp hq
  cases hr : fitB rs
  · have hs := Lib.hid (HRS.out hr)
    rw [hr] at HR
    clear hr
    go_enter Tryd.func10, Tryd.ntmps10
    go_wp2_with fail
    refine (HS1.out _ (by rw [← HW0.out]; exact hB0)).mono ?_; rintro e w1 ⟨rfl, hb1⟩
    rw [← HW0.out] at hb1
    have hB1 := hB0.trans (hb1.mono hB0.size)
    have e3 := (K.out.keep hz0 hb1) 3 _ rfl
    go_wp2_with fail
    refine (HS2.out _ hB1).mono ?_; rintro e w2 ⟨rfl, hb2⟩
    have hB2 := hB1.trans (hb2.mono hB1.size)
    have hb2 := hb1.trans (hb2.mono hb1.size)
    clear e3
    have e2 := (K.out.keep hz0 hb2) 2 _ rfl
    go_wp2_with fail
    refine (HR.out w2).mono ?_; rintro e w3 ⟨rfl, hb3⟩
    have hB3 := (hB2.alloc hB2.size _).trans (hb3.mono (by simp; have := hB2.size; omega))
    clear e2
    go_wp2_with fail
    go_ret
    exact ⟨by rw [hs.out]; rfl, hB3⟩
  rw [hr] at HR
  have HOK := Lib.hid (HOK.out hr)
  clear hr
  go_enter Tryd.func10, Tryd.ntmps10
  go_wp2_with fail
  refine (HS1.out _ (by rw [← HW0.out]; exact hB0)).mono ?_; rintro e w1 ⟨rfl, hb1⟩
  rw [← HW0.out] at hb1
  have hB1 := hB0.trans (hb1.mono hB0.size)
  have e3 := (K.out.keep hz0 hb1) 3 _ rfl
  go_wp2_with fail
  refine (HS2.out _ hB1).mono ?_; rintro e w2 ⟨rfl, hb2⟩
  have hB2 := hB1.trans (hb2.mono hB1.size)
  have hb2 := hb1.trans (hb2.mono hb1.size)
  clear e3
  have e2 := (K.out.keep hz0 hb2) 2 _ rfl
  go_wp2_with fail
  refine (HR.out w2).mono ?_; rintro e w3 ⟨rfl, hb3⟩
  have hB3 := (hB2.alloc hB2.size _).trans (hb3.mono (by simp; have := hB2.size; omega))
  have hb3 := (hb2.alloc hb2.size _).trans (hb3.mono (by simp; have := hb2.size; omega))
  clear e2
  have e4 := (K.out.keep hz0 hb3) 4 _ rfl
  go_wp2_with fail
  go_loopw [47] (fun j wr => ∃ k : Nat, k ≤ n3 ∧ j = .int .i64 k ∧ Hid ((L.take k).all rI = true) ∧ Below w.heap.size w wr) (fun j _ => n3 - (intOf j).toNat)
  case atStart => exact ⟨0, by omega, rfl, Lib.hid (by simp), hB3⟩
  case round =>
    clear e4 hb3 hB3 hb2 hB2 hb1 hB1 HS1 HS2 HR
    obtain ⟨k, hk, rfl, hall, hB⟩ := hrel
    have hz' := hB.size
    by_cases hlt : k < n3
    · obtain ⟨b, off, rfl, hbw, hc⟩ := ins_at hcs (k := k) (by omega)
      obtain ⟨y, hy⟩ : ∃ y, L[k]? = some y := get_some (by omega)
      obtain ⟨c0, c1, c2, w0, w1, w2⟩ := hc k y hy
      have c0 := (hB.cell (p := ⟨b, off + k * 3, none⟩) hbw).trans c0
      have c1 := (hB.cell (p := ⟨b, off + k * 3 + 1, none⟩) hbw).trans c1
      have c2 := (hB.cell (p := ⟨b, off + k * 3 + 2, none⟩) hbw).trans c2
      have hts := Lib.hid (take_snoc hy)
      have hR := op_RightS y.1 y.2.1 y.2.2
      have hno := Lib.hid (all_take_no hy)
      have hxr : oRight y.1 y.2.1 y.2.2 = rI y := rfl
      rw [hxr] at hR
      clear hc hxr hy
      cases hr : rI y
      · have hs := Lib.hid (HCS.out (hno.out hr))
        rw [hr] at hR
        clear hr hall hts
        go_wp2_with fail
        refine (hR _ (hT.below (by (repeat' (first | (with_reducible exact Below.refl _ _) | (with_reducible assumption) | (with_reducible refine more_below ?_ ?_ _ _) | (with_reducible refine below_drewN ?_ _) | (with_reducible refine Below.alloc ?_ ?_ _) | (with_reducible refine Below.drew ?_) | (with_reducible refine Below.setCell ?_ ?_ _) | (simp only [World.size_alloc, World.size_setCell, World.size_drew, more_size, World.heap_drewN]; omega) | go_size))))).mono ?_; rintro e W1 ⟨rfl, hb1⟩
        have hB1 : Below w.heap.size w W1 := Below.trans (by (repeat' (first | (with_reducible exact Below.refl _ _) | (with_reducible assumption) | (with_reducible refine more_below ?_ ?_ _ _) | (with_reducible refine below_drewN ?_ _) | (with_reducible refine Below.alloc ?_ ?_ _) | (with_reducible refine Below.drew ?_) | (with_reducible refine Below.setCell ?_ ?_ _) | (simp only [World.size_alloc, World.size_setCell, World.size_drew, more_size, World.heap_drewN]; omega) | go_size))) (hb1.mono (by simp; omega))
        go_wp2_with fail
        go_ret
        exact ⟨by rw [hs.out]; rfl, hB1⟩
      · rw [hr] at hR
        have hal := Lib.hid (show (L.take (k + 1)).all rI = true by rw [hts.out, List.all_append, hall.out]; simp [hr])
        clear hr hall hts
        go_wp2_with fail
        refine (hR _ (hT.below (by (repeat' (first | (with_reducible exact Below.refl _ _) | (with_reducible assumption) | (with_reducible refine more_below ?_ ?_ _ _) | (with_reducible refine below_drewN ?_ _) | (with_reducible refine Below.alloc ?_ ?_ _) | (with_reducible refine Below.drew ?_) | (with_reducible refine Below.setCell ?_ ?_ _) | (simp only [World.size_alloc, World.size_setCell, World.size_drew, more_size, World.heap_drewN]; omega) | go_size))))).mono ?_; rintro e W1 ⟨rfl, hb1⟩
        have hB1 : Below w.heap.size w W1 := Below.trans (by (repeat' (first | (with_reducible exact Below.refl _ _) | (with_reducible assumption) | (with_reducible refine more_below ?_ ?_ _ _) | (with_reducible refine below_drewN ?_ _) | (with_reducible refine Below.alloc ?_ ?_ _) | (with_reducible refine Below.drew ?_) | (with_reducible refine Below.setCell ?_ ?_ _) | (simp only [World.size_alloc, World.size_setCell, World.size_drew, more_size, World.heap_drewN]; omega) | go_size))) (hb1.mono (by simp; omega))
        go_wp2_with fail
        go_roundw
        case rel => exact ⟨k + 1, by omega, by simp, hal, hB1⟩
        case measure => first | (simp [intOf]; done) | (simp [intOf]; omega)
    · obtain rfl : k = n3 := by omega
      have hs := Lib.hid (HOK.out (by have := hall.out; rwa [List.take_of_length_le (by omega)] at this))
      go_wp2_with fail
      go_ret
      exact ⟨by rw [hs.out]; rfl, hB⟩
set_option maxHeartbeats 4000000 in
theorem ref15_Fits (a b c : Value) (x : Un) (w : World) (h : UnAt w a b c x) :
    Calls Tryd.prog 22 #[.agg #[.string ⟨x.name.toArray⟩, a, .int .i64 x.result, b, c]] w fun e w' => e = .returned (.bool (fitU x)) ∧ Below w.heap.size w w' := by
  have l0 : x.name.length ≤ 9223372036854775807 := h.ns
  have hcs := h.cs
  have R64 := Lib.hid h.r64
  obtain ⟨sa, ca, ea⟩ := row_get h.ps
  obtain ⟨sb, cb, eb⟩ := row_get h.ls
  obtain ⟨sc, cc, ec⟩ := row_get h.cs
  subst ea eb ec
  have l1 := h.ps.len
  have l2 := h.ls.len
  have l3 := h.cs.len
  have HLN := Lib.hid (fun q : ¬ lenU x => fitU_len q)
  have HPS := Lib.hid (fun q => fitU_ps (x := x) q)
  have HLS := Lib.hid (fun q => fitU_ls (x := x) q)
  have HRS := Lib.hid (fun q => fitU_rs (x := x) q)
  have HCS := Lib.hid (fun q => fitU_cs (x := x) q)
  have HOK := Lib.hid (fun q0 q1 q2 q3 q4 => fitU_ok (x := x) q0 q1 q2 q3 q4)
  have HDF := Lib.hid (show lenU x ↔ (x.name.length ≤ 255 ∧ x.params.length ≤ 8 ∧ x.locals.length ≤ 1024 ∧ x.code.length ≤ 16384) from Iff.rfl)
  have HS1 := Lib.hid (fun W (hb : Below w.heap.size w W) => (ref15_bytes _ x.params W (h.ps.below intR_stable hb)).mono (fun _ _ q => And.intro q.1 (below_drew_of q.2)))
  have HS2 := Lib.hid (fun W (hb : Below w.heap.size w W) => (ref15_bytes _ x.locals W (h.ls.below intR_stable hb)).mono (fun _ _ q => And.intro q.1 (below_drew_of q.2)))
  clear h
  have hsz : (⟨x.name.toArray⟩ : ByteArray).size = x.name.length := by simp [ByteArray.size]
  generalize (⟨x.name.toArray⟩ : ByteArray) = nm at *
  generalize hn0 : x.name.length = n0 at *
  generalize hn1 : x.params.length = n1 at *
  generalize hn2 : x.locals.length = n2 at *
  generalize hL : x.code = L at *
  generalize hn3 : L.length = n3 at *
  generalize x.result = rs at *
  clear hn0 hn1 hn2 hL
  have HFB := Lib.hid (show fitB rs = decide (0 ≤ rs ∧ rs ≤ 255) from rfl)
  go_enter Tryd.func22, Tryd.ntmps22
  go_wp2_with fail
  go_loopw [3] (fun j wr => ∃ k : Nat, k ≤ n3 ∧ j = .int .i64 k ∧ Hid ((L.take k).all rI = true) ∧ Hid (Below (w.heap.size + 1) (w.alloc (.cells #[.string nm, .slice sa n1 ca, .int .i64 rs, .slice sb n2 cb, .slice sc n3 cc] 25)) wr)) (fun j _ => n3 - (intOf j).toNat)
  case atStart => exact ⟨0, by omega, rfl, Lib.hid (by simp), Lib.hid (Below.refl _ _)⟩
  case round =>
    obtain ⟨k, hk, rfl, hall, hBw⟩ := hrel
    have z0 : w.heap.size < wr.heap.size := by have := hBw.out.size; simp at this; omega
    have hB : Below w.heap.size w wr := Below.trans (by (repeat' (first | (with_reducible exact Below.refl _ _) | (with_reducible assumption) | (with_reducible refine below_drewN ?_ _) | (with_reducible refine Below.alloc ?_ ?_ _) | (with_reducible refine Below.drew ?_) | (with_reducible refine Below.setCell ?_ ?_ _) | go_size))) (hBw.out.mono (by omega))
    have K := Lib.hid (Boxed.new w [.string nm, .slice sa n1 ca, .int .i64 rs, .slice sb n2 cb, .slice sc n3 cc] 25 hBw.out)
    have e4 := K.out 4 _ rfl
    by_cases hlt : k < n3
    · obtain ⟨b, off, rfl, hbw, hc⟩ := ins_at hcs (k := k) (by omega)
      obtain ⟨y, hy⟩ : ∃ y, L[k]? = some y := get_some (by omega)
      obtain ⟨c0, c1, c2, w0, w1, w2⟩ := hc k y hy
      have c0 := (hB.cell (p := ⟨b, off + k * 3, none⟩) hbw).trans c0
      have c1 := (hB.cell (p := ⟨b, off + k * 3 + 1, none⟩) hbw).trans c1
      have c2 := (hB.cell (p := ⟨b, off + k * 3 + 2, none⟩) hbw).trans c2
      have hts := Lib.hid (take_snoc hy)
      have hR := ref12_Right y.1 y.2.1 y.2.2
      have hno := Lib.hid (all_take_no hy)
      have hxr : oRight y.1 y.2.1 y.2.2 = rI y := rfl
      rw [hxr] at hR
      clear hc hxr hy
      cases hr : rI y
      · have hs := Lib.hid (HCS.out (hno.out hr))
        rw [hr] at hR
        clear hr hall hts
        go_wp2_with fail
        refine (hR _).mono ?_; rintro e W1 ⟨rfl, hb1⟩
        have hB1 : Below w.heap.size w W1 := hB.trans (hb1.mono hB.size)
        go_wp2_with fail
        go_ret
        exact ⟨by rw [hs.out]; rfl, hB1⟩
      · rw [hr] at hR
        have hal := Lib.hid (show (L.take (k + 1)).all rI = true by rw [hts.out, List.all_append, hall.out]; simp [hr])
        clear hr hall hts
        go_wp2_with fail
        refine (hR _).mono ?_; rintro e W1 ⟨rfl, hb1⟩
        have hB1 := hBw.out.trans (hb1.mono (by omega))
        go_wp2_with fail
        go_roundw
        case rel => exact ⟨k + 1, by omega, by simp, hal, Lib.hid hB1⟩
        case measure => first | (simp [intOf]; done) | (simp [intOf]; omega)
    · obtain rfl : k = n3 := by omega
      have HC := Lib.hid (show L.all rI = true by have := hall.out; rwa [List.take_of_length_le (by omega)] at this)
      have e0 := K.out 0 _ rfl
      have e1 := K.out 1 _ rfl
      have e2 := K.out 2 _ rfl
      have e3 := K.out 3 _ rfl
      clear hcs hall hlt
      by_cases h0 : n0 ≤ 255
      case neg =>
        have q0 : ((n0 : Int) < 256) = False := eq_false (by omega)
        have hs := Lib.hid (HLN.out (fun g => h0 (HDF.out.1 g).1))
        clear h0
        go_wp2_with fail
        go_ret
        exact ⟨by rw [hs.out]; rfl, hB⟩
      have q0 : ((n0 : Int) < 256) = True := eq_true (by omega)
      by_cases h1 : n1 ≤ 8
      case neg =>
        have q1 : ((n1 : Int) ≤ 8) = False := eq_false (by omega)
        have hs := Lib.hid (HLN.out (fun g => h1 (HDF.out.1 g).2.1))
        clear h0 h1
        go_wp2_with fail
        go_ret
        exact ⟨by rw [hs.out]; rfl, hB⟩
      have q1 : ((n1 : Int) ≤ 8) = True := eq_true (by omega)
      by_cases h2 : n2 ≤ 1024
      case neg =>
        have q2 : ((n2 : Int) ≤ 1024) = False := eq_false (by omega)
        have hs := Lib.hid (HLN.out (fun g => h2 (HDF.out.1 g).2.2.1))
        clear h0 h1 h2
        go_wp2_with fail
        go_ret
        exact ⟨by rw [hs.out]; rfl, hB⟩
      have q2 : ((n2 : Int) ≤ 1024) = True := eq_true (by omega)
      by_cases h3 : k ≤ 16384
      case neg =>
        have q3 : ((k : Int) ≤ 16384) = False := eq_false (by omega)
        have hs := Lib.hid (HLN.out (fun g => h3 (HDF.out.1 g).2.2.2))
        clear h0 h1 h2 h3
        go_wp2_with fail
        go_ret
        exact ⟨by rw [hs.out]; rfl, hB⟩
      have q3 : ((k : Int) ≤ 16384) = True := eq_true (by omega)
      have HL0 := Lib.hid (HDF.out.2 ⟨h0, h1, h2, h3⟩)
      clear HLN HDF h0 h1 h2 h3
      cases hp : x.params.all fitB
      · have hs := Lib.hid (HPS.out hp)
        rw [hp] at HS1
        clear hp
        go_wp2_with fail
        refine (HS1.out _ hB).mono ?_; rintro e w1 ⟨rfl, hb1⟩
        have hB1 := hB.trans (hb1.mono hB.size)
        have e2 := (K.out.keep z0 hb1) 2 _ rfl
        have e3 := (K.out.keep z0 hb1) 3 _ rfl
        go_wp2_with fail
        go_ret
        exact ⟨by rw [hs.out]; rfl, hB1⟩
      rw [hp] at HS1
      cases hq : x.locals.all fitB
      · have hs := Lib.hid (HLS.out hq)
        rw [hq] at HS2
        clear hp hq
        go_wp2_with fail
        refine (HS1.out _ hB).mono ?_; rintro e w1 ⟨rfl, hb1⟩
        have hB1 := hB.trans (hb1.mono hB.size)
        have e2 := (K.out.keep z0 hb1) 2 _ rfl
        have e3 := (K.out.keep z0 hb1) 3 _ rfl
        go_wp2_with fail
        refine (HS2.out _ hB1).mono ?_; rintro e w2 ⟨rfl, hb2⟩
        have hB2 := hB1.trans (hb2.mono hB1.size)
        have hb2 := hb1.trans (hb2.mono hb1.size)
        have e2 := (K.out.keep z0 hb2) 2 _ rfl
        go_wp2_with fail
        go_ret
        exact ⟨by rw [hs.out]; rfl, hB2⟩
      rw [hq] at HS2
      have HOK := Lib.hid (HOK.out HL0.out hp hq)
      clear hp hq
      by_cases r0 : 0 ≤ rs
      case neg =>
        have hs := Lib.hid (HRS.out (HFB.out.trans (decide_eq_false (fun g => r0 g.1))))
        have q4 : (0 ≤ rs) = False := eq_false r0
        have q5 : (rs < 0) = True := eq_true (by omega)
        clear r0
        go_wp2_with fail
        refine (HS1.out _ hB).mono ?_; rintro e w1 ⟨rfl, hb1⟩
        have hB1 := hB.trans (hb1.mono hB.size)
        have e2 := (K.out.keep z0 hb1) 2 _ rfl
        have e3 := (K.out.keep z0 hb1) 3 _ rfl
        go_wp2_with fail
        refine (HS2.out _ hB1).mono ?_; rintro e w2 ⟨rfl, hb2⟩
        have hB2 := hB1.trans (hb2.mono hB1.size)
        have hb2 := hb1.trans (hb2.mono hb1.size)
        have e2 := (K.out.keep z0 hb2) 2 _ rfl
        go_wp2_with fail
        go_ret
        exact ⟨by rw [hs.out]; rfl, hB2⟩
      have q4 : (0 ≤ rs) = True := eq_true r0
      have q5 : (rs < 0) = False := eq_false (by omega)
      by_cases r1 : rs ≤ 255
      case neg =>
        have hs := Lib.hid (HRS.out (HFB.out.trans (decide_eq_false (fun g => r1 g.2))))
        have q6 : (rs < 256) = False := eq_false (by omega)
        have q7 : (256 ≤ rs) = True := eq_true (by omega)
        clear r0 r1
        go_wp2_with fail
        refine (HS1.out _ hB).mono ?_; rintro e w1 ⟨rfl, hb1⟩
        have hB1 := hB.trans (hb1.mono hB.size)
        have e2 := (K.out.keep z0 hb1) 2 _ rfl
        have e3 := (K.out.keep z0 hb1) 3 _ rfl
        go_wp2_with fail
        refine (HS2.out _ hB1).mono ?_; rintro e w2 ⟨rfl, hb2⟩
        have hB2 := hB1.trans (hb2.mono hB1.size)
        have hb2 := hb1.trans (hb2.mono hb1.size)
        have e2 := (K.out.keep z0 hb2) 2 _ rfl
        go_wp2_with fail
        go_ret
        exact ⟨by rw [hs.out]; rfl, hB2⟩
      have q6 : (rs < 256) = True := eq_true (by omega)
      have q7 : (256 ≤ rs) = False := eq_false (by omega)
      have hs := Lib.hid (HOK.out (HFB.out.trans (decide_eq_true ⟨r0, r1⟩)) HC.out)
      clear r0 r1
      go_wp2_with fail
      refine (HS1.out _ hB).mono ?_; rintro e w1 ⟨rfl, hb1⟩
      have hB1 := hB.trans (hb1.mono hB.size)
      have e2 := (K.out.keep z0 hb1) 2 _ rfl
      have e3 := (K.out.keep z0 hb1) 3 _ rfl
      go_wp2_with fail
      refine (HS2.out _ hB1).mono ?_; rintro e w2 ⟨rfl, hb2⟩
      have hB2 := hB1.trans (hb2.mono hB1.size)
      have hb2 := hb1.trans (hb2.mono hb1.size)
      have e2 := (K.out.keep z0 hb2) 2 _ rfl
      go_wp2_with fail
      go_ret
      exact ⟨by rw [hs.out]; rfl, hB2⟩
end Go.Proofs.YtpeogdbfhfkngaaDoor

/- Rows of the call's own, as what they read as: elements of q cells each. -/
namespace Go.Proofs.YtpeogdbfhfkngaaDoor
open Go.RowKit
set_option linter.unusedSimpArgs false
set_option linter.unusedVariables false
theorem flat_len {α : Type} {enc : α → List Value} {q : Nat} (h : ∀ x, (enc x).length = q) : ∀ L : List α, (L.flatMap enc).length = L.length * q
  | [] => by simp
  | x :: t => by
    rw [List.flatMap_cons, List.length_append, h x, flat_len h t, List.length_cons, Nat.succ_mul]; omega
theorem flat_get {α : Type} {enc : α → List Value} {q : Nat} (h : ∀ x, (enc x).length = q) : ∀ (L : List α) (i j : Nat) (x : α), L[i]? = some x → j < q → (L.flatMap enc)[i * q + j]? = (enc x)[j]?
  | [], i, j, x, hx, _ => by simp at hx
  | y :: t, i, j, x, hx, hj => by
    rw [List.flatMap_cons]
    cases i with
    | zero =>
      obtain rfl : y = x := by simpa using hx
      rw [Nat.zero_mul, Nat.zero_add, List.getElem?_append_left (by rw [h]; exact hj)]
    | succ i =>
      rw [List.getElem?_append_right (by rw [h, Nat.succ_mul]; omega), h, ← flat_get h t i j x (by simpa using hx) hj]
      congr 1
      rw [Nat.succ_mul]; omega
theorem row_owned {α : Type} {enc : α → List Value} {q : Nat} {R : Rep α} {w : World} {B : Nat} {e : TypeId} {v : Value} {L : List α} (h : ∀ x, (enc x).length = q) (hv : w.ownsRow B e q v L.length (L.flatMap enc)) (hR : ∀ x ∈ L, R w (enc x) x) : RowR q R w v L := by
  obtain ⟨hl, hv⟩ := hv
  rcases hv with ⟨rfl, h0⟩ | ⟨g, cap, cur, rfl, hb, hg, h1, h2, h3, h4⟩
  · exact Or.inl ⟨none, 0, rfl, List.length_eq_zero_iff.1 h0, fun _ => rfl⟩
  · by_cases h0 : L.length = 0
    · exact Or.inl ⟨_, cap, by rw [h0], List.length_eq_zero_iff.1 h0, fun h => by cases h⟩
    · have hlt : g < w.heap.size := by
        by_cases hgl : g < w.heap.size
        · exact hgl
        · rw [Array.getElem?_eq_none (Nat.le_of_not_lt hgl)] at hg; cases hg
      refine Or.inr ⟨g, 0, cap, rfl, by omega, h1, h2, hlt, fun i x hx => ?_⟩
      refine ⟨enc x, h x, fun j u hu => ?_, hR x (List.mem_of_getElem? hx)⟩
      have hj : j < q := by rw [← h x]; exact lt_of_get hu
      have hi := lt_of_get hx
      have h5 := flat_get h L i j x hx hj
      have hij : i * q + j < L.length * q := by
        have : (i + 1) * q ≤ L.length * q := Nat.mul_le_mul_right q hi
        rw [Nat.succ_mul] at this
        omega
      rw [hu, ← h4, List.getElem?_take, if_pos hij] at h5
      unfold World.cell?
      rw [hg]
      simp only [Nat.zero_add]
      simpa using h5
end Go.Proofs.YtpeogdbfhfkngaaDoor

/- Rows as chunks of cells: what is appended to a row of the call's own, whatever its elements are. -/
namespace Go.Proofs.YtpeogdbfhfkngaaDoor
open Go.RowKit
set_option linter.unusedSimpArgs false
set_option linter.unusedVariables false
abbrev Chunk (q : Nat) := {c : List Value // c.length = q}
def flatC {q : Nat} (CH : List (Chunk q)) : List Value := CH.flatMap Subtype.val
theorem flatC_len {q : Nat} (CH : List (Chunk q)) : (flatC CH).length = CH.length * q := flat_len (fun x => x.2) CH
theorem flatC_app {q : Nat} (A B : List (Chunk q)) : flatC (A ++ B) = flatC A ++ flatC B := by simp [flatC]
theorem flatC_one {q : Nat} (c : Chunk q) : flatC [c] = c.1 := by simp [flatC]
theorem flatC_at {q : Nat} (CH : List (Chunk q)) {k : Nat} {u : Value} (h : (flatC CH)[k]? = some u) : ∃ i j c, k = i * q + j ∧ j < q ∧ CH[i]? = some c ∧ c.1[j]? = some u := by
  have hk : k < CH.length * q := by rw [← flatC_len]; exact lt_of_get h
  have hq : 0 < q := by
    rcases Nat.eq_zero_or_pos q with rfl | h0
    · simp at hk
    · exact h0
  have hi : k / q < CH.length := Nat.div_lt_of_lt_mul (by rw [Nat.mul_comm]; exact hk)
  obtain ⟨c, hc⟩ := get_some hi
  have hkk : k = k / q * q + k % q := by rw [Nat.mul_comm]; exact (Nat.div_add_mod k q).symm
  have hr : k % q < q := Nat.mod_lt _ hq
  refine ⟨k / q, k % q, c, hkk, hr, hc, ?_⟩
  rw [← flat_get (enc := Subtype.val) (fun x => x.2) CH (k / q) (k % q) c hc hr, ← hkk]
  exact h
theorem row_chunks {α : Type} {q : Nat} {R : Rep α} {w : World} {v : Value} {L : List α} (h : RowR q R w v L) : ∃ CH : List (Chunk q), CH.length = L.length ∧ (∀ (i : Nat) (c : Chunk q) (x : α), CH[i]? = some c → L[i]? = some x → R w c.1 x) ∧ Src w v L.length (flatC CH) := by
  rcases h with ⟨a, cap, rfl, rfl, h⟩ | ⟨b, off, cap, h1, h2, h3, h4, h5, h6⟩
  · refine ⟨[], rfl, fun i c x hc => by simp at hc, ?_⟩
    cases a with
    | none => obtain rfl := h rfl; exact Or.inl ⟨rfl, rfl, rfl⟩
    | some ad => exact Or.inr ⟨ad, cap, rfl, fun j u hu => by simp [flatC] at hu⟩
  · obtain ⟨f, hf⟩ := Classical.axiomOfChoice (r := fun (i : Fin L.length) (C : List Value) => C.length = q ∧ (∀ j u, C[j]? = some u → w.cell? ⟨b, off + i.val * q + j, none⟩ = some u) ∧ R w C L[i]) (fun i => h6 i.val L[i] (by simp))
    refine ⟨List.ofFn (fun i => ⟨f i, (hf i).1⟩), by simp, fun i c x hc hx => ?_, Or.inr ⟨⟨b, off, none⟩, cap, h1, fun k u hu => ?_⟩⟩
    · have hi := lt_of_get hx
      have e1 : c = ⟨f ⟨i, hi⟩, (hf ⟨i, hi⟩).1⟩ := by simpa [hi] using hc.symm
      have e2 : L[(⟨i, hi⟩ : Fin L.length)] = x := by simpa [hi] using hx
      rw [e1, ← e2]
      exact (hf ⟨i, hi⟩).2.2
    · obtain ⟨i, j, c, rfl, hj, hc, hcu⟩ := flatC_at _ hu
      have hi : i < L.length := by have := lt_of_get hc; simpa using this
      have e1 : c = ⟨f ⟨i, hi⟩, (hf ⟨i, hi⟩).1⟩ := by simpa [hi] using hc.symm
      rw [e1] at hcu
      rw [add_at, ← Nat.add_assoc]
      exact (hf ⟨i, hi⟩).2.1 j u hcu
theorem row_conv {α β : Type} {q : Nat} {R : Rep α} {S : Rep β} {w : World} {v : Value} {L : List α} {M : List β} (h : RowR q R w v L) (hl : L.length = M.length) (hR : ∀ (i : Nat) (x : α) (y : β) (cs : List Value), L[i]? = some x → M[i]? = some y → R w cs x → S w cs y) : RowR q S w v M := by
  rcases h with ⟨a, cap, rfl, rfl, h⟩ | ⟨b, off, cap, h1, h2, h3, h4, h5, h6⟩
  · exact Or.inl ⟨a, cap, rfl, List.length_eq_zero_iff.1 hl.symm, h⟩
  · refine Or.inr ⟨b, off, cap, by rw [← hl]; exact h1, by omega, by omega, h4, h5, fun i y hy => ?_⟩
    obtain ⟨x, hx⟩ := get_some (L := L) (n := i) (by have := lt_of_get hy; omega)
    obtain ⟨C, g1, g2, g3⟩ := h6 i x hx
    exact ⟨C, g1, g2, hR i x y C hx hy g3⟩
theorem row_of_chunks {α : Type} {q : Nat} {R : Rep α} {w : World} {B : Nat} {e : TypeId} {v : Value} {n : Nat} {CH : List (Chunk q)} {L : List α} (hv : w.ownsRow B e q v n (flatC CH)) (hn : n = CH.length) (hl : CH.length = L.length) (hR : ∀ (i : Nat) (c : Chunk q) (x : α), CH[i]? = some c → L[i]? = some x → R w c.1 x) : RowR q R w v L := by
  subst hn
  exact row_conv (row_owned (enc := Subtype.val) (R := fun _ cs (c : Chunk q) => cs = c.1) (fun x => x.2) hv (fun _ _ => rfl)) hl (fun i x y cs hx hy e => by rw [e]; exact hR i x y hx hy)
theorem chunks_one {q : Nat} {CH : List (Chunk q)} (h : ∀ (i : Nat) (c : Chunk q), CH[i]? = some c → ∀ u ∈ c.1, u.oneCell' = true) : ∀ u ∈ flatC CH, u.oneCell' = true := by
  intro u hu
  obtain ⟨c, hc, hu⟩ := List.mem_flatMap.1 hu
  obtain ⟨i, hi, rfl⟩ := List.getElem_of_mem hc
  exact h i _ (by simp [hi]) u hu
/-- what lies in a block of one's own -/
theorem heap_new (w : World) (o : Obj) : (w.alloc o).heap[w.heap.size]? = some o := by show (w.heap.push o)[w.heap.size]? = _; simp
theorem obj_grown {w w' : World} {ob : Option Nat} {g : Nat} {o : Obj} (h : w.heap[g]? = some o) (hg : w.grownBy w' ob) (hne : ob ≠ some g) : w'.heap[g]? = some o := by
  have hlt : g < w.heap.size := by
    by_cases hgl : g < w.heap.size
    · exact hgl
    · rw [Array.getElem?_eq_none (Nat.le_of_not_lt hgl)] at h; cases h
  exact (hg.block g hlt (fun e => hne e.symm)).trans h
theorem obj_below {w w' : World} {g : Nat} {o : Obj} (h : w.heap[g]? = some o) (hb : Below w.heap.size w w') : w'.heap[g]? = some o := by
  have hlt : g < w.heap.size := by
    by_cases hgl : g < w.heap.size
    · exact hgl
    · rw [Array.getElem?_eq_none (Nat.le_of_not_lt hgl)] at h; cases h
  exact (hb.block g hlt).trans h
theorem own_ne_type {w : World} {B : Nat} {e t : TypeId} {q n g : Nat} {u : Value} {xs : List Value} {C : Array Value} {fr : Nat × Nat} (h : w.ownsRow B e q u n xs) (hg : w.heap[g]? = some (.cells C t fr)) (hne : e ≠ t) : u.ownBlock ≠ some g := by
  intro hu
  rcases h.2 with ⟨h0, _⟩ | ⟨b, cap, cur, h0, _, h1, _⟩
  · rw [h0] at hu; simp [Value.ownBlock] at hu
  · rw [h0] at hu
    have : b = g := by simpa [Value.ownBlock] using hu
    subst this
    rw [hg] at h1
    simp at h1
    exact hne h1.2.1.symm
theorem own_ne_empty {w : World} {g p : Nat} {t : TypeId} {C : Array Value} {fr fr' : Nat × Nat} {s : TypeId} (h : w.heap[g]? = some (.cells #[] t fr)) (hp : w.heap[p]? = some (.cells C s fr')) (hC : 0 < C.size) : (Value.slice (some ⟨g, 0, none⟩) 0 0).ownBlock ≠ some p := by
  intro hu
  have : g = p := by simpa [Value.ownBlock] using hu
  subst this
  rw [h] at hp
  simp at hp
  obtain ⟨rfl, _⟩ := hp
  simp at hC
theorem owns_nil_at {w : World} {B g q : Nat} {t : TypeId} (h : w.heap[g]? = some (.cells #[] t)) (hB : B ≤ g) : w.ownsRow B t q (.slice (some ⟨g, 0, none⟩) 0 0) 0 [] :=
  ⟨by simp, Or.inr ⟨g, 0, #[], rfl, hB, h, by omega, by unfold maxLen; omega, by simp, by simp⟩⟩
theorem src_at {w : World} {g n : Nat} {t : TypeId} {C : List Value} (h : w.heap[g]? = some (.cells C.toArray t)) : Src w (.slice (some ⟨g, 0, none⟩) n n) n C :=
  Or.inr ⟨⟨g, 0, none⟩, n, rfl, fun j u hu => by
    rw [add_at, Nat.zero_add]
    unfold World.cell?
    rw [show (⟨g, j, none⟩ : Addr).block = g from rfl, h]
    simpa using hu⟩
end Go.Proofs.YtpeogdbfhfkngaaDoor

/- A region that draws its order, by facts that stay: a condition on what has been carried out, the frame and the world; one goal for each operation, whatever the order. -/
namespace Go.Proofs.YtpeogdbfhfkngaaDoor
open Go.RowKit
set_option linter.unusedSimpArgs false
set_option linter.unusedVariables false
section
variable {P : Program} {ops : Array Oper} {Q : Exit → Act → World → Prop} {S : Array Bool → Act → World → Prop}
def openN : Nat → Array Bool → Nat
  | 0, _ => 0
  | k + 1, L => openN k L + (if L.getD k true then 0 else 1)
theorem openN_le : ∀ (k : Nat) (L : Array Bool), openN k L ≤ k
  | 0, _ => Nat.le_refl _
  | k + 1, L => by have := openN_le k L; show openN k L + _ ≤ _; split <;> omega
theorem getD_set_self (L : Array Bool) (i : Nat) : (L.setIfInBounds i true).getD i true = true := by
  rcases Nat.lt_or_ge i L.size with h | h
  · simp [h]
  · simp [Array.getElem?_eq_none h]
theorem openN_past {i : Nat} {L : Array Bool} : ∀ k : Nat, k ≤ i → openN k (L.setIfInBounds i true) = openN k L
  | 0, _ => rfl
  | k + 1, h => by
    show openN k _ + _ = openN k L + _
    rw [openN_past k (by omega), getD_set_ne true (by omega)]
theorem openN_set {i : Nat} {L : Array Bool} (hL : L.getD i true = false) : ∀ k : Nat, i < k → openN k (L.setIfInBounds i true) + 1 = openN k L
  | 0, h => by omega
  | k + 1, h => by
    show openN k _ + _ + 1 = openN k L + _
    by_cases hik : i = k
    · subst hik
      rw [openN_past i (Nat.le_refl _), getD_set_self, hL]; simp
    · have := openN_set hL k (by omega)
      rw [getD_set_ne true hik]; omega
theorem openN_zero {L : Array Bool} : ∀ k : Nat, openN k L = 0 → ∀ j, j < k → L.getD j true = true
  | 0, _, j, hj => by omega
  | k + 1, h, j, hj => by
    have h' : openN k L + (if L.getD k true then 0 else 1) = 0 := h
    by_cases hjk : j = k
    · subst hjk
      cases hq : L.getD j true
      · rw [hq] at h'; simp at h'
      · rfl
    · exact openN_zero k (by omega) j (by omega)
/-- does each number wait for smaller ones alone? -/
def ordered (ops : Array Oper) : Bool := (List.range ops.size).all fun i => match ops[i]? with
  | some o => o.after.all fun e => !Region.binds .any e || decide (e.on < i)
  | none => true
theorem ordered_spec (h : ordered ops = true) {i : Nat} {o : Oper} (ho : ops[i]? = some o) : ∀ e ∈ o.after, Region.binds .any e = true → e.on < i := by
  intro e he hb
  have hlt : i < ops.size := (Array.getElem?_eq_some_iff.1 ho).1
  have := List.all_eq_true.1 h i (List.mem_range.2 hlt)
  rw [ho] at this
  have := Array.all_eq_true_iff_forall_mem.1 this e he
  rw [hb] at this
  simpa using this
theorem getD_two {L : Array Bool} {j : Nat} (h : j < L.size) : L.getD j true = L.getD j false := by simp [h]
theorem ready_nil (ho : ordered ops = true) {L : Array Bool} (hL : L.size = ops.size) (h : Region.ready .any ops L = []) : ∀ j, j < ops.size → L.getD j false = true := by
  intro j
  induction j using Nat.strongRecOn with
  | ind j ih =>
    intro hj
    cases hq : L.getD j false
    · exfalso
      have hm : j ∈ Region.ready .any ops L := mem_ready.2 ⟨by rw [getD_two (by omega)]; exact hq, ops[j], Array.getElem?_eq_some_iff.2 ⟨hj, rfl⟩, fun e he hb => by
        have hlt := ordered_spec ho (Array.getElem?_eq_some_iff.2 ⟨hj, rfl⟩) e he hb
        exact ih _ hlt (by omega)⟩
      rw [h] at hm
      cases hm
    · rfl
/-- what number i waits for -/
def waitsOf (ops : Array Oper) (i : Nat) : List Nat := match ops[i]? with
  | some o => (o.after.toList.filter (Region.binds .any)).map (·.on)
  | none => []
/-- what is listed has all listed that it waits for -/
def Closed (ops : Array Oper) (L : Array Bool) : Prop := ∀ j, L.getD j false = true → ∀ k ∈ waitsOf ops j, L.getD k false = true
theorem Closed.step {L : Array Bool} (hC : Closed ops L) {j k : Nat} (h : L.getD j false = true) (hk : (waitsOf ops j).contains k = true) : L.getD k false = true := hC j h k (by simpa using hk)
theorem getD_no {L : Array Bool} {i : Nat} (h0 : L.getD i true = false) (h : L.getD i false = true) : False := by
  rcases Nat.lt_or_ge i L.size with h' | h'
  · rw [getD_two h', h] at h0; cases h0
  · simp [h'] at h
/-- number i, wherever it comes -/
def StepAt (P : Program) (ops : Array Oper) (Q : Exit → Act → World → Prop) (S : Array Bool → Act → World → Prop) (i : Nat) : Prop :=
  ∀ L b v, Closed ops L → L.getD i true = false → (∀ j ∈ waitsOf ops i, L.getD j false = true) → S L b v → wpOp P ops Q i (fun b' v' => S (L.setIfInBounds i true) b' v') b v
theorem StepAt.mk {i : Nat} {o : Oper} {ws : List Nat} (ho : ops[i]? = some o) (hw : waitsOf ops i = ws)
    (h : ∀ L b v, Closed ops L → L.getD i true = false → (∀ j ∈ ws, L.getD j false = true) → S L b v → ∀ K : Act → World → Prop, Shut (∀ b' v', S (L.setIfInBounds i true) b' v' → K b' v') →
      if Region.wanted o (yielded ops b.tmps) = true then Oper.wp P o b v K Q else K (b.put o.dst undef) v) : StepAt P ops Q S i :=
  fun L b v hC h0 hj hS => wpOp_step ho fun K hK => h L b v hC h0 (hw ▸ hj) hS K hK
def AllSteps (P : Program) (ops : Array Oper) (Q : Exit → Act → World → Prop) (S : Array Bool → Act → World → Prop) (n : Nat) : Prop := ∀ i, i < n → StepAt P ops Q S i
theorem AllSteps.zero : AllSteps P ops Q S 0 := fun _ h => by omega
theorem AllSteps.succ {n : Nat} (h : AllSteps P ops Q S n) (hn : StepAt P ops Q S n) : AllSteps P ops Q S (n + 1) := fun i hi => by
  by_cases hin : i = n
  · exact hin ▸ hn
  · exact h i (by omega)
theorem any_facts (ho : ordered ops = true) (hs : AllSteps P ops Q S ops.size) (he : ∀ L b v, (∀ j, j < ops.size → L.getD j false = true) → S L b v → Q .normal b v) :
    ∀ (n : Nat) (L : Array Bool) (b : Act) (v : World), L.size = ops.size → Closed ops L → openN ops.size L ≤ n → S L b v → wpAny P .any ops Q n L b v := by
  have nil_of : ∀ L : Array Bool, openN ops.size L = 0 → Region.ready .any ops L = [] := by
    intro L h0
    rw [List.eq_nil_iff_forall_not_mem]
    intro j hj
    obtain ⟨h1, o, h2, _⟩ := mem_ready.1 hj
    rw [openN_zero _ h0 j (Array.getElem?_eq_some_iff.1 h2).1] at h1
    cases h1
  intro n
  induction n with
  | zero =>
    intro L b v hL hC h0 hS
    have hr := nil_of L (by omega)
    exact ⟨hr, he L b v (ready_nil ho hL hr) hS⟩
  | succ n ih =>
    intro L b v hL hC h0 hS
    refine ⟨fun hr => he L b v (ready_nil ho hL hr) hS, fun i hi => ?_⟩
    obtain ⟨h1, o, h2, h3⟩ := mem_ready.1 hi
    have hlt := (Array.getElem?_eq_some_iff.1 h2).1
    have hw : ∀ j ∈ waitsOf ops i, L.getD j false = true := by
      intro j hj
      unfold waitsOf at hj
      rw [h2] at hj
      obtain ⟨e, he1, rfl⟩ := List.mem_map.1 hj
      obtain ⟨he2, he3⟩ := List.mem_filter.1 he1
      exact h3 e (by simpa using he2) he3
    refine wpOp_mono (fun b' v' h' => ih _ b' v' (by simpa using hL) (fun j hj k hk => ?_) (by have := openN_set h1 ops.size hlt; omega) h') (hs i hlt L b v hC h1 hw hS)
    by_cases hij : i = j
    · subst hij; exact getD_set_true (hw k hk)
    · rw [getD_set_ne false hij] at hj; exact getD_set_true (hC j hj k hk)
theorem getD_open {L : Array Bool} {i : Nat} (h0 : L.getD i true = false) : L.getD i false = false := by
  rcases Nat.lt_or_ge i L.size with h' | h'
  · rw [← getD_two h']; exact h0
  · simp [h'] at h0
theorem getD_set_done {L : Array Bool} {i : Nat} (h0 : L.getD i true = false) : (L.setIfInBounds i true).getD i false = true := by
  rcases Nat.lt_or_ge i L.size with h' | h'
  · simp [h']
  · simp [h'] at h0
theorem wp_region_facts {id n : Nat} {a : Act} {w : World} (S : Array Bool → Act → World → Prop) (hm : P.follows .mixedOrders = true) (ho : ordered ops = true) (hn : ops.size = n)
    (h0 : S (Array.replicate n false) a w.drew) (hs : AllSteps P ops Q S n) (he : ∀ L b v, (∀ j, j < n → L.getD j false = true) → S L b v → Q .normal b v) : (Code.region id ops true).wp P Q a w := by
  subst hn
  exact wp_region_any hm (any_facts ho hs he _ _ _ _ (by simp) (fun j hj => by by_cases h : j < ops.size <;> simp [Array.getD, h] at hj) (openN_le _ _) h0)
/-- a fact of number j, behind number i -/
theorem flag_ne {L : Array Bool} {i j : Nat} {F : Prop} (h : i ≠ j) (hF : L.getD j false = true → F) : (L.setIfInBounds i true).getD j false = true → F := by
  rw [getD_set_ne false h]; exact hF
theorem flag_new {n j : Nat} {F : Prop} : (Array.replicate n false).getD j false = true → F := by
  intro h
  by_cases hj : j < n <;> simp [Array.getD, hj] at h
end
end Go.Proofs.YtpeogdbfhfkngaaDoor

/- Layer 15: Put: two of its regions. -/
namespace Go.Proofs.YtpeogdbfhfkngaaDoor
open Go.RowKit
set_option linter.unusedSimpArgs false
set_option linter.unusedVariables false
set_option maxHeartbeats 4000000 in
theorem unitPut_r3 (W0 : World) (gp : Nat) (s : ByteArray) (sa : Option Addr) (n1 ca N : Nat) (T : List UInt8) (hgp : gp < W0.heap.size) (C0 : W0.cell? ⟨gp, 0, none⟩ = some (.string s)) (C1 : W0.cell? ⟨gp, 1, none⟩ = some (.slice sa n1 ca)) (hn : N ≤ 1000) (hn1 : n1 ≤ 1000) (hT : T.length = N) (HT : Hid (∀ W : World, Calls Tryd.prog 18 #[.slice none 0 0, .string s] W fun e w' => ∃ r, e = .returned r ∧ w'.ownsRow W.heap.size 5 1 r N (bytesV T) ∧ Below W.heap.size W w')) (i : TypeInfo) (hi : Tryd.prog.info? 5 = some i) (hz : i.zero = some (.int .u8 0)) (hsize : i.size = 1) (hby : i.bytes = 1) (t0 t2 t3 t4 t5 t6 t7 t8 t9 t10 t11 t12 t13 t14 t15 t16 t17 t18 t19 t20 t21 t22 t23 t24 t25 t26 t27 t28 t29 t30 t31 t32 t33 t34 t35 t36 t37 t38 t39 t40 t41 t42 t43 t44 t45 t46 t47 t48 t49 t50 t51 : Value) :
    (Code.region 3 #[{ dst := some 10, op := Op.fieldAddr 25 (Operand.tmp 1) 0, type := 0, pos := "unit.go:72", after := #[], guard := none }, { dst := some 11, op := Op.load 9 (Operand.tmp 10), type := 9, pos := "unit.go:72", after := #[{ on := 0, ground := Ground.data }], guard := none }, { dst := some 12, op := Op.call { callee := Callee.value (Operand.func 18), args := #[Operand.const (Value.slice none 0 0), Operand.tmp 11], argTypes := #[28, 9] }, type := 28, pos := "unit.go:72", after := #[{ on := 1, ground := Ground.data }], guard := none }, { dst := some 13, op := Op.fieldAddr 25 (Operand.tmp 1) 1, type := 0, pos := "unit.go:72", after := #[], guard := none }, { dst := some 14, op := Op.load 22 (Operand.tmp 13), type := 22, pos := "unit.go:72", after := #[{ on := 3, ground := Ground.data }], guard := none }, { dst := some 15, op := Op.call { callee := Callee.builtin Builtin.len, args := #[Operand.tmp 14], argTypes := #[22] }, type := 3, pos := "unit.go:72", after := #[{ on := 4, ground := Ground.data }], guard := none }, { dst := some 16, op := Op.convert 3 5 (Operand.tmp 15), type := 5, pos := "unit.go:72", after := #[{ on := 5, ground := Ground.data }], guard := none }, { dst := some 17, op := Op.buildSlice 28 1 #[(0, Operand.tmp 16)], type := 28, pos := "unit.go:72", after := #[{ on := 6, ground := Ground.data }], guard := none }, { dst := some 18, op := Op.call { callee := Callee.builtin Builtin.append, args := #[Operand.tmp 12, Operand.tmp 17], argTypes := #[28, 28] }, type := 28, pos := "unit.go:72", after := #[{ on := 2, ground := Ground.data }, { on := 7, ground := Ground.data }, { on := 2, ground := Ground.chain }], guard := none }, { dst := some 4, op := Op.assign (Operand.tmp 18), type := 28, pos := "unit.go:72", after := #[{ on := 8, ground := Ground.data }, { on := 8, ground := Ground.chain }, { on := 0, ground := Ground.phase }, { on := 1, ground := Ground.phase }, { on := 2, ground := Ground.phase }, { on := 3, ground := Ground.phase }, { on := 4, ground := Ground.phase }, { on := 5, ground := Ground.phase }, { on := 6, ground := Ground.phase }, { on := 7, ground := Ground.phase }, { on := 8, ground := Ground.phase }], guard := none }] true).wp Tryd.prog (fun e b v => e = Exit.normal ∧ ∃ u4 u10 u11 u12 u13 u14 u15 u16 u17 u18 : Value, b = ⟨#[t0, .pointer (some ⟨gp, 0, none⟩), t2, t3, u4, t5, t6, t7, t8, t9, u10, u11, u12, u13, u14, u15, u16, u17, u18, t19, t20, t21, t22, t23, t24, t25, t26, t27, t28, t29, t30, t31, t32, t33, t34, t35, t36, t37, t38, t39, t40, t41, t42, t43, t44, t45, t46, t47, t48, t49, t50, t51], []⟩ ∧ Below W0.heap.size W0 v ∧ (v.ownsRow W0.heap.size 5 1 u4 (N + 1) (bytesV T ++ [.int .u8 ((n1 : Int) % 256)]))) ⟨#[t0, .pointer (some ⟨gp, 0, none⟩), t2, t3, t4, t5, t6, t7, t8, t9, t10, t11, t12, t13, t14, t15, t16, t17, t18, t19, t20, t21, t22, t23, t24, t25, t26, t27, t28, t29, t30, t31, t32, t33, t34, t35, t36, t37, t38, t39, t40, t41, t42, t43, t44, t45, t46, t47, t48, t49, t50, t51], []⟩ W0 := by
  refine wp_region_facts (n := 10) (fun L b v => ∃ u4 u10 u11 u12 u13 u14 u15 u16 u17 u18 : Value, b = ⟨#[t0, .pointer (some ⟨gp, 0, none⟩), t2, t3, u4, t5, t6, t7, t8, t9, u10, u11, u12, u13, u14, u15, u16, u17, u18, t19, t20, t21, t22, t23, t24, t25, t26, t27, t28, t29, t30, t31, t32, t33, t34, t35, t36, t37, t38, t39, t40, t41, t42, t43, t44, t45, t46, t47, t48, t49, t50, t51], []⟩ ∧ Below W0.heap.size W0 v ∧ (L.getD 0 false = true → u10 = .pointer (some ⟨gp, 0, none⟩)) ∧ (L.getD 1 false = true → u11 = .string s) ∧ (L.getD 2 false = true → L.getD 8 true = false → v.ownsRow W0.heap.size 5 1 u12 N (bytesV T)) ∧ (L.getD 3 false = true → u13 = .pointer (some ⟨gp, 1, none⟩)) ∧ (L.getD 4 false = true → u14 = .slice sa n1 ca) ∧ (L.getD 5 false = true → u15 = .int .i64 n1) ∧ (L.getD 6 false = true → u16 = .int .u8 ((n1 : Int) % 256)) ∧ (L.getD 7 false = true → L.getD 8 true = false → ∃ p, u17 = .slice (some ⟨p, 0, none⟩) 1 1 ∧ v.heap[p]? = some (.cells #[.int .u8 ((n1 : Int) % 256)] 5)) ∧ (L.getD 8 false = true → v.ownsRow W0.heap.size 5 1 u18 (N + 1) (bytesV T ++ [.int .u8 ((n1 : Int) % 256)])) ∧ (L.getD 9 false = true → v.ownsRow W0.heap.size 5 1 u4 (N + 1) (bytesV T ++ [.int .u8 ((n1 : Int) % 256)]))) (by kernel_rfl) (by kernel_rfl) (by kernel_rfl) ?_ ?_ ?_
  · refine ⟨_, _, _, _, _, _, _, _, _, _, rfl, (Below.refl _ _).drew, flag_new, flag_new, flag_new, flag_new, flag_new, flag_new, flag_new, flag_new, flag_new, flag_new⟩
  · refine AllSteps.succ (AllSteps.succ (AllSteps.succ (AllSteps.succ (AllSteps.succ (AllSteps.succ (AllSteps.succ (AllSteps.succ (AllSteps.succ (AllSteps.succ AllSteps.zero ?_) ?_) ?_) ?_) ?_) ?_) ?_) ?_) ?_) ?_
    · refine StepAt.mk (o := { dst := some 10, op := Op.fieldAddr 25 (Operand.tmp 1) 0, type := 0, pos := _, after := #[], guard := none }) (ws := []) rfl (by kernel_rfl) ?_
      intro L b v hC h0 hA h
      refine h.elim ?_; clear h; intro u4 h
      refine h.elim ?_; clear h; intro u10 h
      refine h.elim ?_; clear h; intro u11 h
      refine h.elim ?_; clear h; intro u12 h
      refine h.elim ?_; clear h; intro u13 h
      refine h.elim ?_; clear h; intro u14 h
      refine h.elim ?_; clear h; intro u15 h
      refine h.elim ?_; clear h; intro u16 h
      refine h.elim ?_; clear h; intro u17 h
      refine h.elim ?_; clear h; intro u18 h
      have hbb := h.1; replace h := h.2; subst hbb
      have hHeld := h.1; replace h := h.2
      have f0 := h.1; replace h := h.2
      have f1 := h.1; replace h := h.2
      have f2 := h.1; replace h := h.2
      have f3 := h.1; replace h := h.2
      have f4 := h.1; replace h := h.2
      have f5 := h.1; replace h := h.2
      have f6 := h.1; replace h := h.2
      have f7 := h.1; replace h := h.2
      have f8 := h.1; replace h := h.2
      have f9 := h; clear h
      intro K hK
      rw [if_pos (by kernel_rfl)]
      have q0 := cellB hHeld C0 hgp
      have q1 := cellB hHeld C1 hgp
      go_simp
      try simp only [Act.put, List.setIfInBounds_toArray, List.set_cons_zero, List.set_cons_succ]
      refine hK.out _ _ ⟨_, _, _, _, _, _, _, _, _, _, rfl, ?_, ?_, ?_, ?_, ?_, ?_, ?_, ?_, ?_, ?_, ?_⟩
      · first | exact hHeld | exact hHeld.trans (hb.mono hHeld.size) | (trace_state; fail)
      · intro _; first | rfl | (trace_state; fail)
      · first | exact flag_ne (by decide) f1 | exact fun _ => rfl
      · intro h _; rw [getD_set_ne false (by decide)] at h; exact (getD_no h0 (hC.step (j := 1) (k := 0) (hC.step (j := 2) (k := 1) h (by kernel_rfl)) (by kernel_rfl))).elim
      · first | exact flag_ne (by decide) f3 | exact fun _ => rfl
      · first | exact flag_ne (by decide) f4 | exact fun _ => rfl
      · first | exact flag_ne (by decide) f5 | exact fun _ => rfl
      · first | exact flag_ne (by decide) f6 | exact fun _ => rfl
      · intro h h7; rw [getD_set_ne false (by decide)] at h; rw [getD_set_ne true (by decide)] at h7; have := f7 h h7; obtain ⟨p, z1, z3⟩ := this; exact (by first | exact ⟨p, z1, z3⟩ | exact ⟨p, z1, obj_below z3 hb⟩)
      · intro h; rw [getD_set_ne false (by decide)] at h; exact (getD_no h0 (hC.step (j := 1) (k := 0) (hC.step (j := 2) (k := 1) (hC.step (j := 8) (k := 2) h (by kernel_rfl)) (by kernel_rfl)) (by kernel_rfl))).elim
      · intro h; rw [getD_set_ne false (by decide)] at h; exact (getD_no h0 (hC.step (j := 9) (k := 0) h (by kernel_rfl))).elim
    · refine StepAt.mk (o := { dst := some 11, op := Op.load 9 (Operand.tmp 10), type := 9, pos := _, after := #[{ on := 0, ground := Ground.data }], guard := none }) (ws := [0]) rfl (by kernel_rfl) ?_
      intro L b v hC h0 hA h
      refine h.elim ?_; clear h; intro u4 h
      refine h.elim ?_; clear h; intro u10 h
      refine h.elim ?_; clear h; intro u11 h
      refine h.elim ?_; clear h; intro u12 h
      refine h.elim ?_; clear h; intro u13 h
      refine h.elim ?_; clear h; intro u14 h
      refine h.elim ?_; clear h; intro u15 h
      refine h.elim ?_; clear h; intro u16 h
      refine h.elim ?_; clear h; intro u17 h
      refine h.elim ?_; clear h; intro u18 h
      have hbb := h.1; replace h := h.2; subst hbb
      have hHeld := h.1; replace h := h.2
      have f0 := h.1; replace h := h.2
      have f1 := h.1; replace h := h.2
      have f2 := h.1; replace h := h.2
      have f3 := h.1; replace h := h.2
      have f4 := h.1; replace h := h.2
      have f5 := h.1; replace h := h.2
      have f6 := h.1; replace h := h.2
      have f7 := h.1; replace h := h.2
      have f8 := h.1; replace h := h.2
      have f9 := h; clear h
      intro K hK
      have g0 := f0 (hA 0 (by simp))
      obtain rfl := g0
      rw [if_pos (by kernel_rfl)]
      have q0 := cellB hHeld C0 hgp
      have q1 := cellB hHeld C1 hgp
      go_simp
      try simp only [Act.put, List.setIfInBounds_toArray, List.set_cons_zero, List.set_cons_succ]
      refine hK.out _ _ ⟨_, _, _, _, _, _, _, _, _, _, rfl, ?_, ?_, ?_, ?_, ?_, ?_, ?_, ?_, ?_, ?_, ?_⟩
      · first | exact hHeld | exact hHeld.trans (hb.mono hHeld.size) | (trace_state; fail)
      · first | exact flag_ne (by decide) f0 | exact fun _ => rfl
      · intro _; first | rfl | (trace_state; fail)
      · intro h _; rw [getD_set_ne false (by decide)] at h; exact (getD_no h0 (hC.step (j := 2) (k := 1) h (by kernel_rfl))).elim
      · first | exact flag_ne (by decide) f3 | exact fun _ => rfl
      · first | exact flag_ne (by decide) f4 | exact fun _ => rfl
      · first | exact flag_ne (by decide) f5 | exact fun _ => rfl
      · first | exact flag_ne (by decide) f6 | exact fun _ => rfl
      · intro h h7; rw [getD_set_ne false (by decide)] at h; rw [getD_set_ne true (by decide)] at h7; have := f7 h h7; obtain ⟨p, z1, z3⟩ := this; exact (by first | exact ⟨p, z1, z3⟩ | exact ⟨p, z1, obj_below z3 hb⟩)
      · intro h; rw [getD_set_ne false (by decide)] at h; exact (getD_no h0 (hC.step (j := 2) (k := 1) (hC.step (j := 8) (k := 2) h (by kernel_rfl)) (by kernel_rfl))).elim
      · intro h; rw [getD_set_ne false (by decide)] at h; exact (getD_no h0 (hC.step (j := 9) (k := 1) h (by kernel_rfl))).elim
    · refine StepAt.mk (o := { dst := some 12, op := Op.call { callee := Callee.value (Operand.func 18), args := #[Operand.const (Value.slice none 0 0), Operand.tmp 11], argTypes := #[28, 9] }, type := 28, pos := _, after := #[{ on := 1, ground := Ground.data }], guard := none }) (ws := [1]) rfl (by kernel_rfl) ?_
      intro L b v hC h0 hA h
      refine h.elim ?_; clear h; intro u4 h
      refine h.elim ?_; clear h; intro u10 h
      refine h.elim ?_; clear h; intro u11 h
      refine h.elim ?_; clear h; intro u12 h
      refine h.elim ?_; clear h; intro u13 h
      refine h.elim ?_; clear h; intro u14 h
      refine h.elim ?_; clear h; intro u15 h
      refine h.elim ?_; clear h; intro u16 h
      refine h.elim ?_; clear h; intro u17 h
      refine h.elim ?_; clear h; intro u18 h
      have hbb := h.1; replace h := h.2; subst hbb
      have hHeld := h.1; replace h := h.2
      have f0 := h.1; replace h := h.2
      have f1 := h.1; replace h := h.2
      have f2 := h.1; replace h := h.2
      have f3 := h.1; replace h := h.2
      have f4 := h.1; replace h := h.2
      have f5 := h.1; replace h := h.2
      have f6 := h.1; replace h := h.2
      have f7 := h.1; replace h := h.2
      have f8 := h.1; replace h := h.2
      have f9 := h; clear h
      intro K hK
      have g1 := f1 (hA 1 (by simp))
      obtain rfl := g1
      rw [if_pos (by kernel_rfl)]
      have q0 := cellB hHeld C0 hgp
      have q1 := cellB hHeld C1 hgp
      go_simp
      refine (HT.out v).mono ?_; rintro e v1 ⟨r, rfl, HO, hb⟩
      go_wp2_with fail
      try simp only [Act.put, List.setIfInBounds_toArray, List.set_cons_zero, List.set_cons_succ]
      refine hK.out _ _ ⟨_, _, _, _, _, _, _, _, _, _, rfl, ?_, ?_, ?_, ?_, ?_, ?_, ?_, ?_, ?_, ?_, ?_⟩
      · first | exact hHeld | exact hHeld.trans (hb.mono hHeld.size) | (trace_state; fail)
      · first | exact flag_ne (by decide) f0 | exact fun _ => rfl
      · first | exact flag_ne (by decide) f1 | exact fun _ => rfl
      · intro _ _; first | (exact own_low HO hHeld.size) | (trace_state; fail)
      · first | exact flag_ne (by decide) f3 | exact fun _ => rfl
      · first | exact flag_ne (by decide) f4 | exact fun _ => rfl
      · first | exact flag_ne (by decide) f5 | exact fun _ => rfl
      · first | exact flag_ne (by decide) f6 | exact fun _ => rfl
      · intro h h7; rw [getD_set_ne false (by decide)] at h; rw [getD_set_ne true (by decide)] at h7; have := f7 h h7; obtain ⟨p, z1, z3⟩ := this; exact (by first | exact ⟨p, z1, z3⟩ | exact ⟨p, z1, obj_below z3 hb⟩)
      · intro h; rw [getD_set_ne false (by decide)] at h; exact (getD_no h0 (hC.step (j := 8) (k := 2) h (by kernel_rfl))).elim
      · intro h; rw [getD_set_ne false (by decide)] at h; exact (getD_no h0 (hC.step (j := 9) (k := 2) h (by kernel_rfl))).elim
    · refine StepAt.mk (o := { dst := some 13, op := Op.fieldAddr 25 (Operand.tmp 1) 1, type := 0, pos := _, after := #[], guard := none }) (ws := []) rfl (by kernel_rfl) ?_
      intro L b v hC h0 hA h
      refine h.elim ?_; clear h; intro u4 h
      refine h.elim ?_; clear h; intro u10 h
      refine h.elim ?_; clear h; intro u11 h
      refine h.elim ?_; clear h; intro u12 h
      refine h.elim ?_; clear h; intro u13 h
      refine h.elim ?_; clear h; intro u14 h
      refine h.elim ?_; clear h; intro u15 h
      refine h.elim ?_; clear h; intro u16 h
      refine h.elim ?_; clear h; intro u17 h
      refine h.elim ?_; clear h; intro u18 h
      have hbb := h.1; replace h := h.2; subst hbb
      have hHeld := h.1; replace h := h.2
      have f0 := h.1; replace h := h.2
      have f1 := h.1; replace h := h.2
      have f2 := h.1; replace h := h.2
      have f3 := h.1; replace h := h.2
      have f4 := h.1; replace h := h.2
      have f5 := h.1; replace h := h.2
      have f6 := h.1; replace h := h.2
      have f7 := h.1; replace h := h.2
      have f8 := h.1; replace h := h.2
      have f9 := h; clear h
      intro K hK
      rw [if_pos (by kernel_rfl)]
      have q0 := cellB hHeld C0 hgp
      have q1 := cellB hHeld C1 hgp
      go_simp
      try simp only [Act.put, List.setIfInBounds_toArray, List.set_cons_zero, List.set_cons_succ]
      refine hK.out _ _ ⟨_, _, _, _, _, _, _, _, _, _, rfl, ?_, ?_, ?_, ?_, ?_, ?_, ?_, ?_, ?_, ?_, ?_⟩
      · first | exact hHeld | exact hHeld.trans (hb.mono hHeld.size) | (trace_state; fail)
      · first | exact flag_ne (by decide) f0 | exact fun _ => rfl
      · first | exact flag_ne (by decide) f1 | exact fun _ => rfl
      · intro h h7; rw [getD_set_ne false (by decide)] at h; rw [getD_set_ne true (by decide)] at h7; have := f2 h h7; first | exact this | exact owns_below this hb | (trace_state; fail)
      · intro _; first | rfl | (trace_state; fail)
      · first | exact flag_ne (by decide) f4 | exact fun _ => rfl
      · first | exact flag_ne (by decide) f5 | exact fun _ => rfl
      · first | exact flag_ne (by decide) f6 | exact fun _ => rfl
      · intro h _; rw [getD_set_ne false (by decide)] at h; exact (getD_no h0 (hC.step (j := 4) (k := 3) (hC.step (j := 5) (k := 4) (hC.step (j := 6) (k := 5) (hC.step (j := 7) (k := 6) h (by kernel_rfl)) (by kernel_rfl)) (by kernel_rfl)) (by kernel_rfl))).elim
      · intro h; rw [getD_set_ne false (by decide)] at h; exact (getD_no h0 (hC.step (j := 4) (k := 3) (hC.step (j := 5) (k := 4) (hC.step (j := 6) (k := 5) (hC.step (j := 7) (k := 6) (hC.step (j := 8) (k := 7) h (by kernel_rfl)) (by kernel_rfl)) (by kernel_rfl)) (by kernel_rfl)) (by kernel_rfl))).elim
      · intro h; rw [getD_set_ne false (by decide)] at h; exact (getD_no h0 (hC.step (j := 9) (k := 3) h (by kernel_rfl))).elim
    · refine StepAt.mk (o := { dst := some 14, op := Op.load 22 (Operand.tmp 13), type := 22, pos := _, after := #[{ on := 3, ground := Ground.data }], guard := none }) (ws := [3]) rfl (by kernel_rfl) ?_
      intro L b v hC h0 hA h
      refine h.elim ?_; clear h; intro u4 h
      refine h.elim ?_; clear h; intro u10 h
      refine h.elim ?_; clear h; intro u11 h
      refine h.elim ?_; clear h; intro u12 h
      refine h.elim ?_; clear h; intro u13 h
      refine h.elim ?_; clear h; intro u14 h
      refine h.elim ?_; clear h; intro u15 h
      refine h.elim ?_; clear h; intro u16 h
      refine h.elim ?_; clear h; intro u17 h
      refine h.elim ?_; clear h; intro u18 h
      have hbb := h.1; replace h := h.2; subst hbb
      have hHeld := h.1; replace h := h.2
      have f0 := h.1; replace h := h.2
      have f1 := h.1; replace h := h.2
      have f2 := h.1; replace h := h.2
      have f3 := h.1; replace h := h.2
      have f4 := h.1; replace h := h.2
      have f5 := h.1; replace h := h.2
      have f6 := h.1; replace h := h.2
      have f7 := h.1; replace h := h.2
      have f8 := h.1; replace h := h.2
      have f9 := h; clear h
      intro K hK
      have g3 := f3 (hA 3 (by simp))
      obtain rfl := g3
      rw [if_pos (by kernel_rfl)]
      have q0 := cellB hHeld C0 hgp
      have q1 := cellB hHeld C1 hgp
      go_simp
      try simp only [Act.put, List.setIfInBounds_toArray, List.set_cons_zero, List.set_cons_succ]
      refine hK.out _ _ ⟨_, _, _, _, _, _, _, _, _, _, rfl, ?_, ?_, ?_, ?_, ?_, ?_, ?_, ?_, ?_, ?_, ?_⟩
      · first | exact hHeld | exact hHeld.trans (hb.mono hHeld.size) | (trace_state; fail)
      · first | exact flag_ne (by decide) f0 | exact fun _ => rfl
      · first | exact flag_ne (by decide) f1 | exact fun _ => rfl
      · intro h h7; rw [getD_set_ne false (by decide)] at h; rw [getD_set_ne true (by decide)] at h7; have := f2 h h7; first | exact this | exact owns_below this hb | (trace_state; fail)
      · first | exact flag_ne (by decide) f3 | exact fun _ => rfl
      · intro _; first | rfl | (trace_state; fail)
      · first | exact flag_ne (by decide) f5 | exact fun _ => rfl
      · first | exact flag_ne (by decide) f6 | exact fun _ => rfl
      · intro h _; rw [getD_set_ne false (by decide)] at h; exact (getD_no h0 (hC.step (j := 5) (k := 4) (hC.step (j := 6) (k := 5) (hC.step (j := 7) (k := 6) h (by kernel_rfl)) (by kernel_rfl)) (by kernel_rfl))).elim
      · intro h; rw [getD_set_ne false (by decide)] at h; exact (getD_no h0 (hC.step (j := 5) (k := 4) (hC.step (j := 6) (k := 5) (hC.step (j := 7) (k := 6) (hC.step (j := 8) (k := 7) h (by kernel_rfl)) (by kernel_rfl)) (by kernel_rfl)) (by kernel_rfl))).elim
      · intro h; rw [getD_set_ne false (by decide)] at h; exact (getD_no h0 (hC.step (j := 9) (k := 4) h (by kernel_rfl))).elim
    · refine StepAt.mk (o := { dst := some 15, op := Op.call { callee := Callee.builtin Builtin.len, args := #[Operand.tmp 14], argTypes := #[22] }, type := 3, pos := _, after := #[{ on := 4, ground := Ground.data }], guard := none }) (ws := [4]) rfl (by kernel_rfl) ?_
      intro L b v hC h0 hA h
      refine h.elim ?_; clear h; intro u4 h
      refine h.elim ?_; clear h; intro u10 h
      refine h.elim ?_; clear h; intro u11 h
      refine h.elim ?_; clear h; intro u12 h
      refine h.elim ?_; clear h; intro u13 h
      refine h.elim ?_; clear h; intro u14 h
      refine h.elim ?_; clear h; intro u15 h
      refine h.elim ?_; clear h; intro u16 h
      refine h.elim ?_; clear h; intro u17 h
      refine h.elim ?_; clear h; intro u18 h
      have hbb := h.1; replace h := h.2; subst hbb
      have hHeld := h.1; replace h := h.2
      have f0 := h.1; replace h := h.2
      have f1 := h.1; replace h := h.2
      have f2 := h.1; replace h := h.2
      have f3 := h.1; replace h := h.2
      have f4 := h.1; replace h := h.2
      have f5 := h.1; replace h := h.2
      have f6 := h.1; replace h := h.2
      have f7 := h.1; replace h := h.2
      have f8 := h.1; replace h := h.2
      have f9 := h; clear h
      intro K hK
      have g4 := f4 (hA 4 (by simp))
      obtain rfl := g4
      rw [if_pos (by kernel_rfl)]
      have q0 := cellB hHeld C0 hgp
      have q1 := cellB hHeld C1 hgp
      go_simp
      try simp only [Act.put, List.setIfInBounds_toArray, List.set_cons_zero, List.set_cons_succ]
      refine hK.out _ _ ⟨_, _, _, _, _, _, _, _, _, _, rfl, ?_, ?_, ?_, ?_, ?_, ?_, ?_, ?_, ?_, ?_, ?_⟩
      · first | exact hHeld | exact hHeld.trans (hb.mono hHeld.size) | (trace_state; fail)
      · first | exact flag_ne (by decide) f0 | exact fun _ => rfl
      · first | exact flag_ne (by decide) f1 | exact fun _ => rfl
      · intro h h7; rw [getD_set_ne false (by decide)] at h; rw [getD_set_ne true (by decide)] at h7; have := f2 h h7; first | exact this | exact owns_below this hb | (trace_state; fail)
      · first | exact flag_ne (by decide) f3 | exact fun _ => rfl
      · first | exact flag_ne (by decide) f4 | exact fun _ => rfl
      · intro _; first | rfl | (trace_state; fail)
      · first | exact flag_ne (by decide) f6 | exact fun _ => rfl
      · intro h _; rw [getD_set_ne false (by decide)] at h; exact (getD_no h0 (hC.step (j := 6) (k := 5) (hC.step (j := 7) (k := 6) h (by kernel_rfl)) (by kernel_rfl))).elim
      · intro h; rw [getD_set_ne false (by decide)] at h; exact (getD_no h0 (hC.step (j := 6) (k := 5) (hC.step (j := 7) (k := 6) (hC.step (j := 8) (k := 7) h (by kernel_rfl)) (by kernel_rfl)) (by kernel_rfl))).elim
      · intro h; rw [getD_set_ne false (by decide)] at h; exact (getD_no h0 (hC.step (j := 9) (k := 5) h (by kernel_rfl))).elim
    · refine StepAt.mk (o := { dst := some 16, op := Op.convert 3 5 (Operand.tmp 15), type := 5, pos := _, after := #[{ on := 5, ground := Ground.data }], guard := none }) (ws := [5]) rfl (by kernel_rfl) ?_
      intro L b v hC h0 hA h
      refine h.elim ?_; clear h; intro u4 h
      refine h.elim ?_; clear h; intro u10 h
      refine h.elim ?_; clear h; intro u11 h
      refine h.elim ?_; clear h; intro u12 h
      refine h.elim ?_; clear h; intro u13 h
      refine h.elim ?_; clear h; intro u14 h
      refine h.elim ?_; clear h; intro u15 h
      refine h.elim ?_; clear h; intro u16 h
      refine h.elim ?_; clear h; intro u17 h
      refine h.elim ?_; clear h; intro u18 h
      have hbb := h.1; replace h := h.2; subst hbb
      have hHeld := h.1; replace h := h.2
      have f0 := h.1; replace h := h.2
      have f1 := h.1; replace h := h.2
      have f2 := h.1; replace h := h.2
      have f3 := h.1; replace h := h.2
      have f4 := h.1; replace h := h.2
      have f5 := h.1; replace h := h.2
      have f6 := h.1; replace h := h.2
      have f7 := h.1; replace h := h.2
      have f8 := h.1; replace h := h.2
      have f9 := h; clear h
      intro K hK
      have g5 := f5 (hA 5 (by simp))
      obtain rfl := g5
      rw [if_pos (by kernel_rfl)]
      have q0 := cellB hHeld C0 hgp
      have q1 := cellB hHeld C1 hgp
      go_simp
      try simp only [Act.put, List.setIfInBounds_toArray, List.set_cons_zero, List.set_cons_succ]
      refine hK.out _ _ ⟨_, _, _, _, _, _, _, _, _, _, rfl, ?_, ?_, ?_, ?_, ?_, ?_, ?_, ?_, ?_, ?_, ?_⟩
      · first | exact hHeld | exact hHeld.trans (hb.mono hHeld.size) | (trace_state; fail)
      · first | exact flag_ne (by decide) f0 | exact fun _ => rfl
      · first | exact flag_ne (by decide) f1 | exact fun _ => rfl
      · intro h h7; rw [getD_set_ne false (by decide)] at h; rw [getD_set_ne true (by decide)] at h7; have := f2 h h7; first | exact this | exact owns_below this hb | (trace_state; fail)
      · first | exact flag_ne (by decide) f3 | exact fun _ => rfl
      · first | exact flag_ne (by decide) f4 | exact fun _ => rfl
      · first | exact flag_ne (by decide) f5 | exact fun _ => rfl
      · intro _; first | rfl | (trace_state; fail)
      · intro h _; rw [getD_set_ne false (by decide)] at h; exact (getD_no h0 (hC.step (j := 7) (k := 6) h (by kernel_rfl))).elim
      · intro h; rw [getD_set_ne false (by decide)] at h; exact (getD_no h0 (hC.step (j := 7) (k := 6) (hC.step (j := 8) (k := 7) h (by kernel_rfl)) (by kernel_rfl))).elim
      · intro h; rw [getD_set_ne false (by decide)] at h; exact (getD_no h0 (hC.step (j := 9) (k := 6) h (by kernel_rfl))).elim
    · refine StepAt.mk (o := { dst := some 17, op := Op.buildSlice 28 1 #[(0, Operand.tmp 16)], type := 28, pos := _, after := #[{ on := 6, ground := Ground.data }], guard := none }) (ws := [6]) rfl (by kernel_rfl) ?_
      intro L b v hC h0 hA h
      refine h.elim ?_; clear h; intro u4 h
      refine h.elim ?_; clear h; intro u10 h
      refine h.elim ?_; clear h; intro u11 h
      refine h.elim ?_; clear h; intro u12 h
      refine h.elim ?_; clear h; intro u13 h
      refine h.elim ?_; clear h; intro u14 h
      refine h.elim ?_; clear h; intro u15 h
      refine h.elim ?_; clear h; intro u16 h
      refine h.elim ?_; clear h; intro u17 h
      refine h.elim ?_; clear h; intro u18 h
      have hbb := h.1; replace h := h.2; subst hbb
      have hHeld := h.1; replace h := h.2
      have f0 := h.1; replace h := h.2
      have f1 := h.1; replace h := h.2
      have f2 := h.1; replace h := h.2
      have f3 := h.1; replace h := h.2
      have f4 := h.1; replace h := h.2
      have f5 := h.1; replace h := h.2
      have f6 := h.1; replace h := h.2
      have f7 := h.1; replace h := h.2
      have f8 := h.1; replace h := h.2
      have f9 := h; clear h
      intro K hK
      have g6 := f6 (hA 6 (by simp))
      obtain rfl := g6
      rw [if_pos (by kernel_rfl)]
      have q0 := cellB hHeld C0 hgp
      have q1 := cellB hHeld C1 hgp
      go_simp
      try simp only [Act.put, List.setIfInBounds_toArray, List.set_cons_zero, List.set_cons_succ]
      have hb : Below v.heap.size v (v.alloc (.cells #[.int .u8 ((n1 : Int) % 256)] 5)) := (Below.refl _ _).alloc (Nat.le_refl _) _
      refine hK.out _ _ ⟨_, _, _, _, _, _, _, _, _, _, rfl, ?_, ?_, ?_, ?_, ?_, ?_, ?_, ?_, ?_, ?_, ?_⟩
      · exact hHeld.alloc hHeld.size _
      · first | exact flag_ne (by decide) f0 | exact fun _ => rfl
      · first | exact flag_ne (by decide) f1 | exact fun _ => rfl
      · intro h h7; rw [getD_set_ne false (by decide)] at h; rw [getD_set_ne true (by decide)] at h7; have := f2 h h7; first | exact this | exact owns_below this hb | (trace_state; fail)
      · first | exact flag_ne (by decide) f3 | exact fun _ => rfl
      · first | exact flag_ne (by decide) f4 | exact fun _ => rfl
      · first | exact flag_ne (by decide) f5 | exact fun _ => rfl
      · first | exact flag_ne (by decide) f6 | exact fun _ => rfl
      · intro _ _; first | (exact ⟨_, rfl, heap_new v _⟩) | (trace_state; fail)
      · intro h; rw [getD_set_ne false (by decide)] at h; exact (getD_no h0 (hC.step (j := 8) (k := 7) h (by kernel_rfl))).elim
      · intro h; rw [getD_set_ne false (by decide)] at h; exact (getD_no h0 (hC.step (j := 9) (k := 7) h (by kernel_rfl))).elim
    · refine StepAt.mk (o := { dst := some 18, op := Op.call { callee := Callee.builtin Builtin.append, args := #[Operand.tmp 12, Operand.tmp 17], argTypes := #[28, 28] }, type := 28, pos := _, after := #[{ on := 2, ground := Ground.data }, { on := 7, ground := Ground.data }, { on := 2, ground := Ground.chain }], guard := none }) (ws := [2, 7, 2]) rfl (by kernel_rfl) ?_
      intro L b v hC h0 hA h
      refine h.elim ?_; clear h; intro u4 h
      refine h.elim ?_; clear h; intro u10 h
      refine h.elim ?_; clear h; intro u11 h
      refine h.elim ?_; clear h; intro u12 h
      refine h.elim ?_; clear h; intro u13 h
      refine h.elim ?_; clear h; intro u14 h
      refine h.elim ?_; clear h; intro u15 h
      refine h.elim ?_; clear h; intro u16 h
      refine h.elim ?_; clear h; intro u17 h
      refine h.elim ?_; clear h; intro u18 h
      have hbb := h.1; replace h := h.2; subst hbb
      have hHeld := h.1; replace h := h.2
      have f0 := h.1; replace h := h.2
      have f1 := h.1; replace h := h.2
      have f2 := h.1; replace h := h.2
      have f3 := h.1; replace h := h.2
      have f4 := h.1; replace h := h.2
      have f5 := h.1; replace h := h.2
      have f6 := h.1; replace h := h.2
      have f7 := h.1; replace h := h.2
      have f8 := h.1; replace h := h.2
      have f9 := h; clear h
      intro K hK
      have g2 := f2 (hA 2 (by simp)) h0
      have g7 := f7 (hA 7 (by simp)) h0
      obtain ⟨p7, rfl, hp7⟩ := g7
      rw [if_pos (by kernel_rfl)]
      have q0 := cellB hHeld C0 hgp
      have q1 := cellB hHeld C1 hgp
      refine wp_append_src (.tmp 12) (.tmp 17) 28 rfl W0.heap.size 5 i (.int .u8 0) 1 1 Tryd.underlying28 hi hz hsize hby rfl (by omega) _ N _ rfl g2 _ 1 [.int .u8 ((n1 : Int) % 256)] rfl (src_at hp7) rfl (by intro u hu; simp at hu; rw [hu]; rfl) (by unfold maxLen; omega) (by omega) hHeld.size ?_; intro v' w' HO hG
      try simp only [Act.put, List.setIfInBounds_toArray, List.set_cons_zero, List.set_cons_succ]
      refine hK.out _ _ ⟨_, _, _, _, _, _, _, _, _, _, rfl, ?_, ?_, ?_, ?_, ?_, ?_, ?_, ?_, ?_, ?_, ?_⟩
      · exact grown3 hHeld hHeld.size g2 hG
      · first | exact flag_ne (by decide) f0 | exact fun _ => rfl
      · first | exact flag_ne (by decide) f1 | exact fun _ => rfl
      · intro _ h7; rw [getD_set_self] at h7; cases h7
      · first | exact flag_ne (by decide) f3 | exact fun _ => rfl
      · first | exact flag_ne (by decide) f4 | exact fun _ => rfl
      · first | exact flag_ne (by decide) f5 | exact fun _ => rfl
      · first | exact flag_ne (by decide) f6 | exact fun _ => rfl
      · intro _ h7; rw [getD_set_self] at h7; cases h7
      · intro _; first | exact HO | (trace_state; fail)
      · intro h; rw [getD_set_ne false (by decide)] at h; exact (getD_no h0 (hC.step (j := 9) (k := 8) h (by kernel_rfl))).elim
    · refine StepAt.mk (o := { dst := some 4, op := Op.assign (Operand.tmp 18), type := 28, pos := _, after := #[{ on := 8, ground := Ground.data }, { on := 8, ground := Ground.chain }, { on := 0, ground := Ground.phase }, { on := 1, ground := Ground.phase }, { on := 2, ground := Ground.phase }, { on := 3, ground := Ground.phase }, { on := 4, ground := Ground.phase }, { on := 5, ground := Ground.phase }, { on := 6, ground := Ground.phase }, { on := 7, ground := Ground.phase }, { on := 8, ground := Ground.phase }], guard := none }) (ws := [8, 8, 0, 1, 2, 3, 4, 5, 6, 7, 8]) rfl (by kernel_rfl) ?_
      intro L b v hC h0 hA h
      refine h.elim ?_; clear h; intro u4 h
      refine h.elim ?_; clear h; intro u10 h
      refine h.elim ?_; clear h; intro u11 h
      refine h.elim ?_; clear h; intro u12 h
      refine h.elim ?_; clear h; intro u13 h
      refine h.elim ?_; clear h; intro u14 h
      refine h.elim ?_; clear h; intro u15 h
      refine h.elim ?_; clear h; intro u16 h
      refine h.elim ?_; clear h; intro u17 h
      refine h.elim ?_; clear h; intro u18 h
      have hbb := h.1; replace h := h.2; subst hbb
      have hHeld := h.1; replace h := h.2
      have f0 := h.1; replace h := h.2
      have f1 := h.1; replace h := h.2
      have f2 := h.1; replace h := h.2
      have f3 := h.1; replace h := h.2
      have f4 := h.1; replace h := h.2
      have f5 := h.1; replace h := h.2
      have f6 := h.1; replace h := h.2
      have f7 := h.1; replace h := h.2
      have f8 := h.1; replace h := h.2
      have f9 := h; clear h
      intro K hK
      have g8 := f8 (hA 8 (by simp))
      have g0 := f0 (hA 0 (by simp))
      obtain rfl := g0
      have g1 := f1 (hA 1 (by simp))
      obtain rfl := g1
      have g2 := f2 (hA 2 (by simp))
      have g3 := f3 (hA 3 (by simp))
      obtain rfl := g3
      have g4 := f4 (hA 4 (by simp))
      obtain rfl := g4
      have g5 := f5 (hA 5 (by simp))
      obtain rfl := g5
      have g6 := f6 (hA 6 (by simp))
      obtain rfl := g6
      have g7 := f7 (hA 7 (by simp))
      rw [if_pos (by kernel_rfl)]
      have q0 := cellB hHeld C0 hgp
      have q1 := cellB hHeld C1 hgp
      go_simp
      try simp only [Act.put, List.setIfInBounds_toArray, List.set_cons_zero, List.set_cons_succ]
      refine hK.out _ _ ⟨_, _, _, _, _, _, _, _, _, _, rfl, ?_, ?_, ?_, ?_, ?_, ?_, ?_, ?_, ?_, ?_, ?_⟩
      · first | exact hHeld | exact hHeld.trans (hb.mono hHeld.size) | (trace_state; fail)
      · first | exact flag_ne (by decide) f0 | exact fun _ => rfl
      · first | exact flag_ne (by decide) f1 | exact fun _ => rfl
      · intro _ h7; rw [getD_set_ne true (by decide)] at h7; exact (getD_no h7 (hA 8 (by simp))).elim
      · first | exact flag_ne (by decide) f3 | exact fun _ => rfl
      · first | exact flag_ne (by decide) f4 | exact fun _ => rfl
      · first | exact flag_ne (by decide) f5 | exact fun _ => rfl
      · first | exact flag_ne (by decide) f6 | exact fun _ => rfl
      · intro _ h7; rw [getD_set_ne true (by decide)] at h7; exact (getD_no h7 (hA 8 (by simp))).elim
      · intro h; rw [getD_set_ne false (by decide)] at h; have := f8 h; first | exact this | exact owns_below this hb | (trace_state; fail)
      · intro _; first | exact g8 | (trace_state; fail)
  intro L b v hA h
  refine h.elim ?_; clear h; intro u4 h
  refine h.elim ?_; clear h; intro u10 h
  refine h.elim ?_; clear h; intro u11 h
  refine h.elim ?_; clear h; intro u12 h
  refine h.elim ?_; clear h; intro u13 h
  refine h.elim ?_; clear h; intro u14 h
  refine h.elim ?_; clear h; intro u15 h
  refine h.elim ?_; clear h; intro u16 h
  refine h.elim ?_; clear h; intro u17 h
  refine h.elim ?_; clear h; intro u18 h
  have hbb := h.1; replace h := h.2; subst hbb
  have hHeld := h.1; replace h := h.2
  have f0 := h.1; replace h := h.2
  have f1 := h.1; replace h := h.2
  have f2 := h.1; replace h := h.2
  have f3 := h.1; replace h := h.2
  have f4 := h.1; replace h := h.2
  have f5 := h.1; replace h := h.2
  have f6 := h.1; replace h := h.2
  have f7 := h.1; replace h := h.2
  have f8 := h.1; replace h := h.2
  have f9 := h; clear h
  have g0 := f0 (hA 0 (by omega))
  clear f0
  obtain rfl := g0
  have g1 := f1 (hA 1 (by omega))
  clear f1
  obtain rfl := g1
  clear f2
  have g3 := f3 (hA 3 (by omega))
  clear f3
  obtain rfl := g3
  have g4 := f4 (hA 4 (by omega))
  clear f4
  obtain rfl := g4
  have g5 := f5 (hA 5 (by omega))
  clear f5
  obtain rfl := g5
  have g6 := f6 (hA 6 (by omega))
  clear f6
  obtain rfl := g6
  clear f7
  have g8 := f8 (hA 8 (by omega))
  clear f8
  have g9 := f9 (hA 9 (by omega))
  clear f9
  clear hA
  exact ⟨rfl, _, _, _, _, _, _, _, _, _, _, rfl, hHeld, g9⟩
set_option maxHeartbeats 4000000 in
theorem unitPut_r6 (W0 : World) (gp : Nat) (r0 : Value) (sb : Option Addr) (n2 cb N : Nat) (E M : List UInt8) (hgp : gp < W0.heap.size) (C3 : W0.cell? ⟨gp, 3, none⟩ = some (.slice sb n2 cb)) (hn : N ≤ 5000) (hn2 : n2 ≤ 5000) (hE : E.length = N) (HP : Hid (∀ W : World, Below W0.heap.size W0 W → Calls Tryd.prog 20 #[r0, .int .i64 2, .int .i64 n2] W fun e w' => ∃ r, e = .returned r ∧ w'.ownsRow W.heap.size 5 1 r (N + 2) (bytesV (E ++ putL 2 n2)) ∧ Below W.heap.size W w')) (HM : Hid (∀ W : World, Below W0.heap.size W0 W → Calls Tryd.prog 19 #[.slice sb n2 cb] W fun e w' => ∃ r, e = .returned r ∧ w'.ownsRow W.heap.size 5 1 r n2 (bytesV M) ∧ Below W.heap.size W w')) (i : TypeInfo) (hi : Tryd.prog.info? 5 = some i) (hz : i.zero = some (.int .u8 0)) (hsize : i.size = 1) (hby : i.bytes = 1) (t0 t2 t3 t5 t6 t7 t8 t9 t10 t11 t12 t13 t14 t15 t16 t17 t18 t19 t20 t21 t22 t23 t24 t25 t26 t27 t28 t29 t30 t31 t32 t33 t34 t35 t36 t37 t38 t39 t40 t41 t42 t43 t44 t45 t46 t47 t48 t49 t50 t51 : Value) :
    (Code.region 6 #[{ dst := some 30, op := Op.move (Operand.tmp 4), type := 28, pos := "unit.go:75", after := #[], guard := none }, { dst := some 31, op := Op.fieldAddr 25 (Operand.tmp 1) 3, type := 0, pos := "unit.go:75", after := #[], guard := none }, { dst := some 32, op := Op.load 22 (Operand.tmp 31), type := 22, pos := "unit.go:75", after := #[{ on := 1, ground := Ground.data }], guard := none }, { dst := some 33, op := Op.call { callee := Callee.builtin Builtin.len, args := #[Operand.tmp 32], argTypes := #[22] }, type := 3, pos := "unit.go:75", after := #[{ on := 2, ground := Ground.data }], guard := none }, { dst := some 34, op := Op.call { callee := Callee.value (Operand.func 20), args := #[Operand.tmp 30, Operand.const (Value.int IntKind.i64 2), Operand.tmp 33], argTypes := #[28, 3, 3] }, type := 28, pos := "unit.go:75", after := #[{ on := 0, ground := Ground.data }, { on := 3, ground := Ground.data }], guard := none }, { dst := some 35, op := Op.fieldAddr 25 (Operand.tmp 1) 3, type := 0, pos := "unit.go:75", after := #[], guard := none }, { dst := some 36, op := Op.load 22 (Operand.tmp 35), type := 22, pos := "unit.go:75", after := #[{ on := 5, ground := Ground.data }], guard := none }, { dst := some 37, op := Op.call { callee := Callee.value (Operand.func 19), args := #[Operand.tmp 36], argTypes := #[22] }, type := 28, pos := "unit.go:75", after := #[{ on := 6, ground := Ground.data }, { on := 4, ground := Ground.chain }], guard := none }, { dst := some 38, op := Op.call { callee := Callee.builtin Builtin.append, args := #[Operand.tmp 34, Operand.tmp 37], argTypes := #[28, 28] }, type := 28, pos := "unit.go:75", after := #[{ on := 4, ground := Ground.data }, { on := 7, ground := Ground.data }, { on := 7, ground := Ground.chain }], guard := none }, { dst := some 4, op := Op.assign (Operand.tmp 38), type := 28, pos := "unit.go:75", after := #[{ on := 8, ground := Ground.data }, { on := 8, ground := Ground.chain }, { on := 0, ground := Ground.phase }, { on := 1, ground := Ground.phase }, { on := 2, ground := Ground.phase }, { on := 3, ground := Ground.phase }, { on := 4, ground := Ground.phase }, { on := 5, ground := Ground.phase }, { on := 6, ground := Ground.phase }, { on := 7, ground := Ground.phase }, { on := 8, ground := Ground.phase }], guard := none }] true).wp Tryd.prog (fun e b v => e = Exit.normal ∧ ∃ u4 u30 u31 u32 u33 u34 u35 u36 u37 u38 : Value, b = ⟨#[t0, .pointer (some ⟨gp, 0, none⟩), t2, t3, u4, t5, t6, t7, t8, t9, t10, t11, t12, t13, t14, t15, t16, t17, t18, t19, t20, t21, t22, t23, t24, t25, t26, t27, t28, t29, u30, u31, u32, u33, u34, u35, u36, u37, u38, t39, t40, t41, t42, t43, t44, t45, t46, t47, t48, t49, t50, t51], []⟩ ∧ Below W0.heap.size W0 v ∧ (v.ownsRow W0.heap.size 5 1 u4 (N + 2 + n2) (bytesV (E ++ putL 2 n2) ++ bytesV M))) ⟨#[t0, .pointer (some ⟨gp, 0, none⟩), t2, t3, r0, t5, t6, t7, t8, t9, t10, t11, t12, t13, t14, t15, t16, t17, t18, t19, t20, t21, t22, t23, t24, t25, t26, t27, t28, t29, t30, t31, t32, t33, t34, t35, t36, t37, t38, t39, t40, t41, t42, t43, t44, t45, t46, t47, t48, t49, t50, t51], []⟩ W0 := by
  refine wp_region_facts (n := 10) (fun L b v => ∃ u4 u30 u31 u32 u33 u34 u35 u36 u37 u38 : Value, b = ⟨#[t0, .pointer (some ⟨gp, 0, none⟩), t2, t3, u4, t5, t6, t7, t8, t9, t10, t11, t12, t13, t14, t15, t16, t17, t18, t19, t20, t21, t22, t23, t24, t25, t26, t27, t28, t29, u30, u31, u32, u33, u34, u35, u36, u37, u38, t39, t40, t41, t42, t43, t44, t45, t46, t47, t48, t49, t50, t51], []⟩ ∧ Below W0.heap.size W0 v ∧ (L.getD 0 false = true → u30 = r0) ∧ (L.getD 1 false = true → u31 = .pointer (some ⟨gp, 3, none⟩)) ∧ (L.getD 2 false = true → u32 = .slice sb n2 cb) ∧ (L.getD 3 false = true → u33 = .int .i64 n2) ∧ (L.getD 4 false = true → L.getD 8 true = false → v.ownsRow W0.heap.size 5 1 u34 (N + 2) (bytesV (E ++ putL 2 n2))) ∧ (L.getD 5 false = true → u35 = .pointer (some ⟨gp, 3, none⟩)) ∧ (L.getD 6 false = true → u36 = .slice sb n2 cb) ∧ (L.getD 7 false = true → L.getD 8 true = false → v.ownsRow W0.heap.size 5 1 u37 n2 (bytesV M)) ∧ (L.getD 8 false = true → v.ownsRow W0.heap.size 5 1 u38 (N + 2 + n2) (bytesV (E ++ putL 2 n2) ++ bytesV M)) ∧ (L.getD 9 false = true → v.ownsRow W0.heap.size 5 1 u4 (N + 2 + n2) (bytesV (E ++ putL 2 n2) ++ bytesV M)) ∧ (L.getD 9 false = false → u4 = r0)) (by kernel_rfl) (by kernel_rfl) (by kernel_rfl) ?_ ?_ ?_
  · refine ⟨_, _, _, _, _, _, _, _, _, _, rfl, (Below.refl _ _).drew, flag_new, flag_new, flag_new, flag_new, flag_new, flag_new, flag_new, flag_new, flag_new, flag_new, fun _ => (by first | rfl | assumption)⟩
  · refine AllSteps.succ (AllSteps.succ (AllSteps.succ (AllSteps.succ (AllSteps.succ (AllSteps.succ (AllSteps.succ (AllSteps.succ (AllSteps.succ (AllSteps.succ AllSteps.zero ?_) ?_) ?_) ?_) ?_) ?_) ?_) ?_) ?_) ?_
    · refine StepAt.mk (o := { dst := some 30, op := Op.move (Operand.tmp 4), type := 28, pos := _, after := #[], guard := none }) (ws := []) rfl (by kernel_rfl) ?_
      intro L b v hC h0 hA h
      refine h.elim ?_; clear h; intro u4 h
      refine h.elim ?_; clear h; intro u30 h
      refine h.elim ?_; clear h; intro u31 h
      refine h.elim ?_; clear h; intro u32 h
      refine h.elim ?_; clear h; intro u33 h
      refine h.elim ?_; clear h; intro u34 h
      refine h.elim ?_; clear h; intro u35 h
      refine h.elim ?_; clear h; intro u36 h
      refine h.elim ?_; clear h; intro u37 h
      refine h.elim ?_; clear h; intro u38 h
      have hbb := h.1; replace h := h.2; subst hbb
      have hHeld := h.1; replace h := h.2
      have f0 := h.1; replace h := h.2
      have f1 := h.1; replace h := h.2
      have f2 := h.1; replace h := h.2
      have f3 := h.1; replace h := h.2
      have f4 := h.1; replace h := h.2
      have f5 := h.1; replace h := h.2
      have f6 := h.1; replace h := h.2
      have f7 := h.1; replace h := h.2
      have f8 := h.1; replace h := h.2
      have f9 := h.1; replace h := h.2
      have er := h; clear h
      intro K hK
      have dr := er (Bool.eq_false_iff.2 (fun h => getD_no h0 (hC.step (j := 9) (k := 0) h (by kernel_rfl))))
      obtain rfl := dr
      rw [if_pos (by kernel_rfl)]
      have q0 := cellB hHeld C3 hgp
      go_simp
      try simp only [Act.put, List.setIfInBounds_toArray, List.set_cons_zero, List.set_cons_succ]
      refine hK.out _ _ ⟨_, _, _, _, _, _, _, _, _, _, rfl, ?_, ?_, ?_, ?_, ?_, ?_, ?_, ?_, ?_, ?_, ?_, ?_⟩
      · first | exact hHeld | exact hHeld.trans (hb.mono hHeld.size) | (trace_state; fail)
      · intro _; first | rfl | (trace_state; fail)
      · first | exact flag_ne (by decide) f1 | exact fun _ => rfl
      · first | exact flag_ne (by decide) f2 | exact fun _ => rfl
      · first | exact flag_ne (by decide) f3 | exact fun _ => rfl
      · intro h _; rw [getD_set_ne false (by decide)] at h; exact (getD_no h0 (hC.step (j := 4) (k := 0) h (by kernel_rfl))).elim
      · first | exact flag_ne (by decide) f5 | exact fun _ => rfl
      · first | exact flag_ne (by decide) f6 | exact fun _ => rfl
      · intro h _; rw [getD_set_ne false (by decide)] at h; exact (getD_no h0 (hC.step (j := 4) (k := 0) (hC.step (j := 7) (k := 4) h (by kernel_rfl)) (by kernel_rfl))).elim
      · intro h; rw [getD_set_ne false (by decide)] at h; exact (getD_no h0 (hC.step (j := 4) (k := 0) (hC.step (j := 8) (k := 4) h (by kernel_rfl)) (by kernel_rfl))).elim
      · intro h; rw [getD_set_ne false (by decide)] at h; exact (getD_no h0 (hC.step (j := 9) (k := 0) h (by kernel_rfl))).elim
      · intro h; first | rfl | (rw [getD_set_ne false (by decide)] at h; have := er h; first | exact this | exact owns_below this hb | (trace_state; fail))
    · refine StepAt.mk (o := { dst := some 31, op := Op.fieldAddr 25 (Operand.tmp 1) 3, type := 0, pos := _, after := #[], guard := none }) (ws := []) rfl (by kernel_rfl) ?_
      intro L b v hC h0 hA h
      refine h.elim ?_; clear h; intro u4 h
      refine h.elim ?_; clear h; intro u30 h
      refine h.elim ?_; clear h; intro u31 h
      refine h.elim ?_; clear h; intro u32 h
      refine h.elim ?_; clear h; intro u33 h
      refine h.elim ?_; clear h; intro u34 h
      refine h.elim ?_; clear h; intro u35 h
      refine h.elim ?_; clear h; intro u36 h
      refine h.elim ?_; clear h; intro u37 h
      refine h.elim ?_; clear h; intro u38 h
      have hbb := h.1; replace h := h.2; subst hbb
      have hHeld := h.1; replace h := h.2
      have f0 := h.1; replace h := h.2
      have f1 := h.1; replace h := h.2
      have f2 := h.1; replace h := h.2
      have f3 := h.1; replace h := h.2
      have f4 := h.1; replace h := h.2
      have f5 := h.1; replace h := h.2
      have f6 := h.1; replace h := h.2
      have f7 := h.1; replace h := h.2
      have f8 := h.1; replace h := h.2
      have f9 := h.1; replace h := h.2
      have er := h; clear h
      intro K hK
      rw [if_pos (by kernel_rfl)]
      have q0 := cellB hHeld C3 hgp
      go_simp
      try simp only [Act.put, List.setIfInBounds_toArray, List.set_cons_zero, List.set_cons_succ]
      refine hK.out _ _ ⟨_, _, _, _, _, _, _, _, _, _, rfl, ?_, ?_, ?_, ?_, ?_, ?_, ?_, ?_, ?_, ?_, ?_, ?_⟩
      · first | exact hHeld | exact hHeld.trans (hb.mono hHeld.size) | (trace_state; fail)
      · first | exact flag_ne (by decide) f0 | exact fun _ => rfl
      · intro _; first | rfl | (trace_state; fail)
      · first | exact flag_ne (by decide) f2 | exact fun _ => rfl
      · first | exact flag_ne (by decide) f3 | exact fun _ => rfl
      · intro h _; rw [getD_set_ne false (by decide)] at h; exact (getD_no h0 (hC.step (j := 2) (k := 1) (hC.step (j := 3) (k := 2) (hC.step (j := 4) (k := 3) h (by kernel_rfl)) (by kernel_rfl)) (by kernel_rfl))).elim
      · first | exact flag_ne (by decide) f5 | exact fun _ => rfl
      · first | exact flag_ne (by decide) f6 | exact fun _ => rfl
      · intro h _; rw [getD_set_ne false (by decide)] at h; exact (getD_no h0 (hC.step (j := 2) (k := 1) (hC.step (j := 3) (k := 2) (hC.step (j := 4) (k := 3) (hC.step (j := 7) (k := 4) h (by kernel_rfl)) (by kernel_rfl)) (by kernel_rfl)) (by kernel_rfl))).elim
      · intro h; rw [getD_set_ne false (by decide)] at h; exact (getD_no h0 (hC.step (j := 2) (k := 1) (hC.step (j := 3) (k := 2) (hC.step (j := 4) (k := 3) (hC.step (j := 8) (k := 4) h (by kernel_rfl)) (by kernel_rfl)) (by kernel_rfl)) (by kernel_rfl))).elim
      · intro h; rw [getD_set_ne false (by decide)] at h; exact (getD_no h0 (hC.step (j := 9) (k := 1) h (by kernel_rfl))).elim
      · intro h; rw [getD_set_ne false (by decide)] at h; have := er h; first | exact this | exact owns_below this hb | (trace_state; fail)
    · refine StepAt.mk (o := { dst := some 32, op := Op.load 22 (Operand.tmp 31), type := 22, pos := _, after := #[{ on := 1, ground := Ground.data }], guard := none }) (ws := [1]) rfl (by kernel_rfl) ?_
      intro L b v hC h0 hA h
      refine h.elim ?_; clear h; intro u4 h
      refine h.elim ?_; clear h; intro u30 h
      refine h.elim ?_; clear h; intro u31 h
      refine h.elim ?_; clear h; intro u32 h
      refine h.elim ?_; clear h; intro u33 h
      refine h.elim ?_; clear h; intro u34 h
      refine h.elim ?_; clear h; intro u35 h
      refine h.elim ?_; clear h; intro u36 h
      refine h.elim ?_; clear h; intro u37 h
      refine h.elim ?_; clear h; intro u38 h
      have hbb := h.1; replace h := h.2; subst hbb
      have hHeld := h.1; replace h := h.2
      have f0 := h.1; replace h := h.2
      have f1 := h.1; replace h := h.2
      have f2 := h.1; replace h := h.2
      have f3 := h.1; replace h := h.2
      have f4 := h.1; replace h := h.2
      have f5 := h.1; replace h := h.2
      have f6 := h.1; replace h := h.2
      have f7 := h.1; replace h := h.2
      have f8 := h.1; replace h := h.2
      have f9 := h.1; replace h := h.2
      have er := h; clear h
      intro K hK
      have g1 := f1 (hA 1 (by simp))
      obtain rfl := g1
      rw [if_pos (by kernel_rfl)]
      have q0 := cellB hHeld C3 hgp
      go_simp
      try simp only [Act.put, List.setIfInBounds_toArray, List.set_cons_zero, List.set_cons_succ]
      refine hK.out _ _ ⟨_, _, _, _, _, _, _, _, _, _, rfl, ?_, ?_, ?_, ?_, ?_, ?_, ?_, ?_, ?_, ?_, ?_, ?_⟩
      · first | exact hHeld | exact hHeld.trans (hb.mono hHeld.size) | (trace_state; fail)
      · first | exact flag_ne (by decide) f0 | exact fun _ => rfl
      · first | exact flag_ne (by decide) f1 | exact fun _ => rfl
      · intro _; first | rfl | (trace_state; fail)
      · first | exact flag_ne (by decide) f3 | exact fun _ => rfl
      · intro h _; rw [getD_set_ne false (by decide)] at h; exact (getD_no h0 (hC.step (j := 3) (k := 2) (hC.step (j := 4) (k := 3) h (by kernel_rfl)) (by kernel_rfl))).elim
      · first | exact flag_ne (by decide) f5 | exact fun _ => rfl
      · first | exact flag_ne (by decide) f6 | exact fun _ => rfl
      · intro h _; rw [getD_set_ne false (by decide)] at h; exact (getD_no h0 (hC.step (j := 3) (k := 2) (hC.step (j := 4) (k := 3) (hC.step (j := 7) (k := 4) h (by kernel_rfl)) (by kernel_rfl)) (by kernel_rfl))).elim
      · intro h; rw [getD_set_ne false (by decide)] at h; exact (getD_no h0 (hC.step (j := 3) (k := 2) (hC.step (j := 4) (k := 3) (hC.step (j := 8) (k := 4) h (by kernel_rfl)) (by kernel_rfl)) (by kernel_rfl))).elim
      · intro h; rw [getD_set_ne false (by decide)] at h; exact (getD_no h0 (hC.step (j := 9) (k := 2) h (by kernel_rfl))).elim
      · intro h; rw [getD_set_ne false (by decide)] at h; have := er h; first | exact this | exact owns_below this hb | (trace_state; fail)
    · refine StepAt.mk (o := { dst := some 33, op := Op.call { callee := Callee.builtin Builtin.len, args := #[Operand.tmp 32], argTypes := #[22] }, type := 3, pos := _, after := #[{ on := 2, ground := Ground.data }], guard := none }) (ws := [2]) rfl (by kernel_rfl) ?_
      intro L b v hC h0 hA h
      refine h.elim ?_; clear h; intro u4 h
      refine h.elim ?_; clear h; intro u30 h
      refine h.elim ?_; clear h; intro u31 h
      refine h.elim ?_; clear h; intro u32 h
      refine h.elim ?_; clear h; intro u33 h
      refine h.elim ?_; clear h; intro u34 h
      refine h.elim ?_; clear h; intro u35 h
      refine h.elim ?_; clear h; intro u36 h
      refine h.elim ?_; clear h; intro u37 h
      refine h.elim ?_; clear h; intro u38 h
      have hbb := h.1; replace h := h.2; subst hbb
      have hHeld := h.1; replace h := h.2
      have f0 := h.1; replace h := h.2
      have f1 := h.1; replace h := h.2
      have f2 := h.1; replace h := h.2
      have f3 := h.1; replace h := h.2
      have f4 := h.1; replace h := h.2
      have f5 := h.1; replace h := h.2
      have f6 := h.1; replace h := h.2
      have f7 := h.1; replace h := h.2
      have f8 := h.1; replace h := h.2
      have f9 := h.1; replace h := h.2
      have er := h; clear h
      intro K hK
      have g2 := f2 (hA 2 (by simp))
      obtain rfl := g2
      rw [if_pos (by kernel_rfl)]
      have q0 := cellB hHeld C3 hgp
      go_simp
      try simp only [Act.put, List.setIfInBounds_toArray, List.set_cons_zero, List.set_cons_succ]
      refine hK.out _ _ ⟨_, _, _, _, _, _, _, _, _, _, rfl, ?_, ?_, ?_, ?_, ?_, ?_, ?_, ?_, ?_, ?_, ?_, ?_⟩
      · first | exact hHeld | exact hHeld.trans (hb.mono hHeld.size) | (trace_state; fail)
      · first | exact flag_ne (by decide) f0 | exact fun _ => rfl
      · first | exact flag_ne (by decide) f1 | exact fun _ => rfl
      · first | exact flag_ne (by decide) f2 | exact fun _ => rfl
      · intro _; first | rfl | (trace_state; fail)
      · intro h _; rw [getD_set_ne false (by decide)] at h; exact (getD_no h0 (hC.step (j := 4) (k := 3) h (by kernel_rfl))).elim
      · first | exact flag_ne (by decide) f5 | exact fun _ => rfl
      · first | exact flag_ne (by decide) f6 | exact fun _ => rfl
      · intro h _; rw [getD_set_ne false (by decide)] at h; exact (getD_no h0 (hC.step (j := 4) (k := 3) (hC.step (j := 7) (k := 4) h (by kernel_rfl)) (by kernel_rfl))).elim
      · intro h; rw [getD_set_ne false (by decide)] at h; exact (getD_no h0 (hC.step (j := 4) (k := 3) (hC.step (j := 8) (k := 4) h (by kernel_rfl)) (by kernel_rfl))).elim
      · intro h; rw [getD_set_ne false (by decide)] at h; exact (getD_no h0 (hC.step (j := 9) (k := 3) h (by kernel_rfl))).elim
      · intro h; rw [getD_set_ne false (by decide)] at h; have := er h; first | exact this | exact owns_below this hb | (trace_state; fail)
    · refine StepAt.mk (o := { dst := some 34, op := Op.call { callee := Callee.value (Operand.func 20), args := #[Operand.tmp 30, Operand.const (Value.int IntKind.i64 2), Operand.tmp 33], argTypes := #[28, 3, 3] }, type := 28, pos := _, after := #[{ on := 0, ground := Ground.data }, { on := 3, ground := Ground.data }], guard := none }) (ws := [0, 3]) rfl (by kernel_rfl) ?_
      intro L b v hC h0 hA h
      refine h.elim ?_; clear h; intro u4 h
      refine h.elim ?_; clear h; intro u30 h
      refine h.elim ?_; clear h; intro u31 h
      refine h.elim ?_; clear h; intro u32 h
      refine h.elim ?_; clear h; intro u33 h
      refine h.elim ?_; clear h; intro u34 h
      refine h.elim ?_; clear h; intro u35 h
      refine h.elim ?_; clear h; intro u36 h
      refine h.elim ?_; clear h; intro u37 h
      refine h.elim ?_; clear h; intro u38 h
      have hbb := h.1; replace h := h.2; subst hbb
      have hHeld := h.1; replace h := h.2
      have f0 := h.1; replace h := h.2
      have f1 := h.1; replace h := h.2
      have f2 := h.1; replace h := h.2
      have f3 := h.1; replace h := h.2
      have f4 := h.1; replace h := h.2
      have f5 := h.1; replace h := h.2
      have f6 := h.1; replace h := h.2
      have f7 := h.1; replace h := h.2
      have f8 := h.1; replace h := h.2
      have f9 := h.1; replace h := h.2
      have er := h; clear h
      intro K hK
      have g0 := f0 (hA 0 (by simp))
      have g3 := f3 (hA 3 (by simp))
      obtain rfl := g3
      rw [if_pos (by kernel_rfl)]
      have q0 := cellB hHeld C3 hgp
      go_simp
      refine (HP.out v hHeld).mono ?_; rintro e v1 ⟨r, rfl, HO, hb⟩
      go_wp2_with fail
      try simp only [Act.put, List.setIfInBounds_toArray, List.set_cons_zero, List.set_cons_succ]
      refine hK.out _ _ ⟨_, _, _, _, _, _, _, _, _, _, rfl, ?_, ?_, ?_, ?_, ?_, ?_, ?_, ?_, ?_, ?_, ?_, ?_⟩
      · first | exact hHeld | exact hHeld.trans (hb.mono hHeld.size) | (trace_state; fail)
      · first | exact flag_ne (by decide) f0 | exact fun _ => rfl
      · first | exact flag_ne (by decide) f1 | exact fun _ => rfl
      · first | exact flag_ne (by decide) f2 | exact fun _ => rfl
      · first | exact flag_ne (by decide) f3 | exact fun _ => rfl
      · intro _ _; first | (exact own_low HO hHeld.size) | (trace_state; fail)
      · first | exact flag_ne (by decide) f5 | exact fun _ => rfl
      · first | exact flag_ne (by decide) f6 | exact fun _ => rfl
      · intro h _; rw [getD_set_ne false (by decide)] at h; exact (getD_no h0 (hC.step (j := 7) (k := 4) h (by kernel_rfl))).elim
      · intro h; rw [getD_set_ne false (by decide)] at h; exact (getD_no h0 (hC.step (j := 8) (k := 4) h (by kernel_rfl))).elim
      · intro h; rw [getD_set_ne false (by decide)] at h; exact (getD_no h0 (hC.step (j := 9) (k := 4) h (by kernel_rfl))).elim
      · intro h; rw [getD_set_ne false (by decide)] at h; have := er h; first | exact this | exact owns_below this hb | (trace_state; fail)
    · refine StepAt.mk (o := { dst := some 35, op := Op.fieldAddr 25 (Operand.tmp 1) 3, type := 0, pos := _, after := #[], guard := none }) (ws := []) rfl (by kernel_rfl) ?_
      intro L b v hC h0 hA h
      refine h.elim ?_; clear h; intro u4 h
      refine h.elim ?_; clear h; intro u30 h
      refine h.elim ?_; clear h; intro u31 h
      refine h.elim ?_; clear h; intro u32 h
      refine h.elim ?_; clear h; intro u33 h
      refine h.elim ?_; clear h; intro u34 h
      refine h.elim ?_; clear h; intro u35 h
      refine h.elim ?_; clear h; intro u36 h
      refine h.elim ?_; clear h; intro u37 h
      refine h.elim ?_; clear h; intro u38 h
      have hbb := h.1; replace h := h.2; subst hbb
      have hHeld := h.1; replace h := h.2
      have f0 := h.1; replace h := h.2
      have f1 := h.1; replace h := h.2
      have f2 := h.1; replace h := h.2
      have f3 := h.1; replace h := h.2
      have f4 := h.1; replace h := h.2
      have f5 := h.1; replace h := h.2
      have f6 := h.1; replace h := h.2
      have f7 := h.1; replace h := h.2
      have f8 := h.1; replace h := h.2
      have f9 := h.1; replace h := h.2
      have er := h; clear h
      intro K hK
      rw [if_pos (by kernel_rfl)]
      have q0 := cellB hHeld C3 hgp
      go_simp
      try simp only [Act.put, List.setIfInBounds_toArray, List.set_cons_zero, List.set_cons_succ]
      refine hK.out _ _ ⟨_, _, _, _, _, _, _, _, _, _, rfl, ?_, ?_, ?_, ?_, ?_, ?_, ?_, ?_, ?_, ?_, ?_, ?_⟩
      · first | exact hHeld | exact hHeld.trans (hb.mono hHeld.size) | (trace_state; fail)
      · first | exact flag_ne (by decide) f0 | exact fun _ => rfl
      · first | exact flag_ne (by decide) f1 | exact fun _ => rfl
      · first | exact flag_ne (by decide) f2 | exact fun _ => rfl
      · first | exact flag_ne (by decide) f3 | exact fun _ => rfl
      · intro h h7; rw [getD_set_ne false (by decide)] at h; rw [getD_set_ne true (by decide)] at h7; have := f4 h h7; first | exact this | exact owns_below this hb | (trace_state; fail)
      · intro _; first | rfl | (trace_state; fail)
      · first | exact flag_ne (by decide) f6 | exact fun _ => rfl
      · intro h _; rw [getD_set_ne false (by decide)] at h; exact (getD_no h0 (hC.step (j := 6) (k := 5) (hC.step (j := 7) (k := 6) h (by kernel_rfl)) (by kernel_rfl))).elim
      · intro h; rw [getD_set_ne false (by decide)] at h; exact (getD_no h0 (hC.step (j := 6) (k := 5) (hC.step (j := 7) (k := 6) (hC.step (j := 8) (k := 7) h (by kernel_rfl)) (by kernel_rfl)) (by kernel_rfl))).elim
      · intro h; rw [getD_set_ne false (by decide)] at h; exact (getD_no h0 (hC.step (j := 9) (k := 5) h (by kernel_rfl))).elim
      · intro h; rw [getD_set_ne false (by decide)] at h; have := er h; first | exact this | exact owns_below this hb | (trace_state; fail)
    · refine StepAt.mk (o := { dst := some 36, op := Op.load 22 (Operand.tmp 35), type := 22, pos := _, after := #[{ on := 5, ground := Ground.data }], guard := none }) (ws := [5]) rfl (by kernel_rfl) ?_
      intro L b v hC h0 hA h
      refine h.elim ?_; clear h; intro u4 h
      refine h.elim ?_; clear h; intro u30 h
      refine h.elim ?_; clear h; intro u31 h
      refine h.elim ?_; clear h; intro u32 h
      refine h.elim ?_; clear h; intro u33 h
      refine h.elim ?_; clear h; intro u34 h
      refine h.elim ?_; clear h; intro u35 h
      refine h.elim ?_; clear h; intro u36 h
      refine h.elim ?_; clear h; intro u37 h
      refine h.elim ?_; clear h; intro u38 h
      have hbb := h.1; replace h := h.2; subst hbb
      have hHeld := h.1; replace h := h.2
      have f0 := h.1; replace h := h.2
      have f1 := h.1; replace h := h.2
      have f2 := h.1; replace h := h.2
      have f3 := h.1; replace h := h.2
      have f4 := h.1; replace h := h.2
      have f5 := h.1; replace h := h.2
      have f6 := h.1; replace h := h.2
      have f7 := h.1; replace h := h.2
      have f8 := h.1; replace h := h.2
      have f9 := h.1; replace h := h.2
      have er := h; clear h
      intro K hK
      have g5 := f5 (hA 5 (by simp))
      obtain rfl := g5
      rw [if_pos (by kernel_rfl)]
      have q0 := cellB hHeld C3 hgp
      go_simp
      try simp only [Act.put, List.setIfInBounds_toArray, List.set_cons_zero, List.set_cons_succ]
      refine hK.out _ _ ⟨_, _, _, _, _, _, _, _, _, _, rfl, ?_, ?_, ?_, ?_, ?_, ?_, ?_, ?_, ?_, ?_, ?_, ?_⟩
      · first | exact hHeld | exact hHeld.trans (hb.mono hHeld.size) | (trace_state; fail)
      · first | exact flag_ne (by decide) f0 | exact fun _ => rfl
      · first | exact flag_ne (by decide) f1 | exact fun _ => rfl
      · first | exact flag_ne (by decide) f2 | exact fun _ => rfl
      · first | exact flag_ne (by decide) f3 | exact fun _ => rfl
      · intro h h7; rw [getD_set_ne false (by decide)] at h; rw [getD_set_ne true (by decide)] at h7; have := f4 h h7; first | exact this | exact owns_below this hb | (trace_state; fail)
      · first | exact flag_ne (by decide) f5 | exact fun _ => rfl
      · intro _; first | rfl | (trace_state; fail)
      · intro h _; rw [getD_set_ne false (by decide)] at h; exact (getD_no h0 (hC.step (j := 7) (k := 6) h (by kernel_rfl))).elim
      · intro h; rw [getD_set_ne false (by decide)] at h; exact (getD_no h0 (hC.step (j := 7) (k := 6) (hC.step (j := 8) (k := 7) h (by kernel_rfl)) (by kernel_rfl))).elim
      · intro h; rw [getD_set_ne false (by decide)] at h; exact (getD_no h0 (hC.step (j := 9) (k := 6) h (by kernel_rfl))).elim
      · intro h; rw [getD_set_ne false (by decide)] at h; have := er h; first | exact this | exact owns_below this hb | (trace_state; fail)
    · refine StepAt.mk (o := { dst := some 37, op := Op.call { callee := Callee.value (Operand.func 19), args := #[Operand.tmp 36], argTypes := #[22] }, type := 28, pos := _, after := #[{ on := 6, ground := Ground.data }, { on := 4, ground := Ground.chain }], guard := none }) (ws := [6, 4]) rfl (by kernel_rfl) ?_
      intro L b v hC h0 hA h
      refine h.elim ?_; clear h; intro u4 h
      refine h.elim ?_; clear h; intro u30 h
      refine h.elim ?_; clear h; intro u31 h
      refine h.elim ?_; clear h; intro u32 h
      refine h.elim ?_; clear h; intro u33 h
      refine h.elim ?_; clear h; intro u34 h
      refine h.elim ?_; clear h; intro u35 h
      refine h.elim ?_; clear h; intro u36 h
      refine h.elim ?_; clear h; intro u37 h
      refine h.elim ?_; clear h; intro u38 h
      have hbb := h.1; replace h := h.2; subst hbb
      have hHeld := h.1; replace h := h.2
      have f0 := h.1; replace h := h.2
      have f1 := h.1; replace h := h.2
      have f2 := h.1; replace h := h.2
      have f3 := h.1; replace h := h.2
      have f4 := h.1; replace h := h.2
      have f5 := h.1; replace h := h.2
      have f6 := h.1; replace h := h.2
      have f7 := h.1; replace h := h.2
      have f8 := h.1; replace h := h.2
      have f9 := h.1; replace h := h.2
      have er := h; clear h
      intro K hK
      have g6 := f6 (hA 6 (by simp))
      obtain rfl := g6
      have g4 := f4 (hA 4 (by simp))
      rw [if_pos (by kernel_rfl)]
      have q0 := cellB hHeld C3 hgp
      go_simp
      refine (HM.out v hHeld).mono ?_; rintro e v1 ⟨r, rfl, HO, hb⟩
      go_wp2_with fail
      try simp only [Act.put, List.setIfInBounds_toArray, List.set_cons_zero, List.set_cons_succ]
      refine hK.out _ _ ⟨_, _, _, _, _, _, _, _, _, _, rfl, ?_, ?_, ?_, ?_, ?_, ?_, ?_, ?_, ?_, ?_, ?_, ?_⟩
      · first | exact hHeld | exact hHeld.trans (hb.mono hHeld.size) | (trace_state; fail)
      · first | exact flag_ne (by decide) f0 | exact fun _ => rfl
      · first | exact flag_ne (by decide) f1 | exact fun _ => rfl
      · first | exact flag_ne (by decide) f2 | exact fun _ => rfl
      · first | exact flag_ne (by decide) f3 | exact fun _ => rfl
      · intro h h7; rw [getD_set_ne false (by decide)] at h; rw [getD_set_ne true (by decide)] at h7; have := f4 h h7; first | exact this | exact owns_below this hb | (trace_state; fail)
      · first | exact flag_ne (by decide) f5 | exact fun _ => rfl
      · first | exact flag_ne (by decide) f6 | exact fun _ => rfl
      · intro _ _; first | (exact own_low HO hHeld.size) | (trace_state; fail)
      · intro h; rw [getD_set_ne false (by decide)] at h; exact (getD_no h0 (hC.step (j := 8) (k := 7) h (by kernel_rfl))).elim
      · intro h; rw [getD_set_ne false (by decide)] at h; exact (getD_no h0 (hC.step (j := 9) (k := 7) h (by kernel_rfl))).elim
      · intro h; rw [getD_set_ne false (by decide)] at h; have := er h; first | exact this | exact owns_below this hb | (trace_state; fail)
    · refine StepAt.mk (o := { dst := some 38, op := Op.call { callee := Callee.builtin Builtin.append, args := #[Operand.tmp 34, Operand.tmp 37], argTypes := #[28, 28] }, type := 28, pos := _, after := #[{ on := 4, ground := Ground.data }, { on := 7, ground := Ground.data }, { on := 7, ground := Ground.chain }], guard := none }) (ws := [4, 7, 7]) rfl (by kernel_rfl) ?_
      intro L b v hC h0 hA h
      refine h.elim ?_; clear h; intro u4 h
      refine h.elim ?_; clear h; intro u30 h
      refine h.elim ?_; clear h; intro u31 h
      refine h.elim ?_; clear h; intro u32 h
      refine h.elim ?_; clear h; intro u33 h
      refine h.elim ?_; clear h; intro u34 h
      refine h.elim ?_; clear h; intro u35 h
      refine h.elim ?_; clear h; intro u36 h
      refine h.elim ?_; clear h; intro u37 h
      refine h.elim ?_; clear h; intro u38 h
      have hbb := h.1; replace h := h.2; subst hbb
      have hHeld := h.1; replace h := h.2
      have f0 := h.1; replace h := h.2
      have f1 := h.1; replace h := h.2
      have f2 := h.1; replace h := h.2
      have f3 := h.1; replace h := h.2
      have f4 := h.1; replace h := h.2
      have f5 := h.1; replace h := h.2
      have f6 := h.1; replace h := h.2
      have f7 := h.1; replace h := h.2
      have f8 := h.1; replace h := h.2
      have f9 := h.1; replace h := h.2
      have er := h; clear h
      intro K hK
      have g4 := f4 (hA 4 (by simp)) h0
      have g7 := f7 (hA 7 (by simp)) h0
      rw [if_pos (by kernel_rfl)]
      have q0 := cellB hHeld C3 hgp
      refine wp_append_src (.tmp 34) (.tmp 37) 28 rfl W0.heap.size 5 i (.int .u8 0) 1 1 Tryd.underlying28 hi hz hsize hby rfl (by omega) _ (N + 2) _ rfl g4 _ n2 _ rfl (src_own g7) (by have := g7.1; omega) (bytesV_one _) (by unfold maxLen; omega) (by omega) hHeld.size ?_; intro v' w' HO hG
      try simp only [Act.put, List.setIfInBounds_toArray, List.set_cons_zero, List.set_cons_succ]
      refine hK.out _ _ ⟨_, _, _, _, _, _, _, _, _, _, rfl, ?_, ?_, ?_, ?_, ?_, ?_, ?_, ?_, ?_, ?_, ?_, ?_⟩
      · exact grown3 hHeld hHeld.size g4 hG
      · first | exact flag_ne (by decide) f0 | exact fun _ => rfl
      · first | exact flag_ne (by decide) f1 | exact fun _ => rfl
      · first | exact flag_ne (by decide) f2 | exact fun _ => rfl
      · first | exact flag_ne (by decide) f3 | exact fun _ => rfl
      · intro _ h7; rw [getD_set_self] at h7; cases h7
      · first | exact flag_ne (by decide) f5 | exact fun _ => rfl
      · first | exact flag_ne (by decide) f6 | exact fun _ => rfl
      · intro _ h7; rw [getD_set_self] at h7; cases h7
      · intro _; first | exact HO | (trace_state; fail)
      · intro h; rw [getD_set_ne false (by decide)] at h; exact (getD_no h0 (hC.step (j := 9) (k := 8) h (by kernel_rfl))).elim
      · intro h; rw [getD_set_ne false (by decide)] at h; have := er h; first | exact this | exact owns_below this hb | (trace_state; fail)
    · refine StepAt.mk (o := { dst := some 4, op := Op.assign (Operand.tmp 38), type := 28, pos := _, after := #[{ on := 8, ground := Ground.data }, { on := 8, ground := Ground.chain }, { on := 0, ground := Ground.phase }, { on := 1, ground := Ground.phase }, { on := 2, ground := Ground.phase }, { on := 3, ground := Ground.phase }, { on := 4, ground := Ground.phase }, { on := 5, ground := Ground.phase }, { on := 6, ground := Ground.phase }, { on := 7, ground := Ground.phase }, { on := 8, ground := Ground.phase }], guard := none }) (ws := [8, 8, 0, 1, 2, 3, 4, 5, 6, 7, 8]) rfl (by kernel_rfl) ?_
      intro L b v hC h0 hA h
      refine h.elim ?_; clear h; intro u4 h
      refine h.elim ?_; clear h; intro u30 h
      refine h.elim ?_; clear h; intro u31 h
      refine h.elim ?_; clear h; intro u32 h
      refine h.elim ?_; clear h; intro u33 h
      refine h.elim ?_; clear h; intro u34 h
      refine h.elim ?_; clear h; intro u35 h
      refine h.elim ?_; clear h; intro u36 h
      refine h.elim ?_; clear h; intro u37 h
      refine h.elim ?_; clear h; intro u38 h
      have hbb := h.1; replace h := h.2; subst hbb
      have hHeld := h.1; replace h := h.2
      have f0 := h.1; replace h := h.2
      have f1 := h.1; replace h := h.2
      have f2 := h.1; replace h := h.2
      have f3 := h.1; replace h := h.2
      have f4 := h.1; replace h := h.2
      have f5 := h.1; replace h := h.2
      have f6 := h.1; replace h := h.2
      have f7 := h.1; replace h := h.2
      have f8 := h.1; replace h := h.2
      have f9 := h.1; replace h := h.2
      have er := h; clear h
      intro K hK
      have g8 := f8 (hA 8 (by simp))
      have g0 := f0 (hA 0 (by simp))
      have g1 := f1 (hA 1 (by simp))
      obtain rfl := g1
      have g2 := f2 (hA 2 (by simp))
      obtain rfl := g2
      have g3 := f3 (hA 3 (by simp))
      obtain rfl := g3
      have g4 := f4 (hA 4 (by simp))
      have g5 := f5 (hA 5 (by simp))
      obtain rfl := g5
      have g6 := f6 (hA 6 (by simp))
      obtain rfl := g6
      have g7 := f7 (hA 7 (by simp))
      rw [if_pos (by kernel_rfl)]
      have q0 := cellB hHeld C3 hgp
      go_simp
      try simp only [Act.put, List.setIfInBounds_toArray, List.set_cons_zero, List.set_cons_succ]
      refine hK.out _ _ ⟨_, _, _, _, _, _, _, _, _, _, rfl, ?_, ?_, ?_, ?_, ?_, ?_, ?_, ?_, ?_, ?_, ?_, ?_⟩
      · first | exact hHeld | exact hHeld.trans (hb.mono hHeld.size) | (trace_state; fail)
      · first | exact flag_ne (by decide) f0 | exact fun _ => rfl
      · first | exact flag_ne (by decide) f1 | exact fun _ => rfl
      · first | exact flag_ne (by decide) f2 | exact fun _ => rfl
      · first | exact flag_ne (by decide) f3 | exact fun _ => rfl
      · intro _ h7; rw [getD_set_ne true (by decide)] at h7; exact (getD_no h7 (hA 8 (by simp))).elim
      · first | exact flag_ne (by decide) f5 | exact fun _ => rfl
      · first | exact flag_ne (by decide) f6 | exact fun _ => rfl
      · intro _ h7; rw [getD_set_ne true (by decide)] at h7; exact (getD_no h7 (hA 8 (by simp))).elim
      · intro h; rw [getD_set_ne false (by decide)] at h; have := f8 h; first | exact this | exact owns_below this hb | (trace_state; fail)
      · intro _; first | exact g8 | (trace_state; fail)
      · intro h; rw [getD_set_done h0] at h; cases h
  intro L b v hA h
  refine h.elim ?_; clear h; intro u4 h
  refine h.elim ?_; clear h; intro u30 h
  refine h.elim ?_; clear h; intro u31 h
  refine h.elim ?_; clear h; intro u32 h
  refine h.elim ?_; clear h; intro u33 h
  refine h.elim ?_; clear h; intro u34 h
  refine h.elim ?_; clear h; intro u35 h
  refine h.elim ?_; clear h; intro u36 h
  refine h.elim ?_; clear h; intro u37 h
  refine h.elim ?_; clear h; intro u38 h
  have hbb := h.1; replace h := h.2; subst hbb
  have hHeld := h.1; replace h := h.2
  have f0 := h.1; replace h := h.2
  have f1 := h.1; replace h := h.2
  have f2 := h.1; replace h := h.2
  have f3 := h.1; replace h := h.2
  have f4 := h.1; replace h := h.2
  have f5 := h.1; replace h := h.2
  have f6 := h.1; replace h := h.2
  have f7 := h.1; replace h := h.2
  have f8 := h.1; replace h := h.2
  have f9 := h.1; replace h := h.2
  have er := h; clear h
  clear er
  have g0 := f0 (hA 0 (by omega))
  clear f0
  have g1 := f1 (hA 1 (by omega))
  clear f1
  obtain rfl := g1
  have g2 := f2 (hA 2 (by omega))
  clear f2
  obtain rfl := g2
  have g3 := f3 (hA 3 (by omega))
  clear f3
  obtain rfl := g3
  clear f4
  have g5 := f5 (hA 5 (by omega))
  clear f5
  obtain rfl := g5
  have g6 := f6 (hA 6 (by omega))
  clear f6
  obtain rfl := g6
  clear f7
  have g8 := f8 (hA 8 (by omega))
  clear f8
  have g9 := f9 (hA 9 (by omega))
  clear f9
  clear hA
  exact ⟨rfl, _, _, _, _, _, _, _, _, _, _, rfl, hHeld, g9⟩
end Go.Proofs.YtpeogdbfhfkngaaDoor

/- Layer 15: a unit's bytes, by the program. -/
namespace Go.Proofs.YtpeogdbfhfkngaaDoor
open Go.RowKit
set_option linter.unusedSimpArgs false
set_option linter.unusedVariables false
def putU (x : Un) : List UInt8 := (((((UInt8.ofNat x.name.length :: x.name) ++ [byteO x.params.length] ++ x.params.map byteO ++ [byteO x.result]) ++ putL 2 x.locals.length) ++ x.locals.map byteO) ++ putL 2 x.code.length) ++ encO x.code
def putO (x : Un) : List UInt8 := if fitU x = true then putU x else []
theorem putO_yes {x : Un} (h : fitU x = true) : putO x = putU x := if_pos h
theorem putO_no {x : Un} (h : fitU x = false) : putO x = [] := by unfold putO; rw [h]; exact if_neg (by decide)
theorem bytesV_byteO (L : List UInt8) (z : Int) : bytesV L ++ [.int .u8 (z % 256)] = bytesV (L ++ [byteO z]) := by rw [bytesV_snoc, byteO_val]
theorem row_nil_at (w : World) : RowAt w (.slice none 0 0) ([] : List UInt8).length (byteV []) := Or.inl ⟨none, 0, rfl, rfl, fun _ => rfl⟩
theorem text_nil (nm : ByteArray) (h : nm.size ≤ 255) : [] ++ [UInt8.ofNat (cut255 nm).size] ++ (cut255 nm).data.toList = UInt8.ofNat nm.size :: nm.data.toList := by
  have : cut255 nm = nm := by unfold cut255; rw [if_neg (by omega)]
  rw [this]; rfl
set_option maxHeartbeats 4000000 in
theorem unit_Put (a b c : Value) (x : Un) (w : World) (hT : STab w) (h : UnAt w a b c x) (hl : x.params.length ≤ 1000 ∧ x.locals.length ≤ 4000 ∧ x.code.length ≤ 1000) :
    Calls Tryd.prog 8 #[.agg #[.string ⟨x.name.toArray⟩, a, .int .i64 x.result, b, c]] w fun e w' => ∃ r, e = .returned (.tuple #[r, .bool (fitU x)]) ∧ RowAt w' r (putO x).length (byteV (putO x)) ∧ Below w.heap.size w w' := by
  obtain ⟨i, hi, hz, hsize, hby⟩ : ∃ i, Tryd.prog.info? 5 = some i ∧ i.zero = some (.int .u8 0) ∧ i.size = 1 ∧ i.bytes = 1 := ⟨(Tryd.prog.info? 5).get!, by kernel_rfl, by kernel_rfl, by kernel_rfl, by kernel_rfl⟩
  have HF := Lib.hid (fun W (hb : Below w.heap.size w W) => unit_Fits a b c x W (hT.below hb) (h.below hb))
  have HM1 := Lib.hid (fun W (hb : Below w.heap.size w W) => unit_bytesOf a x.params W (h.ps.below intR_stable hb) (by omega))
  have HM2 := Lib.hid (fun W (hb : Below w.heap.size w W) => unit_bytesOf b x.locals W (h.ls.below intR_stable hb) (by omega))
  have HE := Lib.hid (fun W (hb : Below w.heap.size w W) => code_Encode c x.code W (hT.below hb) (h.cs.below insR_stable hb) hl.2.2)
  obtain ⟨sa, ca, ea⟩ := row_get h.ps
  obtain ⟨sb, cb, eb⟩ := row_get h.ls
  obtain ⟨sc, cc, ec⟩ := row_get h.cs
  subst ea eb ec
  clear h hT
  cases hf : fitU x
  · rw [hf] at HF
    have hs := Lib.hid (putO_no hf)
    generalize (⟨x.name.toArray⟩ : ByteArray) = nm at *
    generalize x.params.length = n1 at *
    generalize x.locals.length = n2 at *
    generalize x.code.length = n3 at *
    generalize x.result = rs at *
    have hB0 : Below w.heap.size w (w.alloc (.cells #[.string nm, .slice sa n1 ca, .int .i64 rs, .slice sb n2 cb, .slice sc n3 cc] 25)) := (Below.refl _ _).alloc (Nat.le_refl _) _
    clear hf
    go_enter Tryd.func8, Tryd.ntmps8
    go_wp2_with fail
    refine (HF.out _ hB0).mono ?_; rintro e w1 ⟨rfl, hb1⟩
    have hB1 := hB0.trans (hb1.mono hB0.size)
    go_wp2_with fail
    go_returns
    exact ⟨_, rfl, by rw [hs.out]; exact row_nil_at _, hB1⟩
  rw [hf] at HF
  obtain ⟨hlen, hp, hq, hr, hc⟩ := fitU_is hf
  have hnm : (⟨x.name.toArray⟩ : ByteArray).size = x.name.length := by simp [ByteArray.size]
  have htn := text_nil ⟨x.name.toArray⟩ (by rw [hnm]; exact hlen.1)
  rw [hnm] at htn
  have hcut : (cut255 ⟨x.name.toArray⟩).size = x.name.length := by unfold cut255; rw [if_neg (by rw [hnm]; have := hlen.1; omega)]; exact hnm
  have HT := Lib.hid (fun W : World => (octet_Text (.slice none 0 0) [] ⟨x.name.toArray⟩ W (row_nil_at W) (by simp)).mono (R' := fun e w' => ∃ r, e = .returned r ∧ w'.ownsRow W.heap.size 5 1 r (1 + x.name.length) (bytesV (UInt8.ofNat x.name.length :: x.name)) ∧ Below W.heap.size W w') (by rintro e w' ⟨r, h1, h2, h3⟩; rw [htn, hcut] at h2; exact ⟨r, h1, by simpa using h2, h3⟩))
  have HPO := Lib.hid (putO_yes hf)
  have HPU := Lib.hid (show putU x = (((((UInt8.ofNat x.name.length :: x.name) ++ [byteO x.params.length] ++ x.params.map byteO ++ [byteO x.result]) ++ putL 2 x.locals.length) ++ x.locals.map byteO) ++ putL 2 x.code.length) ++ encO x.code from rfl)
  rw [hc] at HE
  have hEl : (encO x.code).length ≤ 5000 := by rw [encO_yes hc, enc_len]; omega
  have hTl : (UInt8.ofNat x.name.length :: x.name).length = 1 + x.name.length := by simp; omega
  have hn0 : x.name.length ≤ 255 := hlen.1
  have hM1 : (x.params.map byteO).length = x.params.length := by simp
  have hM2 : (x.locals.map byteO).length = x.locals.length := by simp
  have hp2 : ∀ z : Int, (putL 2 z).length = 2 := fun z => putL_len 2 z
  have hn8 : (near8 2).toNat = 2 := by decide
  clear hf hlen hp hq hr hc hnm htn hcut
  generalize encO x.code = EC at *
  generalize (UInt8.ofNat x.name.length :: x.name) = T at *
  generalize x.params.map byteO = M1 at *
  generalize x.locals.map byteO = M2 at *
  generalize (⟨x.name.toArray⟩ : ByteArray) = nm at *
  generalize x.name.length = n0 at *
  generalize x.params.length = n1 at *
  generalize x.locals.length = n2 at *
  generalize x.code.length = n3 at *
  generalize x.result = rs at *
  obtain ⟨W0, hW0⟩ : ∃ W0, W0 = w.alloc (.cells #[.string nm, .slice sa n1 ca, .int .i64 rs, .slice sb n2 cb, .slice sc n3 cc] 25) := ⟨_, rfl⟩
  have hB0 : Below w.heap.size w W0 := by rw [hW0]; exact (Below.refl _ _).alloc (Nat.le_refl _) _
  have K0 := Lib.hid (show Boxed W0 w.heap.size [.string nm, .slice sa n1 ca, .int .i64 rs, .slice sb n2 cb, .slice sc n3 cc] by rw [hW0]; exact Boxed.new w _ _ (Below.refl _ _))
  have hz0 : w.heap.size < W0.heap.size := by rw [hW0]; simp
  have HW0 := Lib.hid hW0
  have HL := Lib.hid hl
  clear hW0 hl
  go_enter Tryd.func8, Tryd.ntmps8
  go_wp2_with fail
  refine (HF.out _ (by rw [← HW0.out]; exact hB0)).mono ?_; rintro e W1 ⟨rfl, hb1⟩
  rw [← HW0.out] at hb1
  have hB1 := hB0.trans (hb1.mono hB0.size)
  have hz1 : w.heap.size < W1.heap.size := Nat.lt_of_lt_of_le hz0 hb1.size
  have K := Lib.hid (K0.out.keep hz0 hb1)
  clear HW0 K0 HF hb1 hB0 hz0
  clear W0
  go_wp2_with fail
  obtain ⟨l1, l2, l3⟩ := HL.out
  refine Code.wp_mono ?_ (unitPut_r3 W1 w.heap.size nm sa n1 ca (1 + n0) T hz1 (K.out 0 _ rfl) (K.out 1 _ rfl) (by omega) (by omega) hTl HT i hi hz hsize hby _ _ _ _ _ _ _ _ _ _ _ _ _ _ _ _ _ _ _ _ _ _ _ _ _ _ _ _ _ _ _ _ _ _ _ _ _ _ _ _ _ _ _ _ _ _ _ _ _ _ _)
  rintro e bb v2 ⟨rfl, u4, u10, u11, u12, u13, u14, u15, u16, u17, u18, rfl, hH2, g9⟩
  rw [bytesV_byteO] at g9
  have HO2 := Lib.hid g9
  have hB2 := hB1.trans (hH2.mono hB1.size)
  have c1 := (K.out.keep hz1 hH2) 1 _ rfl
  clear g9 HT l1 l2 l3
  go_wp2_with fail
  refine (HM1.out _ hB2).mono ?_; rintro e w3 ⟨r3, rfl, hr3, hb3⟩
  have hH3 := hH2.trans (hb3.mono hH2.size)
  have HO3 := Lib.hid (owns_below HO2.out hb3)
  have HR3 := Lib.hid hr3
  have hBw := hB1.trans (hH3.mono hB1.size)
  clear c1 hr3 hb3
  obtain ⟨l1, l2, l3⟩ := HL.out
  go_wp2_with (first | (at_builtin; go_loud (refine wpList_append_src rfl (.tmp 19) (.tmp 22) 28 rfl W1.heap.size 5 i (.int .u8 0) 1 1 Tryd.underlying28 hi hz hsize hby rfl (by omega) _ (1 + n0 + 1) _ rfl HO3.out _ n1 _ rfl (src_own HR3.out) (by have := HR3.out.1; omega) (bytesV_one _) (by unfold maxLen; omega) (by omega) hH3.size ?_; intro v4 w4 hO4 hG4; have hH4 := grown3 hH3 hH3.size HO3.out hG4; have HO4 := Lib.hid hO4; have c2 := (K.out.keep hz1 hH4) 2 _ rfl; clear hO4 hG4)) | (at_builtin; go_loud (refine wpList_append_src rfl (.tmp 24) (.tmp 28) 28 rfl W1.heap.size 5 i (.int .u8 0) 1 1 Tryd.underlying28 hi hz hsize hby rfl (by omega) _ (1 + n0 + 1 + n1) _ rfl (owns_below HO4.out ((Below.refl _ _).alloc (Nat.le_refl _) _)) _ 1 [.int .u8 (rs % 256)] rfl (src_new _ _ _) rfl (by intro u hu; simp at hu; rw [hu]; rfl) (by unfold maxLen; omega) (by omega) (by simp; have := hH4.size; omega) ?_; intro v5 w5 hO5 hG5; have hH5 := grown3 (hH4.alloc hH4.size _) (by simp; have := hH4.size; omega) (owns_below HO4.out ((Below.refl _ _).alloc (Nat.le_refl _) _)) hG5; have HO5 := Lib.hid hO5; clear hO5 hG5 c2)) | fail)
  have hB5 := hB1.trans (hH5.mono hB1.size)
  have hz5 : w.heap.size < w5.heap.size := Nat.lt_of_lt_of_le hz1 hH5.size
  have K5 := Lib.hid (K.out.keep hz1 hH5)
  obtain ⟨E, hE⟩ : ∃ E, E = T ++ [byteO n1] ++ M1 ++ [byteO rs] := ⟨_, rfl⟩
  have hEn : E.length = 1 + n0 + 1 + n1 + 1 := by rw [hE]; simp only [List.length_append, List.length_cons, List.length_nil, hTl, hM1]
  have HO5 := Lib.hid (show w5.ownsRow W1.heap.size 5 1 v5 E.length (bytesV E) by
    refine own_eq2 HO5.out (by omega) ?_
    rw [hE, bytesV_snoc (T ++ [byteO n1] ++ M1) (byteO rs), bytesV_app (T ++ [byteO n1]) M1, byteO_val])
  rw [← hE] at HPU
  clear hE
  refine Code.wp_mono ?_ (unitPut_r6 w5 w.heap.size v5 sb n2 cb E.length E M2 hz5 (K5.out 3 _ rfl) (by omega) (by omega) rfl (Lib.hid (fun W hW => by
    have := octet_Put v5 E 2 n2 W (owns_bytes (owns_below HO5.out hW) rfl) (by omega)
    rw [hn8] at this
    exact this)) (Lib.hid (fun W hW => HM2.out W (hB5.trans (hW.mono hB5.size)))) i hi hz hsize hby _ _ _ _ _ _ _ _ _ _ _ _ _ _ _ _ _ _ _ _ _ _ _ _ _ _ _ _ _ _ _ _ _ _ _ _ _ _ _ _ _ _ _ _ _ _ _ _ _ _)
  rintro e bb v6 ⟨rfl, u4, u30, u31, u32, u33, u34, u35, u36, u37, u38, rfl, hH6, g9⟩
  have hB6 := hB5.trans (hH6.mono hB5.size)
  have hz6 : w.heap.size < v6.heap.size := Nat.lt_of_lt_of_le hz5 hH6.size
  have K6 := Lib.hid (K5.out.keep hz5 hH6)
  obtain ⟨F, hF⟩ : ∃ F, F = E ++ putL 2 n2 ++ M2 := ⟨_, rfl⟩
  have hFn : F.length = E.length + 2 + n2 := by rw [hF]; simp only [List.length_append, hp2, hM2]
  have HF := Lib.hid (owns_bytes (L := F) (own_eq2 g9 (by omega) (by rw [hF, bytesV_app (E ++ putL 2 n2)])) rfl)
  rw [← hF] at HPU
  have c4 := K6.out 4 _ rfl
  clear hF g9
  go_wp2_with fail
  refine (HE.out _ hB6).mono ?_; rintro e w7 ⟨r7, rfl, hr7, hb7⟩
  have hB7 := hB6.trans (hb7.mono hB6.size)
  have HF7 := Lib.hid (HF.out.below hb7)
  have HR7 := Lib.hid hr7
  have c4 := (K6.out.keep hz6 hb7) 4 _ rfl
  clear hr7
  go_wp2_with fail
  refine (octet_Put u4 F 2 n3 w7 HF7.out (by omega)).mono ?_; rintro e w8 ⟨r8, rfl, hr8, hb8⟩
  rw [hn8] at hr8
  have HO8 := Lib.hid hr8
  have HR8 := Lib.hid (HR7.out.below hb8)
  have hB8 := hB7.trans (hb8.mono hB7.size)
  have hz8 := hb8.size
  have hFb : F.length ≤ 20000 := by omega
  have HFL := Lib.hid (show (F ++ putL 2 n3 ++ EC).length = F.length + 2 + EC.length by simp only [List.length_append, hp2])
  clear hr8 hFn hEn c4
  generalize F.length = fl at *
  have HEL0 := Lib.hid (show EC.length = EC.length from rfl)
  generalize hel : EC.length = el at *
  have HEL := Lib.hid hel
  clear hel HEL0
  go_wp2_with (first | (at_builtin; go_loud (refine wpList_append_row1 rfl (.tmp 49) (.tmp 50) 28 rfl w7.heap.size 5 i (.int .u8 0) 1 Tryd.underlying28 hi hz hsize hby rfl _ (fl + 2) _ rfl HO8.out _ el (byteV EC) rfl HR8.out (fun _ _ => rfl) (by unfold maxLen; omega) (by omega) hz8 ?_; intro v9 w9 hO9 hG9; have hB9 := hB7.trans ((grown3 hb8 hz8 HO8.out hG9).mono hB7.size); have HO9 := Lib.hid hO9; clear hO9 hG9)) | fail)
  go_returns
  refine ⟨_, rfl, ?_, hB9⟩
  rw [HPO.out, HPU.out]
  exact owns_bytes (own_eq2 HO9.out rfl (by rw [bytesV_app (F ++ putL 2 n3), ← map_bytesV EC, HEL.out])) (by rw [HFL.out])
end Go.Proofs.YtpeogdbfhfkngaaDoor

/- Layer 15: what is put is read; what is read is what is put. -/
namespace Go.Proofs.YtpeogdbfhfkngaaDoor
open Go.RowKit
set_option linter.unusedSimpArgs false
set_option linter.unusedVariables false
theorem cnt_forth {B : List UInt8} {N : Nat} {lim : Int} {n : Nat} {bad : Bool} (h : (cntU B N lim n bad).2 = 0) : bad = false ∧ n + N ≤ B.length ∧ rNum B N n bad = (numV ((B.drop n).take N), n + N, false) ∧ (cntU B N lim n bad).1 = numV ((B.drop n).take N) ∧ numV ((B.drop n).take N) ≤ lim := by
  have hb : (rNum B N n bad).2.2 = false := by
    cases hc : (rNum B N n bad).2.2
    · rfl
    · unfold cntU at h; rw [if_pos hc] at h; simp at h
  have hbad : bad = false := by
    cases bad
    · rfl
    · rw [rNum_bad] at hb; cases hb
  subst hbad
  obtain ⟨h1, h2, _, _⟩ := rNum_forth hb
  unfold cntU at h ⊢
  rw [if_neg (by rw [hb]; decide)] at h ⊢
  rw [h2] at h ⊢
  dsimp only at h ⊢
  by_cases hl : lim < numV ((B.drop n).take N)
  · rw [if_pos hl] at h; simp at h
  · rw [if_neg hl]
    exact ⟨rfl, h1, rfl, rfl, by omega⟩
theorem cnt_back {B T R : List UInt8} {N : Nat} {lim : Int} {n : Nat} (h : B.drop n = T ++ R) (hN : T.length = N) (hn : n ≤ B.length) (hl : numV T ≤ lim) : cntU B N lim n false = (numV T, 0) ∧ rNum B N n false = (numV T, n + N, false) ∧ B.drop (n + N) = R ∧ n + N ≤ B.length := by
  subst hN
  have h1 := rNum_back h hn
  obtain ⟨d1, d2⟩ := drop_enc h hn
  refine ⟨?_, h1, d1, d2⟩
  unfold cntU
  rw [h1]
  dsimp only
  rw [if_neg (by decide), if_neg (by omega)]
theorem tys_forth {B : List UInt8} {N : Nat} {lim : Int} {n : Nat} {bad : Bool} (h : (tysU B N lim n bad).1.2 = 0) : bad = false ∧ ∃ m : Nat, n + N + m ≤ B.length ∧ numV ((B.drop n).take N) = m ∧ (m : Int) ≤ lim ∧ (tysU B N lim n bad).1.1.length = m ∧ (tysU B N lim n bad).2 = (n + N + m, false) ∧ (tysU B N lim n bad).1.1.all fitB = true ∧ B.drop n = (B.drop n).take N ++ ((tysU B N lim n bad).1.1.map byteO ++ B.drop (n + N + m)) := by
  have hc : (cntU B N lim n bad).2 = 0 := by
    by_cases h0 : (cntU B N lim n bad).2 = 0
    · exact h0
    · unfold tysU at h; rw [if_pos h0] at h; exact absurd h h0
  obtain ⟨hb, h1, h2, h3, h4⟩ := cnt_forth hc
  subst hb
  refine ⟨rfl, ?_⟩
  unfold tysU at h ⊢
  rw [if_neg (by rw [hc]; simp)] at h ⊢
  rw [h3, h2] at h ⊢
  dsimp only at h ⊢
  generalize hv : numV ((B.drop n).take N) = v at *
  by_cases hz : v < 0 ∨ (B.length : Int) - ((n + N : Nat) : Int) < v
  · rw [rTake_fail hz] at h; simp at h
  · obtain ⟨m, rfl⟩ : ∃ m : Nat, v = m := ⟨v.toNat, by omega⟩
    have hm : n + N + m ≤ B.length := by omega
    rw [rTake_ok hm] at h ⊢
    dsimp only
    rw [if_neg (by decide)]
    refine ⟨m, hm, rfl, h4, ?_, rfl, natL_fit _, ?_⟩
    · rw [natL_len, List.length_take, List.length_drop]; omega
    · dsimp only
      rw [natL_byteO]
      have e1 : B.drop (n + N + m) = ((B.drop n).drop N).drop m := by rw [List.drop_drop, List.drop_drop, Nat.add_assoc]
      have e2 : B.drop (n + N) = (B.drop n).drop N := by rw [List.drop_drop]
      rw [e1, e2, List.take_append_drop, List.take_append_drop]
theorem tys_back {B T R : List UInt8} {M : List Int} {N : Nat} {lim : Int} {n : Nat} (h : B.drop n = T ++ (M.map byteO ++ R)) (hN : T.length = N) (hn : n ≤ B.length) (hv : numV T = (M.length : Int)) (hl : (M.length : Int) ≤ lim) (hM : M.all fitB = true) : tysU B N lim n false = ((M, 0), n + N + M.length, false) ∧ B.drop (n + N + M.length) = R ∧ n + N + M.length ≤ B.length := by
  obtain ⟨h1, h2, h3, h4⟩ := cnt_back (lim := lim) h hN hn (by omega)
  obtain ⟨d1, d2⟩ := drop_enc h3 h4
  rw [List.length_map] at d1 d2
  refine ⟨?_, d1, d2⟩
  unfold tysU
  rw [h1, h2]
  dsimp only
  rw [if_neg (by simp), hv, rTake_ok d2]
  dsimp only
  rw [if_neg (by decide), h3, List.take_left' (by simp), byteO_natL hM]
theorem one_byte {T : List UInt8} {m : Nat} (hT : T.length = 1) (hv : numV T = m) : T = [byteO (m : Int)] := by
  match T, hT with
  | [c], _ =>
    rw [numV_one] at hv
    have : c.toNat = m := by exact_mod_cast hv
    rw [← this, byteO_nat]
theorem take_len {B : List UInt8} {n N : Nat} (h : n + N ≤ B.length) : ((B.drop n).take N).length = N := by rw [List.length_take, List.length_drop]; omega
theorem left_at (B : List UInt8) (n : Nat) : leftOf B n false = (B.length : Int) - n := by unfold leftOf; simp
theorem hErr_zero {B : List UInt8} (h : hErr B = 0) : (hP B).1.2 = 0 ∧ (hL B).1.2 = 0 ∧ hSt B = (hL B).2 := by
  unfold hErr at h
  by_cases h0 : (hP B).1.2 = 0
  · rw [if_neg (by simpa using h0)] at h
    exact ⟨h0, h, if_neg (by simpa using h0)⟩
  · rw [if_pos h0] at h
    exact absurd h h0
theorem body_forth {B : List UInt8} {n : Nat} {bad : Bool} {L : List Ins} {s : Nat × Bool} (h : BodyR B n bad L 0 s) (hl : ¬ 0 < leftOf B s.1 s.2) : bad = false ∧ L.length ≤ 16384 ∧ L.all rI = true ∧ B.drop n = putL 2 L.length ++ enc L := by
  rcases h with ⟨h1, h2, _⟩ | ⟨h0, M, a, er, hd, hs, hc⟩
  · exact absurd h2.symm h1
  rcases hc with ⟨h1, h2, _⟩ | ⟨_, _, h2, _⟩ | ⟨h1, h2, _, h3⟩
  · exact absurd h2.symm h1
  · cases h2
  subst h1 h3
  obtain ⟨hb, e1, e2, e3, e4⟩ := cnt_forth h0
  subst hb
  have hT := take_len e1
  obtain ⟨k, hk, hpk⟩ := numV2 hT
  have ec : (bC B n false).1 = k := e3.trans hk
  have eN : bN B n false = ((k : Int), n + 2, false) := by rw [← hk]; exact e2
  rw [hk] at e4
  have hz : ∃ m : Nat, min (5 * (bC B n false).1) (leftOf B (bN B n false).2.1 (bN B n false).2.2) = m ∧ n + 2 + m ≤ B.length ∧ m ≤ 5 * k := by
    rw [ec, eN]
    dsimp only
    rw [left_at]
    exact ⟨(min (5 * (k : Int)) ((B.length : Int) - ((n + 2 : Nat) : Int))).toNat, by omega, by omega, by omega⟩
  obtain ⟨m, hm, hm1, hm2⟩ := hz
  have eT : bT B n false = ((B.drop (n + 2)).take m, n + 2 + m, false) := by
    unfold bT
    rw [hm, eN]
    exact rTake_ok hm1
  rw [hs, eT] at hl
  dsimp only at hl
  rw [left_at] at hl
  rw [eT] at hd
  dsimp only at hd
  rcases hd.back with ⟨g, _⟩ | ⟨_, g1, g2⟩
  · exact absurd rfl g
  have g3 := enc_len L
  rw [g2, take_len hm1] at g3
  rw [ec] at h2
  have hLk : L.length = k := by omega
  refine ⟨rfl, by omega, g1, ?_⟩
  have hx : (B.drop (n + 2)).take m = B.drop (n + 2) := List.take_of_length_le (by rw [List.length_drop]; omega)
  rw [g2, hLk, hpk, hx, ← List.drop_drop]
  exact (List.take_append_drop 2 (B.drop n)).symm
theorem getU_forth {B : List UInt8} {u : Un} (h : GetU B u 0) : fitU u = true ∧ putU u = B := by
  rcases h with ⟨h1, h2, _⟩ | ⟨h0, L, eb, s, hb, hc⟩
  · exact absurd h2.symm h1
  rcases hc with ⟨h1, h2, _⟩ | ⟨_, _, h2, _⟩ | ⟨h1, hl, _, h3⟩
  · exact absurd h2.symm h1
  · cases h2
  subst h1 h3
  obtain ⟨p0, l0, hst⟩ := hErr_zero h0
  obtain ⟨t1, m1, a1, a2, a3, a4, a5, a6, a7⟩ := (show (hT B).2.2 = false ∧ ∃ m : Nat, (hT B).2.1 + 1 + m ≤ B.length ∧ numV ((B.drop (hT B).2.1).take 1) = m ∧ (m : Int) ≤ 8 ∧ (hP B).1.1.length = m ∧ (hP B).2 = ((hT B).2.1 + 1 + m, false) ∧ (hP B).1.1.all fitB = true ∧ B.drop (hT B).2.1 = (B.drop (hT B).2.1).take 1 ++ ((hP B).1.1.map byteO ++ B.drop ((hT B).2.1 + 1 + m)) from tys_forth (B := B) (N := 1) (lim := 8) (n := (hT B).2.1) (bad := (hT B).2.2) p0)
  obtain ⟨t2, m2, b1, b2, b3, b4, b5, b6, b7⟩ := (show (hR B).2.2 = false ∧ ∃ m : Nat, (hR B).2.1 + 2 + m ≤ B.length ∧ numV ((B.drop (hR B).2.1).take 2) = m ∧ (m : Int) ≤ 1024 ∧ (hL B).1.1.length = m ∧ (hL B).2 = ((hR B).2.1 + 2 + m, false) ∧ (hL B).1.1.all fitB = true ∧ B.drop (hR B).2.1 = (B.drop (hR B).2.1).take 2 ++ ((hL B).1.1.map byteO ++ B.drop ((hR B).2.1 + 2 + m)) from tys_forth (B := B) (N := 2) (lim := 1024) (n := (hR B).2.1) (bad := (hR B).2.2) l0)
  obtain ⟨n1, n2, n3⟩ := (show (hT B).1.length ≤ 255 ∧ B.drop 0 = (UInt8.ofNat (hT B).1.length :: (hT B).1) ++ B.drop (hT B).2.1 ∧ (hT B).2.1 = 0 + (1 + (hT B).1.length) from rText_forth (L := B) (n := 0) t1)
  have hRq : hR B = rNum B 1 ((hT B).2.1 + 1 + m1) false := by unfold hR; rw [a5]
  have t3 : (rNum B 1 ((hT B).2.1 + 1 + m1) false).2.2 = false := by rw [← hRq]; exact t2
  obtain ⟨c1, c2, c3, c4⟩ := rNum_forth t3
  rw [c2] at hRq
  rw [hst, b5] at hb
  obtain ⟨_, d1, d2, d3⟩ := body_forth hb hl
  have hr1 := numV_byte (Nat.le_of_eq c4)
  have hst' := hst
  clear hst hst' p0 l0 h0 t1 t2 t3 hb hl
  generalize hT B = T0 at *
  generalize hP B = P0 at *
  generalize hR B = R0 at *
  generalize hL B = L0 at *
  obtain ⟨tn, tm, tb⟩ := T0
  obtain ⟨⟨pl, pe⟩, ps⟩ := P0
  obtain ⟨rv, rn, rb⟩ := R0
  obtain ⟨⟨ll, le⟩, ls⟩ := L0
  dsimp only at a1 a2 a4 a5 a6 a7 b1 b2 b4 b5 b6 b7 n1 n2 n3 hRq c1 c2 c3 c4 d3 hr1 ⊢
  obtain ⟨k, hk⟩ : ∃ k : Nat, numV ((B.drop (tm + 1 + m1)).take 1) = k := ⟨(numV ((B.drop (tm + 1 + m1)).take 1)).toNat, (Int.toNat_of_nonneg hr1.1).symm⟩
  have hrs : rv = (k : Int) := by rw [← hk]; exact (Prod.mk.inj hRq).1
  have hrn : rn = tm + 1 + m1 + 1 := (Prod.mk.inj (Prod.mk.inj hRq).2).1
  have T1 := one_byte (take_len (show tm + 1 ≤ B.length from by clear a2 b2 hk hr1 c2; omega)) a2
  have T2 := one_byte c4 hk
  have hT4 := take_len (show rn + 2 ≤ B.length from by clear a2 b2 hk hr1 c2 T1 T2; omega)
  obtain ⟨k2, hk2, hpk2⟩ := numV2 hT4
  have hkm : k2 = m2 := by rw [hk2] at b2; exact_mod_cast b2
  refine ⟨fitU_ok ⟨n1, ?_, ?_, ?_⟩ a6 b6 ?_ d2, ?_⟩
  · show pl.length ≤ 8
    rw [a4]; exact Int.ofNat_le.mp (show ((m1 : Nat) : Int) ≤ ((8 : Nat) : Int) from a3)
  · show ll.length ≤ 1024
    rw [b4]; exact Int.ofNat_le.mp (show ((m2 : Nat) : Int) ≤ ((1024 : Nat) : Int) from b3)
  · exact d1
  · show fitB rv = true
    rw [hrs]
    rw [hk] at hr1
    exact fitB_yes hr1.1 hr1.2
  · show (((((UInt8.ofNat tn.length :: tn) ++ [byteO pl.length] ++ pl.map byteO ++ [byteO rv]) ++ putL 2 ll.length) ++ ll.map byteO) ++ putL 2 L.length) ++ encO L = B
    rw [encO_yes d2]
    rw [T1] at a7
    rw [← hpk2, hkm] at b7
    rw [T2] at c3
    rw [hrn] at b7 d3
    rw [a4, b4, hrs]
    have e0 : B = B.drop 0 := rfl
    conv => rhs; rw [e0, n2, a7, c3, b7, d3]
    simp only [List.append_assoc]
theorem getU_back {x u : Un} {e : Int} (hf : fitU x = true) (h : GetU (putU x) u e) : u = x ∧ e = 0 := by
  obtain ⟨⟨f0, f1, f2, f3⟩, g1, g2, g3, g4⟩ := fitU_is hf
  obtain ⟨B, hB⟩ : ∃ B, putU x = B := ⟨_, rfl⟩
  have hBe : B = (UInt8.ofNat x.name.length :: x.name) ++ ([byteO x.params.length] ++ (x.params.map byteO ++ ([byteO x.result] ++ (putL 2 x.locals.length ++ (x.locals.map byteO ++ (putL 2 x.code.length ++ enc x.code)))))) := by
    rw [← hB]
    unfold putU
    rw [encO_yes g4]
    simp only [List.append_assoc]
  rw [hB] at h
  have hr := of_decide_eq_true (show decide (0 ≤ x.result ∧ x.result ≤ 255) = true from g3)
  have nv1 : numV [byteO (x.params.length : Int)] = (x.params.length : Int) := by rw [numV_one, byteO_val]; omega
  have nv2 : numV [byteO x.result] = x.result := by rw [numV_one, byteO_val]; omega
  have nv3 : numV (putL 2 (x.locals.length : Int)) = (x.locals.length : Int) := numV_put2 _ (by omega)
  have nv4 : numV (putL 2 (x.code.length : Int)) = (x.code.length : Int) := numV_put2 _ (by omega)
  have d0 : B.drop 0 = (UInt8.ofNat x.name.length :: x.name) ++ _ := hBe
  have hTe : hT B = (x.name, 0 + (1 + x.name.length), false) := rText_back d0 (Nat.zero_le _) f0
  obtain ⟨d1, z1⟩ := drop_enc d0 (Nat.zero_le _)
  rw [show (UInt8.ofNat x.name.length :: x.name).length = 1 + x.name.length by simp; omega] at d1 z1
  obtain ⟨p1, d2, z2⟩ := tys_back (N := 1) (lim := 8) d1 rfl z1 nv1 (by omega) g1
  have hPe : hP B = ((x.params, 0), 0 + (1 + x.name.length) + 1 + x.params.length, false) := by unfold hP; rw [hTe]; exact p1
  have r1 : rNum B 1 (0 + (1 + x.name.length) + 1 + x.params.length) false = (numV [byteO x.result], 0 + (1 + x.name.length) + 1 + x.params.length + 1, false) := rNum_back d2 z2
  rw [nv2] at r1
  have hRe : hR B = (x.result, 0 + (1 + x.name.length) + 1 + x.params.length + 1, false) := by unfold hR; rw [hPe]; exact r1
  obtain ⟨d3, z3⟩ := drop_enc d2 z2
  rw [show [byteO x.result].length = 1 from rfl] at d3 z3
  obtain ⟨p2, d4, z4⟩ := tys_back (N := 2) (lim := 1024) d3 (putL_len 2 _) z3 nv3 (by omega) g2
  have hLe : hL B = ((x.locals, 0), 0 + (1 + x.name.length) + 1 + x.params.length + 1 + 2 + x.locals.length, false) := by unfold hL; rw [hRe]; exact p2
  have hE : hErr B = 0 := by unfold hErr; rw [hPe, hLe]; rfl
  have hS : hSt B = (0 + (1 + x.name.length) + 1 + x.params.length + 1 + 2 + x.locals.length, false) := by unfold hSt; rw [hPe, hLe]; exact if_neg (by simp)
  generalize 0 + (1 + x.name.length) + 1 + x.params.length + 1 + 2 + x.locals.length = n4 at *
  obtain ⟨q1, q2, d5, z5⟩ := cnt_back (N := 2) (lim := 16384) d4 (putL_len 2 _) z4 (by omega)
  rw [nv4] at q1 q2
  have eC : bC B n4 false = ((x.code.length : Int), 0) := q1
  have eN : bN B n4 false = ((x.code.length : Int), n4 + 2, false) := q2
  have hlen : B.length = n4 + 2 + 5 * x.code.length := by
    have := congrArg List.length d5
    rw [List.length_drop, enc_len] at this
    omega
  have eT : bT B n4 false = (enc x.code, n4 + 2 + 5 * x.code.length, false) := by
    unfold bT
    rw [eC, eN]
    dsimp only
    rw [left_at, show min (5 * (x.code.length : Int)) ((B.length : Int) - ((n4 + 2 : Nat) : Int)) = ((5 * x.code.length : Nat) : Int) by omega, rTake_ok (by omega), d5, List.take_of_length_le (by rw [enc_len]; omega)]
  clear hBe d0 d1 d2 d3 d4 d5 p1 p2 r1 q1 q2 nv1 nv2 nv3 nv4
  rcases h with ⟨h1, _⟩ | ⟨_, L, eb, s, hb, hc⟩
  · exact absurd hE h1
  rw [hS] at hb
  rcases hb with ⟨h1, _⟩ | ⟨_, M, a, er, hd, hs, hcc⟩
  · rw [eC] at h1; exact absurd rfl h1
  rw [eT] at hd hs
  rw [eC] at hcc
  obtain ⟨rfl, _, rfl⟩ := hd.unique (enc_dec g4)
  have hl0 : leftOf B s.1 s.2 = 0 := by rw [hs]; dsimp only; rw [left_at]; omega
  rcases hcc with ⟨h1, _⟩ | ⟨_, h1, _⟩ | ⟨_, _, rfl, rfl⟩
  · exact absurd rfl h1
  · dsimp only at h1; omega
  rcases hc with ⟨h1, _⟩ | ⟨_, h1, _⟩ | ⟨_, _, h2, h3⟩
  · exact absurd rfl h1
  · rw [hl0] at h1; omega
  · refine ⟨?_, h2⟩
    rw [h3, hTe, hPe, hRe, hLe]
end Go.Proofs.YtpeogdbfhfkngaaDoor

/- Whether two lists of numbers are the same. -/
namespace Go.Proofs.YtpeogdbfhfkngaaDoor
open Go.RowKit
set_option linter.unusedSimpArgs false
set_option linter.unusedVariables false
set_option maxHeartbeats 2000000 in
theorem ref15_Ints (v u : Value) (L M : List Int) (w : World) (hv : RowR 1 intR w v L) (hu : RowR 1 intR w u M) :
    Calls Tryd.prog 11 #[v, u] w fun e w' => e = .returned (.bool (decide (L = M))) ∧ ∃ m, w' = w.drewN m := by
  have hL := hv.len
  obtain ⟨sa, ca, rfl⟩ := row_get hv
  obtain ⟨sb, cb, rfl⟩ := row_get hu
  by_cases hlen : L.length = M.length
  · have hb : (((L.length : Nat) : Int) != ((M.length : Nat) : Int)) = false := by rw [hlen]; simp
    have HY := Lib.hid (fun h : L = M => (decide_eq_true h : decide (L = M) = true))
    have HN := Lib.hid (fun h : ¬ L = M => (decide_eq_false h : decide (L = M) = false))
    obtain ⟨N, hN⟩ : ∃ N, L.length = N := ⟨_, rfl⟩
    have hM : M.length = N := hlen.symm.trans hN
    rw [hN] at hv hL
    rw [hM] at hu
    rw [hN, hM] at hb
    rw [hN, hM]
    clear hlen
    go_enter Tryd.func11, Tryd.ntmps11
    go_wp2_with fail
    go_loopw [5] (fun j wr => ∃ k m : Nat, k ≤ N ∧ j = .int .i64 k ∧ Hid (L.take k = M.take k) ∧ wr = w.drewN m) (fun j _ => N - (intOf j).toNat)
    case atStart => exact ⟨0, 0, by omega, rfl, Lib.hid (by simp), rfl⟩
    case round =>
      obtain ⟨k, m, hk, rfl, heq, rfl⟩ := hrel
      by_cases hlt : k < N
      · obtain ⟨b, off, rfl, hbw, hc⟩ := ints_at hv (k := k) (by omega)
        obtain ⟨b2, off2, rfl, hbw2, hd⟩ := ints_at hu (k := k) (by omega)
        obtain ⟨x, hx⟩ : ∃ x, L[k]? = some x := ⟨L[k]'(by omega), by simp [hN, hlt]⟩
        obtain ⟨y, hy⟩ : ∃ y, M[k]? = some y := ⟨M[k]'(by omega), by simp [hlt, hM]⟩
        obtain ⟨c0, _⟩ := hc k x hx
        obtain ⟨d0, _⟩ := hd k y hy
        clear hc hd
        by_cases hxy : x = y
        · have hs := Lib.hid (show L.take (k + 1) = M.take (k + 1) by rw [take_snoc hx, take_snoc hy, heq.out, hxy])
          have hq : (x != y) = false := by simp [hxy]
          clear hxy hx hy heq
          go_wp2_with fail
          go_quiet (fail)
          go_wp2_with fail
          go_roundw
          case rel => exact ⟨k + 1, _, by omega, by simp, hs, rfl⟩
          case measure => first | (simp [intOf]; done) | (simp [intOf]; omega)
        · have hs := Lib.hid (HN.out (fun h => hxy (by rw [h, hy] at hx; exact (Option.some.inj hx).symm)))
          have hq : (x != y) = true := by simpa using hxy
          clear hxy hx hy heq
          go_wp2_with fail
          go_quiet (fail)
          go_wp2_with fail
          go_ret
          exact ⟨by rw [hs.out]; rfl, _, World.drewN_drewN _ _ _⟩
      · obtain rfl : k = N := by omega
        have hs := Lib.hid (HY.out (by have := heq.out; rw [List.take_of_length_le (by omega), List.take_of_length_le (by omega)] at this; exact this))
        clear heq
        go_wp2_with fail
        go_ret
        exact ⟨by rw [hs.out]; rfl, _, rfl⟩
  · have hb : (((L.length : Nat) : Int) != ((M.length : Nat) : Int)) = true := by simp; omega
    have hs := Lib.hid (show decide (L = M) = false from decide_eq_false (fun h => hlen (by rw [h])))
    clear hlen
    go_enter Tryd.func11, Tryd.ntmps11
    go_wp2_with fail
    go_ret
    exact ⟨by rw [hs.out]; rfl, 0, rfl⟩
end Go.Proofs.YtpeogdbfhfkngaaDoor

/- Layer 15: whether two units are the same: both sides. -/
namespace Go.Proofs.YtpeogdbfhfkngaaDoor
open Go.RowKit
set_option linter.unusedSimpArgs false
set_option linter.unusedVariables false
def sameU (x y : Un) : Bool := decide (x.name = y.name ∧ x.result = y.result ∧ x.params = y.params ∧ x.locals = y.locals ∧ x.code = y.code)
theorem sameU_self (x : Un) : sameU x x = true := decide_eq_true ⟨rfl, rfl, rfl, rfl, rfl⟩
theorem sameU_is {x y : Un} (h : sameU x y = true) : x = y := by
  obtain ⟨h1, h2, h3, h4, h5⟩ := of_decide_eq_true h
  cases x; cases y
  simp only at h1 h2 h3 h4 h5
  subst h1 h2 h3 h4 h5
  rfl
theorem name_eq {a b : List UInt8} (h : a = b) : ((⟨a.toArray⟩ : ByteArray).toList == (⟨b.toArray⟩ : ByteArray).toList) = true := by subst h; exact beq_self_eq_true _
theorem name_ne {a b : List UInt8} (h : ¬ a = b) : ((⟨a.toArray⟩ : ByteArray).toList == (⟨b.toArray⟩ : ByteArray).toList) = false := by
  simp [ByteArray.toList_eq, h]
set_option maxHeartbeats 2000000 in
theorem unit_sameI (v u : Value) (L M : List Int) (w : World) (hv : RowR 1 intR w v L) (hu : RowR 1 intR w u M) :
    Calls Tryd.prog 28 #[v, u] w fun e w' => e = .returned (.bool (decide (L = M))) ∧ ∃ m, w' = w.drewN m := by
  have hL := hv.len
  obtain ⟨sa, ca, rfl⟩ := row_get hv
  obtain ⟨sb, cb, rfl⟩ := row_get hu
  by_cases hlen : L.length = M.length
  · have hb : (((L.length : Nat) : Int) != ((M.length : Nat) : Int)) = false := by rw [hlen]; simp
    have HY := Lib.hid (fun h : L = M => (decide_eq_true h : decide (L = M) = true))
    have HN := Lib.hid (fun h : ¬ L = M => (decide_eq_false h : decide (L = M) = false))
    obtain ⟨N, hN⟩ : ∃ N, L.length = N := ⟨_, rfl⟩
    have hM : M.length = N := hlen.symm.trans hN
    rw [hN] at hv hL
    rw [hM] at hu
    rw [hN, hM] at hb
    rw [hN, hM]
    clear hlen
    go_enter Tryd.func28, Tryd.ntmps28
    go_wp2_with fail
    go_loopw [14] (fun j wr => ∃ k m : Nat, k ≤ N ∧ j = .int .i64 k ∧ Hid (L.take k = M.take k) ∧ wr = w.drewN m) (fun j _ => N - (intOf j).toNat)
    case atStart => exact ⟨0, 0, by omega, rfl, Lib.hid (by simp), rfl⟩
    case round =>
      obtain ⟨k, m, hk, rfl, heq, rfl⟩ := hrel
      by_cases hlt : k < N
      · obtain ⟨b, off, rfl, hbw, hc⟩ := ints_at hv (k := k) (by omega)
        obtain ⟨b2, off2, rfl, hbw2, hd⟩ := ints_at hu (k := k) (by omega)
        obtain ⟨x, hx⟩ : ∃ x, L[k]? = some x := ⟨L[k]'(by omega), by simp [hN, hlt]⟩
        obtain ⟨y, hy⟩ : ∃ y, M[k]? = some y := ⟨M[k]'(by omega), by simp [hlt, hM]⟩
        obtain ⟨c0, _⟩ := hc k x hx
        obtain ⟨d0, _⟩ := hd k y hy
        clear hc hd
        by_cases hxy : x = y
        · have hs := Lib.hid (show L.take (k + 1) = M.take (k + 1) by rw [take_snoc hx, take_snoc hy, heq.out, hxy])
          have hq : (x != y) = false := by simp [hxy]
          clear hxy hx hy heq
          go_wp2_with fail
          go_roundw
          case rel => exact ⟨k + 1, _, by omega, by simp, hs, rfl⟩
          case measure => first | (simp [intOf]; done) | (simp [intOf]; omega)
        · have hs := Lib.hid (HN.out (fun h => hxy (by rw [h, hy] at hx; exact (Option.some.inj hx).symm)))
          have hq : (x != y) = true := by simpa using hxy
          clear hxy hx hy heq
          go_wp2_with fail
          go_ret
          exact ⟨by rw [hs.out]; rfl, _, rfl⟩
      · obtain rfl : k = N := by omega
        have hs := Lib.hid (HY.out (by have := heq.out; rw [List.take_of_length_le (by omega), List.take_of_length_le (by omega)] at this; exact this))
        clear heq
        go_wp2_with fail
        go_ret
        exact ⟨by rw [hs.out]; rfl, _, rfl⟩
  · have hb : (((L.length : Nat) : Int) != ((M.length : Nat) : Int)) = true := by simp; omega
    have hs := Lib.hid (show decide (L = M) = false from decide_eq_false (fun h => hlen (by rw [h])))
    clear hlen
    go_enter Tryd.func28, Tryd.ntmps28
    go_wp2_with fail
    go_ret
    exact ⟨by rw [hs.out]; rfl, 0, rfl⟩
set_option maxHeartbeats 2000000 in
theorem unit_sameR (v u : Value) (L M : List Ins) (w : World) (hv : RowR 3 insR w v L) (hu : RowR 3 insR w u M) (hL : L.length ≤ 1000000000) :
    Calls Tryd.prog 29 #[v, u] w fun e w' => e = .returned (.bool (decide (L = M))) ∧ Below w.heap.size w w' := by
  obtain ⟨sa, ca, rfl⟩ := ins_get hv
  obtain ⟨sb, cb, rfl⟩ := ins_get hu
  have hneq := neq_instr
  by_cases hlen : L.length = M.length
  · have hb : (((L.length : Nat) : Int) != ((M.length : Nat) : Int)) = false := by rw [hlen]; simp
    have HY := Lib.hid (fun h : L = M => (decide_eq_true h : decide (L = M) = true))
    have HN := Lib.hid (fun h : ¬ L = M => (decide_eq_false h : decide (L = M) = false))
    obtain ⟨N, hN⟩ : ∃ N, L.length = N := ⟨_, rfl⟩
    have hM : M.length = N := hlen.symm.trans hN
    rw [hN] at hv hL
    rw [hM] at hu
    rw [hN, hM] at hb
    rw [hN, hM]
    clear hlen
    go_enter Tryd.func29, Tryd.ntmps29
    go_wp2_with fail
    go_loopw [14] (fun j wr => ∃ k : Nat, k ≤ N ∧ j = .int .i64 k ∧ Hid (L.take k = M.take k) ∧ Below w.heap.size w wr) (fun j _ => N - (intOf j).toNat)
    case atStart => exact ⟨0, by omega, rfl, Lib.hid (by simp), Below.refl _ _⟩
    case round =>
      obtain ⟨k, hk, rfl, heq, hB⟩ := hrel
      have hz := hB.size
      by_cases hlt : k < N
      · obtain ⟨b, off, rfl, hbw, hc⟩ := ins_at hv (k := k) (by omega)
        obtain ⟨b2, off2, rfl, hbw2, hd⟩ := ins_at hu (k := k) (by omega)
        obtain ⟨x, hx⟩ : ∃ x, L[k]? = some x := ⟨L[k]'(by omega), by simp [hN, hlt]⟩
        obtain ⟨y, hy⟩ : ∃ y, M[k]? = some y := ⟨M[k]'(by omega), by simp [hlt, hM]⟩
        obtain ⟨c0, c1, c2, _⟩ := hc k x hx
        obtain ⟨d0, d1, d2, _⟩ := hd k y hy
        have c0 := (hB.cell (p := ⟨b, off + k * 3, none⟩) hbw).trans c0
        have c1 := (hB.cell (p := ⟨b, off + k * 3 + 1, none⟩) hbw).trans c1
        have c2 := (hB.cell (p := ⟨b, off + k * 3 + 2, none⟩) hbw).trans c2
        obtain ⟨W1, hW1⟩ : ∃ W1, W1 = wr.alloc (.cells #[.int .i64 x.1, .int .i64 x.2.1, .int .i64 x.2.2] 40) := ⟨_, rfl⟩
        have hB1 : Below w.heap.size w W1 := by rw [hW1]; exact hB.alloc hz _
        have D := Lib.hid (show W1.cell? ⟨b2, off2 + k * 3, none⟩ = _ ∧ W1.cell? ⟨b2, off2 + k * 3 + 1, none⟩ = _ ∧ W1.cell? ⟨b2, off2 + k * 3 + 2, none⟩ = _ from ⟨(hB1.cell (p := ⟨b2, off2 + k * 3, none⟩) hbw2).trans d0, (hB1.cell (p := ⟨b2, off2 + k * 3 + 1, none⟩) hbw2).trans d1, (hB1.cell (p := ⟨b2, off2 + k * 3 + 2, none⟩) hbw2).trans d2⟩)
        have E := Lib.hid (show W1.cell? ⟨wr.heap.size, 0, none⟩ = some (.int .i64 x.1) ∧ W1.cell? ⟨wr.heap.size, 1, none⟩ = some (.int .i64 x.2.1) ∧ W1.cell? ⟨wr.heap.size, 2, none⟩ = some (.int .i64 x.2.2) by rw [hW1]; exact ⟨cell_new wr _ _ _ 0 rfl, cell_new wr _ _ _ 1 rfl, cell_new wr _ _ _ 2 rfl⟩)
        have hix := ins_eq (x := x) (y := y)
        have HW1 := Lib.hid hW1
        clear hc hd d0 d1 d2 hW1
        by_cases hxy : x = y
        · have hq := decide_eq_true hxy
          have hs := Lib.hid (show L.take (k + 1) = M.take (k + 1) by rw [take_snoc hx, take_snoc hy, heq.out, hxy])
          rw [hq] at hix
          clear hxy hx hy hq heq
          go_wp2_with fail
          rw [← HW1.out]
          obtain ⟨d0, d1, d2⟩ := D.out
          obtain ⟨m0, m1, m2⟩ := E.out
          clear c0 c1 c2
          go_quiet (fail)
          go_wp2_with fail
          go_roundw
          case rel => exact ⟨k + 1, by omega, by simp, hs, below_drewN hB1 _⟩
          case measure => first | (simp [intOf]; done) | (simp [intOf]; omega)
        · have hq := decide_eq_false hxy
          have hs := Lib.hid (HN.out (fun h => hxy (by rw [h, hy] at hx; exact (Option.some.inj hx).symm)))
          rw [hq] at hix
          clear hxy hx hy hq heq
          go_wp2_with fail
          rw [← HW1.out]
          obtain ⟨d0, d1, d2⟩ := D.out
          obtain ⟨m0, m1, m2⟩ := E.out
          clear c0 c1 c2
          go_quiet (fail)
          go_wp2_with fail
          go_ret
          exact ⟨by rw [hs.out]; rfl, below_drewN hB1 _⟩
      · obtain rfl : k = N := by omega
        have hs := Lib.hid (HY.out (by have := heq.out; rw [List.take_of_length_le (by omega), List.take_of_length_le (by omega)] at this; exact this))
        clear heq
        go_wp2_with fail
        go_ret
        exact ⟨by rw [hs.out]; rfl, hB⟩
  · have hb : (((L.length : Nat) : Int) != ((M.length : Nat) : Int)) = true := by simp; omega
    have hs := Lib.hid (show decide (L = M) = false from decide_eq_false (fun h => hlen (by rw [h])))
    clear hlen
    go_enter Tryd.func29, Tryd.ntmps29
    go_wp2_with fail
    go_ret
    exact ⟨by rw [hs.out]; rfl, Below.refl _ _⟩
set_option maxHeartbeats 4000000 in
theorem unit_Same (a b c a2 b2 c2 : Value) (x y : Un) (w : World) (h : UnAt w a b c x) (g : UnAt w a2 b2 c2 y) (hl : x.code.length ≤ 1000000000) :
    Calls Tryd.prog 14 #[.agg #[.string ⟨x.name.toArray⟩, a, .int .i64 x.result, b, c], .agg #[.string ⟨y.name.toArray⟩, a2, .int .i64 y.result, b2, c2]] w fun e w' => e = .returned (.bool (sameU x y)) ∧ Below w.heap.size w w' := by
  have H1 := Lib.hid (fun W (hb : Below w.heap.size w W) => (unit_sameI a a2 x.params y.params W (h.ps.below intR_stable hb) (g.ps.below intR_stable hb)).mono (fun _ _ q => And.intro q.1 (below_drew_of q.2)))
  have H2 := Lib.hid (fun W (hb : Below w.heap.size w W) => (unit_sameI b b2 x.locals y.locals W (h.ls.below intR_stable hb) (g.ls.below intR_stable hb)).mono (fun _ _ q => And.intro q.1 (below_drew_of q.2)))
  have H3 := Lib.hid (fun W (hb : Below w.heap.size w W) => (unit_sameR c c2 x.code y.code W (h.cs.below insR_stable hb) (g.cs.below insR_stable hb) hl).mono (fun _ _ q => q))
  have HD := Lib.hid (show sameU x y = decide (x.name = y.name ∧ x.result = y.result ∧ x.params = y.params ∧ x.locals = y.locals ∧ x.code = y.code) from rfl)
  clear hl h g
  obtain ⟨W0, hW0⟩ : ∃ W0, W0 = (w.alloc (.cells #[.string ⟨x.name.toArray⟩, a, .int .i64 x.result, b, c] 25)).alloc (.cells #[.string ⟨y.name.toArray⟩, a2, .int .i64 y.result, b2, c2] 25) := ⟨_, rfl⟩
  obtain ⟨k1, k2, k3, k4⟩ := boxed2 w [.string ⟨x.name.toArray⟩, a, .int .i64 x.result, b, c] [.string ⟨y.name.toArray⟩, a2, .int .i64 y.result, b2, c2] 25 25 (W' := W0) (by rw [hW0]; exact Below.refl _ _)
  have z1 : w.heap.size < W0.heap.size := by omega
  have HW0 := Lib.hid hW0
  have K1 := Lib.hid k1
  have K2 := Lib.hid k2
  clear k1 k2 hW0
  by_cases hn : x.name = y.name
  case neg =>
    have hq := name_ne hn
    have hs := Lib.hid (HD.out.trans (decide_eq_false (fun q => hn q.1)))
    generalize (⟨x.name.toArray⟩ : ByteArray) = nm at *
    generalize (⟨y.name.toArray⟩ : ByteArray) = nm2 at *
    clear hn
    go_enter Tryd.func14, Tryd.ntmps14
    go_wp2_with fail
    go_ret
    exact ⟨by rw [hs.out]; rfl, by rw [← HW0.out]; exact k4⟩
  have hq := name_eq hn
  have HN := Lib.hid hn
  clear hn
  generalize (⟨x.name.toArray⟩ : ByteArray) = nm at *
  generalize (⟨y.name.toArray⟩ : ByteArray) = nm2 at *
  by_cases hr : x.result = y.result
  case neg =>
    have hq2 : (x.result == y.result) = false := by simpa using hr
    have hs := Lib.hid (HD.out.trans (decide_eq_false (fun q => hr q.2.1)))
    clear hr
    go_enter Tryd.func14, Tryd.ntmps14
    go_wp2_with fail
    go_ret
    exact ⟨by rw [hs.out]; rfl, by rw [← HW0.out]; exact k4⟩
  have hq2 : (x.result == y.result) = true := by simpa using hr
  have HR := Lib.hid hr
  clear hr
  by_cases hp : x.params = y.params
  case neg =>
    rw [decide_eq_false hp] at H1
    have hs := Lib.hid (HD.out.trans (decide_eq_false (fun q => hp q.2.2.1)))
    clear hp
    go_enter Tryd.func14, Tryd.ntmps14
    go_wp2_with fail
    refine (H1.out _ (by rw [← HW0.out]; exact k4)).mono ?_; rintro e w1 ⟨rfl, hb1⟩
    rw [← HW0.out] at hb1
    have hB1 := k4.trans (hb1.mono k4.size)
    go_wp2_with fail
    go_ret
    exact ⟨by rw [hs.out]; rfl, hB1⟩
  rw [decide_eq_true hp] at H1
  have HP := Lib.hid hp
  clear hp
  by_cases hl : x.locals = y.locals
  case neg =>
    rw [decide_eq_false hl] at H2
    have hs := Lib.hid (HD.out.trans (decide_eq_false (fun q => hl q.2.2.2.1)))
    clear hl
    go_enter Tryd.func14, Tryd.ntmps14
    go_wp2_with fail
    refine (H1.out _ (by rw [← HW0.out]; exact k4)).mono ?_; rintro e w1 ⟨rfl, hb1⟩
    rw [← HW0.out] at hb1
    have hB1 := k4.trans (hb1.mono k4.size)
    have e3 := (K1.out.keep z1 hb1) 3 _ rfl
    have f3 := (K2.out.keep k3 hb1) 3 _ rfl
    go_wp2_with fail
    refine (H2.out _ hB1).mono ?_; rintro e w2 ⟨rfl, hb2⟩
    have hB2 := hB1.trans (hb2.mono hB1.size)
    go_wp2_with fail
    go_ret
    exact ⟨by rw [hs.out]; rfl, hB2⟩
  rw [decide_eq_true hl] at H2
  have hs := Lib.hid (show sameU x y = decide (x.code = y.code) by
    rw [HD.out]
    by_cases hc : x.code = y.code
    · rw [decide_eq_true hc, decide_eq_true ⟨HN.out, HR.out, HP.out, hl, hc⟩]
    · rw [decide_eq_false hc, decide_eq_false (fun q => hc q.2.2.2.2)])
  clear hl
  generalize decide (x.code = y.code) = last at *
  go_enter Tryd.func14, Tryd.ntmps14
  go_wp2_with fail
  refine (H1.out _ (by rw [← HW0.out]; exact k4)).mono ?_; rintro e w1 ⟨rfl, hb1⟩
  rw [← HW0.out] at hb1
  have hB1 := k4.trans (hb1.mono k4.size)
  have e3 := (K1.out.keep z1 hb1) 3 _ rfl
  have f3 := (K2.out.keep k3 hb1) 3 _ rfl
  go_wp2_with fail
  refine (H2.out _ hB1).mono ?_; rintro e w2 ⟨rfl, hb2⟩
  have hB2 := hB1.trans (hb2.mono hB1.size)
  have hb2 := hb1.trans (hb2.mono hb1.size)
  clear e3 f3
  have e4 := (K1.out.keep z1 hb2) 4 _ rfl
  have f4 := (K2.out.keep k3 hb2) 4 _ rfl
  go_wp2_with fail
  refine (H3.out _ hB2).mono ?_; rintro e w3 ⟨rfl, hb3⟩
  have hB3 := hB2.trans (hb3.mono hB2.size)
  go_wp2_with fail
  go_ret
  exact ⟨by rw [hs.out]; rfl, hB3⟩
set_option maxHeartbeats 4000000 in
theorem ref15_Same (a b c a2 b2 c2 : Value) (x y : Un) (w : World) (h : UnAt w a b c x) (g : UnAt w a2 b2 c2 y) (hl : x.code.length ≤ 1000000000) :
    Calls Tryd.prog 15 #[.agg #[.string ⟨x.name.toArray⟩, a, .int .i64 x.result, b, c], .agg #[.string ⟨y.name.toArray⟩, a2, .int .i64 y.result, b2, c2]] w fun e w' => e = .returned (.bool (sameU x y)) ∧ Below w.heap.size w w' := by
  have H1 := Lib.hid (fun W (hb : Below w.heap.size w W) => (ref15_Ints a a2 x.params y.params W (h.ps.below intR_stable hb) (g.ps.below intR_stable hb)).mono (fun _ _ q => And.intro q.1 (below_drew_of q.2)))
  have H2 := Lib.hid (fun W (hb : Below w.heap.size w W) => (ref15_Ints b b2 x.locals y.locals W (h.ls.below intR_stable hb) (g.ls.below intR_stable hb)).mono (fun _ _ q => And.intro q.1 (below_drew_of q.2)))
  have H3 := Lib.hid (fun W (hb : Below w.heap.size w W) => (ref13_Same c c2 x.code y.code W (h.cs.below insR_stable hb) (g.cs.below insR_stable hb) hl).mono (fun _ _ q => And.intro q.1 (below_drew_of q.2)))
  have HD := Lib.hid (show sameU x y = decide (x.name = y.name ∧ x.result = y.result ∧ x.params = y.params ∧ x.locals = y.locals ∧ x.code = y.code) from rfl)
  clear hl h g
  obtain ⟨W0, hW0⟩ : ∃ W0, W0 = (w.alloc (.cells #[.string ⟨x.name.toArray⟩, a, .int .i64 x.result, b, c] 25)).alloc (.cells #[.string ⟨y.name.toArray⟩, a2, .int .i64 y.result, b2, c2] 25) := ⟨_, rfl⟩
  obtain ⟨k1, k2, k3, k4⟩ := boxed2 w [.string ⟨x.name.toArray⟩, a, .int .i64 x.result, b, c] [.string ⟨y.name.toArray⟩, a2, .int .i64 y.result, b2, c2] 25 25 (W' := W0) (by rw [hW0]; exact Below.refl _ _)
  have z1 : w.heap.size < W0.heap.size := by omega
  have HW0 := Lib.hid hW0
  have K1 := Lib.hid k1
  have K2 := Lib.hid k2
  clear k1 k2 hW0
  by_cases hn : x.name = y.name
  case neg =>
    have hq := name_ne hn
    have hs := Lib.hid (HD.out.trans (decide_eq_false (fun q => hn q.1)))
    generalize (⟨x.name.toArray⟩ : ByteArray) = nm at *
    generalize (⟨y.name.toArray⟩ : ByteArray) = nm2 at *
    clear hn
    go_enter Tryd.func15, Tryd.ntmps15
    go_wp2_with fail
    go_ret
    exact ⟨by rw [hs.out]; rfl, by rw [← HW0.out]; exact k4⟩
  have hq := name_eq hn
  have HN := Lib.hid hn
  clear hn
  generalize (⟨x.name.toArray⟩ : ByteArray) = nm at *
  generalize (⟨y.name.toArray⟩ : ByteArray) = nm2 at *
  by_cases hr : x.result = y.result
  case neg =>
    have hq2 : (x.result == y.result) = false := by simpa using hr
    have hs := Lib.hid (HD.out.trans (decide_eq_false (fun q => hr q.2.1)))
    clear hr
    go_enter Tryd.func15, Tryd.ntmps15
    go_wp2_with fail
    go_ret
    exact ⟨by rw [hs.out]; rfl, by rw [← HW0.out]; exact k4⟩
  have hq2 : (x.result == y.result) = true := by simpa using hr
  have HR := Lib.hid hr
  clear hr
  by_cases hp : x.params = y.params
  case neg =>
    rw [decide_eq_false hp] at H1
    have hs := Lib.hid (HD.out.trans (decide_eq_false (fun q => hp q.2.2.1)))
    clear hp
    go_enter Tryd.func15, Tryd.ntmps15
    go_wp2_with fail
    refine (H1.out _ (by rw [← HW0.out]; exact k4)).mono ?_; rintro e w1 ⟨rfl, hb1⟩
    rw [← HW0.out] at hb1
    have hB1 := k4.trans (hb1.mono k4.size)
    go_wp2_with fail
    go_ret
    exact ⟨by rw [hs.out]; rfl, hB1⟩
  rw [decide_eq_true hp] at H1
  have HP := Lib.hid hp
  clear hp
  by_cases hl : x.locals = y.locals
  case neg =>
    rw [decide_eq_false hl] at H2
    have hs := Lib.hid (HD.out.trans (decide_eq_false (fun q => hl q.2.2.2.1)))
    clear hl
    go_enter Tryd.func15, Tryd.ntmps15
    go_wp2_with fail
    refine (H1.out _ (by rw [← HW0.out]; exact k4)).mono ?_; rintro e w1 ⟨rfl, hb1⟩
    rw [← HW0.out] at hb1
    have hB1 := k4.trans (hb1.mono k4.size)
    have e3 := (K1.out.keep z1 hb1) 3 _ rfl
    have f3 := (K2.out.keep k3 hb1) 3 _ rfl
    go_wp2_with fail
    refine (H2.out _ hB1).mono ?_; rintro e w2 ⟨rfl, hb2⟩
    have hB2 := hB1.trans (hb2.mono hB1.size)
    go_wp2_with fail
    go_ret
    exact ⟨by rw [hs.out]; rfl, hB2⟩
  rw [decide_eq_true hl] at H2
  have hs := Lib.hid (show sameU x y = decide (x.code = y.code) by
    rw [HD.out]
    by_cases hc : x.code = y.code
    · rw [decide_eq_true hc, decide_eq_true ⟨HN.out, HR.out, HP.out, hl, hc⟩]
    · rw [decide_eq_false hc, decide_eq_false (fun q => hc q.2.2.2.2)])
  clear hl
  generalize decide (x.code = y.code) = last at *
  go_enter Tryd.func15, Tryd.ntmps15
  go_wp2_with fail
  refine (H1.out _ (by rw [← HW0.out]; exact k4)).mono ?_; rintro e w1 ⟨rfl, hb1⟩
  rw [← HW0.out] at hb1
  have hB1 := k4.trans (hb1.mono k4.size)
  have e3 := (K1.out.keep z1 hb1) 3 _ rfl
  have f3 := (K2.out.keep k3 hb1) 3 _ rfl
  go_wp2_with fail
  refine (H2.out _ hB1).mono ?_; rintro e w2 ⟨rfl, hb2⟩
  have hB2 := hB1.trans (hb2.mono hB1.size)
  have hb2 := hb1.trans (hb2.mono hb1.size)
  clear e3 f3
  have e4 := (K1.out.keep z1 hb2) 4 _ rfl
  have f4 := (K2.out.keep k3 hb2) 4 _ rfl
  go_wp2_with fail
  refine (H3.out _ hB2).mono ?_; rintro e w3 ⟨rfl, hb3⟩
  have hB3 := hB2.trans (hb3.mono hB2.size)
  go_wp2_with fail
  go_ret
  exact ⟨by rw [hs.out]; rfl, hB3⟩
end Go.Proofs.YtpeogdbfhfkngaaDoor

/- Layer 15: the law's awake. -/
namespace Go.Proofs.YtpeogdbfhfkngaaDoor
open Go.RowKit
set_option linter.unusedSimpArgs false
set_option linter.unusedVariables false
def unW : Un := ⟨[], [], 0, [], [(34, 0, 0)]⟩
theorem unW_fit : fitU unW = true := by decide +kernel
theorem unW_put : putO unW = [0, 0, 0, 0, 0, 1, 0, 34, 0, 0, 0, 0] := by decide +kernel
set_option maxHeartbeats 2000000 in
theorem law15_awake (w : World) (hT : STab w) : Calls Tryd.prog 7 #[] w fun e w' => e = .returned (.bool true) ∧ Below w.heap.size w w' := by
  have hR : RowR 3 insR (w.alloc (.cells #[.int .i64 34, .int .i64 0, .int .i64 0] 40)) (.slice (some ⟨w.heap.size, 0, none⟩) 1 1) [(34, 0, 0)] := by
    refine Or.inr ⟨w.heap.size, 0, 1, rfl, by simp, by simp, by unfold maxLen; omega, by simp, fun i x hx => ?_⟩
    have hi : i < 1 := lt_of_get hx
    obtain rfl : i = 0 := by omega
    obtain rfl : ((34, 0, 0) : Ins) = x := by simpa using hx
    refine ⟨[.int .i64 34, .int .i64 0, .int .i64 0], rfl, fun j u hu => ?_, rfl, (show I64 34 by unfold I64; omega), (show I64 0 by unfold I64; omega), (show I64 0 by unfold I64; omega)⟩
    have := Boxed.new w [.int .i64 34, .int .i64 0, .int .i64 0] 40 (Below.refl _ _) j u hu
    simpa using this
  have hB0 : Below w.heap.size w (w.alloc (.cells #[.int .i64 34, .int .i64 0, .int .i64 0] 40)) := (Below.refl _ _).alloc (Nat.le_refl _) _
  have HR := Lib.hid (unit_Put (.slice none 0 0) (.slice none 0 0) _ unW _ (hT.below hB0) ⟨row_none, row_none, hR, by unfold sz unW; simp, by unfold I64 unW; simp⟩ ⟨by simp [unW], by simp [unW], by simp [unW]⟩)
  rw [unW_fit, unW_put] at HR
  clear hR
  go_enter Tryd.func7, Tryd.ntmps7
  go_wp2_with fail
  refine HR.out.mono ?_; rintro e w1 ⟨r, rfl, h1, h3⟩
  have hcv := conv_row (P := Tryd.prog) (src := 28) (dst := 9) (e := 5) Tryd.underlying28 Tryd.underlying5 Tryd.underlying9 h1
  have hB1 := hB0.trans (h3.mono hB0.size)
  clear h1 h3 HR
  go_wp2_with fail
  go_returns
  exact ⟨rfl, hB1⟩
end Go.Proofs.YtpeogdbfhfkngaaDoor

/- Whether a program's lists are short. -/
namespace Go.Proofs.YtpeogdbfhfkngaaDoor
open Go.RowKit
set_option linter.unusedSimpArgs false
set_option linter.unusedVariables false
set_option maxHeartbeats 2000000 in
theorem law15_Few (a b c : Value) (x : Un) (w : World) (h : UnAt w a b c x) : Calls Tryd.prog 6 #[.agg #[.string ⟨x.name.toArray⟩, a, .int .i64 x.result, b, c]] w fun e w' => e = .returned (.bool (fewU x)) ∧ Below w.heap.size w w' := by
  have l1 := h.ps.len
  have l2 := h.ls.len
  have l3 := h.cs.len
  have l0 : x.name.length ≤ 9223372036854775807 := h.ns
  obtain ⟨sa, ca, rfl⟩ := row_get h.ps
  obtain ⟨sb, cb, rfl⟩ := row_get h.ls
  obtain ⟨sc, cc, rfl⟩ := row_get h.cs
  have cp := @cell_past
  have HD := Lib.hid (show fewU x = decide (x.name.length ≤ 300 ∧ x.params.length ≤ 20 ∧ x.locals.length ≤ 1100 ∧ x.code.length ≤ 300) from rfl)
  clear h
  have hsz : (⟨x.name.toArray⟩ : ByteArray).size = x.name.length := by simp [ByteArray.size]
  generalize (⟨x.name.toArray⟩ : ByteArray) = nm at *
  generalize x.name.length = n0 at *
  generalize x.params.length = n1 at *
  generalize x.locals.length = n2 at *
  generalize x.code.length = n3 at *
  by_cases h0 : n0 ≤ 300
  · have q0 : ((n0 : Int) ≤ 300) = True := eq_true (by omega)
    by_cases h1 : n1 ≤ 20
    · have q1 : ((n1 : Int) ≤ 20) = True := eq_true (by omega)
      by_cases h2 : n2 ≤ 1100
      · have q2 : ((n2 : Int) ≤ 1100) = True := eq_true (by omega)
        by_cases h3 : n3 ≤ 300
        · have q3 : ((n3 : Int) ≤ 300) = True := eq_true (by omega)
          have hs := Lib.hid (HD.out.trans (decide_eq_true ⟨h0, h1, h2, h3⟩))
          clear h0 h1 h2 h3
          go_enter Tryd.func6, Tryd.ntmps6
          go_wp2_with fail
          go_ret
          exact ⟨by rw [hs.out]; rfl, by (repeat' (first | (with_reducible exact Below.refl _ _) | (with_reducible assumption) | (with_reducible refine below_drewN ?_ _) | (with_reducible refine Below.alloc ?_ ?_ _) | (with_reducible refine Below.drew ?_) | (with_reducible refine Below.setCell ?_ ?_ _) | go_size))⟩
        · have q3 : ((n3 : Int) ≤ 300) = False := eq_false (by omega)
          have hs := Lib.hid (HD.out.trans (decide_eq_false (fun g => h3 g.2.2.2)))
          clear h0 h1 h2 h3
          go_enter Tryd.func6, Tryd.ntmps6
          go_wp2_with fail
          go_ret
          exact ⟨by rw [hs.out]; rfl, by (repeat' (first | (with_reducible exact Below.refl _ _) | (with_reducible assumption) | (with_reducible refine below_drewN ?_ _) | (with_reducible refine Below.alloc ?_ ?_ _) | (with_reducible refine Below.drew ?_) | (with_reducible refine Below.setCell ?_ ?_ _) | go_size))⟩
      · have q2 : ((n2 : Int) ≤ 1100) = False := eq_false (by omega)
        have hs := Lib.hid (HD.out.trans (decide_eq_false (fun g => h2 g.2.2.1)))
        clear h0 h1 h2
        go_enter Tryd.func6, Tryd.ntmps6
        go_wp2_with fail
        go_ret
        exact ⟨by rw [hs.out]; rfl, by (repeat' (first | (with_reducible exact Below.refl _ _) | (with_reducible assumption) | (with_reducible refine below_drewN ?_ _) | (with_reducible refine Below.alloc ?_ ?_ _) | (with_reducible refine Below.drew ?_) | (with_reducible refine Below.setCell ?_ ?_ _) | go_size))⟩
    · have q1 : ((n1 : Int) ≤ 20) = False := eq_false (by omega)
      have hs := Lib.hid (HD.out.trans (decide_eq_false (fun g => h1 g.2.1)))
      clear h0 h1
      go_enter Tryd.func6, Tryd.ntmps6
      go_wp2_with fail
      go_ret
      exact ⟨by rw [hs.out]; rfl, by (repeat' (first | (with_reducible exact Below.refl _ _) | (with_reducible assumption) | (with_reducible refine below_drewN ?_ _) | (with_reducible refine Below.alloc ?_ ?_ _) | (with_reducible refine Below.drew ?_) | (with_reducible refine Below.setCell ?_ ?_ _) | go_size))⟩
  · have q0 : ((n0 : Int) ≤ 300) = False := eq_false (by omega)
    have hs := Lib.hid (HD.out.trans (decide_eq_false (fun g => h0 g.1)))
    clear h0
    go_enter Tryd.func6, Tryd.ntmps6
    go_wp2_with fail
    go_ret
    exact ⟨by rw [hs.out]; rfl, by (repeat' (first | (with_reducible exact Below.refl _ _) | (with_reducible assumption) | (with_reducible refine below_drewN ?_ _) | (with_reducible refine Below.alloc ?_ ?_ _) | (with_reducible refine Below.drew ?_) | (with_reducible refine Below.setCell ?_ ?_ _) | go_size))⟩
end Go.Proofs.YtpeogdbfhfkngaaDoor
