/- Merged texts: UnFit, RowOwn, ChunkC, Chunk, Facts, OctetText, OwnLow, UnPutA, UnPut, OctetRefText, LawThree, Reader, ReaderNum, ReaderMore, ReaderText, ReaderAll, RefReader. -/
import Derived.Test.YtjikkipdmonndaaDoorMg0
import Derived.Deep.RegionHeld3
import Derived.Lib.AppendStr
import Derived.Lib.SlBytesConst
import Derived.Deep.QuietTactic
import Derived.BigQuiet
import Derived.WalkSmall
import Derived.IntWalk
import Derived.LoopTactic
import Derived.Laws.BitsAllLaws
/- Layer 15: whether a unit has bytes: both sides. -/
namespace Go.Proofs.YtjikkipdmonndaaDoor
open Go.RowKit
set_option linter.unusedSimpArgs false
set_option linter.unusedVariables false
def lenU (x : Un) : Prop := x.name.length ≤ 255 ∧ x.params.length ≤ 8 ∧ x.locals.length ≤ 1024 ∧ x.code.length ≤ 16384
instance (x : Un) : Decidable (lenU x) := by unfold lenU; infer_instance
def fitU (x : Un) : Bool := decide (lenU x) && (x.params.all fitB && (x.locals.all fitB && (fitB x.result && x.code.all rI)))
theorem fitU_len {x : Un} (h : ¬ lenU x) : fitU x = false := by unfold fitU; rw [decide_eq_false h]; rfl
theorem fitU_ps {x : Un} (h : x.params.all fitB = false) : fitU x = false := by unfold fitU; rw [h]; simp
theorem fitU_ls {x : Un} (h : x.locals.all fitB = false) : fitU x = false := by unfold fitU; rw [h]; simp
theorem fitU_rs {x : Un} (h : fitB x.result = false) : fitU x = false := by unfold fitU; rw [h]; simp
theorem fitU_cs {x : Un} (h : x.code.all rI = false) : fitU x = false := by unfold fitU; rw [h]; simp
theorem fitU_ok {x : Un} (h0 : lenU x) (h1 : x.params.all fitB = true) (h2 : x.locals.all fitB = true) (h3 : fitB x.result = true) (h4 : x.code.all rI = true) : fitU x = true := by unfold fitU; rw [decide_eq_true h0, h1, h2, h3, h4]; rfl
theorem fitU_is {x : Un} (h : fitU x = true) : lenU x ∧ x.params.all fitB = true ∧ x.locals.all fitB = true ∧ fitB x.result = true ∧ x.code.all rI = true := by
  unfold fitU at h
  simp only [Bool.and_eq_true, decide_eq_true_eq] at h
  exact h
theorem below_drew_of {w w' : World} (h : ∃ m, w' = w.drewN m) : Below w.heap.size w w' := by obtain ⟨m, rfl⟩ := h; exact Below_drewN _ _ _
theorem row_lit1 (w : World) (z : Int) (t : TypeId) (hz : I64 z) : RowR 1 intR (w.alloc (.cells #[.int .i64 z] t)) (.slice (some ⟨w.heap.size, 0, none⟩) 1 1) [z] := row_cells1 (cell_new w _ t (0, 0) 0 rfl) hz
set_option maxHeartbeats 4000000 in
theorem unit_Fits (a b c : Value) (x : Un) (w : World) (hT : STab w) (h : UnAt w a b c x) :
    Calls Tryd.prog 85 #[.agg #[.string ⟨x.name.toArray⟩, a, .int .i64 x.result, b, c]] w fun e w' => e = .returned (.bool (fitU x)) ∧ Below w.heap.size w w' := by
  have l0 : x.name.length ≤ 9223372036854775807 := h.ns
  have hcs := h.cs
  have R64 := Lib.hid h.r64
  obtain ⟨sa, ca, ea⟩ := row_get h.ps
  obtain ⟨sb, cb, eb⟩ := row_get h.ls
  obtain ⟨sc, cc, ec⟩ := row_get h.cs
  subst ea eb ec
  have l1 := h.ps.len
  have l2 := h.ls.len
  have l3 := h.cs.len
  have HLN := Lib.hid (fun q : ¬ lenU x => fitU_len q)
  have HPS := Lib.hid (fun q => fitU_ps (x := x) q)
  have HLS := Lib.hid (fun q => fitU_ls (x := x) q)
  have HRS := Lib.hid (fun q => fitU_rs (x := x) q)
  have HCS := Lib.hid (fun q => fitU_cs (x := x) q)
  have HOK := Lib.hid (fun q0 q1 q2 q3 q4 => fitU_ok (x := x) q0 q1 q2 q3 q4)
  have HDF := Lib.hid (show lenU x ↔ (x.name.length ≤ 255 ∧ x.params.length ≤ 8 ∧ x.locals.length ≤ 1024 ∧ x.code.length ≤ 16384) from Iff.rfl)
  have HS1 := Lib.hid (fun W (hb : Below w.heap.size w W) => (unit_small _ x.params W (h.ps.below intR_stable hb)).mono (fun _ _ q => And.intro q.1 (below_drew_of q.2)))
  have HS2 := Lib.hid (fun W (hb : Below w.heap.size w W) => (unit_small _ x.locals W (h.ls.below intR_stable hb)).mono (fun _ _ q => And.intro q.1 (below_drew_of q.2)))
  clear h
  have hsz : (⟨x.name.toArray⟩ : ByteArray).size = x.name.length := by simp [ByteArray.size]
  generalize (⟨x.name.toArray⟩ : ByteArray) = nm at *
  generalize hn0 : x.name.length = n0 at *
  generalize hn1 : x.params.length = n1 at *
  generalize hn2 : x.locals.length = n2 at *
  generalize hL : x.code = L at *
  generalize hn3 : L.length = n3 at *
  generalize x.result = rs at *
  have HR := Lib.hid (fun W => (unit_small (.slice (some ⟨W.heap.size, 0, none⟩) 1 1) [rs] (W.alloc (.cells #[.int .i64 rs] 3)) (row_lit1 W rs _ R64.out)).mono (fun _ _ q => And.intro q.1 (below_drew_of q.2)))
  rw [show ([rs].all fitB) = fitB rs by simp] at HR
  clear hn0 hn1 hn2 hL
  obtain ⟨W0, hW0⟩ : ∃ W0, W0 = w.alloc (.cells #[.string nm, .slice sa n1 ca, .int .i64 rs, .slice sb n2 cb, .slice sc n3 cc] 48) := ⟨_, rfl⟩
  have K := Lib.hid (show Boxed W0 w.heap.size [.string nm, .slice sa n1 ca, .int .i64 rs, .slice sb n2 cb, .slice sc n3 cc] by rw [hW0]; exact Boxed.new w _ _ (Below.refl _ _))
  have hz0 : w.heap.size < W0.heap.size := by rw [hW0]; simp
  have hB0 : Below w.heap.size w W0 := by rw [hW0]; exact (Below.refl _ _).alloc (Nat.le_refl _) _
  have HW0 := Lib.hid hW0
  clear hW0
  by_cases h0 : n0 ≤ 255
  case neg =>
    have q0 : (255 < (n0 : Int)) = True := eq_true (by omega)
    have hs := Lib.hid (HLN.out (fun g => h0 (HDF.out.1 g).1))
    clear h0
    go_enter Tryd.func85, Tryd.ntmps85
    go_wp2_with fail
    go_ret
    exact ⟨by rw [hs.out]; rfl, by rw [← HW0.out]; exact hB0⟩
  have q0 : (255 < (n0 : Int)) = False := eq_false (by omega)
  by_cases h1 : n1 ≤ 8
  case neg =>
    have q1 : (8 < (n1 : Int)) = True := eq_true (by omega)
    have hs := Lib.hid (HLN.out (fun g => h1 (HDF.out.1 g).2.1))
    clear h0 h1
    go_enter Tryd.func85, Tryd.ntmps85
    go_wp2_with fail
    go_ret
    exact ⟨by rw [hs.out]; rfl, by rw [← HW0.out]; exact hB0⟩
  have q1 : (8 < (n1 : Int)) = False := eq_false (by omega)
  by_cases h2 : n2 ≤ 1024
  case neg =>
    have q2 : (1024 < (n2 : Int)) = True := eq_true (by omega)
    have hs := Lib.hid (HLN.out (fun g => h2 (HDF.out.1 g).2.2.1))
    clear h0 h1 h2
    go_enter Tryd.func85, Tryd.ntmps85
    go_wp2_with fail
    go_ret
    exact ⟨by rw [hs.out]; rfl, by rw [← HW0.out]; exact hB0⟩
  have q2 : (1024 < (n2 : Int)) = False := eq_false (by omega)
  by_cases h3 : n3 ≤ 16384
  case neg =>
    have q3 : (16384 < (n3 : Int)) = True := eq_true (by omega)
    have hs := Lib.hid (HLN.out (fun g => h3 (HDF.out.1 g).2.2.2))
    clear h0 h1 h2 h3
    go_enter Tryd.func85, Tryd.ntmps85
    go_wp2_with fail
    go_ret
    exact ⟨by rw [hs.out]; rfl, by rw [← HW0.out]; exact hB0⟩
  have q3 : (16384 < (n3 : Int)) = False := eq_false (by omega)
  have HL0 := Lib.hid (HDF.out.2 ⟨h0, h1, h2, h3⟩)
  clear HLN HDF h0 h1 h2 h3
  cases hp : x.params.all fitB
  · have hs := Lib.hid (HPS.out hp)
    rw [hp] at HS1
    clear hp
    go_enter Tryd.func85, Tryd.ntmps85
    go_wp2_with fail
    refine (HS1.out _ (by rw [← HW0.out]; exact hB0)).mono ?_; rintro e w1 ⟨rfl, hb1⟩
    rw [← HW0.out] at hb1
    have hB1 := hB0.trans (hb1.mono hB0.size)
    go_wp2_with fail
    go_ret
    exact ⟨by rw [hs.out]; rfl, hB1⟩
  rw [hp] at HS1
  cases hq : x.locals.all fitB
  · have hs := Lib.hid (HLS.out hq)
    rw [hq] at HS2
    clear hp hq
    go_enter Tryd.func85, Tryd.ntmps85
    go_wp2_with fail
    refine (HS1.out _ (by rw [← HW0.out]; exact hB0)).mono ?_; rintro e w1 ⟨rfl, hb1⟩
    rw [← HW0.out] at hb1
    have hB1 := hB0.trans (hb1.mono hB0.size)
    have e3 := (K.out.keep hz0 hb1) 3 _ rfl
    go_wp2_with fail
    refine (HS2.out _ hB1).mono ?_; rintro e w2 ⟨rfl, hb2⟩
    have hB2 := hB1.trans (hb2.mono hB1.size)
    clear e3
    go_wp2_with fail
    go_ret
    exact ⟨by rw [hs.out]; rfl, hB2⟩
  rw [hq] at HS2
  have HOK := Lib.hid (HOK.out HL0.out hp hq)
  clear hp hq
  cases hr : fitB rs
  · have hs := Lib.hid (HRS.out hr)
    rw [hr] at HR
    clear hr
    go_enter Tryd.func85, Tryd.ntmps85
    go_wp2_with fail
    refine (HS1.out _ (by rw [← HW0.out]; exact hB0)).mono ?_; rintro e w1 ⟨rfl, hb1⟩
    rw [← HW0.out] at hb1
    have hB1 := hB0.trans (hb1.mono hB0.size)
    have e3 := (K.out.keep hz0 hb1) 3 _ rfl
    go_wp2_with fail
    refine (HS2.out _ hB1).mono ?_; rintro e w2 ⟨rfl, hb2⟩
    have hB2 := hB1.trans (hb2.mono hB1.size)
    have hb2 := hb1.trans (hb2.mono hb1.size)
    clear e3
    have e2 := (K.out.keep hz0 hb2) 2 _ rfl
    go_wp2_with fail
    refine (HR.out w2).mono ?_; rintro e w3 ⟨rfl, hb3⟩
    have hB3 := (hB2.alloc hB2.size _).trans (hb3.mono (by simp; have := hB2.size; omega))
    clear e2
    go_wp2_with fail
    go_ret
    exact ⟨by rw [hs.out]; rfl, hB3⟩
  rw [hr] at HR
  have HOK := Lib.hid (HOK.out hr)
  clear hr
  go_enter Tryd.func85, Tryd.ntmps85
  go_wp2_with fail
  refine (HS1.out _ (by rw [← HW0.out]; exact hB0)).mono ?_; rintro e w1 ⟨rfl, hb1⟩
  rw [← HW0.out] at hb1
  have hB1 := hB0.trans (hb1.mono hB0.size)
  have e3 := (K.out.keep hz0 hb1) 3 _ rfl
  go_wp2_with fail
  refine (HS2.out _ hB1).mono ?_; rintro e w2 ⟨rfl, hb2⟩
  have hB2 := hB1.trans (hb2.mono hB1.size)
  have hb2 := hb1.trans (hb2.mono hb1.size)
  clear e3
  have e2 := (K.out.keep hz0 hb2) 2 _ rfl
  go_wp2_with fail
  refine (HR.out w2).mono ?_; rintro e w3 ⟨rfl, hb3⟩
  have hB3 := (hB2.alloc hB2.size _).trans (hb3.mono (by simp; have := hB2.size; omega))
  have hb3 := (hb2.alloc hb2.size _).trans (hb3.mono (by simp; have := hb2.size; omega))
  clear e2
  have e4 := (K.out.keep hz0 hb3) 4 _ rfl
  go_wp2_with fail
  go_loopw [47] (fun j wr => ∃ k : Nat, k ≤ n3 ∧ j = .int .i64 k ∧ Hid ((L.take k).all rI = true) ∧ Below w.heap.size w wr) (fun j _ => n3 - (intOf j).toNat)
  case atStart => exact ⟨0, by omega, rfl, Lib.hid (by simp), hB3⟩
  case round =>
    clear e4 hb3 hB3 hb2 hB2 hb1 hB1 HS1 HS2 HR
    obtain ⟨k, hk, rfl, hall, hB⟩ := hrel
    have hz' := hB.size
    by_cases hlt : k < n3
    · obtain ⟨b, off, rfl, hbw, hc⟩ := ins_at hcs (k := k) (by omega)
      obtain ⟨y, hy⟩ : ∃ y, L[k]? = some y := get_some (by omega)
      obtain ⟨c0, c1, c2, w0, w1, w2⟩ := hc k y hy
      have c0 := (hB.cell (p := ⟨b, off + k * 3, none⟩) hbw).trans c0
      have c1 := (hB.cell (p := ⟨b, off + k * 3 + 1, none⟩) hbw).trans c1
      have c2 := (hB.cell (p := ⟨b, off + k * 3 + 2, none⟩) hbw).trans c2
      have hts := Lib.hid (take_snoc hy)
      have hR := op_RightS y.1 y.2.1 y.2.2
      have hno := Lib.hid (all_take_no hy)
      have hxr : oRight y.1 y.2.1 y.2.2 = rI y := rfl
      rw [hxr] at hR
      clear hc hxr hy
      cases hr : rI y
      · have hs := Lib.hid (HCS.out (hno.out hr))
        rw [hr] at hR
        clear hr hall hts
        go_wp2_with fail
        refine (hR _ (hT.below (by (repeat' (first | (with_reducible exact Below.refl _ _) | (with_reducible assumption) | (with_reducible refine more_below ?_ ?_ _ _) | (with_reducible refine below_drewN ?_ _) | (with_reducible refine Below.alloc ?_ ?_ _) | (with_reducible refine Below.drew ?_) | (with_reducible refine Below.setCell ?_ ?_ _) | (simp only [World.size_alloc, World.size_setCell, World.size_drew, more_size, World.heap_drewN]; omega) | go_size))))).mono ?_; rintro e W1 ⟨rfl, hb1⟩
        have hB1 : Below w.heap.size w W1 := Below.trans (by (repeat' (first | (with_reducible exact Below.refl _ _) | (with_reducible assumption) | (with_reducible refine more_below ?_ ?_ _ _) | (with_reducible refine below_drewN ?_ _) | (with_reducible refine Below.alloc ?_ ?_ _) | (with_reducible refine Below.drew ?_) | (with_reducible refine Below.setCell ?_ ?_ _) | (simp only [World.size_alloc, World.size_setCell, World.size_drew, more_size, World.heap_drewN]; omega) | go_size))) (hb1.mono (by simp; omega))
        go_wp2_with fail
        go_ret
        exact ⟨by rw [hs.out]; rfl, hB1⟩
      · rw [hr] at hR
        have hal := Lib.hid (show (L.take (k + 1)).all rI = true by rw [hts.out, List.all_append, hall.out]; simp [hr])
        clear hr hall hts
        go_wp2_with fail
        refine (hR _ (hT.below (by (repeat' (first | (with_reducible exact Below.refl _ _) | (with_reducible assumption) | (with_reducible refine more_below ?_ ?_ _ _) | (with_reducible refine below_drewN ?_ _) | (with_reducible refine Below.alloc ?_ ?_ _) | (with_reducible refine Below.drew ?_) | (with_reducible refine Below.setCell ?_ ?_ _) | (simp only [World.size_alloc, World.size_setCell, World.size_drew, more_size, World.heap_drewN]; omega) | go_size))))).mono ?_; rintro e W1 ⟨rfl, hb1⟩
        have hB1 : Below w.heap.size w W1 := Below.trans (by (repeat' (first | (with_reducible exact Below.refl _ _) | (with_reducible assumption) | (with_reducible refine more_below ?_ ?_ _ _) | (with_reducible refine below_drewN ?_ _) | (with_reducible refine Below.alloc ?_ ?_ _) | (with_reducible refine Below.drew ?_) | (with_reducible refine Below.setCell ?_ ?_ _) | (simp only [World.size_alloc, World.size_setCell, World.size_drew, more_size, World.heap_drewN]; omega) | go_size))) (hb1.mono (by simp; omega))
        go_wp2_with fail
        go_roundw
        case rel => exact ⟨k + 1, by omega, by simp, hal, hB1⟩
        case measure => first | (simp [intOf]; done) | (simp [intOf]; omega)
    · obtain rfl : k = n3 := by omega
      have hs := Lib.hid (HOK.out (by have := hall.out; rwa [List.take_of_length_le (by omega)] at this))
      go_wp2_with fail
      go_ret
      exact ⟨by rw [hs.out]; rfl, hB⟩
set_option maxHeartbeats 4000000 in
theorem ref15_Fits (a b c : Value) (x : Un) (w : World) (h : UnAt w a b c x) :
    Calls Tryd.prog 60 #[.agg #[.string ⟨x.name.toArray⟩, a, .int .i64 x.result, b, c]] w fun e w' => e = .returned (.bool (fitU x)) ∧ Below w.heap.size w w' := by
  have l0 : x.name.length ≤ 9223372036854775807 := h.ns
  have hcs := h.cs
  have R64 := Lib.hid h.r64
  obtain ⟨sa, ca, ea⟩ := row_get h.ps
  obtain ⟨sb, cb, eb⟩ := row_get h.ls
  obtain ⟨sc, cc, ec⟩ := row_get h.cs
  subst ea eb ec
  have l1 := h.ps.len
  have l2 := h.ls.len
  have l3 := h.cs.len
  have HLN := Lib.hid (fun q : ¬ lenU x => fitU_len q)
  have HPS := Lib.hid (fun q => fitU_ps (x := x) q)
  have HLS := Lib.hid (fun q => fitU_ls (x := x) q)
  have HRS := Lib.hid (fun q => fitU_rs (x := x) q)
  have HCS := Lib.hid (fun q => fitU_cs (x := x) q)
  have HOK := Lib.hid (fun q0 q1 q2 q3 q4 => fitU_ok (x := x) q0 q1 q2 q3 q4)
  have HDF := Lib.hid (show lenU x ↔ (x.name.length ≤ 255 ∧ x.params.length ≤ 8 ∧ x.locals.length ≤ 1024 ∧ x.code.length ≤ 16384) from Iff.rfl)
  have HS1 := Lib.hid (fun W (hb : Below w.heap.size w W) => (ref15_bytes _ x.params W (h.ps.below intR_stable hb)).mono (fun _ _ q => And.intro q.1 (below_drew_of q.2)))
  have HS2 := Lib.hid (fun W (hb : Below w.heap.size w W) => (ref15_bytes _ x.locals W (h.ls.below intR_stable hb)).mono (fun _ _ q => And.intro q.1 (below_drew_of q.2)))
  clear h
  have hsz : (⟨x.name.toArray⟩ : ByteArray).size = x.name.length := by simp [ByteArray.size]
  generalize (⟨x.name.toArray⟩ : ByteArray) = nm at *
  generalize hn0 : x.name.length = n0 at *
  generalize hn1 : x.params.length = n1 at *
  generalize hn2 : x.locals.length = n2 at *
  generalize hL : x.code = L at *
  generalize hn3 : L.length = n3 at *
  generalize x.result = rs at *
  clear hn0 hn1 hn2 hL
  have HFB := Lib.hid (show fitB rs = decide (0 ≤ rs ∧ rs ≤ 255) from rfl)
  go_enter Tryd.func60, Tryd.ntmps60
  go_wp2_with fail
  go_loopw [3] (fun j wr => ∃ k : Nat, k ≤ n3 ∧ j = .int .i64 k ∧ Hid ((L.take k).all rI = true) ∧ Hid (Below (w.heap.size + 1) (w.alloc (.cells #[.string nm, .slice sa n1 ca, .int .i64 rs, .slice sb n2 cb, .slice sc n3 cc] 48)) wr)) (fun j _ => n3 - (intOf j).toNat)
  case atStart => exact ⟨0, by omega, rfl, Lib.hid (by simp), Lib.hid (Below.refl _ _)⟩
  case round =>
    obtain ⟨k, hk, rfl, hall, hBw⟩ := hrel
    have z0 : w.heap.size < wr.heap.size := by have := hBw.out.size; simp at this; omega
    have hB : Below w.heap.size w wr := Below.trans (by (repeat' (first | (with_reducible exact Below.refl _ _) | (with_reducible assumption) | (with_reducible refine below_drewN ?_ _) | (with_reducible refine Below.alloc ?_ ?_ _) | (with_reducible refine Below.drew ?_) | (with_reducible refine Below.setCell ?_ ?_ _) | go_size))) (hBw.out.mono (by omega))
    have K := Lib.hid (Boxed.new w [.string nm, .slice sa n1 ca, .int .i64 rs, .slice sb n2 cb, .slice sc n3 cc] 48 hBw.out)
    have e4 := K.out 4 _ rfl
    by_cases hlt : k < n3
    · obtain ⟨b, off, rfl, hbw, hc⟩ := ins_at hcs (k := k) (by omega)
      obtain ⟨y, hy⟩ : ∃ y, L[k]? = some y := get_some (by omega)
      obtain ⟨c0, c1, c2, w0, w1, w2⟩ := hc k y hy
      have c0 := (hB.cell (p := ⟨b, off + k * 3, none⟩) hbw).trans c0
      have c1 := (hB.cell (p := ⟨b, off + k * 3 + 1, none⟩) hbw).trans c1
      have c2 := (hB.cell (p := ⟨b, off + k * 3 + 2, none⟩) hbw).trans c2
      have hts := Lib.hid (take_snoc hy)
      have hR := ref12_Right y.1 y.2.1 y.2.2
      have hno := Lib.hid (all_take_no hy)
      have hxr : oRight y.1 y.2.1 y.2.2 = rI y := rfl
      rw [hxr] at hR
      clear hc hxr hy
      cases hr : rI y
      · have hs := Lib.hid (HCS.out (hno.out hr))
        rw [hr] at hR
        clear hr hall hts
        go_wp2_with fail
        refine (hR _).mono ?_; rintro e W1 ⟨rfl, hb1⟩
        have hB1 : Below w.heap.size w W1 := hB.trans (hb1.mono hB.size)
        go_wp2_with fail
        go_ret
        exact ⟨by rw [hs.out]; rfl, hB1⟩
      · rw [hr] at hR
        have hal := Lib.hid (show (L.take (k + 1)).all rI = true by rw [hts.out, List.all_append, hall.out]; simp [hr])
        clear hr hall hts
        go_wp2_with fail
        refine (hR _).mono ?_; rintro e W1 ⟨rfl, hb1⟩
        have hB1 := hBw.out.trans (hb1.mono (by omega))
        go_wp2_with fail
        go_roundw
        case rel => exact ⟨k + 1, by omega, by simp, hal, Lib.hid hB1⟩
        case measure => first | (simp [intOf]; done) | (simp [intOf]; omega)
    · obtain rfl : k = n3 := by omega
      have HC := Lib.hid (show L.all rI = true by have := hall.out; rwa [List.take_of_length_le (by omega)] at this)
      have e0 := K.out 0 _ rfl
      have e1 := K.out 1 _ rfl
      have e2 := K.out 2 _ rfl
      have e3 := K.out 3 _ rfl
      clear hcs hall hlt
      by_cases h0 : n0 ≤ 255
      case neg =>
        have q0 : ((n0 : Int) < 256) = False := eq_false (by omega)
        have hs := Lib.hid (HLN.out (fun g => h0 (HDF.out.1 g).1))
        clear h0
        go_wp2_with fail
        go_ret
        exact ⟨by rw [hs.out]; rfl, hB⟩
      have q0 : ((n0 : Int) < 256) = True := eq_true (by omega)
      by_cases h1 : n1 ≤ 8
      case neg =>
        have q1 : ((n1 : Int) ≤ 8) = False := eq_false (by omega)
        have hs := Lib.hid (HLN.out (fun g => h1 (HDF.out.1 g).2.1))
        clear h0 h1
        go_wp2_with fail
        go_ret
        exact ⟨by rw [hs.out]; rfl, hB⟩
      have q1 : ((n1 : Int) ≤ 8) = True := eq_true (by omega)
      by_cases h2 : n2 ≤ 1024
      case neg =>
        have q2 : ((n2 : Int) ≤ 1024) = False := eq_false (by omega)
        have hs := Lib.hid (HLN.out (fun g => h2 (HDF.out.1 g).2.2.1))
        clear h0 h1 h2
        go_wp2_with fail
        go_ret
        exact ⟨by rw [hs.out]; rfl, hB⟩
      have q2 : ((n2 : Int) ≤ 1024) = True := eq_true (by omega)
      by_cases h3 : k ≤ 16384
      case neg =>
        have q3 : ((k : Int) ≤ 16384) = False := eq_false (by omega)
        have hs := Lib.hid (HLN.out (fun g => h3 (HDF.out.1 g).2.2.2))
        clear h0 h1 h2 h3
        go_wp2_with fail
        go_ret
        exact ⟨by rw [hs.out]; rfl, hB⟩
      have q3 : ((k : Int) ≤ 16384) = True := eq_true (by omega)
      have HL0 := Lib.hid (HDF.out.2 ⟨h0, h1, h2, h3⟩)
      clear HLN HDF h0 h1 h2 h3
      cases hp : x.params.all fitB
      · have hs := Lib.hid (HPS.out hp)
        rw [hp] at HS1
        clear hp
        go_wp2_with fail
        refine (HS1.out _ hB).mono ?_; rintro e w1 ⟨rfl, hb1⟩
        have hB1 := hB.trans (hb1.mono hB.size)
        have e2 := (K.out.keep z0 hb1) 2 _ rfl
        have e3 := (K.out.keep z0 hb1) 3 _ rfl
        go_wp2_with fail
        go_ret
        exact ⟨by rw [hs.out]; rfl, hB1⟩
      rw [hp] at HS1
      cases hq : x.locals.all fitB
      · have hs := Lib.hid (HLS.out hq)
        rw [hq] at HS2
        clear hp hq
        go_wp2_with fail
        refine (HS1.out _ hB).mono ?_; rintro e w1 ⟨rfl, hb1⟩
        have hB1 := hB.trans (hb1.mono hB.size)
        have e2 := (K.out.keep z0 hb1) 2 _ rfl
        have e3 := (K.out.keep z0 hb1) 3 _ rfl
        go_wp2_with fail
        refine (HS2.out _ hB1).mono ?_; rintro e w2 ⟨rfl, hb2⟩
        have hB2 := hB1.trans (hb2.mono hB1.size)
        have hb2 := hb1.trans (hb2.mono hb1.size)
        have e2 := (K.out.keep z0 hb2) 2 _ rfl
        go_wp2_with fail
        go_ret
        exact ⟨by rw [hs.out]; rfl, hB2⟩
      rw [hq] at HS2
      have HOK := Lib.hid (HOK.out HL0.out hp hq)
      clear hp hq
      by_cases r0 : 0 ≤ rs
      case neg =>
        have hs := Lib.hid (HRS.out (HFB.out.trans (decide_eq_false (fun g => r0 g.1))))
        have q4 : (0 ≤ rs) = False := eq_false r0
        have q5 : (rs < 0) = True := eq_true (by omega)
        clear r0
        go_wp2_with fail
        refine (HS1.out _ hB).mono ?_; rintro e w1 ⟨rfl, hb1⟩
        have hB1 := hB.trans (hb1.mono hB.size)
        have e2 := (K.out.keep z0 hb1) 2 _ rfl
        have e3 := (K.out.keep z0 hb1) 3 _ rfl
        go_wp2_with fail
        refine (HS2.out _ hB1).mono ?_; rintro e w2 ⟨rfl, hb2⟩
        have hB2 := hB1.trans (hb2.mono hB1.size)
        have hb2 := hb1.trans (hb2.mono hb1.size)
        have e2 := (K.out.keep z0 hb2) 2 _ rfl
        go_wp2_with fail
        go_ret
        exact ⟨by rw [hs.out]; rfl, hB2⟩
      have q4 : (0 ≤ rs) = True := eq_true r0
      have q5 : (rs < 0) = False := eq_false (by omega)
      by_cases r1 : rs ≤ 255
      case neg =>
        have hs := Lib.hid (HRS.out (HFB.out.trans (decide_eq_false (fun g => r1 g.2))))
        have q6 : (rs < 256) = False := eq_false (by omega)
        have q7 : (256 ≤ rs) = True := eq_true (by omega)
        clear r0 r1
        go_wp2_with fail
        refine (HS1.out _ hB).mono ?_; rintro e w1 ⟨rfl, hb1⟩
        have hB1 := hB.trans (hb1.mono hB.size)
        have e2 := (K.out.keep z0 hb1) 2 _ rfl
        have e3 := (K.out.keep z0 hb1) 3 _ rfl
        go_wp2_with fail
        refine (HS2.out _ hB1).mono ?_; rintro e w2 ⟨rfl, hb2⟩
        have hB2 := hB1.trans (hb2.mono hB1.size)
        have hb2 := hb1.trans (hb2.mono hb1.size)
        have e2 := (K.out.keep z0 hb2) 2 _ rfl
        go_wp2_with fail
        go_ret
        exact ⟨by rw [hs.out]; rfl, hB2⟩
      have q6 : (rs < 256) = True := eq_true (by omega)
      have q7 : (256 ≤ rs) = False := eq_false (by omega)
      have hs := Lib.hid (HOK.out (HFB.out.trans (decide_eq_true ⟨r0, r1⟩)) HC.out)
      clear r0 r1
      go_wp2_with fail
      refine (HS1.out _ hB).mono ?_; rintro e w1 ⟨rfl, hb1⟩
      have hB1 := hB.trans (hb1.mono hB.size)
      have e2 := (K.out.keep z0 hb1) 2 _ rfl
      have e3 := (K.out.keep z0 hb1) 3 _ rfl
      go_wp2_with fail
      refine (HS2.out _ hB1).mono ?_; rintro e w2 ⟨rfl, hb2⟩
      have hB2 := hB1.trans (hb2.mono hB1.size)
      have hb2 := hb1.trans (hb2.mono hb1.size)
      have e2 := (K.out.keep z0 hb2) 2 _ rfl
      go_wp2_with fail
      go_ret
      exact ⟨by rw [hs.out]; rfl, hB2⟩
end Go.Proofs.YtjikkipdmonndaaDoor

/- Rows of the call's own, as what they read as: elements of q cells each. -/
namespace Go.Proofs.YtjikkipdmonndaaDoor
open Go.RowKit
set_option linter.unusedSimpArgs false
set_option linter.unusedVariables false
theorem flat_len {α : Type} {enc : α → List Value} {q : Nat} (h : ∀ x, (enc x).length = q) : ∀ L : List α, (L.flatMap enc).length = L.length * q
  | [] => by simp
  | x :: t => by
    rw [List.flatMap_cons, List.length_append, h x, flat_len h t, List.length_cons, Nat.succ_mul]; omega
theorem flat_get {α : Type} {enc : α → List Value} {q : Nat} (h : ∀ x, (enc x).length = q) : ∀ (L : List α) (i j : Nat) (x : α), L[i]? = some x → j < q → (L.flatMap enc)[i * q + j]? = (enc x)[j]?
  | [], i, j, x, hx, _ => by simp at hx
  | y :: t, i, j, x, hx, hj => by
    rw [List.flatMap_cons]
    cases i with
    | zero =>
      obtain rfl : y = x := by simpa using hx
      rw [Nat.zero_mul, Nat.zero_add, List.getElem?_append_left (by rw [h]; exact hj)]
    | succ i =>
      rw [List.getElem?_append_right (by rw [h, Nat.succ_mul]; omega), h, ← flat_get h t i j x (by simpa using hx) hj]
      congr 1
      rw [Nat.succ_mul]; omega
theorem row_owned {α : Type} {enc : α → List Value} {q : Nat} {R : Rep α} {w : World} {B : Nat} {e : TypeId} {v : Value} {L : List α} (h : ∀ x, (enc x).length = q) (hv : w.ownsRow B e q v L.length (L.flatMap enc)) (hR : ∀ x ∈ L, R w (enc x) x) : RowR q R w v L := by
  obtain ⟨hl, hv⟩ := hv
  rcases hv with ⟨rfl, h0⟩ | ⟨g, cap, cur, rfl, hb, hg, h1, h2, h3, h4⟩
  · exact Or.inl ⟨none, 0, rfl, List.length_eq_zero_iff.1 h0, fun _ => rfl⟩
  · by_cases h0 : L.length = 0
    · exact Or.inl ⟨_, cap, by rw [h0], List.length_eq_zero_iff.1 h0, fun h => by cases h⟩
    · have hlt : g < w.heap.size := by
        by_cases hgl : g < w.heap.size
        · exact hgl
        · rw [Array.getElem?_eq_none (Nat.le_of_not_lt hgl)] at hg; cases hg
      refine Or.inr ⟨g, 0, cap, rfl, by omega, h1, h2, hlt, fun i x hx => ?_⟩
      refine ⟨enc x, h x, fun j u hu => ?_, hR x (List.mem_of_getElem? hx)⟩
      have hj : j < q := by rw [← h x]; exact lt_of_get hu
      have hi := lt_of_get hx
      have h5 := flat_get h L i j x hx hj
      have hij : i * q + j < L.length * q := by
        have : (i + 1) * q ≤ L.length * q := Nat.mul_le_mul_right q hi
        rw [Nat.succ_mul] at this
        omega
      rw [hu, ← h4, List.getElem?_take, if_pos hij] at h5
      unfold World.cell?
      rw [hg]
      simp only [Nat.zero_add]
      simpa using h5
end Go.Proofs.YtjikkipdmonndaaDoor

/- Rows as chunks of cells: what is appended to a row of the call's own, whatever its elements are. -/
namespace Go.Proofs.YtjikkipdmonndaaDoor
open Go.RowKit
set_option linter.unusedSimpArgs false
set_option linter.unusedVariables false
abbrev Chunk (q : Nat) := {c : List Value // c.length = q}
def flatC {q : Nat} (CH : List (Chunk q)) : List Value := CH.flatMap Subtype.val
theorem flatC_len {q : Nat} (CH : List (Chunk q)) : (flatC CH).length = CH.length * q := flat_len (fun x => x.2) CH
theorem flatC_app {q : Nat} (A B : List (Chunk q)) : flatC (A ++ B) = flatC A ++ flatC B := by simp [flatC]
theorem flatC_one {q : Nat} (c : Chunk q) : flatC [c] = c.1 := by simp [flatC]
theorem flatC_at {q : Nat} (CH : List (Chunk q)) {k : Nat} {u : Value} (h : (flatC CH)[k]? = some u) : ∃ i j c, k = i * q + j ∧ j < q ∧ CH[i]? = some c ∧ c.1[j]? = some u := by
  have hk : k < CH.length * q := by rw [← flatC_len]; exact lt_of_get h
  have hq : 0 < q := by
    rcases Nat.eq_zero_or_pos q with rfl | h0
    · simp at hk
    · exact h0
  have hi : k / q < CH.length := Nat.div_lt_of_lt_mul (by rw [Nat.mul_comm]; exact hk)
  obtain ⟨c, hc⟩ := get_some hi
  have hkk : k = k / q * q + k % q := by rw [Nat.mul_comm]; exact (Nat.div_add_mod k q).symm
  have hr : k % q < q := Nat.mod_lt _ hq
  refine ⟨k / q, k % q, c, hkk, hr, hc, ?_⟩
  rw [← flat_get (enc := Subtype.val) (fun x => x.2) CH (k / q) (k % q) c hc hr, ← hkk]
  exact h
theorem row_chunks {α : Type} {q : Nat} {R : Rep α} {w : World} {v : Value} {L : List α} (h : RowR q R w v L) : ∃ CH : List (Chunk q), CH.length = L.length ∧ (∀ (i : Nat) (c : Chunk q) (x : α), CH[i]? = some c → L[i]? = some x → R w c.1 x) ∧ Src w v L.length (flatC CH) := by
  rcases h with ⟨a, cap, rfl, rfl, h⟩ | ⟨b, off, cap, h1, h2, h3, h4, h5, h6⟩
  · refine ⟨[], rfl, fun i c x hc => by simp at hc, ?_⟩
    cases a with
    | none => obtain rfl := h rfl; exact Or.inl ⟨rfl, rfl, rfl⟩
    | some ad => exact Or.inr ⟨ad, cap, rfl, fun j u hu => by simp [flatC] at hu⟩
  · obtain ⟨f, hf⟩ := Classical.axiomOfChoice (r := fun (i : Fin L.length) (C : List Value) => C.length = q ∧ (∀ j u, C[j]? = some u → w.cell? ⟨b, off + i.val * q + j, none⟩ = some u) ∧ R w C L[i]) (fun i => h6 i.val L[i] (by simp))
    refine ⟨List.ofFn (fun i => ⟨f i, (hf i).1⟩), by simp, fun i c x hc hx => ?_, Or.inr ⟨⟨b, off, none⟩, cap, h1, fun k u hu => ?_⟩⟩
    · have hi := lt_of_get hx
      have e1 : c = ⟨f ⟨i, hi⟩, (hf ⟨i, hi⟩).1⟩ := by simpa [hi] using hc.symm
      have e2 : L[(⟨i, hi⟩ : Fin L.length)] = x := by simpa [hi] using hx
      rw [e1, ← e2]
      exact (hf ⟨i, hi⟩).2.2
    · obtain ⟨i, j, c, rfl, hj, hc, hcu⟩ := flatC_at _ hu
      have hi : i < L.length := by have := lt_of_get hc; simpa using this
      have e1 : c = ⟨f ⟨i, hi⟩, (hf ⟨i, hi⟩).1⟩ := by simpa [hi] using hc.symm
      rw [e1] at hcu
      rw [add_at, ← Nat.add_assoc]
      exact (hf ⟨i, hi⟩).2.1 j u hcu
theorem row_conv {α β : Type} {q : Nat} {R : Rep α} {S : Rep β} {w : World} {v : Value} {L : List α} {M : List β} (h : RowR q R w v L) (hl : L.length = M.length) (hR : ∀ (i : Nat) (x : α) (y : β) (cs : List Value), L[i]? = some x → M[i]? = some y → R w cs x → S w cs y) : RowR q S w v M := by
  rcases h with ⟨a, cap, rfl, rfl, h⟩ | ⟨b, off, cap, h1, h2, h3, h4, h5, h6⟩
  · exact Or.inl ⟨a, cap, rfl, List.length_eq_zero_iff.1 hl.symm, h⟩
  · refine Or.inr ⟨b, off, cap, by rw [← hl]; exact h1, by omega, by omega, h4, h5, fun i y hy => ?_⟩
    obtain ⟨x, hx⟩ := get_some (L := L) (n := i) (by have := lt_of_get hy; omega)
    obtain ⟨C, g1, g2, g3⟩ := h6 i x hx
    exact ⟨C, g1, g2, hR i x y C hx hy g3⟩
theorem row_of_chunks {α : Type} {q : Nat} {R : Rep α} {w : World} {B : Nat} {e : TypeId} {v : Value} {n : Nat} {CH : List (Chunk q)} {L : List α} (hv : w.ownsRow B e q v n (flatC CH)) (hn : n = CH.length) (hl : CH.length = L.length) (hR : ∀ (i : Nat) (c : Chunk q) (x : α), CH[i]? = some c → L[i]? = some x → R w c.1 x) : RowR q R w v L := by
  subst hn
  exact row_conv (row_owned (enc := Subtype.val) (R := fun _ cs (c : Chunk q) => cs = c.1) (fun x => x.2) hv (fun _ _ => rfl)) hl (fun i x y cs hx hy e => by rw [e]; exact hR i x y hx hy)
theorem chunks_one {q : Nat} {CH : List (Chunk q)} (h : ∀ (i : Nat) (c : Chunk q), CH[i]? = some c → ∀ u ∈ c.1, u.oneCell' = true) : ∀ u ∈ flatC CH, u.oneCell' = true := by
  intro u hu
  obtain ⟨c, hc, hu⟩ := List.mem_flatMap.1 hu
  obtain ⟨i, hi, rfl⟩ := List.getElem_of_mem hc
  exact h i _ (by simp [hi]) u hu
theorem own_ne_type {w : World} {B : Nat} {e t : TypeId} {q n g : Nat} {u : Value} {xs : List Value} {C : Array Value} {fr : Nat × Nat} (h : w.ownsRow B e q u n xs) (hg : w.heap[g]? = some (.cells C t fr)) (hne : e ≠ t) : u.ownBlock ≠ some g := by
  intro hu
  rcases h.2 with ⟨h0, _⟩ | ⟨b, cap, cur, h0, _, h1, _⟩
  · rw [h0] at hu; simp [Value.ownBlock] at hu
  · rw [h0] at hu
    have : b = g := by simpa [Value.ownBlock] using hu
    subst this
    rw [hg] at h1
    simp at h1
    exact hne h1.2.1.symm
end Go.Proofs.YtjikkipdmonndaaDoor

/- What lies in blocks of one's own (with XChunkC: rows as chunks of cells). -/
namespace Go.Proofs.YtjikkipdmonndaaDoor
open Go.RowKit
set_option linter.unusedSimpArgs false
set_option linter.unusedVariables false
/-- what lies in a block of one's own -/
theorem heap_new (w : World) (o : Obj) : (w.alloc o).heap[w.heap.size]? = some o := by show (w.heap.push o)[w.heap.size]? = _; simp
theorem obj_grown {w w' : World} {ob : Option Nat} {g : Nat} {o : Obj} (h : w.heap[g]? = some o) (hg : w.grownBy w' ob) (hne : ob ≠ some g) : w'.heap[g]? = some o := by
  have hlt : g < w.heap.size := by
    by_cases hgl : g < w.heap.size
    · exact hgl
    · rw [Array.getElem?_eq_none (Nat.le_of_not_lt hgl)] at h; cases h
  exact (hg.block g hlt (fun e => hne e.symm)).trans h
theorem obj_below {w w' : World} {g : Nat} {o : Obj} (h : w.heap[g]? = some o) (hb : Below w.heap.size w w') : w'.heap[g]? = some o := by
  have hlt : g < w.heap.size := by
    by_cases hgl : g < w.heap.size
    · exact hgl
    · rw [Array.getElem?_eq_none (Nat.le_of_not_lt hgl)] at h; cases h
  exact (hb.block g hlt).trans h
theorem own_ne_empty {w : World} {g p : Nat} {t : TypeId} {C : Array Value} {fr fr' : Nat × Nat} {s : TypeId} (h : w.heap[g]? = some (.cells #[] t fr)) (hp : w.heap[p]? = some (.cells C s fr')) (hC : 0 < C.size) : (Value.slice (some ⟨g, 0, none⟩) 0 0).ownBlock ≠ some p := by
  intro hu
  have : g = p := by simpa [Value.ownBlock] using hu
  subst this
  rw [h] at hp
  simp at hp
  obtain ⟨rfl, _⟩ := hp
  simp at hC
theorem owns_nil_at {w : World} {B g q : Nat} {t : TypeId} (h : w.heap[g]? = some (.cells #[] t)) (hB : B ≤ g) : w.ownsRow B t q (.slice (some ⟨g, 0, none⟩) 0 0) 0 [] :=
  ⟨by simp, Or.inr ⟨g, 0, #[], rfl, hB, h, by omega, by unfold maxLen; omega, by simp, by simp⟩⟩
theorem src_at {w : World} {g n : Nat} {t : TypeId} {C : List Value} (h : w.heap[g]? = some (.cells C.toArray t)) : Src w (.slice (some ⟨g, 0, none⟩) n n) n C :=
  Or.inr ⟨⟨g, 0, none⟩, n, rfl, fun j u hu => by
    rw [add_at, Nat.zero_add]
    unfold World.cell?
    rw [show (⟨g, j, none⟩ : Addr).block = g from rfl, h]
    simpa using hu⟩
end Go.Proofs.YtjikkipdmonndaaDoor

/- A region that draws its order, by facts that stay: a condition on what has been carried out, the frame and the world; one goal for each operation, whatever the order. -/
namespace Go.Proofs.YtjikkipdmonndaaDoor
open Go.RowKit
set_option linter.unusedSimpArgs false
set_option linter.unusedVariables false
section
variable {P : Program} {ops : Array Oper} {Q : Exit → Act → World → Prop} {S : Array Bool → Act → World → Prop}
def openN : Nat → Array Bool → Nat
  | 0, _ => 0
  | k + 1, L => openN k L + (if L.getD k true then 0 else 1)
theorem openN_le : ∀ (k : Nat) (L : Array Bool), openN k L ≤ k
  | 0, _ => Nat.le_refl _
  | k + 1, L => by have := openN_le k L; show openN k L + _ ≤ _; split <;> omega
theorem getD_set_self (L : Array Bool) (i : Nat) : (L.setIfInBounds i true).getD i true = true := by
  rcases Nat.lt_or_ge i L.size with h | h
  · simp [h]
  · simp [Array.getElem?_eq_none h]
theorem openN_past {i : Nat} {L : Array Bool} : ∀ k : Nat, k ≤ i → openN k (L.setIfInBounds i true) = openN k L
  | 0, _ => rfl
  | k + 1, h => by
    show openN k _ + _ = openN k L + _
    rw [openN_past k (by omega), getD_set_ne true (by omega)]
theorem openN_set {i : Nat} {L : Array Bool} (hL : L.getD i true = false) : ∀ k : Nat, i < k → openN k (L.setIfInBounds i true) + 1 = openN k L
  | 0, h => by omega
  | k + 1, h => by
    show openN k _ + _ + 1 = openN k L + _
    by_cases hik : i = k
    · subst hik
      rw [openN_past i (Nat.le_refl _), getD_set_self, hL]; simp
    · have := openN_set hL k (by omega)
      rw [getD_set_ne true hik]; omega
theorem openN_zero {L : Array Bool} : ∀ k : Nat, openN k L = 0 → ∀ j, j < k → L.getD j true = true
  | 0, _, j, hj => by omega
  | k + 1, h, j, hj => by
    have h' : openN k L + (if L.getD k true then 0 else 1) = 0 := h
    by_cases hjk : j = k
    · subst hjk
      cases hq : L.getD j true
      · rw [hq] at h'; simp at h'
      · rfl
    · exact openN_zero k (by omega) j (by omega)
/-- does each number wait for smaller ones alone? -/
def ordered (ops : Array Oper) : Bool := (List.range ops.size).all fun i => match ops[i]? with
  | some o => o.after.all fun e => !Region.binds .any e || decide (e.on < i)
  | none => true
theorem ordered_spec (h : ordered ops = true) {i : Nat} {o : Oper} (ho : ops[i]? = some o) : ∀ e ∈ o.after, Region.binds .any e = true → e.on < i := by
  intro e he hb
  have hlt : i < ops.size := (Array.getElem?_eq_some_iff.1 ho).1
  have := List.all_eq_true.1 h i (List.mem_range.2 hlt)
  rw [ho] at this
  have := Array.all_eq_true_iff_forall_mem.1 this e he
  rw [hb] at this
  simpa using this
theorem getD_two {L : Array Bool} {j : Nat} (h : j < L.size) : L.getD j true = L.getD j false := by simp [h]
theorem ready_nil (ho : ordered ops = true) {L : Array Bool} (hL : L.size = ops.size) (h : Region.ready .any ops L = []) : ∀ j, j < ops.size → L.getD j false = true := by
  intro j
  induction j using Nat.strongRecOn with
  | ind j ih =>
    intro hj
    cases hq : L.getD j false
    · exfalso
      have hm : j ∈ Region.ready .any ops L := mem_ready.2 ⟨by rw [getD_two (by omega)]; exact hq, ops[j], Array.getElem?_eq_some_iff.2 ⟨hj, rfl⟩, fun e he hb => by
        have hlt := ordered_spec ho (Array.getElem?_eq_some_iff.2 ⟨hj, rfl⟩) e he hb
        exact ih _ hlt (by omega)⟩
      rw [h] at hm
      cases hm
    · rfl
/-- what number i waits for -/
def waitsOf (ops : Array Oper) (i : Nat) : List Nat := match ops[i]? with
  | some o => (o.after.toList.filter (Region.binds .any)).map (·.on)
  | none => []
/-- what is listed has all listed that it waits for -/
def Closed (ops : Array Oper) (L : Array Bool) : Prop := ∀ j, L.getD j false = true → ∀ k ∈ waitsOf ops j, L.getD k false = true
theorem Closed.step {L : Array Bool} (hC : Closed ops L) {j k : Nat} (h : L.getD j false = true) (hk : (waitsOf ops j).contains k = true) : L.getD k false = true := hC j h k (by simpa using hk)
theorem getD_no {L : Array Bool} {i : Nat} (h0 : L.getD i true = false) (h : L.getD i false = true) : False := by
  rcases Nat.lt_or_ge i L.size with h' | h'
  · rw [getD_two h', h] at h0; cases h0
  · simp [h'] at h
/-- number i, wherever it comes -/
def StepAt (P : Program) (ops : Array Oper) (Q : Exit → Act → World → Prop) (S : Array Bool → Act → World → Prop) (i : Nat) : Prop :=
  ∀ L b v, Closed ops L → L.getD i true = false → (∀ j ∈ waitsOf ops i, L.getD j false = true) → S L b v → wpOp P ops Q i (fun b' v' => S (L.setIfInBounds i true) b' v') b v
theorem StepAt.mk {i : Nat} {o : Oper} {ws : List Nat} (ho : ops[i]? = some o) (hw : waitsOf ops i = ws)
    (h : ∀ L b v, Closed ops L → L.getD i true = false → (∀ j ∈ ws, L.getD j false = true) → S L b v → ∀ K : Act → World → Prop, Shut (∀ b' v', S (L.setIfInBounds i true) b' v' → K b' v') →
      if Region.wanted o (yielded ops b.tmps) = true then Oper.wp P o b v K Q else K (b.put o.dst undef) v) : StepAt P ops Q S i :=
  fun L b v hC h0 hj hS => wpOp_step ho fun K hK => h L b v hC h0 (hw ▸ hj) hS K hK
def AllSteps (P : Program) (ops : Array Oper) (Q : Exit → Act → World → Prop) (S : Array Bool → Act → World → Prop) (n : Nat) : Prop := ∀ i, i < n → StepAt P ops Q S i
theorem AllSteps.zero : AllSteps P ops Q S 0 := fun _ h => by omega
theorem AllSteps.succ {n : Nat} (h : AllSteps P ops Q S n) (hn : StepAt P ops Q S n) : AllSteps P ops Q S (n + 1) := fun i hi => by
  by_cases hin : i = n
  · exact hin ▸ hn
  · exact h i (by omega)
theorem any_facts (ho : ordered ops = true) (hs : AllSteps P ops Q S ops.size) (he : ∀ L b v, (∀ j, j < ops.size → L.getD j false = true) → S L b v → Q .normal b v) :
    ∀ (n : Nat) (L : Array Bool) (b : Act) (v : World), L.size = ops.size → Closed ops L → openN ops.size L ≤ n → S L b v → wpAny P .any ops Q n L b v := by
  have nil_of : ∀ L : Array Bool, openN ops.size L = 0 → Region.ready .any ops L = [] := by
    intro L h0
    rw [List.eq_nil_iff_forall_not_mem]
    intro j hj
    obtain ⟨h1, o, h2, _⟩ := mem_ready.1 hj
    rw [openN_zero _ h0 j (Array.getElem?_eq_some_iff.1 h2).1] at h1
    cases h1
  intro n
  induction n with
  | zero =>
    intro L b v hL hC h0 hS
    have hr := nil_of L (by omega)
    exact ⟨hr, he L b v (ready_nil ho hL hr) hS⟩
  | succ n ih =>
    intro L b v hL hC h0 hS
    refine ⟨fun hr => he L b v (ready_nil ho hL hr) hS, fun i hi => ?_⟩
    obtain ⟨h1, o, h2, h3⟩ := mem_ready.1 hi
    have hlt := (Array.getElem?_eq_some_iff.1 h2).1
    have hw : ∀ j ∈ waitsOf ops i, L.getD j false = true := by
      intro j hj
      unfold waitsOf at hj
      rw [h2] at hj
      obtain ⟨e, he1, rfl⟩ := List.mem_map.1 hj
      obtain ⟨he2, he3⟩ := List.mem_filter.1 he1
      exact h3 e (by simpa using he2) he3
    refine wpOp_mono (fun b' v' h' => ih _ b' v' (by simpa using hL) (fun j hj k hk => ?_) (by have := openN_set h1 ops.size hlt; omega) h') (hs i hlt L b v hC h1 hw hS)
    by_cases hij : i = j
    · subst hij; exact getD_set_true (hw k hk)
    · rw [getD_set_ne false hij] at hj; exact getD_set_true (hC j hj k hk)
theorem getD_open {L : Array Bool} {i : Nat} (h0 : L.getD i true = false) : L.getD i false = false := by
  rcases Nat.lt_or_ge i L.size with h' | h'
  · rw [← getD_two h']; exact h0
  · simp [h'] at h0
theorem getD_set_done {L : Array Bool} {i : Nat} (h0 : L.getD i true = false) : (L.setIfInBounds i true).getD i false = true := by
  rcases Nat.lt_or_ge i L.size with h' | h'
  · simp [h']
  · simp [h'] at h0
theorem wp_region_facts {id n : Nat} {a : Act} {w : World} (S : Array Bool → Act → World → Prop) (hm : P.follows .mixedOrders = true) (ho : ordered ops = true) (hn : ops.size = n)
    (h0 : S (Array.replicate n false) a w.drew) (hs : AllSteps P ops Q S n) (he : ∀ L b v, (∀ j, j < n → L.getD j false = true) → S L b v → Q .normal b v) : (Code.region id ops true).wp P Q a w := by
  subst hn
  exact wp_region_any hm (any_facts ho hs he _ _ _ _ (by simp) (fun j hj => by by_cases h : j < ops.size <;> simp [Array.getD, h] at hj) (openN_le _ _) h0)
/-- a fact of number j, behind number i -/
theorem flag_ne {L : Array Bool} {i j : Nat} {F : Prop} (h : i ≠ j) (hF : L.getD j false = true → F) : (L.setIfInBounds i true).getD j false = true → F := by
  rw [getD_set_ne false h]; exact hF
theorem flag_new {n j : Nat} {F : Prop} : (Array.replicate n false).getD j false = true → F := by
  intro h
  by_cases hj : j < n <;> simp [Array.getD, hj] at h
end
end Go.Proofs.YtjikkipdmonndaaDoor

/- Contracts of octet (layer 3): Text. -/
namespace Go.Proofs.YtjikkipdmonndaaDoor
open Go.RowKit
def cut255 (s : ByteArray) : ByteArray := if 255 < s.size then s.extract 0 255 else s
theorem textV (l : List UInt8) (t : ByteArray) (h : t.size ≤ 255) : bytesV (l ++ [UInt8.ofNat t.size] ++ t.data.toList) = bytesV l ++ [Value.int .u8 (t.size : Int)] ++ Lib.strCells t := by
  simp [bytesV, Lib.strCells]
  omega
set_option maxRecDepth 100000 in
set_option maxHeartbeats 1000000 in
theorem octet_Text (v : Value) (l : List UInt8) (s : ByteArray) (w : World) (hv : RowAt w v l.length (byteV l)) (hm : l.length ≤ 100000000) :
    Calls Tryd.prog 51 #[v, .string s] w fun e w' => ∃ r, e = .returned r ∧ w'.ownsRow w.heap.size 5 1 r (l.length + 1 + (cut255 s).size) (bytesV (l ++ [UInt8.ofNat (cut255 s).size] ++ (cut255 s).data.toList)) ∧ Below w.heap.size w w' := by
  obtain ⟨i, hi, hz, hsize, hby⟩ : ∃ i, Tryd.prog.info? 5 = some i ∧ i.zero = some (.int .u8 0) ∧ i.size = 1 ∧ i.bytes = 1 := ⟨(Tryd.prog.info? 5).get!, by kernel_rfl, by kernel_rfl, by kernel_rfl, by kernel_rfl⟩
  by_cases h2 : 255 < s.size
  · obtain ⟨t, ht⟩ : ∃ t, s.extract 0 255 = t := ⟨_, rfl⟩
    have hts : t.size = 255 := by rw [← ht]; simp; omega
    have HC := Lib.hid (show cut255 s = t by unfold cut255; rw [if_pos h2, ht])
    have HT := Lib.hid hts
    go_enter Tryd.func51, Tryd.ntmps51
    go_wp2_with fail
    rw [show (256 : Int) = ((256 : Nat) : Int) from rfl]
    refine (octet_grown _ l 256 _ hv (by omega)).mono ?_; rintro e w1 ⟨rfl, hO1, hb1⟩
    have HO := Lib.hid hO1
    have hz1 := hb1.size
    clear hO1 ht h2
    go_wp2_with (first | (at_builtin; refine wpList_append_own_spare _ rfl (.tmp 15) (.tmp 19) 30 rfl w.heap.size 5 i 1 Tryd.underlying30 hi hsize w.heap.size l.length _ _ rfl (HO.out.alloc _) _ 1 1 [_] rfl rfl (cell_one_new _ _ _) (by intro u hu; obtain rfl := List.mem_singleton.1 hu; rfl) (by omega) ?_; intro w2 hO2 hG2; have HO2 := Lib.hid hO2; have HG2 := Lib.hid hG2; clear hO2 hG2) | (at_builtin; refine Lib.wpList_append_own_string _ rfl (.tmp 21) (.tmp 22) 30 9 rfl w.heap.size 5 i Tryd.underlying30 Tryd.underlying9 hi hz hsize hby _ _ _ rfl HO2.out _ rfl (by unfold maxLen; omega) (by omega) (by have := HG2.out.size; rw [World.size_alloc] at this; omega) ?_; intro v3 w3 hO3 hG3 _; have HO3 := Lib.hid hO3; have HG3 := Lib.hid hG3; clear hO3 hG3) | fail)
    go_wp2_with fail
    go_ret
    rw [HC.out]
    exact ⟨_, rfl, by rw [textV l t (by rw [HT.out]; omega)]; rw [HT.out]; have := HO3.out; rw [HT.out] at this; exact this, below_grownV (below_grown (hb1.alloc hz1 _) (Nat.le_refl _) (by rw [World.size_alloc]; omega) HG2.out) (by have := HG2.out.size; rw [World.size_alloc] at this; omega) HO2.out HG3.out⟩
  · have HC := Lib.hid (show cut255 s = s by unfold cut255; rw [if_neg h2])
    go_enter Tryd.func51, Tryd.ntmps51
    go_wp2_with fail
    rw [show (1 + ((s.size : Nat) : Int)) = ((1 + s.size : Nat) : Int) from by omega]
    refine (octet_grown _ l (1 + s.size) _ hv (by omega)).mono ?_; rintro e w1 ⟨rfl, hO1, hb1⟩
    have HO := Lib.hid hO1
    have hz1 := hb1.size
    clear hO1
    go_wp2_with (first | (at_builtin; refine wpList_append_own_spare _ rfl (.tmp 15) (.tmp 19) 30 rfl w.heap.size 5 i 1 Tryd.underlying30 hi hsize w.heap.size l.length _ _ rfl (HO.out.alloc _) _ 1 1 [_] rfl rfl (cell_one_new _ _ _) (by intro u hu; obtain rfl := List.mem_singleton.1 hu; rfl) (by omega) ?_; intro w2 hO2 hG2; have HO2 := Lib.hid hO2; have HG2 := Lib.hid hG2; clear hO2 hG2) | (at_builtin; refine Lib.wpList_append_own_string _ rfl (.tmp 21) (.tmp 22) 30 9 rfl w.heap.size 5 i Tryd.underlying30 Tryd.underlying9 hi hz hsize hby _ _ _ rfl HO2.out _ rfl (by unfold maxLen; omega) (by omega) (by have := HG2.out.size; rw [World.size_alloc] at this; omega) ?_; intro v3 w3 hO3 hG3 _; have HO3 := Lib.hid hO3; have HG3 := Lib.hid hG3; clear hO3 hG3) | fail)
    go_wp2_with fail
    go_ret
    rw [HC.out]
    exact ⟨_, rfl, by rw [textV l s (by omega)]; exact HO3.out, below_grownV (below_grown (hb1.alloc hz1 _) (Nat.le_refl _) (by rw [World.size_alloc]; omega) HG2.out) (by have := HG2.out.size; rw [World.size_alloc] at this; omega) HO2.out HG3.out⟩
end Go.Proofs.YtjikkipdmonndaaDoor

/- Rows of the call's own: with a lower bound; as what is appended. -/
namespace Go.Proofs.YtjikkipdmonndaaDoor
open Go.RowKit
set_option linter.unusedSimpArgs false
set_option linter.unusedVariables false
theorem own_low {w : World} {B C : Nat} {e : TypeId} {q n : Nat} {v : Value} {xs : List Value} (h : w.ownsRow C e q v n xs) (hB : B ≤ C) : w.ownsRow B e q v n xs := by
  obtain ⟨hl, h⟩ := h
  refine ⟨hl, ?_⟩
  rcases h with h | ⟨g, cap, cur, h0, h1, h2⟩
  · exact Or.inl h
  · exact Or.inr ⟨g, cap, cur, h0, by omega, h2⟩
theorem src_own {w : World} {B : Nat} {e : TypeId} {n : Nat} {v : Value} {xs : List Value} (h : w.ownsRow B e 1 v n xs) : Src w v n xs := by
  obtain ⟨hl, h⟩ := h
  rcases h with ⟨rfl, h0⟩ | ⟨g, cap, cur, rfl, hb, hg, h1, h2, h3, h4⟩
  · subst h0; exact Or.inl ⟨rfl, rfl, List.length_eq_zero_iff.1 (by simpa using hl)⟩
  · refine Or.inr ⟨_, cap, rfl, fun j u hu => ?_⟩
    have hj : j < n := by
      by_cases hj : j < n
      · exact hj
      · rw [List.getElem?_eq_none (by omega)] at hu; cases hu
    rw [← h4, List.getElem?_take, if_pos (by omega)] at hu
    rw [add_at]
    unfold World.cell?
    rw [show (⟨g, 0 + j, none⟩ : Addr).block = g from rfl, hg]
    simpa using hu
end Go.Proofs.YtjikkipdmonndaaDoor

/- Layer 15: Put: two of its regions. -/
namespace Go.Proofs.YtjikkipdmonndaaDoor
open Go.RowKit
set_option linter.unusedSimpArgs false
set_option linter.unusedVariables false
set_option maxHeartbeats 4000000 in
theorem unitPut_r3 (W0 : World) (gp : Nat) (s : ByteArray) (sa : Option Addr) (n1 ca N : Nat) (T : List UInt8) (hgp : gp < W0.heap.size) (C0 : W0.cell? ⟨gp, 0, none⟩ = some (.string s)) (C1 : W0.cell? ⟨gp, 1, none⟩ = some (.slice sa n1 ca)) (hn : N ≤ 1000) (hn1 : n1 ≤ 1000) (hT : T.length = N) (HT : Hid (∀ W : World, Calls Tryd.prog 51 #[.slice none 0 0, .string s] W fun e w' => ∃ r, e = .returned r ∧ w'.ownsRow W.heap.size 5 1 r N (bytesV T) ∧ Below W.heap.size W w')) (i : TypeInfo) (hi : Tryd.prog.info? 5 = some i) (hz : i.zero = some (.int .u8 0)) (hsize : i.size = 1) (hby : i.bytes = 1) (t0 t2 t3 t4 t5 t6 t7 t8 t9 t10 t11 t12 t13 t14 t15 t16 t17 t18 t19 t20 t21 t22 t23 t24 t25 t26 t27 t28 t29 t30 t31 t32 t33 t34 t35 t36 t37 t38 t39 t40 t41 t42 t43 t44 t45 t46 t47 t48 t49 t50 t51 : Value) :
    (Code.region 3 #[{ dst := some 10, op := Op.fieldAddr 48 (Operand.tmp 1) 0, type := 0, pos := "unit.go:72", after := #[], guard := none }, { dst := some 11, op := Op.load 9 (Operand.tmp 10), type := 9, pos := "unit.go:72", after := #[{ on := 0, ground := Ground.data }], guard := none }, { dst := some 12, op := Op.call { callee := Callee.value (Operand.func 51), args := #[Operand.const (Value.slice none 0 0), Operand.tmp 11], argTypes := #[30, 9] }, type := 30, pos := "unit.go:72", after := #[{ on := 1, ground := Ground.data }], guard := none }, { dst := some 13, op := Op.fieldAddr 48 (Operand.tmp 1) 1, type := 0, pos := "unit.go:72", after := #[], guard := none }, { dst := some 14, op := Op.load 45 (Operand.tmp 13), type := 45, pos := "unit.go:72", after := #[{ on := 3, ground := Ground.data }], guard := none }, { dst := some 15, op := Op.call { callee := Callee.builtin Builtin.len, args := #[Operand.tmp 14], argTypes := #[45] }, type := 3, pos := "unit.go:72", after := #[{ on := 4, ground := Ground.data }], guard := none }, { dst := some 16, op := Op.convert 3 5 (Operand.tmp 15), type := 5, pos := "unit.go:72", after := #[{ on := 5, ground := Ground.data }], guard := none }, { dst := some 17, op := Op.buildSlice 30 1 #[(0, Operand.tmp 16)], type := 30, pos := "unit.go:72", after := #[{ on := 6, ground := Ground.data }], guard := none }, { dst := some 18, op := Op.call { callee := Callee.builtin Builtin.append, args := #[Operand.tmp 12, Operand.tmp 17], argTypes := #[30, 30] }, type := 30, pos := "unit.go:72", after := #[{ on := 2, ground := Ground.data }, { on := 7, ground := Ground.data }, { on := 2, ground := Ground.chain }], guard := none }, { dst := some 4, op := Op.assign (Operand.tmp 18), type := 30, pos := "unit.go:72", after := #[{ on := 8, ground := Ground.data }, { on := 8, ground := Ground.chain }, { on := 0, ground := Ground.phase }, { on := 1, ground := Ground.phase }, { on := 2, ground := Ground.phase }, { on := 3, ground := Ground.phase }, { on := 4, ground := Ground.phase }, { on := 5, ground := Ground.phase }, { on := 6, ground := Ground.phase }, { on := 7, ground := Ground.phase }, { on := 8, ground := Ground.phase }], guard := none }] true).wp Tryd.prog (fun e b v => e = Exit.normal ∧ ∃ u4 u10 u11 u12 u13 u14 u15 u16 u17 u18 : Value, b = ⟨#[t0, .pointer (some ⟨gp, 0, none⟩), t2, t3, u4, t5, t6, t7, t8, t9, u10, u11, u12, u13, u14, u15, u16, u17, u18, t19, t20, t21, t22, t23, t24, t25, t26, t27, t28, t29, t30, t31, t32, t33, t34, t35, t36, t37, t38, t39, t40, t41, t42, t43, t44, t45, t46, t47, t48, t49, t50, t51], []⟩ ∧ Below W0.heap.size W0 v ∧ (v.ownsRow W0.heap.size 5 1 u4 (N + 1) (bytesV T ++ [.int .u8 ((n1 : Int) % 256)]))) ⟨#[t0, .pointer (some ⟨gp, 0, none⟩), t2, t3, t4, t5, t6, t7, t8, t9, t10, t11, t12, t13, t14, t15, t16, t17, t18, t19, t20, t21, t22, t23, t24, t25, t26, t27, t28, t29, t30, t31, t32, t33, t34, t35, t36, t37, t38, t39, t40, t41, t42, t43, t44, t45, t46, t47, t48, t49, t50, t51], []⟩ W0 := by
  refine wp_region_facts (n := 10) (fun L b v => ∃ u4 u10 u11 u12 u13 u14 u15 u16 u17 u18 : Value, b = ⟨#[t0, .pointer (some ⟨gp, 0, none⟩), t2, t3, u4, t5, t6, t7, t8, t9, u10, u11, u12, u13, u14, u15, u16, u17, u18, t19, t20, t21, t22, t23, t24, t25, t26, t27, t28, t29, t30, t31, t32, t33, t34, t35, t36, t37, t38, t39, t40, t41, t42, t43, t44, t45, t46, t47, t48, t49, t50, t51], []⟩ ∧ Below W0.heap.size W0 v ∧ (L.getD 0 false = true → u10 = .pointer (some ⟨gp, 0, none⟩)) ∧ (L.getD 1 false = true → u11 = .string s) ∧ (L.getD 2 false = true → L.getD 8 true = false → v.ownsRow W0.heap.size 5 1 u12 N (bytesV T)) ∧ (L.getD 3 false = true → u13 = .pointer (some ⟨gp, 1, none⟩)) ∧ (L.getD 4 false = true → u14 = .slice sa n1 ca) ∧ (L.getD 5 false = true → u15 = .int .i64 n1) ∧ (L.getD 6 false = true → u16 = .int .u8 ((n1 : Int) % 256)) ∧ (L.getD 7 false = true → L.getD 8 true = false → ∃ p, u17 = .slice (some ⟨p, 0, none⟩) 1 1 ∧ v.heap[p]? = some (.cells #[.int .u8 ((n1 : Int) % 256)] 5)) ∧ (L.getD 8 false = true → v.ownsRow W0.heap.size 5 1 u18 (N + 1) (bytesV T ++ [.int .u8 ((n1 : Int) % 256)])) ∧ (L.getD 9 false = true → v.ownsRow W0.heap.size 5 1 u4 (N + 1) (bytesV T ++ [.int .u8 ((n1 : Int) % 256)]))) (by kernel_rfl) (by kernel_rfl) (by kernel_rfl) ?_ ?_ ?_
  · refine ⟨_, _, _, _, _, _, _, _, _, _, rfl, (Below.refl _ _).drew, flag_new, flag_new, flag_new, flag_new, flag_new, flag_new, flag_new, flag_new, flag_new, flag_new⟩
  · refine AllSteps.succ (AllSteps.succ (AllSteps.succ (AllSteps.succ (AllSteps.succ (AllSteps.succ (AllSteps.succ (AllSteps.succ (AllSteps.succ (AllSteps.succ AllSteps.zero ?_) ?_) ?_) ?_) ?_) ?_) ?_) ?_) ?_) ?_
    · refine StepAt.mk (o := { dst := some 10, op := Op.fieldAddr 48 (Operand.tmp 1) 0, type := 0, pos := _, after := #[], guard := none }) (ws := []) rfl (by kernel_rfl) ?_
      intro L b v hC h0 hA h
      refine h.elim ?_; clear h; intro u4 h
      refine h.elim ?_; clear h; intro u10 h
      refine h.elim ?_; clear h; intro u11 h
      refine h.elim ?_; clear h; intro u12 h
      refine h.elim ?_; clear h; intro u13 h
      refine h.elim ?_; clear h; intro u14 h
      refine h.elim ?_; clear h; intro u15 h
      refine h.elim ?_; clear h; intro u16 h
      refine h.elim ?_; clear h; intro u17 h
      refine h.elim ?_; clear h; intro u18 h
      have hbb := h.1; replace h := h.2; subst hbb
      have hHeld := h.1; replace h := h.2
      have f0 := h.1; replace h := h.2
      have f1 := h.1; replace h := h.2
      have f2 := h.1; replace h := h.2
      have f3 := h.1; replace h := h.2
      have f4 := h.1; replace h := h.2
      have f5 := h.1; replace h := h.2
      have f6 := h.1; replace h := h.2
      have f7 := h.1; replace h := h.2
      have f8 := h.1; replace h := h.2
      have f9 := h; clear h
      intro K hK
      rw [if_pos (by kernel_rfl)]
      have q0 := cellB hHeld C0 hgp
      have q1 := cellB hHeld C1 hgp
      go_simp
      try simp only [Act.put, List.setIfInBounds_toArray, List.set_cons_zero, List.set_cons_succ]
      refine hK.out _ _ ⟨_, _, _, _, _, _, _, _, _, _, rfl, ?_, ?_, ?_, ?_, ?_, ?_, ?_, ?_, ?_, ?_, ?_⟩
      · first | exact hHeld | exact hHeld.trans (hb.mono hHeld.size) | (trace_state; fail)
      · intro _; first | rfl | (trace_state; fail)
      · first | exact flag_ne (by decide) f1 | exact fun _ => rfl
      · intro h _; rw [getD_set_ne false (by decide)] at h; exact (getD_no h0 (hC.step (j := 1) (k := 0) (hC.step (j := 2) (k := 1) h (by kernel_rfl)) (by kernel_rfl))).elim
      · first | exact flag_ne (by decide) f3 | exact fun _ => rfl
      · first | exact flag_ne (by decide) f4 | exact fun _ => rfl
      · first | exact flag_ne (by decide) f5 | exact fun _ => rfl
      · first | exact flag_ne (by decide) f6 | exact fun _ => rfl
      · intro h h7; rw [getD_set_ne false (by decide)] at h; rw [getD_set_ne true (by decide)] at h7; have := f7 h h7; obtain ⟨p, z1, z3⟩ := this; exact (by first | exact ⟨p, z1, z3⟩ | exact ⟨p, z1, obj_below z3 hb⟩)
      · intro h; rw [getD_set_ne false (by decide)] at h; exact (getD_no h0 (hC.step (j := 1) (k := 0) (hC.step (j := 2) (k := 1) (hC.step (j := 8) (k := 2) h (by kernel_rfl)) (by kernel_rfl)) (by kernel_rfl))).elim
      · intro h; rw [getD_set_ne false (by decide)] at h; exact (getD_no h0 (hC.step (j := 9) (k := 0) h (by kernel_rfl))).elim
    · refine StepAt.mk (o := { dst := some 11, op := Op.load 9 (Operand.tmp 10), type := 9, pos := _, after := #[{ on := 0, ground := Ground.data }], guard := none }) (ws := [0]) rfl (by kernel_rfl) ?_
      intro L b v hC h0 hA h
      refine h.elim ?_; clear h; intro u4 h
      refine h.elim ?_; clear h; intro u10 h
      refine h.elim ?_; clear h; intro u11 h
      refine h.elim ?_; clear h; intro u12 h
      refine h.elim ?_; clear h; intro u13 h
      refine h.elim ?_; clear h; intro u14 h
      refine h.elim ?_; clear h; intro u15 h
      refine h.elim ?_; clear h; intro u16 h
      refine h.elim ?_; clear h; intro u17 h
      refine h.elim ?_; clear h; intro u18 h
      have hbb := h.1; replace h := h.2; subst hbb
      have hHeld := h.1; replace h := h.2
      have f0 := h.1; replace h := h.2
      have f1 := h.1; replace h := h.2
      have f2 := h.1; replace h := h.2
      have f3 := h.1; replace h := h.2
      have f4 := h.1; replace h := h.2
      have f5 := h.1; replace h := h.2
      have f6 := h.1; replace h := h.2
      have f7 := h.1; replace h := h.2
      have f8 := h.1; replace h := h.2
      have f9 := h; clear h
      intro K hK
      have g0 := f0 (hA 0 (by simp))
      obtain rfl := g0
      rw [if_pos (by kernel_rfl)]
      have q0 := cellB hHeld C0 hgp
      have q1 := cellB hHeld C1 hgp
      go_simp
      try simp only [Act.put, List.setIfInBounds_toArray, List.set_cons_zero, List.set_cons_succ]
      refine hK.out _ _ ⟨_, _, _, _, _, _, _, _, _, _, rfl, ?_, ?_, ?_, ?_, ?_, ?_, ?_, ?_, ?_, ?_, ?_⟩
      · first | exact hHeld | exact hHeld.trans (hb.mono hHeld.size) | (trace_state; fail)
      · first | exact flag_ne (by decide) f0 | exact fun _ => rfl
      · intro _; first | rfl | (trace_state; fail)
      · intro h _; rw [getD_set_ne false (by decide)] at h; exact (getD_no h0 (hC.step (j := 2) (k := 1) h (by kernel_rfl))).elim
      · first | exact flag_ne (by decide) f3 | exact fun _ => rfl
      · first | exact flag_ne (by decide) f4 | exact fun _ => rfl
      · first | exact flag_ne (by decide) f5 | exact fun _ => rfl
      · first | exact flag_ne (by decide) f6 | exact fun _ => rfl
      · intro h h7; rw [getD_set_ne false (by decide)] at h; rw [getD_set_ne true (by decide)] at h7; have := f7 h h7; obtain ⟨p, z1, z3⟩ := this; exact (by first | exact ⟨p, z1, z3⟩ | exact ⟨p, z1, obj_below z3 hb⟩)
      · intro h; rw [getD_set_ne false (by decide)] at h; exact (getD_no h0 (hC.step (j := 2) (k := 1) (hC.step (j := 8) (k := 2) h (by kernel_rfl)) (by kernel_rfl))).elim
      · intro h; rw [getD_set_ne false (by decide)] at h; exact (getD_no h0 (hC.step (j := 9) (k := 1) h (by kernel_rfl))).elim
    · refine StepAt.mk (o := { dst := some 12, op := Op.call { callee := Callee.value (Operand.func 51), args := #[Operand.const (Value.slice none 0 0), Operand.tmp 11], argTypes := #[30, 9] }, type := 30, pos := _, after := #[{ on := 1, ground := Ground.data }], guard := none }) (ws := [1]) rfl (by kernel_rfl) ?_
      intro L b v hC h0 hA h
      refine h.elim ?_; clear h; intro u4 h
      refine h.elim ?_; clear h; intro u10 h
      refine h.elim ?_; clear h; intro u11 h
      refine h.elim ?_; clear h; intro u12 h
      refine h.elim ?_; clear h; intro u13 h
      refine h.elim ?_; clear h; intro u14 h
      refine h.elim ?_; clear h; intro u15 h
      refine h.elim ?_; clear h; intro u16 h
      refine h.elim ?_; clear h; intro u17 h
      refine h.elim ?_; clear h; intro u18 h
      have hbb := h.1; replace h := h.2; subst hbb
      have hHeld := h.1; replace h := h.2
      have f0 := h.1; replace h := h.2
      have f1 := h.1; replace h := h.2
      have f2 := h.1; replace h := h.2
      have f3 := h.1; replace h := h.2
      have f4 := h.1; replace h := h.2
      have f5 := h.1; replace h := h.2
      have f6 := h.1; replace h := h.2
      have f7 := h.1; replace h := h.2
      have f8 := h.1; replace h := h.2
      have f9 := h; clear h
      intro K hK
      have g1 := f1 (hA 1 (by simp))
      obtain rfl := g1
      rw [if_pos (by kernel_rfl)]
      have q0 := cellB hHeld C0 hgp
      have q1 := cellB hHeld C1 hgp
      go_simp
      refine (HT.out v).mono ?_; rintro e v1 ⟨r, rfl, HO, hb⟩
      go_wp2_with fail
      try simp only [Act.put, List.setIfInBounds_toArray, List.set_cons_zero, List.set_cons_succ]
      refine hK.out _ _ ⟨_, _, _, _, _, _, _, _, _, _, rfl, ?_, ?_, ?_, ?_, ?_, ?_, ?_, ?_, ?_, ?_, ?_⟩
      · first | exact hHeld | exact hHeld.trans (hb.mono hHeld.size) | (trace_state; fail)
      · first | exact flag_ne (by decide) f0 | exact fun _ => rfl
      · first | exact flag_ne (by decide) f1 | exact fun _ => rfl
      · intro _ _; first | (exact own_low HO hHeld.size) | (trace_state; fail)
      · first | exact flag_ne (by decide) f3 | exact fun _ => rfl
      · first | exact flag_ne (by decide) f4 | exact fun _ => rfl
      · first | exact flag_ne (by decide) f5 | exact fun _ => rfl
      · first | exact flag_ne (by decide) f6 | exact fun _ => rfl
      · intro h h7; rw [getD_set_ne false (by decide)] at h; rw [getD_set_ne true (by decide)] at h7; have := f7 h h7; obtain ⟨p, z1, z3⟩ := this; exact (by first | exact ⟨p, z1, z3⟩ | exact ⟨p, z1, obj_below z3 hb⟩)
      · intro h; rw [getD_set_ne false (by decide)] at h; exact (getD_no h0 (hC.step (j := 8) (k := 2) h (by kernel_rfl))).elim
      · intro h; rw [getD_set_ne false (by decide)] at h; exact (getD_no h0 (hC.step (j := 9) (k := 2) h (by kernel_rfl))).elim
    · refine StepAt.mk (o := { dst := some 13, op := Op.fieldAddr 48 (Operand.tmp 1) 1, type := 0, pos := _, after := #[], guard := none }) (ws := []) rfl (by kernel_rfl) ?_
      intro L b v hC h0 hA h
      refine h.elim ?_; clear h; intro u4 h
      refine h.elim ?_; clear h; intro u10 h
      refine h.elim ?_; clear h; intro u11 h
      refine h.elim ?_; clear h; intro u12 h
      refine h.elim ?_; clear h; intro u13 h
      refine h.elim ?_; clear h; intro u14 h
      refine h.elim ?_; clear h; intro u15 h
      refine h.elim ?_; clear h; intro u16 h
      refine h.elim ?_; clear h; intro u17 h
      refine h.elim ?_; clear h; intro u18 h
      have hbb := h.1; replace h := h.2; subst hbb
      have hHeld := h.1; replace h := h.2
      have f0 := h.1; replace h := h.2
      have f1 := h.1; replace h := h.2
      have f2 := h.1; replace h := h.2
      have f3 := h.1; replace h := h.2
      have f4 := h.1; replace h := h.2
      have f5 := h.1; replace h := h.2
      have f6 := h.1; replace h := h.2
      have f7 := h.1; replace h := h.2
      have f8 := h.1; replace h := h.2
      have f9 := h; clear h
      intro K hK
      rw [if_pos (by kernel_rfl)]
      have q0 := cellB hHeld C0 hgp
      have q1 := cellB hHeld C1 hgp
      go_simp
      try simp only [Act.put, List.setIfInBounds_toArray, List.set_cons_zero, List.set_cons_succ]
      refine hK.out _ _ ⟨_, _, _, _, _, _, _, _, _, _, rfl, ?_, ?_, ?_, ?_, ?_, ?_, ?_, ?_, ?_, ?_, ?_⟩
      · first | exact hHeld | exact hHeld.trans (hb.mono hHeld.size) | (trace_state; fail)
      · first | exact flag_ne (by decide) f0 | exact fun _ => rfl
      · first | exact flag_ne (by decide) f1 | exact fun _ => rfl
      · intro h h7; rw [getD_set_ne false (by decide)] at h; rw [getD_set_ne true (by decide)] at h7; have := f2 h h7; first | exact this | exact owns_below this hb | (trace_state; fail)
      · intro _; first | rfl | (trace_state; fail)
      · first | exact flag_ne (by decide) f4 | exact fun _ => rfl
      · first | exact flag_ne (by decide) f5 | exact fun _ => rfl
      · first | exact flag_ne (by decide) f6 | exact fun _ => rfl
      · intro h _; rw [getD_set_ne false (by decide)] at h; exact (getD_no h0 (hC.step (j := 4) (k := 3) (hC.step (j := 5) (k := 4) (hC.step (j := 6) (k := 5) (hC.step (j := 7) (k := 6) h (by kernel_rfl)) (by kernel_rfl)) (by kernel_rfl)) (by kernel_rfl))).elim
      · intro h; rw [getD_set_ne false (by decide)] at h; exact (getD_no h0 (hC.step (j := 4) (k := 3) (hC.step (j := 5) (k := 4) (hC.step (j := 6) (k := 5) (hC.step (j := 7) (k := 6) (hC.step (j := 8) (k := 7) h (by kernel_rfl)) (by kernel_rfl)) (by kernel_rfl)) (by kernel_rfl)) (by kernel_rfl))).elim
      · intro h; rw [getD_set_ne false (by decide)] at h; exact (getD_no h0 (hC.step (j := 9) (k := 3) h (by kernel_rfl))).elim
    · refine StepAt.mk (o := { dst := some 14, op := Op.load 45 (Operand.tmp 13), type := 45, pos := _, after := #[{ on := 3, ground := Ground.data }], guard := none }) (ws := [3]) rfl (by kernel_rfl) ?_
      intro L b v hC h0 hA h
      refine h.elim ?_; clear h; intro u4 h
      refine h.elim ?_; clear h; intro u10 h
      refine h.elim ?_; clear h; intro u11 h
      refine h.elim ?_; clear h; intro u12 h
      refine h.elim ?_; clear h; intro u13 h
      refine h.elim ?_; clear h; intro u14 h
      refine h.elim ?_; clear h; intro u15 h
      refine h.elim ?_; clear h; intro u16 h
      refine h.elim ?_; clear h; intro u17 h
      refine h.elim ?_; clear h; intro u18 h
      have hbb := h.1; replace h := h.2; subst hbb
      have hHeld := h.1; replace h := h.2
      have f0 := h.1; replace h := h.2
      have f1 := h.1; replace h := h.2
      have f2 := h.1; replace h := h.2
      have f3 := h.1; replace h := h.2
      have f4 := h.1; replace h := h.2
      have f5 := h.1; replace h := h.2
      have f6 := h.1; replace h := h.2
      have f7 := h.1; replace h := h.2
      have f8 := h.1; replace h := h.2
      have f9 := h; clear h
      intro K hK
      have g3 := f3 (hA 3 (by simp))
      obtain rfl := g3
      rw [if_pos (by kernel_rfl)]
      have q0 := cellB hHeld C0 hgp
      have q1 := cellB hHeld C1 hgp
      go_simp
      try simp only [Act.put, List.setIfInBounds_toArray, List.set_cons_zero, List.set_cons_succ]
      refine hK.out _ _ ⟨_, _, _, _, _, _, _, _, _, _, rfl, ?_, ?_, ?_, ?_, ?_, ?_, ?_, ?_, ?_, ?_, ?_⟩
      · first | exact hHeld | exact hHeld.trans (hb.mono hHeld.size) | (trace_state; fail)
      · first | exact flag_ne (by decide) f0 | exact fun _ => rfl
      · first | exact flag_ne (by decide) f1 | exact fun _ => rfl
      · intro h h7; rw [getD_set_ne false (by decide)] at h; rw [getD_set_ne true (by decide)] at h7; have := f2 h h7; first | exact this | exact owns_below this hb | (trace_state; fail)
      · first | exact flag_ne (by decide) f3 | exact fun _ => rfl
      · intro _; first | rfl | (trace_state; fail)
      · first | exact flag_ne (by decide) f5 | exact fun _ => rfl
      · first | exact flag_ne (by decide) f6 | exact fun _ => rfl
      · intro h _; rw [getD_set_ne false (by decide)] at h; exact (getD_no h0 (hC.step (j := 5) (k := 4) (hC.step (j := 6) (k := 5) (hC.step (j := 7) (k := 6) h (by kernel_rfl)) (by kernel_rfl)) (by kernel_rfl))).elim
      · intro h; rw [getD_set_ne false (by decide)] at h; exact (getD_no h0 (hC.step (j := 5) (k := 4) (hC.step (j := 6) (k := 5) (hC.step (j := 7) (k := 6) (hC.step (j := 8) (k := 7) h (by kernel_rfl)) (by kernel_rfl)) (by kernel_rfl)) (by kernel_rfl))).elim
      · intro h; rw [getD_set_ne false (by decide)] at h; exact (getD_no h0 (hC.step (j := 9) (k := 4) h (by kernel_rfl))).elim
    · refine StepAt.mk (o := { dst := some 15, op := Op.call { callee := Callee.builtin Builtin.len, args := #[Operand.tmp 14], argTypes := #[45] }, type := 3, pos := _, after := #[{ on := 4, ground := Ground.data }], guard := none }) (ws := [4]) rfl (by kernel_rfl) ?_
      intro L b v hC h0 hA h
      refine h.elim ?_; clear h; intro u4 h
      refine h.elim ?_; clear h; intro u10 h
      refine h.elim ?_; clear h; intro u11 h
      refine h.elim ?_; clear h; intro u12 h
      refine h.elim ?_; clear h; intro u13 h
      refine h.elim ?_; clear h; intro u14 h
      refine h.elim ?_; clear h; intro u15 h
      refine h.elim ?_; clear h; intro u16 h
      refine h.elim ?_; clear h; intro u17 h
      refine h.elim ?_; clear h; intro u18 h
      have hbb := h.1; replace h := h.2; subst hbb
      have hHeld := h.1; replace h := h.2
      have f0 := h.1; replace h := h.2
      have f1 := h.1; replace h := h.2
      have f2 := h.1; replace h := h.2
      have f3 := h.1; replace h := h.2
      have f4 := h.1; replace h := h.2
      have f5 := h.1; replace h := h.2
      have f6 := h.1; replace h := h.2
      have f7 := h.1; replace h := h.2
      have f8 := h.1; replace h := h.2
      have f9 := h; clear h
      intro K hK
      have g4 := f4 (hA 4 (by simp))
      obtain rfl := g4
      rw [if_pos (by kernel_rfl)]
      have q0 := cellB hHeld C0 hgp
      have q1 := cellB hHeld C1 hgp
      go_simp
      try simp only [Act.put, List.setIfInBounds_toArray, List.set_cons_zero, List.set_cons_succ]
      refine hK.out _ _ ⟨_, _, _, _, _, _, _, _, _, _, rfl, ?_, ?_, ?_, ?_, ?_, ?_, ?_, ?_, ?_, ?_, ?_⟩
      · first | exact hHeld | exact hHeld.trans (hb.mono hHeld.size) | (trace_state; fail)
      · first | exact flag_ne (by decide) f0 | exact fun _ => rfl
      · first | exact flag_ne (by decide) f1 | exact fun _ => rfl
      · intro h h7; rw [getD_set_ne false (by decide)] at h; rw [getD_set_ne true (by decide)] at h7; have := f2 h h7; first | exact this | exact owns_below this hb | (trace_state; fail)
      · first | exact flag_ne (by decide) f3 | exact fun _ => rfl
      · first | exact flag_ne (by decide) f4 | exact fun _ => rfl
      · intro _; first | rfl | (trace_state; fail)
      · first | exact flag_ne (by decide) f6 | exact fun _ => rfl
      · intro h _; rw [getD_set_ne false (by decide)] at h; exact (getD_no h0 (hC.step (j := 6) (k := 5) (hC.step (j := 7) (k := 6) h (by kernel_rfl)) (by kernel_rfl))).elim
      · intro h; rw [getD_set_ne false (by decide)] at h; exact (getD_no h0 (hC.step (j := 6) (k := 5) (hC.step (j := 7) (k := 6) (hC.step (j := 8) (k := 7) h (by kernel_rfl)) (by kernel_rfl)) (by kernel_rfl))).elim
      · intro h; rw [getD_set_ne false (by decide)] at h; exact (getD_no h0 (hC.step (j := 9) (k := 5) h (by kernel_rfl))).elim
    · refine StepAt.mk (o := { dst := some 16, op := Op.convert 3 5 (Operand.tmp 15), type := 5, pos := _, after := #[{ on := 5, ground := Ground.data }], guard := none }) (ws := [5]) rfl (by kernel_rfl) ?_
      intro L b v hC h0 hA h
      refine h.elim ?_; clear h; intro u4 h
      refine h.elim ?_; clear h; intro u10 h
      refine h.elim ?_; clear h; intro u11 h
      refine h.elim ?_; clear h; intro u12 h
      refine h.elim ?_; clear h; intro u13 h
      refine h.elim ?_; clear h; intro u14 h
      refine h.elim ?_; clear h; intro u15 h
      refine h.elim ?_; clear h; intro u16 h
      refine h.elim ?_; clear h; intro u17 h
      refine h.elim ?_; clear h; intro u18 h
      have hbb := h.1; replace h := h.2; subst hbb
      have hHeld := h.1; replace h := h.2
      have f0 := h.1; replace h := h.2
      have f1 := h.1; replace h := h.2
      have f2 := h.1; replace h := h.2
      have f3 := h.1; replace h := h.2
      have f4 := h.1; replace h := h.2
      have f5 := h.1; replace h := h.2
      have f6 := h.1; replace h := h.2
      have f7 := h.1; replace h := h.2
      have f8 := h.1; replace h := h.2
      have f9 := h; clear h
      intro K hK
      have g5 := f5 (hA 5 (by simp))
      obtain rfl := g5
      rw [if_pos (by kernel_rfl)]
      have q0 := cellB hHeld C0 hgp
      have q1 := cellB hHeld C1 hgp
      go_simp
      try simp only [Act.put, List.setIfInBounds_toArray, List.set_cons_zero, List.set_cons_succ]
      refine hK.out _ _ ⟨_, _, _, _, _, _, _, _, _, _, rfl, ?_, ?_, ?_, ?_, ?_, ?_, ?_, ?_, ?_, ?_, ?_⟩
      · first | exact hHeld | exact hHeld.trans (hb.mono hHeld.size) | (trace_state; fail)
      · first | exact flag_ne (by decide) f0 | exact fun _ => rfl
      · first | exact flag_ne (by decide) f1 | exact fun _ => rfl
      · intro h h7; rw [getD_set_ne false (by decide)] at h; rw [getD_set_ne true (by decide)] at h7; have := f2 h h7; first | exact this | exact owns_below this hb | (trace_state; fail)
      · first | exact flag_ne (by decide) f3 | exact fun _ => rfl
      · first | exact flag_ne (by decide) f4 | exact fun _ => rfl
      · first | exact flag_ne (by decide) f5 | exact fun _ => rfl
      · intro _; first | rfl | (trace_state; fail)
      · intro h _; rw [getD_set_ne false (by decide)] at h; exact (getD_no h0 (hC.step (j := 7) (k := 6) h (by kernel_rfl))).elim
      · intro h; rw [getD_set_ne false (by decide)] at h; exact (getD_no h0 (hC.step (j := 7) (k := 6) (hC.step (j := 8) (k := 7) h (by kernel_rfl)) (by kernel_rfl))).elim
      · intro h; rw [getD_set_ne false (by decide)] at h; exact (getD_no h0 (hC.step (j := 9) (k := 6) h (by kernel_rfl))).elim
    · refine StepAt.mk (o := { dst := some 17, op := Op.buildSlice 30 1 #[(0, Operand.tmp 16)], type := 30, pos := _, after := #[{ on := 6, ground := Ground.data }], guard := none }) (ws := [6]) rfl (by kernel_rfl) ?_
      intro L b v hC h0 hA h
      refine h.elim ?_; clear h; intro u4 h
      refine h.elim ?_; clear h; intro u10 h
      refine h.elim ?_; clear h; intro u11 h
      refine h.elim ?_; clear h; intro u12 h
      refine h.elim ?_; clear h; intro u13 h
      refine h.elim ?_; clear h; intro u14 h
      refine h.elim ?_; clear h; intro u15 h
      refine h.elim ?_; clear h; intro u16 h
      refine h.elim ?_; clear h; intro u17 h
      refine h.elim ?_; clear h; intro u18 h
      have hbb := h.1; replace h := h.2; subst hbb
      have hHeld := h.1; replace h := h.2
      have f0 := h.1; replace h := h.2
      have f1 := h.1; replace h := h.2
      have f2 := h.1; replace h := h.2
      have f3 := h.1; replace h := h.2
      have f4 := h.1; replace h := h.2
      have f5 := h.1; replace h := h.2
      have f6 := h.1; replace h := h.2
      have f7 := h.1; replace h := h.2
      have f8 := h.1; replace h := h.2
      have f9 := h; clear h
      intro K hK
      have g6 := f6 (hA 6 (by simp))
      obtain rfl := g6
      rw [if_pos (by kernel_rfl)]
      have q0 := cellB hHeld C0 hgp
      have q1 := cellB hHeld C1 hgp
      go_simp
      try simp only [Act.put, List.setIfInBounds_toArray, List.set_cons_zero, List.set_cons_succ]
      have hb : Below v.heap.size v (v.alloc (.cells #[.int .u8 ((n1 : Int) % 256)] 5)) := (Below.refl _ _).alloc (Nat.le_refl _) _
      refine hK.out _ _ ⟨_, _, _, _, _, _, _, _, _, _, rfl, ?_, ?_, ?_, ?_, ?_, ?_, ?_, ?_, ?_, ?_, ?_⟩
      · exact hHeld.alloc hHeld.size _
      · first | exact flag_ne (by decide) f0 | exact fun _ => rfl
      · first | exact flag_ne (by decide) f1 | exact fun _ => rfl
      · intro h h7; rw [getD_set_ne false (by decide)] at h; rw [getD_set_ne true (by decide)] at h7; have := f2 h h7; first | exact this | exact owns_below this hb | (trace_state; fail)
      · first | exact flag_ne (by decide) f3 | exact fun _ => rfl
      · first | exact flag_ne (by decide) f4 | exact fun _ => rfl
      · first | exact flag_ne (by decide) f5 | exact fun _ => rfl
      · first | exact flag_ne (by decide) f6 | exact fun _ => rfl
      · intro _ _; first | (exact ⟨_, rfl, heap_new v _⟩) | (trace_state; fail)
      · intro h; rw [getD_set_ne false (by decide)] at h; exact (getD_no h0 (hC.step (j := 8) (k := 7) h (by kernel_rfl))).elim
      · intro h; rw [getD_set_ne false (by decide)] at h; exact (getD_no h0 (hC.step (j := 9) (k := 7) h (by kernel_rfl))).elim
    · refine StepAt.mk (o := { dst := some 18, op := Op.call { callee := Callee.builtin Builtin.append, args := #[Operand.tmp 12, Operand.tmp 17], argTypes := #[30, 30] }, type := 30, pos := _, after := #[{ on := 2, ground := Ground.data }, { on := 7, ground := Ground.data }, { on := 2, ground := Ground.chain }], guard := none }) (ws := [2, 7, 2]) rfl (by kernel_rfl) ?_
      intro L b v hC h0 hA h
      refine h.elim ?_; clear h; intro u4 h
      refine h.elim ?_; clear h; intro u10 h
      refine h.elim ?_; clear h; intro u11 h
      refine h.elim ?_; clear h; intro u12 h
      refine h.elim ?_; clear h; intro u13 h
      refine h.elim ?_; clear h; intro u14 h
      refine h.elim ?_; clear h; intro u15 h
      refine h.elim ?_; clear h; intro u16 h
      refine h.elim ?_; clear h; intro u17 h
      refine h.elim ?_; clear h; intro u18 h
      have hbb := h.1; replace h := h.2; subst hbb
      have hHeld := h.1; replace h := h.2
      have f0 := h.1; replace h := h.2
      have f1 := h.1; replace h := h.2
      have f2 := h.1; replace h := h.2
      have f3 := h.1; replace h := h.2
      have f4 := h.1; replace h := h.2
      have f5 := h.1; replace h := h.2
      have f6 := h.1; replace h := h.2
      have f7 := h.1; replace h := h.2
      have f8 := h.1; replace h := h.2
      have f9 := h; clear h
      intro K hK
      have g2 := f2 (hA 2 (by simp)) h0
      have g7 := f7 (hA 7 (by simp)) h0
      obtain ⟨p7, rfl, hp7⟩ := g7
      rw [if_pos (by kernel_rfl)]
      have q0 := cellB hHeld C0 hgp
      have q1 := cellB hHeld C1 hgp
      refine wp_append_src (.tmp 12) (.tmp 17) 30 rfl W0.heap.size 5 i (.int .u8 0) 1 1 Tryd.underlying30 hi hz hsize hby rfl (by omega) _ N _ rfl g2 _ 1 [.int .u8 ((n1 : Int) % 256)] rfl (src_at hp7) rfl (by intro u hu; simp at hu; rw [hu]; rfl) (by unfold maxLen; omega) (by omega) hHeld.size ?_; intro v' w' HO hG
      try simp only [Act.put, List.setIfInBounds_toArray, List.set_cons_zero, List.set_cons_succ]
      refine hK.out _ _ ⟨_, _, _, _, _, _, _, _, _, _, rfl, ?_, ?_, ?_, ?_, ?_, ?_, ?_, ?_, ?_, ?_, ?_⟩
      · exact grown3 hHeld hHeld.size g2 hG
      · first | exact flag_ne (by decide) f0 | exact fun _ => rfl
      · first | exact flag_ne (by decide) f1 | exact fun _ => rfl
      · intro _ h7; rw [getD_set_self] at h7; cases h7
      · first | exact flag_ne (by decide) f3 | exact fun _ => rfl
      · first | exact flag_ne (by decide) f4 | exact fun _ => rfl
      · first | exact flag_ne (by decide) f5 | exact fun _ => rfl
      · first | exact flag_ne (by decide) f6 | exact fun _ => rfl
      · intro _ h7; rw [getD_set_self] at h7; cases h7
      · intro _; first | exact HO | (trace_state; fail)
      · intro h; rw [getD_set_ne false (by decide)] at h; exact (getD_no h0 (hC.step (j := 9) (k := 8) h (by kernel_rfl))).elim
    · refine StepAt.mk (o := { dst := some 4, op := Op.assign (Operand.tmp 18), type := 30, pos := _, after := #[{ on := 8, ground := Ground.data }, { on := 8, ground := Ground.chain }, { on := 0, ground := Ground.phase }, { on := 1, ground := Ground.phase }, { on := 2, ground := Ground.phase }, { on := 3, ground := Ground.phase }, { on := 4, ground := Ground.phase }, { on := 5, ground := Ground.phase }, { on := 6, ground := Ground.phase }, { on := 7, ground := Ground.phase }, { on := 8, ground := Ground.phase }], guard := none }) (ws := [8, 8, 0, 1, 2, 3, 4, 5, 6, 7, 8]) rfl (by kernel_rfl) ?_
      intro L b v hC h0 hA h
      refine h.elim ?_; clear h; intro u4 h
      refine h.elim ?_; clear h; intro u10 h
      refine h.elim ?_; clear h; intro u11 h
      refine h.elim ?_; clear h; intro u12 h
      refine h.elim ?_; clear h; intro u13 h
      refine h.elim ?_; clear h; intro u14 h
      refine h.elim ?_; clear h; intro u15 h
      refine h.elim ?_; clear h; intro u16 h
      refine h.elim ?_; clear h; intro u17 h
      refine h.elim ?_; clear h; intro u18 h
      have hbb := h.1; replace h := h.2; subst hbb
      have hHeld := h.1; replace h := h.2
      have f0 := h.1; replace h := h.2
      have f1 := h.1; replace h := h.2
      have f2 := h.1; replace h := h.2
      have f3 := h.1; replace h := h.2
      have f4 := h.1; replace h := h.2
      have f5 := h.1; replace h := h.2
      have f6 := h.1; replace h := h.2
      have f7 := h.1; replace h := h.2
      have f8 := h.1; replace h := h.2
      have f9 := h; clear h
      intro K hK
      have g8 := f8 (hA 8 (by simp))
      have g0 := f0 (hA 0 (by simp))
      obtain rfl := g0
      have g1 := f1 (hA 1 (by simp))
      obtain rfl := g1
      have g2 := f2 (hA 2 (by simp))
      have g3 := f3 (hA 3 (by simp))
      obtain rfl := g3
      have g4 := f4 (hA 4 (by simp))
      obtain rfl := g4
      have g5 := f5 (hA 5 (by simp))
      obtain rfl := g5
      have g6 := f6 (hA 6 (by simp))
      obtain rfl := g6
      have g7 := f7 (hA 7 (by simp))
      rw [if_pos (by kernel_rfl)]
      have q0 := cellB hHeld C0 hgp
      have q1 := cellB hHeld C1 hgp
      go_simp
      try simp only [Act.put, List.setIfInBounds_toArray, List.set_cons_zero, List.set_cons_succ]
      refine hK.out _ _ ⟨_, _, _, _, _, _, _, _, _, _, rfl, ?_, ?_, ?_, ?_, ?_, ?_, ?_, ?_, ?_, ?_, ?_⟩
      · first | exact hHeld | exact hHeld.trans (hb.mono hHeld.size) | (trace_state; fail)
      · first | exact flag_ne (by decide) f0 | exact fun _ => rfl
      · first | exact flag_ne (by decide) f1 | exact fun _ => rfl
      · intro _ h7; rw [getD_set_ne true (by decide)] at h7; exact (getD_no h7 (hA 8 (by simp))).elim
      · first | exact flag_ne (by decide) f3 | exact fun _ => rfl
      · first | exact flag_ne (by decide) f4 | exact fun _ => rfl
      · first | exact flag_ne (by decide) f5 | exact fun _ => rfl
      · first | exact flag_ne (by decide) f6 | exact fun _ => rfl
      · intro _ h7; rw [getD_set_ne true (by decide)] at h7; exact (getD_no h7 (hA 8 (by simp))).elim
      · intro h; rw [getD_set_ne false (by decide)] at h; have := f8 h; first | exact this | exact owns_below this hb | (trace_state; fail)
      · intro _; first | exact g8 | (trace_state; fail)
  intro L b v hA h
  refine h.elim ?_; clear h; intro u4 h
  refine h.elim ?_; clear h; intro u10 h
  refine h.elim ?_; clear h; intro u11 h
  refine h.elim ?_; clear h; intro u12 h
  refine h.elim ?_; clear h; intro u13 h
  refine h.elim ?_; clear h; intro u14 h
  refine h.elim ?_; clear h; intro u15 h
  refine h.elim ?_; clear h; intro u16 h
  refine h.elim ?_; clear h; intro u17 h
  refine h.elim ?_; clear h; intro u18 h
  have hbb := h.1; replace h := h.2; subst hbb
  have hHeld := h.1; replace h := h.2
  have f0 := h.1; replace h := h.2
  have f1 := h.1; replace h := h.2
  have f2 := h.1; replace h := h.2
  have f3 := h.1; replace h := h.2
  have f4 := h.1; replace h := h.2
  have f5 := h.1; replace h := h.2
  have f6 := h.1; replace h := h.2
  have f7 := h.1; replace h := h.2
  have f8 := h.1; replace h := h.2
  have f9 := h; clear h
  have g0 := f0 (hA 0 (by omega))
  clear f0
  obtain rfl := g0
  have g1 := f1 (hA 1 (by omega))
  clear f1
  obtain rfl := g1
  clear f2
  have g3 := f3 (hA 3 (by omega))
  clear f3
  obtain rfl := g3
  have g4 := f4 (hA 4 (by omega))
  clear f4
  obtain rfl := g4
  have g5 := f5 (hA 5 (by omega))
  clear f5
  obtain rfl := g5
  have g6 := f6 (hA 6 (by omega))
  clear f6
  obtain rfl := g6
  clear f7
  have g8 := f8 (hA 8 (by omega))
  clear f8
  have g9 := f9 (hA 9 (by omega))
  clear f9
  clear hA
  exact ⟨rfl, _, _, _, _, _, _, _, _, _, _, rfl, hHeld, g9⟩
set_option maxHeartbeats 4000000 in
theorem unitPut_r6 (W0 : World) (gp : Nat) (r0 : Value) (sb : Option Addr) (n2 cb N : Nat) (E M : List UInt8) (hgp : gp < W0.heap.size) (C3 : W0.cell? ⟨gp, 3, none⟩ = some (.slice sb n2 cb)) (hn : N ≤ 5000) (hn2 : n2 ≤ 5000) (hE : E.length = N) (HP : Hid (∀ W : World, Below W0.heap.size W0 W → Calls Tryd.prog 22 #[r0, .int .i64 2, .int .i64 n2] W fun e w' => ∃ r, e = .returned r ∧ w'.ownsRow W.heap.size 5 1 r (N + 2) (bytesV (E ++ putL 2 n2)) ∧ Below W.heap.size W w')) (HM : Hid (∀ W : World, Below W0.heap.size W0 W → Calls Tryd.prog 86 #[.slice sb n2 cb] W fun e w' => ∃ r, e = .returned r ∧ w'.ownsRow W.heap.size 5 1 r n2 (bytesV M) ∧ Below W.heap.size W w')) (i : TypeInfo) (hi : Tryd.prog.info? 5 = some i) (hz : i.zero = some (.int .u8 0)) (hsize : i.size = 1) (hby : i.bytes = 1) (t0 t2 t3 t5 t6 t7 t8 t9 t10 t11 t12 t13 t14 t15 t16 t17 t18 t19 t20 t21 t22 t23 t24 t25 t26 t27 t28 t29 t30 t31 t32 t33 t34 t35 t36 t37 t38 t39 t40 t41 t42 t43 t44 t45 t46 t47 t48 t49 t50 t51 : Value) :
    (Code.region 6 #[{ dst := some 30, op := Op.move (Operand.tmp 4), type := 30, pos := "unit.go:75", after := #[], guard := none }, { dst := some 31, op := Op.fieldAddr 48 (Operand.tmp 1) 3, type := 0, pos := "unit.go:75", after := #[], guard := none }, { dst := some 32, op := Op.load 45 (Operand.tmp 31), type := 45, pos := "unit.go:75", after := #[{ on := 1, ground := Ground.data }], guard := none }, { dst := some 33, op := Op.call { callee := Callee.builtin Builtin.len, args := #[Operand.tmp 32], argTypes := #[45] }, type := 3, pos := "unit.go:75", after := #[{ on := 2, ground := Ground.data }], guard := none }, { dst := some 34, op := Op.call { callee := Callee.value (Operand.func 22), args := #[Operand.tmp 30, Operand.const (Value.int IntKind.i64 2), Operand.tmp 33], argTypes := #[30, 3, 3] }, type := 30, pos := "unit.go:75", after := #[{ on := 0, ground := Ground.data }, { on := 3, ground := Ground.data }], guard := none }, { dst := some 35, op := Op.fieldAddr 48 (Operand.tmp 1) 3, type := 0, pos := "unit.go:75", after := #[], guard := none }, { dst := some 36, op := Op.load 45 (Operand.tmp 35), type := 45, pos := "unit.go:75", after := #[{ on := 5, ground := Ground.data }], guard := none }, { dst := some 37, op := Op.call { callee := Callee.value (Operand.func 86), args := #[Operand.tmp 36], argTypes := #[45] }, type := 30, pos := "unit.go:75", after := #[{ on := 6, ground := Ground.data }, { on := 4, ground := Ground.chain }], guard := none }, { dst := some 38, op := Op.call { callee := Callee.builtin Builtin.append, args := #[Operand.tmp 34, Operand.tmp 37], argTypes := #[30, 30] }, type := 30, pos := "unit.go:75", after := #[{ on := 4, ground := Ground.data }, { on := 7, ground := Ground.data }, { on := 7, ground := Ground.chain }], guard := none }, { dst := some 4, op := Op.assign (Operand.tmp 38), type := 30, pos := "unit.go:75", after := #[{ on := 8, ground := Ground.data }, { on := 8, ground := Ground.chain }, { on := 0, ground := Ground.phase }, { on := 1, ground := Ground.phase }, { on := 2, ground := Ground.phase }, { on := 3, ground := Ground.phase }, { on := 4, ground := Ground.phase }, { on := 5, ground := Ground.phase }, { on := 6, ground := Ground.phase }, { on := 7, ground := Ground.phase }, { on := 8, ground := Ground.phase }], guard := none }] true).wp Tryd.prog (fun e b v => e = Exit.normal ∧ ∃ u4 u30 u31 u32 u33 u34 u35 u36 u37 u38 : Value, b = ⟨#[t0, .pointer (some ⟨gp, 0, none⟩), t2, t3, u4, t5, t6, t7, t8, t9, t10, t11, t12, t13, t14, t15, t16, t17, t18, t19, t20, t21, t22, t23, t24, t25, t26, t27, t28, t29, u30, u31, u32, u33, u34, u35, u36, u37, u38, t39, t40, t41, t42, t43, t44, t45, t46, t47, t48, t49, t50, t51], []⟩ ∧ Below W0.heap.size W0 v ∧ (v.ownsRow W0.heap.size 5 1 u4 (N + 2 + n2) (bytesV (E ++ putL 2 n2) ++ bytesV M))) ⟨#[t0, .pointer (some ⟨gp, 0, none⟩), t2, t3, r0, t5, t6, t7, t8, t9, t10, t11, t12, t13, t14, t15, t16, t17, t18, t19, t20, t21, t22, t23, t24, t25, t26, t27, t28, t29, t30, t31, t32, t33, t34, t35, t36, t37, t38, t39, t40, t41, t42, t43, t44, t45, t46, t47, t48, t49, t50, t51], []⟩ W0 := by
  refine wp_region_facts (n := 10) (fun L b v => ∃ u4 u30 u31 u32 u33 u34 u35 u36 u37 u38 : Value, b = ⟨#[t0, .pointer (some ⟨gp, 0, none⟩), t2, t3, u4, t5, t6, t7, t8, t9, t10, t11, t12, t13, t14, t15, t16, t17, t18, t19, t20, t21, t22, t23, t24, t25, t26, t27, t28, t29, u30, u31, u32, u33, u34, u35, u36, u37, u38, t39, t40, t41, t42, t43, t44, t45, t46, t47, t48, t49, t50, t51], []⟩ ∧ Below W0.heap.size W0 v ∧ (L.getD 0 false = true → u30 = r0) ∧ (L.getD 1 false = true → u31 = .pointer (some ⟨gp, 3, none⟩)) ∧ (L.getD 2 false = true → u32 = .slice sb n2 cb) ∧ (L.getD 3 false = true → u33 = .int .i64 n2) ∧ (L.getD 4 false = true → L.getD 8 true = false → v.ownsRow W0.heap.size 5 1 u34 (N + 2) (bytesV (E ++ putL 2 n2))) ∧ (L.getD 5 false = true → u35 = .pointer (some ⟨gp, 3, none⟩)) ∧ (L.getD 6 false = true → u36 = .slice sb n2 cb) ∧ (L.getD 7 false = true → L.getD 8 true = false → v.ownsRow W0.heap.size 5 1 u37 n2 (bytesV M)) ∧ (L.getD 8 false = true → v.ownsRow W0.heap.size 5 1 u38 (N + 2 + n2) (bytesV (E ++ putL 2 n2) ++ bytesV M)) ∧ (L.getD 9 false = true → v.ownsRow W0.heap.size 5 1 u4 (N + 2 + n2) (bytesV (E ++ putL 2 n2) ++ bytesV M)) ∧ (L.getD 9 false = false → u4 = r0)) (by kernel_rfl) (by kernel_rfl) (by kernel_rfl) ?_ ?_ ?_
  · refine ⟨_, _, _, _, _, _, _, _, _, _, rfl, (Below.refl _ _).drew, flag_new, flag_new, flag_new, flag_new, flag_new, flag_new, flag_new, flag_new, flag_new, flag_new, fun _ => (by first | rfl | assumption)⟩
  · refine AllSteps.succ (AllSteps.succ (AllSteps.succ (AllSteps.succ (AllSteps.succ (AllSteps.succ (AllSteps.succ (AllSteps.succ (AllSteps.succ (AllSteps.succ AllSteps.zero ?_) ?_) ?_) ?_) ?_) ?_) ?_) ?_) ?_) ?_
    · refine StepAt.mk (o := { dst := some 30, op := Op.move (Operand.tmp 4), type := 30, pos := _, after := #[], guard := none }) (ws := []) rfl (by kernel_rfl) ?_
      intro L b v hC h0 hA h
      refine h.elim ?_; clear h; intro u4 h
      refine h.elim ?_; clear h; intro u30 h
      refine h.elim ?_; clear h; intro u31 h
      refine h.elim ?_; clear h; intro u32 h
      refine h.elim ?_; clear h; intro u33 h
      refine h.elim ?_; clear h; intro u34 h
      refine h.elim ?_; clear h; intro u35 h
      refine h.elim ?_; clear h; intro u36 h
      refine h.elim ?_; clear h; intro u37 h
      refine h.elim ?_; clear h; intro u38 h
      have hbb := h.1; replace h := h.2; subst hbb
      have hHeld := h.1; replace h := h.2
      have f0 := h.1; replace h := h.2
      have f1 := h.1; replace h := h.2
      have f2 := h.1; replace h := h.2
      have f3 := h.1; replace h := h.2
      have f4 := h.1; replace h := h.2
      have f5 := h.1; replace h := h.2
      have f6 := h.1; replace h := h.2
      have f7 := h.1; replace h := h.2
      have f8 := h.1; replace h := h.2
      have f9 := h.1; replace h := h.2
      have er := h; clear h
      intro K hK
      have dr := er (Bool.eq_false_iff.2 (fun h => getD_no h0 (hC.step (j := 9) (k := 0) h (by kernel_rfl))))
      obtain rfl := dr
      rw [if_pos (by kernel_rfl)]
      have q0 := cellB hHeld C3 hgp
      go_simp
      try simp only [Act.put, List.setIfInBounds_toArray, List.set_cons_zero, List.set_cons_succ]
      refine hK.out _ _ ⟨_, _, _, _, _, _, _, _, _, _, rfl, ?_, ?_, ?_, ?_, ?_, ?_, ?_, ?_, ?_, ?_, ?_, ?_⟩
      · first | exact hHeld | exact hHeld.trans (hb.mono hHeld.size) | (trace_state; fail)
      · intro _; first | rfl | (trace_state; fail)
      · first | exact flag_ne (by decide) f1 | exact fun _ => rfl
      · first | exact flag_ne (by decide) f2 | exact fun _ => rfl
      · first | exact flag_ne (by decide) f3 | exact fun _ => rfl
      · intro h _; rw [getD_set_ne false (by decide)] at h; exact (getD_no h0 (hC.step (j := 4) (k := 0) h (by kernel_rfl))).elim
      · first | exact flag_ne (by decide) f5 | exact fun _ => rfl
      · first | exact flag_ne (by decide) f6 | exact fun _ => rfl
      · intro h _; rw [getD_set_ne false (by decide)] at h; exact (getD_no h0 (hC.step (j := 4) (k := 0) (hC.step (j := 7) (k := 4) h (by kernel_rfl)) (by kernel_rfl))).elim
      · intro h; rw [getD_set_ne false (by decide)] at h; exact (getD_no h0 (hC.step (j := 4) (k := 0) (hC.step (j := 8) (k := 4) h (by kernel_rfl)) (by kernel_rfl))).elim
      · intro h; rw [getD_set_ne false (by decide)] at h; exact (getD_no h0 (hC.step (j := 9) (k := 0) h (by kernel_rfl))).elim
      · intro h; first | rfl | (rw [getD_set_ne false (by decide)] at h; have := er h; first | exact this | exact owns_below this hb | (trace_state; fail))
    · refine StepAt.mk (o := { dst := some 31, op := Op.fieldAddr 48 (Operand.tmp 1) 3, type := 0, pos := _, after := #[], guard := none }) (ws := []) rfl (by kernel_rfl) ?_
      intro L b v hC h0 hA h
      refine h.elim ?_; clear h; intro u4 h
      refine h.elim ?_; clear h; intro u30 h
      refine h.elim ?_; clear h; intro u31 h
      refine h.elim ?_; clear h; intro u32 h
      refine h.elim ?_; clear h; intro u33 h
      refine h.elim ?_; clear h; intro u34 h
      refine h.elim ?_; clear h; intro u35 h
      refine h.elim ?_; clear h; intro u36 h
      refine h.elim ?_; clear h; intro u37 h
      refine h.elim ?_; clear h; intro u38 h
      have hbb := h.1; replace h := h.2; subst hbb
      have hHeld := h.1; replace h := h.2
      have f0 := h.1; replace h := h.2
      have f1 := h.1; replace h := h.2
      have f2 := h.1; replace h := h.2
      have f3 := h.1; replace h := h.2
      have f4 := h.1; replace h := h.2
      have f5 := h.1; replace h := h.2
      have f6 := h.1; replace h := h.2
      have f7 := h.1; replace h := h.2
      have f8 := h.1; replace h := h.2
      have f9 := h.1; replace h := h.2
      have er := h; clear h
      intro K hK
      rw [if_pos (by kernel_rfl)]
      have q0 := cellB hHeld C3 hgp
      go_simp
      try simp only [Act.put, List.setIfInBounds_toArray, List.set_cons_zero, List.set_cons_succ]
      refine hK.out _ _ ⟨_, _, _, _, _, _, _, _, _, _, rfl, ?_, ?_, ?_, ?_, ?_, ?_, ?_, ?_, ?_, ?_, ?_, ?_⟩
      · first | exact hHeld | exact hHeld.trans (hb.mono hHeld.size) | (trace_state; fail)
      · first | exact flag_ne (by decide) f0 | exact fun _ => rfl
      · intro _; first | rfl | (trace_state; fail)
      · first | exact flag_ne (by decide) f2 | exact fun _ => rfl
      · first | exact flag_ne (by decide) f3 | exact fun _ => rfl
      · intro h _; rw [getD_set_ne false (by decide)] at h; exact (getD_no h0 (hC.step (j := 2) (k := 1) (hC.step (j := 3) (k := 2) (hC.step (j := 4) (k := 3) h (by kernel_rfl)) (by kernel_rfl)) (by kernel_rfl))).elim
      · first | exact flag_ne (by decide) f5 | exact fun _ => rfl
      · first | exact flag_ne (by decide) f6 | exact fun _ => rfl
      · intro h _; rw [getD_set_ne false (by decide)] at h; exact (getD_no h0 (hC.step (j := 2) (k := 1) (hC.step (j := 3) (k := 2) (hC.step (j := 4) (k := 3) (hC.step (j := 7) (k := 4) h (by kernel_rfl)) (by kernel_rfl)) (by kernel_rfl)) (by kernel_rfl))).elim
      · intro h; rw [getD_set_ne false (by decide)] at h; exact (getD_no h0 (hC.step (j := 2) (k := 1) (hC.step (j := 3) (k := 2) (hC.step (j := 4) (k := 3) (hC.step (j := 8) (k := 4) h (by kernel_rfl)) (by kernel_rfl)) (by kernel_rfl)) (by kernel_rfl))).elim
      · intro h; rw [getD_set_ne false (by decide)] at h; exact (getD_no h0 (hC.step (j := 9) (k := 1) h (by kernel_rfl))).elim
      · intro h; rw [getD_set_ne false (by decide)] at h; have := er h; first | exact this | exact owns_below this hb | (trace_state; fail)
    · refine StepAt.mk (o := { dst := some 32, op := Op.load 45 (Operand.tmp 31), type := 45, pos := _, after := #[{ on := 1, ground := Ground.data }], guard := none }) (ws := [1]) rfl (by kernel_rfl) ?_
      intro L b v hC h0 hA h
      refine h.elim ?_; clear h; intro u4 h
      refine h.elim ?_; clear h; intro u30 h
      refine h.elim ?_; clear h; intro u31 h
      refine h.elim ?_; clear h; intro u32 h
      refine h.elim ?_; clear h; intro u33 h
      refine h.elim ?_; clear h; intro u34 h
      refine h.elim ?_; clear h; intro u35 h
      refine h.elim ?_; clear h; intro u36 h
      refine h.elim ?_; clear h; intro u37 h
      refine h.elim ?_; clear h; intro u38 h
      have hbb := h.1; replace h := h.2; subst hbb
      have hHeld := h.1; replace h := h.2
      have f0 := h.1; replace h := h.2
      have f1 := h.1; replace h := h.2
      have f2 := h.1; replace h := h.2
      have f3 := h.1; replace h := h.2
      have f4 := h.1; replace h := h.2
      have f5 := h.1; replace h := h.2
      have f6 := h.1; replace h := h.2
      have f7 := h.1; replace h := h.2
      have f8 := h.1; replace h := h.2
      have f9 := h.1; replace h := h.2
      have er := h; clear h
      intro K hK
      have g1 := f1 (hA 1 (by simp))
      obtain rfl := g1
      rw [if_pos (by kernel_rfl)]
      have q0 := cellB hHeld C3 hgp
      go_simp
      try simp only [Act.put, List.setIfInBounds_toArray, List.set_cons_zero, List.set_cons_succ]
      refine hK.out _ _ ⟨_, _, _, _, _, _, _, _, _, _, rfl, ?_, ?_, ?_, ?_, ?_, ?_, ?_, ?_, ?_, ?_, ?_, ?_⟩
      · first | exact hHeld | exact hHeld.trans (hb.mono hHeld.size) | (trace_state; fail)
      · first | exact flag_ne (by decide) f0 | exact fun _ => rfl
      · first | exact flag_ne (by decide) f1 | exact fun _ => rfl
      · intro _; first | rfl | (trace_state; fail)
      · first | exact flag_ne (by decide) f3 | exact fun _ => rfl
      · intro h _; rw [getD_set_ne false (by decide)] at h; exact (getD_no h0 (hC.step (j := 3) (k := 2) (hC.step (j := 4) (k := 3) h (by kernel_rfl)) (by kernel_rfl))).elim
      · first | exact flag_ne (by decide) f5 | exact fun _ => rfl
      · first | exact flag_ne (by decide) f6 | exact fun _ => rfl
      · intro h _; rw [getD_set_ne false (by decide)] at h; exact (getD_no h0 (hC.step (j := 3) (k := 2) (hC.step (j := 4) (k := 3) (hC.step (j := 7) (k := 4) h (by kernel_rfl)) (by kernel_rfl)) (by kernel_rfl))).elim
      · intro h; rw [getD_set_ne false (by decide)] at h; exact (getD_no h0 (hC.step (j := 3) (k := 2) (hC.step (j := 4) (k := 3) (hC.step (j := 8) (k := 4) h (by kernel_rfl)) (by kernel_rfl)) (by kernel_rfl))).elim
      · intro h; rw [getD_set_ne false (by decide)] at h; exact (getD_no h0 (hC.step (j := 9) (k := 2) h (by kernel_rfl))).elim
      · intro h; rw [getD_set_ne false (by decide)] at h; have := er h; first | exact this | exact owns_below this hb | (trace_state; fail)
    · refine StepAt.mk (o := { dst := some 33, op := Op.call { callee := Callee.builtin Builtin.len, args := #[Operand.tmp 32], argTypes := #[45] }, type := 3, pos := _, after := #[{ on := 2, ground := Ground.data }], guard := none }) (ws := [2]) rfl (by kernel_rfl) ?_
      intro L b v hC h0 hA h
      refine h.elim ?_; clear h; intro u4 h
      refine h.elim ?_; clear h; intro u30 h
      refine h.elim ?_; clear h; intro u31 h
      refine h.elim ?_; clear h; intro u32 h
      refine h.elim ?_; clear h; intro u33 h
      refine h.elim ?_; clear h; intro u34 h
      refine h.elim ?_; clear h; intro u35 h
      refine h.elim ?_; clear h; intro u36 h
      refine h.elim ?_; clear h; intro u37 h
      refine h.elim ?_; clear h; intro u38 h
      have hbb := h.1; replace h := h.2; subst hbb
      have hHeld := h.1; replace h := h.2
      have f0 := h.1; replace h := h.2
      have f1 := h.1; replace h := h.2
      have f2 := h.1; replace h := h.2
      have f3 := h.1; replace h := h.2
      have f4 := h.1; replace h := h.2
      have f5 := h.1; replace h := h.2
      have f6 := h.1; replace h := h.2
      have f7 := h.1; replace h := h.2
      have f8 := h.1; replace h := h.2
      have f9 := h.1; replace h := h.2
      have er := h; clear h
      intro K hK
      have g2 := f2 (hA 2 (by simp))
      obtain rfl := g2
      rw [if_pos (by kernel_rfl)]
      have q0 := cellB hHeld C3 hgp
      go_simp
      try simp only [Act.put, List.setIfInBounds_toArray, List.set_cons_zero, List.set_cons_succ]
      refine hK.out _ _ ⟨_, _, _, _, _, _, _, _, _, _, rfl, ?_, ?_, ?_, ?_, ?_, ?_, ?_, ?_, ?_, ?_, ?_, ?_⟩
      · first | exact hHeld | exact hHeld.trans (hb.mono hHeld.size) | (trace_state; fail)
      · first | exact flag_ne (by decide) f0 | exact fun _ => rfl
      · first | exact flag_ne (by decide) f1 | exact fun _ => rfl
      · first | exact flag_ne (by decide) f2 | exact fun _ => rfl
      · intro _; first | rfl | (trace_state; fail)
      · intro h _; rw [getD_set_ne false (by decide)] at h; exact (getD_no h0 (hC.step (j := 4) (k := 3) h (by kernel_rfl))).elim
      · first | exact flag_ne (by decide) f5 | exact fun _ => rfl
      · first | exact flag_ne (by decide) f6 | exact fun _ => rfl
      · intro h _; rw [getD_set_ne false (by decide)] at h; exact (getD_no h0 (hC.step (j := 4) (k := 3) (hC.step (j := 7) (k := 4) h (by kernel_rfl)) (by kernel_rfl))).elim
      · intro h; rw [getD_set_ne false (by decide)] at h; exact (getD_no h0 (hC.step (j := 4) (k := 3) (hC.step (j := 8) (k := 4) h (by kernel_rfl)) (by kernel_rfl))).elim
      · intro h; rw [getD_set_ne false (by decide)] at h; exact (getD_no h0 (hC.step (j := 9) (k := 3) h (by kernel_rfl))).elim
      · intro h; rw [getD_set_ne false (by decide)] at h; have := er h; first | exact this | exact owns_below this hb | (trace_state; fail)
    · refine StepAt.mk (o := { dst := some 34, op := Op.call { callee := Callee.value (Operand.func 22), args := #[Operand.tmp 30, Operand.const (Value.int IntKind.i64 2), Operand.tmp 33], argTypes := #[30, 3, 3] }, type := 30, pos := _, after := #[{ on := 0, ground := Ground.data }, { on := 3, ground := Ground.data }], guard := none }) (ws := [0, 3]) rfl (by kernel_rfl) ?_
      intro L b v hC h0 hA h
      refine h.elim ?_; clear h; intro u4 h
      refine h.elim ?_; clear h; intro u30 h
      refine h.elim ?_; clear h; intro u31 h
      refine h.elim ?_; clear h; intro u32 h
      refine h.elim ?_; clear h; intro u33 h
      refine h.elim ?_; clear h; intro u34 h
      refine h.elim ?_; clear h; intro u35 h
      refine h.elim ?_; clear h; intro u36 h
      refine h.elim ?_; clear h; intro u37 h
      refine h.elim ?_; clear h; intro u38 h
      have hbb := h.1; replace h := h.2; subst hbb
      have hHeld := h.1; replace h := h.2
      have f0 := h.1; replace h := h.2
      have f1 := h.1; replace h := h.2
      have f2 := h.1; replace h := h.2
      have f3 := h.1; replace h := h.2
      have f4 := h.1; replace h := h.2
      have f5 := h.1; replace h := h.2
      have f6 := h.1; replace h := h.2
      have f7 := h.1; replace h := h.2
      have f8 := h.1; replace h := h.2
      have f9 := h.1; replace h := h.2
      have er := h; clear h
      intro K hK
      have g0 := f0 (hA 0 (by simp))
      have g3 := f3 (hA 3 (by simp))
      obtain rfl := g3
      rw [if_pos (by kernel_rfl)]
      have q0 := cellB hHeld C3 hgp
      go_simp
      refine (HP.out v hHeld).mono ?_; rintro e v1 ⟨r, rfl, HO, hb⟩
      go_wp2_with fail
      try simp only [Act.put, List.setIfInBounds_toArray, List.set_cons_zero, List.set_cons_succ]
      refine hK.out _ _ ⟨_, _, _, _, _, _, _, _, _, _, rfl, ?_, ?_, ?_, ?_, ?_, ?_, ?_, ?_, ?_, ?_, ?_, ?_⟩
      · first | exact hHeld | exact hHeld.trans (hb.mono hHeld.size) | (trace_state; fail)
      · first | exact flag_ne (by decide) f0 | exact fun _ => rfl
      · first | exact flag_ne (by decide) f1 | exact fun _ => rfl
      · first | exact flag_ne (by decide) f2 | exact fun _ => rfl
      · first | exact flag_ne (by decide) f3 | exact fun _ => rfl
      · intro _ _; first | (exact own_low HO hHeld.size) | (trace_state; fail)
      · first | exact flag_ne (by decide) f5 | exact fun _ => rfl
      · first | exact flag_ne (by decide) f6 | exact fun _ => rfl
      · intro h _; rw [getD_set_ne false (by decide)] at h; exact (getD_no h0 (hC.step (j := 7) (k := 4) h (by kernel_rfl))).elim
      · intro h; rw [getD_set_ne false (by decide)] at h; exact (getD_no h0 (hC.step (j := 8) (k := 4) h (by kernel_rfl))).elim
      · intro h; rw [getD_set_ne false (by decide)] at h; exact (getD_no h0 (hC.step (j := 9) (k := 4) h (by kernel_rfl))).elim
      · intro h; rw [getD_set_ne false (by decide)] at h; have := er h; first | exact this | exact owns_below this hb | (trace_state; fail)
    · refine StepAt.mk (o := { dst := some 35, op := Op.fieldAddr 48 (Operand.tmp 1) 3, type := 0, pos := _, after := #[], guard := none }) (ws := []) rfl (by kernel_rfl) ?_
      intro L b v hC h0 hA h
      refine h.elim ?_; clear h; intro u4 h
      refine h.elim ?_; clear h; intro u30 h
      refine h.elim ?_; clear h; intro u31 h
      refine h.elim ?_; clear h; intro u32 h
      refine h.elim ?_; clear h; intro u33 h
      refine h.elim ?_; clear h; intro u34 h
      refine h.elim ?_; clear h; intro u35 h
      refine h.elim ?_; clear h; intro u36 h
      refine h.elim ?_; clear h; intro u37 h
      refine h.elim ?_; clear h; intro u38 h
      have hbb := h.1; replace h := h.2; subst hbb
      have hHeld := h.1; replace h := h.2
      have f0 := h.1; replace h := h.2
      have f1 := h.1; replace h := h.2
      have f2 := h.1; replace h := h.2
      have f3 := h.1; replace h := h.2
      have f4 := h.1; replace h := h.2
      have f5 := h.1; replace h := h.2
      have f6 := h.1; replace h := h.2
      have f7 := h.1; replace h := h.2
      have f8 := h.1; replace h := h.2
      have f9 := h.1; replace h := h.2
      have er := h; clear h
      intro K hK
      rw [if_pos (by kernel_rfl)]
      have q0 := cellB hHeld C3 hgp
      go_simp
      try simp only [Act.put, List.setIfInBounds_toArray, List.set_cons_zero, List.set_cons_succ]
      refine hK.out _ _ ⟨_, _, _, _, _, _, _, _, _, _, rfl, ?_, ?_, ?_, ?_, ?_, ?_, ?_, ?_, ?_, ?_, ?_, ?_⟩
      · first | exact hHeld | exact hHeld.trans (hb.mono hHeld.size) | (trace_state; fail)
      · first | exact flag_ne (by decide) f0 | exact fun _ => rfl
      · first | exact flag_ne (by decide) f1 | exact fun _ => rfl
      · first | exact flag_ne (by decide) f2 | exact fun _ => rfl
      · first | exact flag_ne (by decide) f3 | exact fun _ => rfl
      · intro h h7; rw [getD_set_ne false (by decide)] at h; rw [getD_set_ne true (by decide)] at h7; have := f4 h h7; first | exact this | exact owns_below this hb | (trace_state; fail)
      · intro _; first | rfl | (trace_state; fail)
      · first | exact flag_ne (by decide) f6 | exact fun _ => rfl
      · intro h _; rw [getD_set_ne false (by decide)] at h; exact (getD_no h0 (hC.step (j := 6) (k := 5) (hC.step (j := 7) (k := 6) h (by kernel_rfl)) (by kernel_rfl))).elim
      · intro h; rw [getD_set_ne false (by decide)] at h; exact (getD_no h0 (hC.step (j := 6) (k := 5) (hC.step (j := 7) (k := 6) (hC.step (j := 8) (k := 7) h (by kernel_rfl)) (by kernel_rfl)) (by kernel_rfl))).elim
      · intro h; rw [getD_set_ne false (by decide)] at h; exact (getD_no h0 (hC.step (j := 9) (k := 5) h (by kernel_rfl))).elim
      · intro h; rw [getD_set_ne false (by decide)] at h; have := er h; first | exact this | exact owns_below this hb | (trace_state; fail)
    · refine StepAt.mk (o := { dst := some 36, op := Op.load 45 (Operand.tmp 35), type := 45, pos := _, after := #[{ on := 5, ground := Ground.data }], guard := none }) (ws := [5]) rfl (by kernel_rfl) ?_
      intro L b v hC h0 hA h
      refine h.elim ?_; clear h; intro u4 h
      refine h.elim ?_; clear h; intro u30 h
      refine h.elim ?_; clear h; intro u31 h
      refine h.elim ?_; clear h; intro u32 h
      refine h.elim ?_; clear h; intro u33 h
      refine h.elim ?_; clear h; intro u34 h
      refine h.elim ?_; clear h; intro u35 h
      refine h.elim ?_; clear h; intro u36 h
      refine h.elim ?_; clear h; intro u37 h
      refine h.elim ?_; clear h; intro u38 h
      have hbb := h.1; replace h := h.2; subst hbb
      have hHeld := h.1; replace h := h.2
      have f0 := h.1; replace h := h.2
      have f1 := h.1; replace h := h.2
      have f2 := h.1; replace h := h.2
      have f3 := h.1; replace h := h.2
      have f4 := h.1; replace h := h.2
      have f5 := h.1; replace h := h.2
      have f6 := h.1; replace h := h.2
      have f7 := h.1; replace h := h.2
      have f8 := h.1; replace h := h.2
      have f9 := h.1; replace h := h.2
      have er := h; clear h
      intro K hK
      have g5 := f5 (hA 5 (by simp))
      obtain rfl := g5
      rw [if_pos (by kernel_rfl)]
      have q0 := cellB hHeld C3 hgp
      go_simp
      try simp only [Act.put, List.setIfInBounds_toArray, List.set_cons_zero, List.set_cons_succ]
      refine hK.out _ _ ⟨_, _, _, _, _, _, _, _, _, _, rfl, ?_, ?_, ?_, ?_, ?_, ?_, ?_, ?_, ?_, ?_, ?_, ?_⟩
      · first | exact hHeld | exact hHeld.trans (hb.mono hHeld.size) | (trace_state; fail)
      · first | exact flag_ne (by decide) f0 | exact fun _ => rfl
      · first | exact flag_ne (by decide) f1 | exact fun _ => rfl
      · first | exact flag_ne (by decide) f2 | exact fun _ => rfl
      · first | exact flag_ne (by decide) f3 | exact fun _ => rfl
      · intro h h7; rw [getD_set_ne false (by decide)] at h; rw [getD_set_ne true (by decide)] at h7; have := f4 h h7; first | exact this | exact owns_below this hb | (trace_state; fail)
      · first | exact flag_ne (by decide) f5 | exact fun _ => rfl
      · intro _; first | rfl | (trace_state; fail)
      · intro h _; rw [getD_set_ne false (by decide)] at h; exact (getD_no h0 (hC.step (j := 7) (k := 6) h (by kernel_rfl))).elim
      · intro h; rw [getD_set_ne false (by decide)] at h; exact (getD_no h0 (hC.step (j := 7) (k := 6) (hC.step (j := 8) (k := 7) h (by kernel_rfl)) (by kernel_rfl))).elim
      · intro h; rw [getD_set_ne false (by decide)] at h; exact (getD_no h0 (hC.step (j := 9) (k := 6) h (by kernel_rfl))).elim
      · intro h; rw [getD_set_ne false (by decide)] at h; have := er h; first | exact this | exact owns_below this hb | (trace_state; fail)
    · refine StepAt.mk (o := { dst := some 37, op := Op.call { callee := Callee.value (Operand.func 86), args := #[Operand.tmp 36], argTypes := #[45] }, type := 30, pos := _, after := #[{ on := 6, ground := Ground.data }, { on := 4, ground := Ground.chain }], guard := none }) (ws := [6, 4]) rfl (by kernel_rfl) ?_
      intro L b v hC h0 hA h
      refine h.elim ?_; clear h; intro u4 h
      refine h.elim ?_; clear h; intro u30 h
      refine h.elim ?_; clear h; intro u31 h
      refine h.elim ?_; clear h; intro u32 h
      refine h.elim ?_; clear h; intro u33 h
      refine h.elim ?_; clear h; intro u34 h
      refine h.elim ?_; clear h; intro u35 h
      refine h.elim ?_; clear h; intro u36 h
      refine h.elim ?_; clear h; intro u37 h
      refine h.elim ?_; clear h; intro u38 h
      have hbb := h.1; replace h := h.2; subst hbb
      have hHeld := h.1; replace h := h.2
      have f0 := h.1; replace h := h.2
      have f1 := h.1; replace h := h.2
      have f2 := h.1; replace h := h.2
      have f3 := h.1; replace h := h.2
      have f4 := h.1; replace h := h.2
      have f5 := h.1; replace h := h.2
      have f6 := h.1; replace h := h.2
      have f7 := h.1; replace h := h.2
      have f8 := h.1; replace h := h.2
      have f9 := h.1; replace h := h.2
      have er := h; clear h
      intro K hK
      have g6 := f6 (hA 6 (by simp))
      obtain rfl := g6
      have g4 := f4 (hA 4 (by simp))
      rw [if_pos (by kernel_rfl)]
      have q0 := cellB hHeld C3 hgp
      go_simp
      refine (HM.out v hHeld).mono ?_; rintro e v1 ⟨r, rfl, HO, hb⟩
      go_wp2_with fail
      try simp only [Act.put, List.setIfInBounds_toArray, List.set_cons_zero, List.set_cons_succ]
      refine hK.out _ _ ⟨_, _, _, _, _, _, _, _, _, _, rfl, ?_, ?_, ?_, ?_, ?_, ?_, ?_, ?_, ?_, ?_, ?_, ?_⟩
      · first | exact hHeld | exact hHeld.trans (hb.mono hHeld.size) | (trace_state; fail)
      · first | exact flag_ne (by decide) f0 | exact fun _ => rfl
      · first | exact flag_ne (by decide) f1 | exact fun _ => rfl
      · first | exact flag_ne (by decide) f2 | exact fun _ => rfl
      · first | exact flag_ne (by decide) f3 | exact fun _ => rfl
      · intro h h7; rw [getD_set_ne false (by decide)] at h; rw [getD_set_ne true (by decide)] at h7; have := f4 h h7; first | exact this | exact owns_below this hb | (trace_state; fail)
      · first | exact flag_ne (by decide) f5 | exact fun _ => rfl
      · first | exact flag_ne (by decide) f6 | exact fun _ => rfl
      · intro _ _; first | (exact own_low HO hHeld.size) | (trace_state; fail)
      · intro h; rw [getD_set_ne false (by decide)] at h; exact (getD_no h0 (hC.step (j := 8) (k := 7) h (by kernel_rfl))).elim
      · intro h; rw [getD_set_ne false (by decide)] at h; exact (getD_no h0 (hC.step (j := 9) (k := 7) h (by kernel_rfl))).elim
      · intro h; rw [getD_set_ne false (by decide)] at h; have := er h; first | exact this | exact owns_below this hb | (trace_state; fail)
    · refine StepAt.mk (o := { dst := some 38, op := Op.call { callee := Callee.builtin Builtin.append, args := #[Operand.tmp 34, Operand.tmp 37], argTypes := #[30, 30] }, type := 30, pos := _, after := #[{ on := 4, ground := Ground.data }, { on := 7, ground := Ground.data }, { on := 7, ground := Ground.chain }], guard := none }) (ws := [4, 7, 7]) rfl (by kernel_rfl) ?_
      intro L b v hC h0 hA h
      refine h.elim ?_; clear h; intro u4 h
      refine h.elim ?_; clear h; intro u30 h
      refine h.elim ?_; clear h; intro u31 h
      refine h.elim ?_; clear h; intro u32 h
      refine h.elim ?_; clear h; intro u33 h
      refine h.elim ?_; clear h; intro u34 h
      refine h.elim ?_; clear h; intro u35 h
      refine h.elim ?_; clear h; intro u36 h
      refine h.elim ?_; clear h; intro u37 h
      refine h.elim ?_; clear h; intro u38 h
      have hbb := h.1; replace h := h.2; subst hbb
      have hHeld := h.1; replace h := h.2
      have f0 := h.1; replace h := h.2
      have f1 := h.1; replace h := h.2
      have f2 := h.1; replace h := h.2
      have f3 := h.1; replace h := h.2
      have f4 := h.1; replace h := h.2
      have f5 := h.1; replace h := h.2
      have f6 := h.1; replace h := h.2
      have f7 := h.1; replace h := h.2
      have f8 := h.1; replace h := h.2
      have f9 := h.1; replace h := h.2
      have er := h; clear h
      intro K hK
      have g4 := f4 (hA 4 (by simp)) h0
      have g7 := f7 (hA 7 (by simp)) h0
      rw [if_pos (by kernel_rfl)]
      have q0 := cellB hHeld C3 hgp
      refine wp_append_src (.tmp 34) (.tmp 37) 30 rfl W0.heap.size 5 i (.int .u8 0) 1 1 Tryd.underlying30 hi hz hsize hby rfl (by omega) _ (N + 2) _ rfl g4 _ n2 _ rfl (src_own g7) (by have := g7.1; omega) (bytesV_one _) (by unfold maxLen; omega) (by omega) hHeld.size ?_; intro v' w' HO hG
      try simp only [Act.put, List.setIfInBounds_toArray, List.set_cons_zero, List.set_cons_succ]
      refine hK.out _ _ ⟨_, _, _, _, _, _, _, _, _, _, rfl, ?_, ?_, ?_, ?_, ?_, ?_, ?_, ?_, ?_, ?_, ?_, ?_⟩
      · exact grown3 hHeld hHeld.size g4 hG
      · first | exact flag_ne (by decide) f0 | exact fun _ => rfl
      · first | exact flag_ne (by decide) f1 | exact fun _ => rfl
      · first | exact flag_ne (by decide) f2 | exact fun _ => rfl
      · first | exact flag_ne (by decide) f3 | exact fun _ => rfl
      · intro _ h7; rw [getD_set_self] at h7; cases h7
      · first | exact flag_ne (by decide) f5 | exact fun _ => rfl
      · first | exact flag_ne (by decide) f6 | exact fun _ => rfl
      · intro _ h7; rw [getD_set_self] at h7; cases h7
      · intro _; first | exact HO | (trace_state; fail)
      · intro h; rw [getD_set_ne false (by decide)] at h; exact (getD_no h0 (hC.step (j := 9) (k := 8) h (by kernel_rfl))).elim
      · intro h; rw [getD_set_ne false (by decide)] at h; have := er h; first | exact this | exact owns_below this hb | (trace_state; fail)
    · refine StepAt.mk (o := { dst := some 4, op := Op.assign (Operand.tmp 38), type := 30, pos := _, after := #[{ on := 8, ground := Ground.data }, { on := 8, ground := Ground.chain }, { on := 0, ground := Ground.phase }, { on := 1, ground := Ground.phase }, { on := 2, ground := Ground.phase }, { on := 3, ground := Ground.phase }, { on := 4, ground := Ground.phase }, { on := 5, ground := Ground.phase }, { on := 6, ground := Ground.phase }, { on := 7, ground := Ground.phase }, { on := 8, ground := Ground.phase }], guard := none }) (ws := [8, 8, 0, 1, 2, 3, 4, 5, 6, 7, 8]) rfl (by kernel_rfl) ?_
      intro L b v hC h0 hA h
      refine h.elim ?_; clear h; intro u4 h
      refine h.elim ?_; clear h; intro u30 h
      refine h.elim ?_; clear h; intro u31 h
      refine h.elim ?_; clear h; intro u32 h
      refine h.elim ?_; clear h; intro u33 h
      refine h.elim ?_; clear h; intro u34 h
      refine h.elim ?_; clear h; intro u35 h
      refine h.elim ?_; clear h; intro u36 h
      refine h.elim ?_; clear h; intro u37 h
      refine h.elim ?_; clear h; intro u38 h
      have hbb := h.1; replace h := h.2; subst hbb
      have hHeld := h.1; replace h := h.2
      have f0 := h.1; replace h := h.2
      have f1 := h.1; replace h := h.2
      have f2 := h.1; replace h := h.2
      have f3 := h.1; replace h := h.2
      have f4 := h.1; replace h := h.2
      have f5 := h.1; replace h := h.2
      have f6 := h.1; replace h := h.2
      have f7 := h.1; replace h := h.2
      have f8 := h.1; replace h := h.2
      have f9 := h.1; replace h := h.2
      have er := h; clear h
      intro K hK
      have g8 := f8 (hA 8 (by simp))
      have g0 := f0 (hA 0 (by simp))
      have g1 := f1 (hA 1 (by simp))
      obtain rfl := g1
      have g2 := f2 (hA 2 (by simp))
      obtain rfl := g2
      have g3 := f3 (hA 3 (by simp))
      obtain rfl := g3
      have g4 := f4 (hA 4 (by simp))
      have g5 := f5 (hA 5 (by simp))
      obtain rfl := g5
      have g6 := f6 (hA 6 (by simp))
      obtain rfl := g6
      have g7 := f7 (hA 7 (by simp))
      rw [if_pos (by kernel_rfl)]
      have q0 := cellB hHeld C3 hgp
      go_simp
      try simp only [Act.put, List.setIfInBounds_toArray, List.set_cons_zero, List.set_cons_succ]
      refine hK.out _ _ ⟨_, _, _, _, _, _, _, _, _, _, rfl, ?_, ?_, ?_, ?_, ?_, ?_, ?_, ?_, ?_, ?_, ?_, ?_⟩
      · first | exact hHeld | exact hHeld.trans (hb.mono hHeld.size) | (trace_state; fail)
      · first | exact flag_ne (by decide) f0 | exact fun _ => rfl
      · first | exact flag_ne (by decide) f1 | exact fun _ => rfl
      · first | exact flag_ne (by decide) f2 | exact fun _ => rfl
      · first | exact flag_ne (by decide) f3 | exact fun _ => rfl
      · intro _ h7; rw [getD_set_ne true (by decide)] at h7; exact (getD_no h7 (hA 8 (by simp))).elim
      · first | exact flag_ne (by decide) f5 | exact fun _ => rfl
      · first | exact flag_ne (by decide) f6 | exact fun _ => rfl
      · intro _ h7; rw [getD_set_ne true (by decide)] at h7; exact (getD_no h7 (hA 8 (by simp))).elim
      · intro h; rw [getD_set_ne false (by decide)] at h; have := f8 h; first | exact this | exact owns_below this hb | (trace_state; fail)
      · intro _; first | exact g8 | (trace_state; fail)
      · intro h; rw [getD_set_done h0] at h; cases h
  intro L b v hA h
  refine h.elim ?_; clear h; intro u4 h
  refine h.elim ?_; clear h; intro u30 h
  refine h.elim ?_; clear h; intro u31 h
  refine h.elim ?_; clear h; intro u32 h
  refine h.elim ?_; clear h; intro u33 h
  refine h.elim ?_; clear h; intro u34 h
  refine h.elim ?_; clear h; intro u35 h
  refine h.elim ?_; clear h; intro u36 h
  refine h.elim ?_; clear h; intro u37 h
  refine h.elim ?_; clear h; intro u38 h
  have hbb := h.1; replace h := h.2; subst hbb
  have hHeld := h.1; replace h := h.2
  have f0 := h.1; replace h := h.2
  have f1 := h.1; replace h := h.2
  have f2 := h.1; replace h := h.2
  have f3 := h.1; replace h := h.2
  have f4 := h.1; replace h := h.2
  have f5 := h.1; replace h := h.2
  have f6 := h.1; replace h := h.2
  have f7 := h.1; replace h := h.2
  have f8 := h.1; replace h := h.2
  have f9 := h.1; replace h := h.2
  have er := h; clear h
  clear er
  have g0 := f0 (hA 0 (by omega))
  clear f0
  have g1 := f1 (hA 1 (by omega))
  clear f1
  obtain rfl := g1
  have g2 := f2 (hA 2 (by omega))
  clear f2
  obtain rfl := g2
  have g3 := f3 (hA 3 (by omega))
  clear f3
  obtain rfl := g3
  clear f4
  have g5 := f5 (hA 5 (by omega))
  clear f5
  obtain rfl := g5
  have g6 := f6 (hA 6 (by omega))
  clear f6
  obtain rfl := g6
  clear f7
  have g8 := f8 (hA 8 (by omega))
  clear f8
  have g9 := f9 (hA 9 (by omega))
  clear f9
  clear hA
  exact ⟨rfl, _, _, _, _, _, _, _, _, _, _, rfl, hHeld, g9⟩
end Go.Proofs.YtjikkipdmonndaaDoor

/- Layer 15: a unit's bytes, by the program. -/
namespace Go.Proofs.YtjikkipdmonndaaDoor
open Go.RowKit
set_option linter.unusedSimpArgs false
set_option linter.unusedVariables false
def putU (x : Un) : List UInt8 := (((((UInt8.ofNat x.name.length :: x.name) ++ [byteO x.params.length] ++ x.params.map byteO ++ [byteO x.result]) ++ putL 2 x.locals.length) ++ x.locals.map byteO) ++ putL 2 x.code.length) ++ encO x.code
def putO (x : Un) : List UInt8 := if fitU x = true then putU x else []
theorem putO_yes {x : Un} (h : fitU x = true) : putO x = putU x := if_pos h
theorem putO_no {x : Un} (h : fitU x = false) : putO x = [] := by unfold putO; rw [h]; exact if_neg (by decide)
theorem bytesV_byteO (L : List UInt8) (z : Int) : bytesV L ++ [.int .u8 (z % 256)] = bytesV (L ++ [byteO z]) := by rw [bytesV_snoc, byteO_val]
theorem row_nil_at (w : World) : RowAt w (.slice none 0 0) ([] : List UInt8).length (byteV []) := Or.inl ⟨none, 0, rfl, rfl, fun _ => rfl⟩
theorem text_nil (nm : ByteArray) (h : nm.size ≤ 255) : [] ++ [UInt8.ofNat (cut255 nm).size] ++ (cut255 nm).data.toList = UInt8.ofNat nm.size :: nm.data.toList := by
  have : cut255 nm = nm := by unfold cut255; rw [if_neg (by omega)]
  rw [this]; rfl
set_option maxHeartbeats 4000000 in
theorem unit_Put (a b c : Value) (x : Un) (w : World) (hT : STab w) (h : UnAt w a b c x) (hl : x.params.length ≤ 1000 ∧ x.locals.length ≤ 4000 ∧ x.code.length ≤ 1000) :
    Calls Tryd.prog 54 #[.agg #[.string ⟨x.name.toArray⟩, a, .int .i64 x.result, b, c]] w fun e w' => ∃ r, e = .returned (.tuple #[r, .bool (fitU x)]) ∧ RowAt w' r (putO x).length (byteV (putO x)) ∧ Below w.heap.size w w' := by
  obtain ⟨i, hi, hz, hsize, hby⟩ : ∃ i, Tryd.prog.info? 5 = some i ∧ i.zero = some (.int .u8 0) ∧ i.size = 1 ∧ i.bytes = 1 := ⟨(Tryd.prog.info? 5).get!, by kernel_rfl, by kernel_rfl, by kernel_rfl, by kernel_rfl⟩
  have HF := Lib.hid (fun W (hb : Below w.heap.size w W) => unit_Fits a b c x W (hT.below hb) (h.below hb))
  have HM1 := Lib.hid (fun W (hb : Below w.heap.size w W) => unit_bytesOf a x.params W (h.ps.below intR_stable hb) (by omega))
  have HM2 := Lib.hid (fun W (hb : Below w.heap.size w W) => unit_bytesOf b x.locals W (h.ls.below intR_stable hb) (by omega))
  have HE := Lib.hid (fun W (hb : Below w.heap.size w W) => code_Encode c x.code W (hT.below hb) (h.cs.below insR_stable hb) hl.2.2)
  obtain ⟨sa, ca, ea⟩ := row_get h.ps
  obtain ⟨sb, cb, eb⟩ := row_get h.ls
  obtain ⟨sc, cc, ec⟩ := row_get h.cs
  subst ea eb ec
  clear h hT
  cases hf : fitU x
  · rw [hf] at HF
    have hs := Lib.hid (putO_no hf)
    generalize (⟨x.name.toArray⟩ : ByteArray) = nm at *
    generalize x.params.length = n1 at *
    generalize x.locals.length = n2 at *
    generalize x.code.length = n3 at *
    generalize x.result = rs at *
    have hB0 : Below w.heap.size w (w.alloc (.cells #[.string nm, .slice sa n1 ca, .int .i64 rs, .slice sb n2 cb, .slice sc n3 cc] 48)) := (Below.refl _ _).alloc (Nat.le_refl _) _
    clear hf
    go_enter Tryd.func54, Tryd.ntmps54
    go_wp2_with fail
    refine (HF.out _ hB0).mono ?_; rintro e w1 ⟨rfl, hb1⟩
    have hB1 := hB0.trans (hb1.mono hB0.size)
    go_wp2_with fail
    go_returns
    exact ⟨_, rfl, by rw [hs.out]; exact row_nil_at _, hB1⟩
  rw [hf] at HF
  obtain ⟨hlen, hp, hq, hr, hc⟩ := fitU_is hf
  have hnm : (⟨x.name.toArray⟩ : ByteArray).size = x.name.length := by simp [ByteArray.size]
  have htn := text_nil ⟨x.name.toArray⟩ (by rw [hnm]; exact hlen.1)
  rw [hnm] at htn
  have hcut : (cut255 ⟨x.name.toArray⟩).size = x.name.length := by unfold cut255; rw [if_neg (by rw [hnm]; have := hlen.1; omega)]; exact hnm
  have HT := Lib.hid (fun W : World => (octet_Text (.slice none 0 0) [] ⟨x.name.toArray⟩ W (row_nil_at W) (by simp)).mono (R' := fun e w' => ∃ r, e = .returned r ∧ w'.ownsRow W.heap.size 5 1 r (1 + x.name.length) (bytesV (UInt8.ofNat x.name.length :: x.name)) ∧ Below W.heap.size W w') (by rintro e w' ⟨r, h1, h2, h3⟩; rw [htn, hcut] at h2; exact ⟨r, h1, by simpa using h2, h3⟩))
  have HPO := Lib.hid (putO_yes hf)
  have HPU := Lib.hid (show putU x = (((((UInt8.ofNat x.name.length :: x.name) ++ [byteO x.params.length] ++ x.params.map byteO ++ [byteO x.result]) ++ putL 2 x.locals.length) ++ x.locals.map byteO) ++ putL 2 x.code.length) ++ encO x.code from rfl)
  rw [hc] at HE
  have hEl : (encO x.code).length ≤ 5000 := by rw [encO_yes hc, enc_len]; omega
  have hTl : (UInt8.ofNat x.name.length :: x.name).length = 1 + x.name.length := by simp; omega
  have hn0 : x.name.length ≤ 255 := hlen.1
  have hM1 : (x.params.map byteO).length = x.params.length := by simp
  have hM2 : (x.locals.map byteO).length = x.locals.length := by simp
  have hp2 : ∀ z : Int, (putL 2 z).length = 2 := fun z => putL_len 2 z
  have hn8 : (near8 2).toNat = 2 := by decide
  clear hf hlen hp hq hr hc hnm htn hcut
  generalize encO x.code = EC at *
  generalize (UInt8.ofNat x.name.length :: x.name) = T at *
  generalize x.params.map byteO = M1 at *
  generalize x.locals.map byteO = M2 at *
  generalize (⟨x.name.toArray⟩ : ByteArray) = nm at *
  generalize x.name.length = n0 at *
  generalize x.params.length = n1 at *
  generalize x.locals.length = n2 at *
  generalize x.code.length = n3 at *
  generalize x.result = rs at *
  obtain ⟨W0, hW0⟩ : ∃ W0, W0 = w.alloc (.cells #[.string nm, .slice sa n1 ca, .int .i64 rs, .slice sb n2 cb, .slice sc n3 cc] 48) := ⟨_, rfl⟩
  have hB0 : Below w.heap.size w W0 := by rw [hW0]; exact (Below.refl _ _).alloc (Nat.le_refl _) _
  have K0 := Lib.hid (show Boxed W0 w.heap.size [.string nm, .slice sa n1 ca, .int .i64 rs, .slice sb n2 cb, .slice sc n3 cc] by rw [hW0]; exact Boxed.new w _ _ (Below.refl _ _))
  have hz0 : w.heap.size < W0.heap.size := by rw [hW0]; simp
  have HW0 := Lib.hid hW0
  have HL := Lib.hid hl
  clear hW0 hl
  go_enter Tryd.func54, Tryd.ntmps54
  go_wp2_with fail
  refine (HF.out _ (by rw [← HW0.out]; exact hB0)).mono ?_; rintro e W1 ⟨rfl, hb1⟩
  rw [← HW0.out] at hb1
  have hB1 := hB0.trans (hb1.mono hB0.size)
  have hz1 : w.heap.size < W1.heap.size := Nat.lt_of_lt_of_le hz0 hb1.size
  have K := Lib.hid (K0.out.keep hz0 hb1)
  clear HW0 K0 HF hb1 hB0 hz0
  clear W0
  go_wp2_with fail
  obtain ⟨l1, l2, l3⟩ := HL.out
  refine Code.wp_mono ?_ (unitPut_r3 W1 w.heap.size nm sa n1 ca (1 + n0) T hz1 (K.out 0 _ rfl) (K.out 1 _ rfl) (by omega) (by omega) hTl HT i hi hz hsize hby _ _ _ _ _ _ _ _ _ _ _ _ _ _ _ _ _ _ _ _ _ _ _ _ _ _ _ _ _ _ _ _ _ _ _ _ _ _ _ _ _ _ _ _ _ _ _ _ _ _ _)
  rintro e bb v2 ⟨rfl, u4, u10, u11, u12, u13, u14, u15, u16, u17, u18, rfl, hH2, g9⟩
  rw [bytesV_byteO] at g9
  have HO2 := Lib.hid g9
  have hB2 := hB1.trans (hH2.mono hB1.size)
  have c1 := (K.out.keep hz1 hH2) 1 _ rfl
  clear g9 HT l1 l2 l3
  go_wp2_with fail
  refine (HM1.out _ hB2).mono ?_; rintro e w3 ⟨r3, rfl, hr3, hb3⟩
  have hH3 := hH2.trans (hb3.mono hH2.size)
  have HO3 := Lib.hid (owns_below HO2.out hb3)
  have HR3 := Lib.hid hr3
  have hBw := hB1.trans (hH3.mono hB1.size)
  clear c1 hr3 hb3
  obtain ⟨l1, l2, l3⟩ := HL.out
  go_wp2_with (first | (at_builtin; go_loud (refine wpList_append_src rfl (.tmp 19) (.tmp 22) 30 rfl W1.heap.size 5 i (.int .u8 0) 1 1 Tryd.underlying30 hi hz hsize hby rfl (by omega) _ (1 + n0 + 1) _ rfl HO3.out _ n1 _ rfl (src_own HR3.out) (by have := HR3.out.1; omega) (bytesV_one _) (by unfold maxLen; omega) (by omega) hH3.size ?_; intro v4 w4 hO4 hG4; have hH4 := grown3 hH3 hH3.size HO3.out hG4; have HO4 := Lib.hid hO4; have c2 := (K.out.keep hz1 hH4) 2 _ rfl; clear hO4 hG4)) | (at_builtin; go_loud (refine wpList_append_src rfl (.tmp 24) (.tmp 28) 30 rfl W1.heap.size 5 i (.int .u8 0) 1 1 Tryd.underlying30 hi hz hsize hby rfl (by omega) _ (1 + n0 + 1 + n1) _ rfl (owns_below HO4.out ((Below.refl _ _).alloc (Nat.le_refl _) _)) _ 1 [.int .u8 (rs % 256)] rfl (src_new _ _ _) rfl (by intro u hu; simp at hu; rw [hu]; rfl) (by unfold maxLen; omega) (by omega) (by simp; have := hH4.size; omega) ?_; intro v5 w5 hO5 hG5; have hH5 := grown3 (hH4.alloc hH4.size _) (by simp; have := hH4.size; omega) (owns_below HO4.out ((Below.refl _ _).alloc (Nat.le_refl _) _)) hG5; have HO5 := Lib.hid hO5; clear hO5 hG5 c2)) | fail)
  have hB5 := hB1.trans (hH5.mono hB1.size)
  have hz5 : w.heap.size < w5.heap.size := Nat.lt_of_lt_of_le hz1 hH5.size
  have K5 := Lib.hid (K.out.keep hz1 hH5)
  obtain ⟨E, hE⟩ : ∃ E, E = T ++ [byteO n1] ++ M1 ++ [byteO rs] := ⟨_, rfl⟩
  have hEn : E.length = 1 + n0 + 1 + n1 + 1 := by rw [hE]; simp only [List.length_append, List.length_cons, List.length_nil, hTl, hM1]
  have HO5 := Lib.hid (show w5.ownsRow W1.heap.size 5 1 v5 E.length (bytesV E) by
    refine own_eq2 HO5.out (by omega) ?_
    rw [hE, bytesV_snoc (T ++ [byteO n1] ++ M1) (byteO rs), bytesV_app (T ++ [byteO n1]) M1, byteO_val])
  rw [← hE] at HPU
  clear hE
  refine Code.wp_mono ?_ (unitPut_r6 w5 w.heap.size v5 sb n2 cb E.length E M2 hz5 (K5.out 3 _ rfl) (by omega) (by omega) rfl (Lib.hid (fun W hW => by
    have := octet_Put v5 E 2 n2 W (owns_bytes (owns_below HO5.out hW) rfl) (by omega)
    rw [hn8] at this
    exact this)) (Lib.hid (fun W hW => HM2.out W (hB5.trans (hW.mono hB5.size)))) i hi hz hsize hby _ _ _ _ _ _ _ _ _ _ _ _ _ _ _ _ _ _ _ _ _ _ _ _ _ _ _ _ _ _ _ _ _ _ _ _ _ _ _ _ _ _ _ _ _ _ _ _ _ _)
  rintro e bb v6 ⟨rfl, u4, u30, u31, u32, u33, u34, u35, u36, u37, u38, rfl, hH6, g9⟩
  have hB6 := hB5.trans (hH6.mono hB5.size)
  have hz6 : w.heap.size < v6.heap.size := Nat.lt_of_lt_of_le hz5 hH6.size
  have K6 := Lib.hid (K5.out.keep hz5 hH6)
  obtain ⟨F, hF⟩ : ∃ F, F = E ++ putL 2 n2 ++ M2 := ⟨_, rfl⟩
  have hFn : F.length = E.length + 2 + n2 := by rw [hF]; simp only [List.length_append, hp2, hM2]
  have HF := Lib.hid (owns_bytes (L := F) (own_eq2 g9 (by omega) (by rw [hF, bytesV_app (E ++ putL 2 n2)])) rfl)
  rw [← hF] at HPU
  have c4 := K6.out 4 _ rfl
  clear hF g9
  go_wp2_with fail
  refine (HE.out _ hB6).mono ?_; rintro e w7 ⟨r7, rfl, hr7, hb7⟩
  have hB7 := hB6.trans (hb7.mono hB6.size)
  have HF7 := Lib.hid (HF.out.below hb7)
  have HR7 := Lib.hid hr7
  have c4 := (K6.out.keep hz6 hb7) 4 _ rfl
  clear hr7
  go_wp2_with fail
  refine (octet_Put u4 F 2 n3 w7 HF7.out (by omega)).mono ?_; rintro e w8 ⟨r8, rfl, hr8, hb8⟩
  rw [hn8] at hr8
  have HO8 := Lib.hid hr8
  have HR8 := Lib.hid (HR7.out.below hb8)
  have hB8 := hB7.trans (hb8.mono hB7.size)
  have hz8 := hb8.size
  have hFb : F.length ≤ 20000 := by omega
  have HFL := Lib.hid (show (F ++ putL 2 n3 ++ EC).length = F.length + 2 + EC.length by simp only [List.length_append, hp2])
  clear hr8 hFn hEn c4
  generalize F.length = fl at *
  have HEL0 := Lib.hid (show EC.length = EC.length from rfl)
  generalize hel : EC.length = el at *
  have HEL := Lib.hid hel
  clear hel HEL0
  go_wp2_with (first | (at_builtin; go_loud (refine wpList_append_row1 rfl (.tmp 49) (.tmp 50) 30 rfl w7.heap.size 5 i (.int .u8 0) 1 Tryd.underlying30 hi hz hsize hby rfl _ (fl + 2) _ rfl HO8.out _ el (byteV EC) rfl HR8.out (fun _ _ => rfl) (by unfold maxLen; omega) (by omega) hz8 ?_; intro v9 w9 hO9 hG9; have hB9 := hB7.trans ((grown3 hb8 hz8 HO8.out hG9).mono hB7.size); have HO9 := Lib.hid hO9; clear hO9 hG9)) | fail)
  go_returns
  refine ⟨_, rfl, ?_, hB9⟩
  rw [HPO.out, HPU.out]
  exact owns_bytes (own_eq2 HO9.out rfl (by rw [bytesV_app (F ++ putL 2 n3), ← map_bytesV EC, HEL.out])) (by rw [HFL.out])
end Go.Proofs.YtjikkipdmonndaaDoor

/- Contracts of octet's answer (layer 3): Text. -/
namespace Go.Proofs.YtjikkipdmonndaaDoor
open Go.RowKit
theorem strCells_take (s : ByteArray) (k : Nat) (h : k < s.size) : (Lib.strCells s).take (k + 1) = (Lib.strCells s).take k ++ [Value.int .u8 ((s[k]'h).toNat : Int)] := by
  have hl : k < (Lib.strCells s).length := by rw [Lib.strCells_length]; exact h
  rw [List.take_succ_eq_append_getElem hl]
  congr 1
  simp [Lib.strCells]
  rfl
set_option maxRecDepth 100000 in
set_option maxHeartbeats 1000000 in
theorem ref03_Text (v : Value) (l : List UInt8) (s : ByteArray) (w : World) (hv : RowAt w v l.length (byteV l)) (hm : l.length ≤ 100000000) :
    Calls Tryd.prog 59 #[v, .string s] w fun e w' => ∃ r, e = .returned r ∧ w'.ownsRow w.heap.size 5 1 r (l.length + 1 + (cut255 s).size) (bytesV (l ++ [UInt8.ofNat (cut255 s).size] ++ (cut255 s).data.toList)) ∧ Below w.heap.size w w' := by
  obtain ⟨i, hi, hz, hsize, hby⟩ : ∃ i, Tryd.prog.info? 5 = some i ∧ i.zero = some (.int .u8 0) ∧ i.size = 1 ∧ i.bytes = 1 := ⟨(Tryd.prog.info? 5).get!, by kernel_rfl, by kernel_rfl, by kernel_rfl, by kernel_rfl⟩
  have hrow : ∀ W, Below w.heap.size w W → RowAt W v l.length (byteV l) := fun W h => hv.below h
  have HR := Lib.hid hrow
  clear hrow
  have hmap : (List.range l.length).map (byteV l) = bytesV l := map_byteV l
  by_cases h2 : 255 < s.size
  · obtain ⟨t, ht⟩ : ∃ t, s.extract 0 255 = t := ⟨_, rfl⟩
    have hts : t.size ≤ 255 := by rw [← ht]; simp; omega
    have HC := Lib.hid (show cut255 s = t by unfold cut255; rw [if_pos h2, ht])
    go_enter Tryd.func59, Tryd.ntmps59
    go_wp2_with (first | (at_builtin; refine wpList_append_row1 rfl (.tmp 12) (.tmp 13) 30 rfl w.heap.size 5 i (.int .u8 0) 1 Tryd.underlying30 hi hz hsize hby rfl _ 0 [] rfl (World.ownsRow_lit w #[] 0 (Nat.le_refl _) (by unfold maxLen; omega) rfl) _ l.length (byteV l) rfl (HR.out _ ((Below.refl _ _).alloc (Nat.le_refl _) _)) (fun _ _ => rfl) (by unfold maxLen; omega) (by omega) (by rw [World.size_alloc]; omega) ?_; intro v1 w1 hO1 hG1; have HO := Lib.hid (show w1.ownsRow w.heap.size 5 1 v1 l.length (bytesV l) by rw [hmap, List.nil_append, Nat.zero_add] at hO1; exact hO1); have hB1 : Below w.heap.size w w1 := below_grown ((Below.refl _ _).alloc (Nat.le_refl _) _) (Nat.le_refl _) (by rw [World.size_alloc]; omega) hG1; have hz1 := hB1.size; clear hO1 hG1) | (at_builtin; refine wpList_append_row1 rfl (.tmp 15) (.tmp 19) 30 rfl w.heap.size 5 i (.int .u8 0) 1 Tryd.underlying30 hi hz hsize hby rfl _ l.length _ rfl (HO.out.alloc _) _ 1 (fun _ => .int .u8 (t.size : Int)) rfl (RowAt.new _ _ _ _ _ 1 1 (by omega) (by omega) (by omega) (fun i hi => by obtain rfl : i = 0 := (by omega); rfl)) (fun _ _ => rfl) (by unfold maxLen; omega) (by omega) (by rw [World.size_alloc]; omega) ?_; intro v2 w2 hO2 hG2; have HO2 := Lib.hid hO2; have hB2 := below_grownV (hB1.alloc hz1 _) (by rw [World.size_alloc]; omega) (HO.out.alloc _) hG2; clear hO2 hG2) | fail)
    have H0 := Lib.hid (show w2.ownsRow w.heap.size 5 1 v2 (l.length + 1) (bytesV l ++ [Value.int .u8 (t.size : Int)]) from HO2.out)
    clear HO HO2 hB1 hz1 hmap HR
    go_loopw [5, 6] (fun o j wr => ∃ k : Nat, k ≤ t.size ∧ j = .int .i64 k ∧ Hid (wr.ownsRow w.heap.size 5 1 o (l.length + 1 + k) (bytesV l ++ [Value.int .u8 (t.size : Int)] ++ (Lib.strCells t).take k)) ∧ Below w.heap.size w wr) (fun _ j _ => t.size - (intOf j).toNat)
    case atStart => exact ⟨0, by omega, rfl, Lib.hid (by rw [List.take_zero, List.append_nil]; exact H0.out), hB2⟩
    case round =>
      clear hB2 H0
      obtain ⟨k, hk, rfl, hO, hB⟩ := hrel
      have hzz := hB.size
      by_cases hlt : k < t.size
      · have HT2 := Lib.hid (strCells_take t k hlt)
        go_wp2_with (first | (at_builtin; refine wpList_append_row1 rfl (.tmp 27) (.tmp 31) 30 rfl w.heap.size 5 i (.int .u8 0) 1 Tryd.underlying30 hi hz hsize hby rfl _ (l.length + 1 + k) _ rfl (hO.out.alloc _) _ 1 (fun _ => .int .u8 ((t[k]'hlt).toNat : Int)) rfl (RowAt.new _ _ _ _ _ 1 1 (by omega) (by omega) (by omega) (fun i hi => by obtain rfl : i = 0 := (by omega); rfl)) (fun _ _ => rfl) (by unfold maxLen; omega) (by omega) (by rw [World.size_alloc]; omega) ?_; intro v2 w2 hO2 hG2; have HO2 := Lib.hid hO2; have hB2 := below_grownV (hB.alloc hB.size _) (by rw [World.size_alloc]; omega) (hO.out.alloc _) hG2; clear hO2 hG2) | fail)
        go_roundw
        case rel => exact ⟨k + 1, by omega, by go_num, Lib.hid (by rw [HT2.out, ← List.append_assoc]; exact HO2.out), hB2⟩
        case measure => simp [intOf]; omega
      · obtain rfl : k = t.size := by omega
        go_wp2_with fail
        go_ret
        rw [HC.out]
        exact ⟨_, rfl, by rw [textV l t (by omega)]; have := hO.out; rw [List.take_of_length_le (l := Lib.strCells t) (by rw [Lib.strCells_length]; exact Nat.le_refl _)] at this; exact this, hB⟩
  · have HC := Lib.hid (show cut255 s = s by unfold cut255; rw [if_neg h2])
    go_enter Tryd.func59, Tryd.ntmps59
    go_wp2_with (first | (at_builtin; refine wpList_append_row1 rfl (.tmp 12) (.tmp 13) 30 rfl w.heap.size 5 i (.int .u8 0) 1 Tryd.underlying30 hi hz hsize hby rfl _ 0 [] rfl (World.ownsRow_lit w #[] 0 (Nat.le_refl _) (by unfold maxLen; omega) rfl) _ l.length (byteV l) rfl (HR.out _ ((Below.refl _ _).alloc (Nat.le_refl _) _)) (fun _ _ => rfl) (by unfold maxLen; omega) (by omega) (by rw [World.size_alloc]; omega) ?_; intro v1 w1 hO1 hG1; have HO := Lib.hid (show w1.ownsRow w.heap.size 5 1 v1 l.length (bytesV l) by rw [hmap, List.nil_append, Nat.zero_add] at hO1; exact hO1); have hB1 : Below w.heap.size w w1 := below_grown ((Below.refl _ _).alloc (Nat.le_refl _) _) (Nat.le_refl _) (by rw [World.size_alloc]; omega) hG1; have hz1 := hB1.size; clear hO1 hG1) | (at_builtin; refine wpList_append_row1 rfl (.tmp 15) (.tmp 19) 30 rfl w.heap.size 5 i (.int .u8 0) 1 Tryd.underlying30 hi hz hsize hby rfl _ l.length _ rfl (HO.out.alloc _) _ 1 (fun _ => .int .u8 (s.size : Int)) rfl (RowAt.new _ _ _ _ _ 1 1 (by omega) (by omega) (by omega) (fun i hi => by obtain rfl : i = 0 := (by omega); rfl)) (fun _ _ => rfl) (by unfold maxLen; omega) (by omega) (by rw [World.size_alloc]; omega) ?_; intro v2 w2 hO2 hG2; have HO2 := Lib.hid hO2; have hB2 := below_grownV (hB1.alloc hz1 _) (by rw [World.size_alloc]; omega) (HO.out.alloc _) hG2; clear hO2 hG2) | fail)
    have H0 := Lib.hid (show w2.ownsRow w.heap.size 5 1 v2 (l.length + 1) (bytesV l ++ [Value.int .u8 (s.size : Int)]) from HO2.out)
    clear HO HO2 hB1 hz1 hmap HR
    go_loopw [5, 6] (fun o j wr => ∃ k : Nat, k ≤ s.size ∧ j = .int .i64 k ∧ Hid (wr.ownsRow w.heap.size 5 1 o (l.length + 1 + k) (bytesV l ++ [Value.int .u8 (s.size : Int)] ++ (Lib.strCells s).take k)) ∧ Below w.heap.size w wr) (fun _ j _ => s.size - (intOf j).toNat)
    case atStart => exact ⟨0, by omega, rfl, Lib.hid (by rw [List.take_zero, List.append_nil]; exact H0.out), hB2⟩
    case round =>
      clear hB2 H0
      obtain ⟨k, hk, rfl, hO, hB⟩ := hrel
      have hzz := hB.size
      by_cases hlt : k < s.size
      · have HT2 := Lib.hid (strCells_take s k hlt)
        go_wp2_with (first | (at_builtin; refine wpList_append_row1 rfl (.tmp 27) (.tmp 31) 30 rfl w.heap.size 5 i (.int .u8 0) 1 Tryd.underlying30 hi hz hsize hby rfl _ (l.length + 1 + k) _ rfl (hO.out.alloc _) _ 1 (fun _ => .int .u8 ((s[k]'hlt).toNat : Int)) rfl (RowAt.new _ _ _ _ _ 1 1 (by omega) (by omega) (by omega) (fun i hi => by obtain rfl : i = 0 := (by omega); rfl)) (fun _ _ => rfl) (by unfold maxLen; omega) (by omega) (by rw [World.size_alloc]; omega) ?_; intro v2 w2 hO2 hG2; have HO2 := Lib.hid hO2; have hB2 := below_grownV (hB.alloc hB.size _) (by rw [World.size_alloc]; omega) (hO.out.alloc _) hG2; clear hO2 hG2) | fail)
        go_roundw
        case rel => exact ⟨k + 1, by omega, by go_num, Lib.hid (by rw [HT2.out, ← List.append_assoc]; exact HO2.out), hB2⟩
        case measure => simp [intOf]; omega
      · obtain rfl : k = s.size := by omega
        go_wp2_with fail
        go_ret
        rw [HC.out]
        exact ⟨_, rfl, by rw [textV l s (by omega)]; have := hO.out; rw [List.take_of_length_le (l := Lib.strCells s) (by rw [Lib.strCells_length]; exact Nat.le_refl _)] at this; exact this, hB⟩
end Go.Proofs.YtjikkipdmonndaaDoor

/- Layer 3: the laws' walks. -/
namespace Go.Proofs.YtjikkipdmonndaaDoor
open Go.RowKit
end Go.Proofs.YtjikkipdmonndaaDoor

/- Layer 3: the reader: what lies at its address, and its next bytes. -/
namespace Go.Proofs.YtjikkipdmonndaaDoor
open Go.RowKit
set_option linter.unusedSimpArgs false
set_option linter.unusedVariables false
/-- a reader at block g over the bytes L, which lie in block q -/
def RdAt (w : World) (g q : Nat) (L : List UInt8) (n : Nat) (bad : Bool) : Prop :=
  w.heap[g]? = some (.cells #[.slice (some ⟨q, 0, none⟩) L.length L.length, .int .i64 (n : Int), .bool bad] 119 (0, 0)) ∧ q ≠ g ∧ n ≤ L.length ∧ L.length ≤ 100000000 ∧ ∀ i, i < L.length → w.cell? ⟨q, i, none⟩ = some (byteV L i)
theorem cell_of {w : World} {g : Nat} {C : Array Value} {t : TypeId} {fr : Nat × Nat} (h : w.heap[g]? = some (.cells C t fr)) (i : Nat) {v : Value} (hv : C[i]? = some v) : w.cell? ⟨g, i, none⟩ = some v := by
  unfold World.cell?
  rw [show (⟨g, i, none⟩ : Addr).block = g from rfl, h]
  simpa using hv
theorem free_of {w : World} {g : Nat} {C : Array Value} {t : TypeId} (h : w.heap[g]? = some (.cells C t (0, 0))) (i : Nat) : w.frozen? ⟨g, i, none⟩ = false := by
  unfold World.frozen?
  rw [show (⟨g, i, none⟩ : Addr).block = g from rfl, h]
  simp
theorem set_at {w : World} {g : Nat} {C : Array Value} {t : TypeId} {fr : Nat × Nat} (h : w.heap[g]? = some (.cells C t fr)) (i : Nat) (v : Value) (n : Nat) :
    ((w.setCell ⟨g, i, none⟩ v).drewN n).heap[g]? = some (.cells (C.setIfInBounds i v) t fr) ∧ w.grownBy ((w.setCell ⟨g, i, none⟩ v).drewN n) (some g) := by
  constructor
  · show (w.heap.modify g _)[g]? = _
    rw [Array.getElem?_modify, if_pos rfl, h]
    simp
  · refine ⟨rfl, rfl, rfl, ?_, ?_⟩
    · simp [World.setCell]
    · intro k hk hne
      show (w.heap.modify g _)[k]? = _
      rw [Array.getElem?_modify, if_neg (by intro e; exact hne (by rw [e]))]
theorem drewN_set (W : World) (q : Nat) (x : Addr) (v : Value) : (W.drewN q).setCell x v = (W.setCell x v).drewN q := by
  simp only [World.setCell, World.heap_drewN]
  rfl
theorem rd_grown_cell {w w' : World} {g q i : Nat} {v : Value} (h : w.grownBy w' (some g)) (hq : q ≠ g) (hc : w.cell? ⟨q, i, none⟩ = some v) : w'.cell? ⟨q, i, none⟩ = some v := by
  have hlt := World.block_lt_of_cell? w _ hc
  have := h.block q hlt (by intro e; exact hq (Option.some.inj e))
  unfold World.cell? at hc ⊢
  rw [show (⟨q, i, none⟩ : Addr).block = q from rfl] at hc ⊢
  rw [this]
  exact hc
theorem rd_keep {w w' : World} {g q : Nat} {L : List UInt8} {n n' : Nat} {bad bad' : Bool} (h : RdAt w g q L n bad) (hn : n' ≤ L.length)
    (hg : w'.heap[g]? = some (.cells #[.slice (some ⟨q, 0, none⟩) L.length L.length, .int .i64 (n' : Int), .bool bad'] 119 (0, 0))) (hw : w.grownBy w' (some g)) : RdAt w' g q L n' bad' :=
  ⟨hg, h.2.1, hn, h.2.2.2.1, fun i hi => rd_grown_cell hw h.2.1 (h.2.2.2.2 i hi)⟩
theorem rd_drew {w : World} {g q : Nat} {L : List UInt8} {n : Nat} {bad : Bool} (h : RdAt w g q L n bad) (m : Nat) : RdAt (w.drewN m) g q L n bad := h
theorem take_cells {w : World} {q n m : Nat} {L : List UInt8} {cap : Nat} (hm : n + m ≤ L.length) (hc : n + m ≤ n + cap) (hcap : cap ≤ 100000000) (hb : ∀ i, i < L.length → w.cell? ⟨q, i, none⟩ = some (byteV L i)) :
    RowAt w (.slice (some ⟨q, n, none⟩) m cap) m (byteV ((L.drop n).take m)) := by
  by_cases h0 : m = 0
  · subst h0; exact Or.inl ⟨_, _, rfl, rfl, fun h => by cases h⟩
  · refine Or.inr ⟨q, n, cap, rfl, by omega, by omega, by unfold maxLen; omega, World.block_lt_of_cell? w _ (hb n (by omega)), fun i hi => ?_⟩
    rw [hb (n + i) (by omega)]
    simp [byteV, List.getD, hi]
theorem next_fail (g q : Nat) (L : List UInt8) (n : Nat) (z : Int) (w : World) (h : RdAt w g q L n false) (hz : z < 0 ∨ (L.length : Int) - n < z) :
    Calls Tryd.prog 94 #[.pointer (some ⟨g, 0, none⟩), .int .i64 z] w fun e w' => e = .returned (.slice none 0 0) ∧ RdAt w' g q L n true ∧ w.grownBy w' (some g) := by
  have HR := Lib.hid h
  obtain ⟨hg, hq, hn, hL, hb⟩ := h
  have c0 := cell_of hg 0 rfl
  have c1 := cell_of hg 1 rfl
  have c2 := cell_of hg 2 rfl
  have f2 := free_of hg 2
  have hs := IntWalk.i64_in ((L.length : Int) - n) (by omega)
  have HB := Lib.hid hb
  have HG := Lib.hid hg
  clear hb hg
  have hz0 : z < 0 ∧ decide (z < 0) = true ∨ decide (z < 0) = false ∧ decide ((L.length : Int) - n < z) = true := by
    by_cases h : z < 0
    · exact Or.inl ⟨h, by simpa using h⟩
    · exact Or.inr ⟨by simpa using h, by simp; omega⟩
  rcases hz0 with ⟨_, e1⟩ | ⟨e1, e2⟩
  all_goals
    go_enter Tryd.func94, Tryd.ntmps94
    go_wp2_with fail
    go_quiet (fail)
    clear hs
    go_wp2_with fail
    go_ret
    obtain ⟨k1, k2⟩ := set_at HG.out 2 (.bool true) nq
    rw [drewN_set]
    exact ⟨rfl, rd_keep HR.out hn k1 k2, k2⟩
theorem next_bad (g q : Nat) (L : List UInt8) (n : Nat) (z : Int) (w : World) (h : RdAt w g q L n true) :
    Calls Tryd.prog 94 #[.pointer (some ⟨g, 0, none⟩), .int .i64 z] w fun e w' => e = .returned (.slice none 0 0) ∧ w = w' := by
  obtain ⟨hg, hq, hn, hL, hb⟩ := h
  have c2 := cell_of hg 2 rfl
  clear hb hg
  go_enter Tryd.func94, Tryd.ntmps94
  go_wp2_with fail
  go_ret
  exact ⟨rfl, rfl⟩
theorem next_nil (z : Int) (w : World) : Calls Tryd.prog 94 #[.pointer none, .int .i64 z] w fun e w' => e = .returned (.slice none 0 0) ∧ w = w' := by
  go_enter Tryd.func94, Tryd.ntmps94
  go_wp2_with fail
  go_ret
  exact ⟨rfl, rfl⟩
theorem next_ok (g q : Nat) (L : List UInt8) (n m : Nat) (z : Int) (w : World) (h : RdAt w g q L n false) (hz : z = (m : Int)) (hm : n + m ≤ L.length) :
    Calls Tryd.prog 94 #[.pointer (some ⟨g, 0, none⟩), .int .i64 z] w fun e w' => ∃ r, e = .returned r ∧ RowAt w' r m (byteV ((L.drop n).take m)) ∧ RdAt w' g q L (n + m) false ∧ w.grownBy w' (some g) := by
  have HR := Lib.hid h
  obtain ⟨hg, hq, hn, hL, hb⟩ := h
  subst hz
  have c0 := cell_of hg 0 rfl
  have c1 := cell_of hg 1 rfl
  have c2 := cell_of hg 2 rfl
  have f1 := free_of hg 1
  have hs := IntWalk.i64_in ((L.length : Int) - n) (by omega)
  have HG := Lib.hid hg
  clear hb hg
  have e1 : decide ((m : Int) < 0) = false := by simp
  have e2 : decide ((L.length : Int) - n < m) = false := by simp; omega
  go_enter Tryd.func94, Tryd.ntmps94
  go_wp2_with fail
  go_quiet (fail)
  clear hs
  go_wp2_with fail
  obtain ⟨W, hW⟩ : ∃ W, W = (w.drewN nq).setCell ⟨g, 1, none⟩ (.int .i64 ((n : Int) + m)) := ⟨_, rfl⟩
  rw [← hW]
  obtain ⟨k1, k2⟩ := set_at HG.out 1 (.int .i64 ((n : Int) + m)) nq
  rw [← drewN_set, ← hW] at k1 k2
  have k3 : W.heap[g]? = some (.cells #[.slice (some ⟨q, 0, none⟩) L.length L.length, .int .i64 ((n : Int) + m), .bool false] 119 (0, 0)) := k1
  have d0 := cell_of k3 0 rfl
  have d1 := cell_of k3 1 rfl
  have HW := Lib.hid hW
  have K1 := Lib.hid k3
  clear hW c0 c1 c2 f1 e1 e2 k1 k3
  have s1 := IntWalk.i64_in (n : Int) (by omega)
  have s2 := IntWalk.i64_in ((n : Int) + m - m) (by omega)
  have s3 : (n : Int) + m - m = n := by omega
  have s4 : 0 ≤ (n : Int) + m := by omega
  have s5 : ((n : Int) + m).toNat = n + m := by omega
  have hcap : L.length = n ∨ n < L.length := by omega
  rcases hcap with hcap | hcap
  · have hm0 : m = 0 := by omega
    have Hm0 := Lib.hid hm0
    clear hm0
    go_quiet (fail)
    go_wp2_with fail
    go_ret
    have hR2 : RdAt W g q L (n + m) false := rd_keep HR.out hm (by have := K1.out; rw [← Int.natCast_add] at this; exact this) k2
    have hG2 : w.grownBy (W.drewN nq) (some g) := ⟨k2.os, k2.tape, k2.output, k2.size, k2.block⟩
    have hm0 := Hm0.out
    subst hm0
    exact ⟨_, rfl, Or.inl ⟨_, _, rfl, rfl, fun h => by cases h⟩, rd_drew hR2 _, hG2⟩
  · go_quiet (fail)
    go_wp2_with fail
    go_ret
    have hR2 : RdAt W g q L (n + m) false := rd_keep HR.out hm (by have := K1.out; rw [← Int.natCast_add] at this; exact this) k2
    have hG2 : w.grownBy (W.drewN nq) (some g) := ⟨k2.os, k2.tape, k2.output, k2.size, k2.block⟩
    exact ⟨_, rfl, take_cells (w := W.drewN nq) hm (by omega) (by omega) hR2.2.2.2.2, rd_drew hR2 _, hG2⟩
end Go.Proofs.YtjikkipdmonndaaDoor

/- Layer 3: the reader's numbers. -/
namespace Go.Proofs.YtjikkipdmonndaaDoor
open Go.RowKit
set_option linter.unusedSimpArgs false
set_option linter.unusedVariables false
def leV : List UInt8 → Nat
  | [] => 0
  | c :: l => c.toNat + 256 * leV l
theorem leV_snoc (c : UInt8) : ∀ l : List UInt8, leV (l ++ [c]) = leV l + c.toNat * 256 ^ l.length
  | [] => by simp [leV]
  | d :: l => by
    simp only [List.cons_append, leV, leV_snoc c l, List.length_cons, Nat.pow_succ]
    rw [Nat.mul_add, Nat.mul_comm (256 ^ l.length) 256, ← Nat.mul_assoc, ← Nat.mul_assoc, Nat.mul_comm 256 c.toNat]
    omega
theorem leV_lt : ∀ l : List UInt8, leV l < 256 ^ l.length
  | [] => by simp [leV]
  | d :: l => by
    have := leV_lt l
    have hd := d.toNat_lt
    simp only [leV, List.length_cons, Nat.pow_succ]
    omega
theorem or_step {A c k : Nat} (hk : k ≤ 7) (hA : A < 256 ^ k) (hc : c < 256) : bits .or .u64 (A : Int) (IntKind.u64.wrap ((c : Int) * 2 ^ (8 * k))) = ((A + c * 256 ^ k : Nat) : Int) := by
  have e1 : (256 : Nat) ^ k = 2 ^ (8 * k) := by rw [Nat.pow_mul]
  have e2 : (c : Int) * 2 ^ (8 * k) = ((c * 2 ^ (8 * k) : Nat) : Int) := by simp
  have hp : (2 : Nat) ^ (8 * k) ≤ 2 ^ 56 := Nat.pow_le_pow_right (by omega) (by omega)
  have hb : c * 2 ^ (8 * k) < 18446744073709551616 := by
    have h1 : c * 2 ^ (8 * k) ≤ 255 * 2 ^ 56 := Nat.mul_le_mul (by omega) hp
    have h2 : 255 * 2 ^ 56 < 18446744073709551616 := by decide
    omega
  rw [e1] at hA ⊢
  have hA2 : A < 18446744073709551616 := by
    have h2 : (2 : Nat) ^ 56 < 18446744073709551616 := by decide
    omega
  rw [e2, IntWalk.u64_in _ (by omega) , u64_or_nat A _ hA2 hb, Nat.or_comm, Nat.mul_comm, ← Nat.two_pow_add_eq_or_of_lt hA, Nat.add_comm]
def numV (l : List UInt8) : Int := wrap64 (leV l : Int)
set_option maxRecDepth 100000 in
set_option maxHeartbeats 1000000 in
theorem reader_Num_ok (g q : Nat) (L : List UInt8) (n N : Nat) (z : Int) (w : World) (h : RdAt w g q L n false) (hN : near8 z = N) (h8 : N ≤ 8) (hm : n + N ≤ L.length) :
    Calls Tryd.prog 70 #[.pointer (some ⟨g, 0, none⟩), .int .i64 z] w fun e w' => e = .returned (.int .i64 (numV ((L.drop n).take N))) ∧ RdAt w' g q L (n + N) false ∧ w.grownBy w' (some g) := by
  have HN := Lib.hid hN
  have HR := Lib.hid h
  obtain ⟨B, hB⟩ : ∃ B, (L.drop n).take N = B := ⟨_, rfl⟩
  have hl : B.length = N := by rw [← hB]; simp; omega
  have HBB := Lib.hid hB
  rw [hB]
  clear hN h hB
  go_enter Tryd.func70, Tryd.ntmps70
  go_wp2_with fail
  refine (octet_near _ _).mono ?_; rintro e w' ⟨rfl, rfl⟩
  rw [HN.out]
  go_wp2_with fail
  refine (next_ok g q L n N (N : Int) _ HR.out rfl hm).mono ?_; rintro e w' ⟨r, rfl, hr, hR, hG⟩
  have HR2 := Lib.hid hR
  have HG := Lib.hid hG
  have HL := Lib.hid hl
  rw [HBB.out] at hr
  clear hR hG hl hm HR HBB
  rcases hr with ⟨a, cap, rfl, h0, hcn⟩ | ⟨b, off, cap, rfl, h1, h2, h3, h4, hcell⟩
  · subst h0
    go_wp2_with fail
    refine wp_loop_rounds 1 ?_
    rw [rounds_succ]
    go_wp2_with fail
    go_ret
    exact ⟨by rw [List.eq_nil_of_length_eq_zero HL.out, show numV [] = 0 from by decide +kernel]; rfl, HR2.out, HG.out⟩
  · have h3' : cap ≤ 9223372036854775807 := by unfold maxLen at h3; omega
    go_wp2_with fail
    go_loop [5, 6, 7, 13] (fun s5 s6 s7 s13 => ∃ k : Nat, k ≤ N ∧ s13 = .int .i64 k ∧ s5 = .int .u64 (leV (B.take k) : Int)) (fun _ _ _ s13 => N - (intOf s13).toNat)
    case atStart => exact ⟨0, Nat.zero_le _, rfl, rfl⟩
    case round =>
      obtain ⟨k, hk, rfl, rfl⟩ := hrel
      by_cases hlt : k < N
      · have hc := hcell k hlt
        have hbyte : byteV B k = .int .u8 ((B.getD k 0).toNat : Int) := rfl
        rw [hbyte] at hc
        have hb1 : (B.getD k 0).toNat < 256 := (B.getD k 0).toNat_lt
        have hsn : leV (B.take (k + 1)) = leV (B.take k) + (B.getD k 0).toNat * 256 ^ k := by
          have hkB : k < B.length := by rw [HL.out]; exact hlt
          have hlen : (B.take k).length = k := by rw [List.length_take]; omega
          rw [List.take_succ_eq_append_getElem hkB, leV_snoc, hlen]
          simp [List.getD, hkB]
        have hlt2 : leV (B.take k) < 256 ^ k := by
          have := leV_lt (B.take k)
          rw [show (B.take k).length = k by rw [List.length_take]; have := HL.out; omega] at this
          exact this
        have HS := Lib.hid (show (leV (B.take (k + 1)) : Int) = bits .or .u64 (leV (B.take k) : Int) (IntKind.u64.wrap (((B.getD k 0).toNat : Int) * 2 ^ (8 * k))) by rw [hsn, or_step (by omega) hlt2 hb1])
        clear hcell hbyte hsn hlt2
        generalize (B.getD k 0).toNat = c at *
        generalize leV (B.take k) = A at *
        go_wp2_with fail
        go_round
        case rel => exact ⟨k + 1, by omega, by go_num, by rw [HS.out]⟩
        case measure => simp [intOf]; omega
      · obtain rfl : k = N := by omega
        clear hcell
        have HT := Lib.hid (show B.take k = B from List.take_of_length_le (by have := HL.out; omega))
        go_wp2_with fail
        go_ret
        exact ⟨by rw [HT.out]; rfl, HR2.out, HG.out⟩
theorem reader_Num_fail (g q : Nat) (L : List UInt8) (n N : Nat) (z : Int) (w : World) (h : RdAt w g q L n false) (hN : near8 z = N) (h8 : N ≤ 8) (hm : L.length < n + N) :
    Calls Tryd.prog 70 #[.pointer (some ⟨g, 0, none⟩), .int .i64 z] w fun e w' => e = .returned (.int .i64 0) ∧ RdAt w' g q L n true ∧ w.grownBy w' (some g) := by
  have HN := Lib.hid hN
  clear hN
  go_enter Tryd.func70, Tryd.ntmps70
  go_wp2_with fail
  refine (octet_near _ _).mono ?_; rintro e w' ⟨rfl, rfl⟩
  rw [HN.out]
  go_wp2_with fail
  refine (next_fail g q L n (N : Int) _ h (by omega)).mono ?_; rintro e w' ⟨rfl, hR, hG⟩
  have HR2 := Lib.hid hR
  have HG := Lib.hid hG
  clear hR hG
  go_wp2_with fail
  refine wp_loop_rounds 1 ?_
  rw [rounds_succ]
  go_wp2_with fail
  go_ret
  exact ⟨rfl, HR2.out, HG.out⟩
theorem reader_Num_bad (g q : Nat) (L : List UInt8) (n : Nat) (z : Int) (w : World) (h : RdAt w g q L n true) :
    Calls Tryd.prog 70 #[.pointer (some ⟨g, 0, none⟩), .int .i64 z] w fun e w' => e = .returned (.int .i64 0) ∧ w = w' := by
  go_enter Tryd.func70, Tryd.ntmps70
  go_wp2_with fail
  refine (octet_near _ _).mono ?_; rintro e w' ⟨rfl, rfl⟩
  go_wp2_with fail
  refine (next_bad g q L n _ _ h).mono ?_; rintro e w' ⟨rfl, rfl⟩
  go_wp2_with fail
  refine wp_loop_rounds 1 ?_
  rw [rounds_succ]
  go_wp2_with fail
  go_ret
  exact ⟨rfl, rfl⟩
theorem reader_Num_nil (z : Int) (w : World) :
    Calls Tryd.prog 70 #[.pointer none, .int .i64 z] w fun e w' => e = .returned (.int .i64 0) ∧ w = w' := by
  go_enter Tryd.func70, Tryd.ntmps70
  go_wp2_with fail
  refine (octet_near _ _).mono ?_; rintro e w' ⟨rfl, rfl⟩
  go_wp2_with fail
  refine (next_nil _ _).mono ?_; rintro e w' ⟨rfl, rfl⟩
  go_wp2_with fail
  refine wp_loop_rounds 1 ?_
  rw [rounds_succ]
  go_wp2_with fail
  go_ret
  exact ⟨rfl, rfl⟩
end Go.Proofs.YtjikkipdmonndaaDoor

/- Layer 3: the reader: New, Take, Text, Left, At, Bad. -/
namespace Go.Proofs.YtjikkipdmonndaaDoor
open Go.RowKit
set_option linter.unusedSimpArgs false
set_option linter.unusedVariables false
theorem rd_below {w w' : World} {g q : Nat} {L : List UInt8} {n : Nat} {bad : Bool} (h : RdAt w g q L n bad) (hb : Below w.heap.size w w') : RdAt w' g q L n bad := by
  have hlt : g < w.heap.size := by
    by_cases hg : g < w.heap.size
    · exact hg
    · have := h.1; rw [Array.getElem?_eq_none (by omega)] at this; cases this
  exact ⟨(hb.block g hlt).trans h.1, h.2.1, h.2.2.1, h.2.2.2.1, fun i hi => (hb.cell (p := ⟨q, i, none⟩) (World.block_lt_of_cell? w _ (h.2.2.2.2 i hi))).trans (h.2.2.2.2 i hi)⟩
theorem grown_below {w w1 w2 : World} {o : Option Nat} (h : w.grownBy w1 o) (hb : Below w1.heap.size w1 w2) : w.grownBy w2 o :=
  ⟨hb.os.trans h.os, hb.tape.trans h.tape, hb.output.trans h.output, Nat.le_trans h.size hb.size, fun k hk hne => (hb.block k (Nat.lt_of_lt_of_le hk h.size)).trans (h.block k hk hne)⟩
theorem grown_grown {w w1 w2 : World} {o : Option Nat} (h : w.grownBy w1 o) (hb : w1.grownBy w2 o) : w.grownBy w2 o :=
  ⟨hb.os.trans h.os, hb.tape.trans h.tape, hb.output.trans h.output, Nat.le_trans h.size hb.size, fun k hk hne => (hb.block k (Nat.lt_of_lt_of_le hk h.size) hne).trans (h.block k hk hne)⟩
theorem reader_New (v : Value) (l : List UInt8) (w : World) (hv : RowAt w v l.length (byteV l)) (hm : l.length ≤ 100000000) :
    Calls Tryd.prog 69 #[v] w fun e w' => ∃ g q, e = .returned (.pointer (some ⟨g, 0, none⟩)) ∧ RdAt w' g q l 0 false ∧ w.heap.size ≤ g ∧ Below w.heap.size w w' := by
  go_enter Tryd.func69, Tryd.ntmps69
  go_wp2_with fail
  rw [show (0 : Int) = ((0 : Nat) : Int) from rfl]
  refine (octet_grown v l 0 _ hv (by omega)).mono ?_; rintro e w1 ⟨rfl, hO, hb⟩
  have hz := hb.size
  have hcell : ∀ i, i < l.length → w1.cell? ⟨w.heap.size, i, none⟩ = some (byteV l i) := by
    intro i hi
    have := hO.cellAt i (by omega)
    rw [this]
    exact byteV_at hi
  have hlt : w.heap.size < w1.heap.size := (hO.lt _ rfl).2
  have HC := Lib.hid hcell
  clear hO hcell
  go_wp2_with fail
  go_ret
  refine ⟨w1.heap.size, w.heap.size, rfl, ⟨?_, by omega, by omega, hm, fun i hi => ?_⟩, hz, hb.alloc hz _⟩
  · exact heap_alloc_new w1 _
  · exact (((Below.refl w1.heap.size w1).alloc (Nat.le_refl _) _).cell (p := ⟨w.heap.size, i, none⟩) hlt).trans (HC.out i hi)
theorem reader_Bad (g q : Nat) (L : List UInt8) (n : Nat) (bad : Bool) (w : World) (h : RdAt w g q L n bad) :
    Calls Tryd.prog 104 #[.pointer (some ⟨g, 0, none⟩)] w fun e w' => e = .returned (.bool bad) ∧ w = w' := by
  have c2 := cell_of h.1 2 rfl
  clear h
  go_enter Tryd.func104, Tryd.ntmps104
  go_wp2_with fail
  go_ret
  exact ⟨rfl, rfl⟩
theorem reader_Bad_nil (w : World) : Calls Tryd.prog 104 #[.pointer none] w fun e w' => e = .returned (.bool true) ∧ w = w' := by
  go_enter Tryd.func104, Tryd.ntmps104
  go_wp2_with fail
  go_ret
  exact ⟨rfl, rfl⟩
def leftOf (L : List UInt8) (n : Nat) (bad : Bool) : Int := if bad then 0 else (L.length : Int) - n
theorem reader_Left (g q : Nat) (L : List UInt8) (n : Nat) (bad : Bool) (w : World) (h : RdAt w g q L n bad) :
    Calls Tryd.prog 79 #[.pointer (some ⟨g, 0, none⟩)] w fun e w' => e = .returned (.int .i64 (leftOf L n bad)) ∧ ∃ m, w' = w.drewN m := by
  have HR := Lib.hid h
  have c0 := cell_of h.1 0 rfl
  have c1 := cell_of h.1 1 rfl
  have hs := IntWalk.i64_in ((L.length : Int) - n) (by have := h.2.2.1; have := h.2.2.2.1; omega)
  clear h
  cases bad
  · go_enter Tryd.func79, Tryd.ntmps79
    go_wp2_with fail
    refine (reader_Bad g q L n false _ HR.out).mono ?_; rintro e w' ⟨rfl, rfl⟩
    go_wp2_with fail
    go_quiet (fail)
    go_wp2_with fail
    go_ret
    exact ⟨rfl, _, rfl⟩
  · go_enter Tryd.func79, Tryd.ntmps79
    go_wp2_with fail
    refine (reader_Bad g q L n true _ HR.out).mono ?_; rintro e w' ⟨rfl, rfl⟩
    go_wp2_with fail
    go_ret
    exact ⟨rfl, 0, rfl⟩
theorem reader_Left_nil (w : World) : Calls Tryd.prog 79 #[.pointer none] w fun e w' => e = .returned (.int .i64 0) ∧ w = w' := by
  go_enter Tryd.func79, Tryd.ntmps79
  go_wp2_with fail
  refine (reader_Bad_nil _).mono ?_; rintro e w' ⟨rfl, rfl⟩
  go_wp2_with fail
  go_ret
  exact ⟨rfl, rfl⟩
theorem reader_Take_ok (g q : Nat) (L : List UInt8) (n m : Nat) (z : Int) (w : World) (h : RdAt w g q L n false) (hz : z = (m : Int)) (hm : n + m ≤ L.length) :
    Calls Tryd.prog 113 #[.pointer (some ⟨g, 0, none⟩), .int .i64 z] w fun e w' => ∃ r, e = .returned r ∧ RowAt w' r m (byteV ((L.drop n).take m)) ∧ RdAt w' g q L (n + m) false ∧ w.grownBy w' (some g) := by
  subst hz
  obtain ⟨B, hB⟩ : ∃ B, (L.drop n).take m = B := ⟨_, rfl⟩
  have hl : B.length = m := by rw [← hB]; simp; omega
  have hL : B.length ≤ 100000000 := by have := h.2.2.2.1; omega
  have HL := Lib.hid hl
  have HBB := Lib.hid hB
  have HR := Lib.hid h
  rw [hB]
  clear h hl hB
  go_enter Tryd.func113, Tryd.ntmps113
  go_wp2_with fail
  refine (next_ok g q L n m (m : Int) _ HR.out rfl hm).mono ?_; rintro e w1 ⟨r, rfl, hr, hR, hG⟩
  rw [HBB.out] at hr
  have HR2 := Lib.hid hR
  have HG := Lib.hid hG
  have hr2 : RowAt w1 r B.length (byteV B) := by rw [HL.out]; exact hr
  have Hr2 := Lib.hid hr2
  clear hr hr2 hR hG hm HR HBB
  go_wp2_with fail
  rw [show Value.int IntKind.i64 0 = Value.int IntKind.i64 ((0 : Nat) : Int) from rfl]
  refine (octet_grown r B 0 _ Hr2.out (by omega)).mono ?_; rintro e w2 ⟨rfl, hO, hb⟩
  have hrow : RowAt w2 _ B.length (byteV B) := RowAt.owns hO (fun i hi => byteV_at hi)
  have HO := Lib.hid hrow
  have HB := Lib.hid hb
  clear hrow hO hb Hr2
  go_wp2_with fail
  go_ret
  exact ⟨_, rfl, by have := HO.out; rw [HL.out] at this; rw [HL.out]; exact this, rd_below HR2.out HB.out, grown_below HG.out HB.out⟩
end Go.Proofs.YtjikkipdmonndaaDoor

/- Layer 3: the reader's Text; numbers that were put are read. -/
namespace Go.Proofs.YtjikkipdmonndaaDoor
open Go.RowKit
set_option linter.unusedSimpArgs false
set_option linter.unusedVariables false
theorem byte_step (n : Int) {k : Nat} (h : k < 8) : n % 256 ^ (k + 1) = n % 256 ^ k + ((n / 2 ^ (8 * k)) % 256) * 256 ^ k := by
  obtain rfl | rfl | rfl | rfl | rfl | rfl | rfl | rfl := ux_cases h <;> omega
theorem leV_putL (n : Int) : ∀ k : Nat, k ≤ 8 → (leV (putL k n) : Int) = n % 256 ^ k
  | 0, _ => by simp [putL, leV]
  | k + 1, h => by
    rw [putL_succ, leV_snoc, putL_len, Int.natCast_add, leV_putL n k (by omega), Int.natCast_mul, byteAt_val, byte_step n (by omega)]
    simp
theorem numV_put8 (n : Int) (h : -9223372036854775808 ≤ n ∧ n ≤ 9223372036854775807) : numV (putL 8 n) = n := by
  unfold numV
  rw [leV_putL n 8 (Nat.le_refl _)]
  unfold wrap64
  omega
theorem numV_put4 (n : Int) : numV (putL 4 n) = n % 4294967296 := by
  unfold numV
  rw [leV_putL n 4 (by omega)]
  unfold wrap64
  omega
theorem numV_one (c : UInt8) : numV [c] = (c.toNat : Int) := by
  have := c.toNat_lt
  simp only [numV, leV]
  unfold wrap64
  omega
theorem take_one {L : List UInt8} {n : Nat} (h : n + 1 ≤ L.length) : (L.drop n).take 1 = [L.getD n 0] := by
  have hn : n < L.length := h
  rw [List.drop_eq_getElem_cons hn, List.take_succ_cons, List.take_zero]
  congr 1
  simp [List.getD, hn]
set_option maxRecDepth 100000 in
set_option maxHeartbeats 400000 in
theorem reader_Text_ok (g q : Nat) (L : List UInt8) (n c : Nat) (w : World) (h : RdAt w g q L n false) (hc : (L.getD n 0).toNat = c) (hm : n + 1 + c ≤ L.length) :
    Calls Tryd.prog 100 #[.pointer (some ⟨g, 0, none⟩)] w fun e w' => e = .returned (.string ⟨((L.drop (n + 1)).take c).toArray⟩) ∧ RdAt w' g q L (n + 1 + c) false ∧ w.grownBy w' (some g) := by
  have hN : numV ((L.drop n).take 1) = (c : Int) := by rw [take_one (by omega), numV_one, hc]
  have HN := Lib.hid hN
  obtain ⟨B, hB⟩ : ∃ B, (L.drop (n + 1)).take c = B := ⟨_, rfl⟩
  have hl : B.length = c := by rw [← hB]; simp; omega
  have HL := Lib.hid hl
  have HBB := Lib.hid hB
  rw [hB]
  clear hN hc hl hB
  go_enter Tryd.func100, Tryd.ntmps100
  go_wp2_with fail
  refine (reader_Num_ok g q L n 1 1 _ h (by decide) (by omega) (by omega)).mono ?_; rintro e w1 ⟨rfl, hR, hG⟩
  rw [HN.out]
  have HG := Lib.hid hG
  clear hG h
  go_wp2_with fail
  refine (next_ok g q L (n + 1) c (c : Int) _ hR rfl hm).mono ?_; rintro e w2 ⟨r, rfl, hr, hR2, hG2⟩
  rw [HBB.out] at hr
  have hcv := conv_row (P := Tryd.prog) (src := 30) (dst := 9) (e := 5) Tryd.underlying30 Tryd.underlying5 Tryd.underlying9 (l := B) (by rw [HL.out]; exact hr)
  have HR2 := Lib.hid hR2
  have HG2 := Lib.hid hG2
  clear hr hR hR2 hG2
  go_wp2_with fail
  go_ret
  exact ⟨rfl, HR2.out, grown_grown HG.out HG2.out⟩
end Go.Proofs.YtjikkipdmonndaaDoor

/- Layer 3: what a reader answers in any state: one contract for each of its methods. -/
namespace Go.Proofs.YtjikkipdmonndaaDoor
open Go.RowKit
set_option linter.unusedSimpArgs false
set_option linter.unusedVariables false
/-- the next bytes: what they are, how many were read then, whether it is bad then -/
def rTake (L : List UInt8) (z : Int) (n : Nat) (bad : Bool) : List UInt8 × Nat × Bool :=
  if bad then ([], n, true) else if z < 0 ∨ (L.length : Int) - n < z then ([], n, true) else ((L.drop n).take z.toNat, n + z.toNat, false)
/-- the next number of N bytes -/
def rNum (L : List UInt8) (N : Nat) (n : Nat) (bad : Bool) : Int × Nat × Bool :=
  (numV (rTake L N n bad).1, (rTake L N n bad).2)
/-- the next text -/
def rText (L : List UInt8) (n : Nat) (bad : Bool) : List UInt8 × Nat × Bool :=
  rTake L (rNum L 1 n bad).1 (rNum L 1 n bad).2.1 (rNum L 1 n bad).2.2
theorem rTake_bad (L : List UInt8) (z : Int) (n : Nat) : rTake L z n true = ([], n, true) := by simp [rTake]
theorem rTake_fail {L : List UInt8} {z : Int} {n : Nat} (h : z < 0 ∨ (L.length : Int) - n < z) : rTake L z n false = ([], n, true) := by simp [rTake, h]
theorem rTake_ok {L : List UInt8} {m n : Nat} (h : n + m ≤ L.length) : rTake L m n false = ((L.drop n).take m, n + m, false) := by
  have e : ¬ ((m : Int) < 0 ∨ (L.length : Int) - n < m) := by omega
  simp [rTake, e]
theorem rTake_at (L : List UInt8) (z : Int) (n : Nat) (bad : Bool) (hn : n ≤ L.length) : n ≤ (rTake L z n bad).2.1 ∧ (rTake L z n bad).2.1 ≤ L.length ∧ (bad = true → (rTake L z n bad).2.2 = true) := by
  cases bad
  · by_cases h : z < 0 ∨ (L.length : Int) - n < z
    · rw [rTake_fail h]; exact ⟨Nat.le_refl _, hn, fun h => by cases h⟩
    · obtain ⟨m, rfl⟩ : ∃ m : Nat, z = m := ⟨z.toNat, by omega⟩
      rw [rTake_ok (by omega)]; exact ⟨by simp, by simp; omega, fun h => by cases h⟩
  · rw [rTake_bad]; exact ⟨Nat.le_refl _, hn, fun _ => rfl⟩
theorem rTake_len (L : List UInt8) (z : Int) (n : Nat) (bad : Bool) : (rTake L z n bad).1.length ≤ L.length := by
  unfold rTake
  split
  · simp
  · split
    · simp
    · simp; omega
theorem numV_nil : numV [] = 0 := by decide +kernel
theorem rd_here {w : World} {g q : Nat} {L : List UInt8} {n : Nat} {bad : Bool} (h : RdAt w g q L n bad) : n ≤ L.length ∧ L.length ≤ 100000000 := ⟨h.2.2.1, h.2.2.2.1⟩
theorem rd_New (v : Value) (l : List UInt8) (w : World) (hv : RowAt w v l.length (byteV l)) (hm : l.length ≤ 100000000) :
    Calls Tryd.prog 69 #[v] w fun e w' => ∃ g q, e = .returned (.pointer (some ⟨g, 0, none⟩)) ∧ RdAt w' g q l 0 false ∧ w.heap.size ≤ g ∧ (w.heap.size ≤ q ∧ q < g) ∧ Below w.heap.size w w' := by
  go_enter Tryd.func69, Tryd.ntmps69
  go_wp2_with fail
  rw [show (0 : Int) = ((0 : Nat) : Int) from rfl]
  refine (octet_grown v l 0 _ hv (by omega)).mono ?_; rintro e w1 ⟨rfl, hO, hb⟩
  have hz := hb.size
  have hcell : ∀ i, i < l.length → w1.cell? ⟨w.heap.size, i, none⟩ = some (byteV l i) := by
    intro i hi
    have := hO.cellAt i (by omega)
    rw [this]
    exact byteV_at hi
  have hlt : w.heap.size < w1.heap.size := (hO.lt _ rfl).2
  have HC := Lib.hid hcell
  clear hO hcell
  go_wp2_with fail
  go_ret
  refine ⟨w1.heap.size, w.heap.size, rfl, ⟨?_, by omega, by omega, hm, fun i hi => ?_⟩, hz, ⟨Nat.le_refl _, hlt⟩, hb.alloc hz _⟩
  · exact heap_alloc_new w1 _
  · exact (((Below.refl w1.heap.size w1).alloc (Nat.le_refl _) _).cell (p := ⟨w.heap.size, i, none⟩) hlt).trans (HC.out i hi)
theorem rd_next (g q : Nat) (L : List UInt8) (n : Nat) (bad : Bool) (z : Int) (w : World) (h : RdAt w g q L n bad) :
    Calls Tryd.prog 94 #[.pointer (some ⟨g, 0, none⟩), .int .i64 z] w fun e w' => ∃ r, e = .returned r ∧ RowAt w' r (rTake L z n bad).1.length (byteV (rTake L z n bad).1) ∧ RdAt w' g q L (rTake L z n bad).2.1 (rTake L z n bad).2.2 ∧ w.grownBy w' (some g) := by
  cases bad
  · by_cases hz : z < 0 ∨ (L.length : Int) - n < z
    · rw [rTake_fail hz]
      refine (next_fail g q L n z w h hz).mono ?_; rintro e w' ⟨rfl, h1, h2⟩
      exact ⟨_, rfl, Or.inl ⟨none, 0, rfl, rfl, fun _ => rfl⟩, h1, h2⟩
    · obtain ⟨m, rfl⟩ : ∃ m : Nat, z = m := ⟨z.toNat, by omega⟩
      have hm : n + m ≤ L.length := by omega
      rw [rTake_ok hm]
      refine (next_ok g q L n m m w h rfl hm).mono ?_; rintro e w' ⟨r, rfl, h1, h2, h3⟩
      have hl : ((L.drop n).take m).length = m := by simp; omega
      exact ⟨r, rfl, by rw [hl]; exact h1, h2, h3⟩
  · rw [rTake_bad]
    refine (next_bad g q L n z w h).mono ?_; rintro e w' ⟨rfl, rfl⟩
    exact ⟨_, rfl, Or.inl ⟨none, 0, rfl, rfl, fun _ => rfl⟩, h, World.grownBy.refl _ _⟩
theorem rd_Num (g q : Nat) (L : List UInt8) (n N : Nat) (bad : Bool) (z : Int) (w : World) (h : RdAt w g q L n bad) (hN : near8 z = N) (h8 : N ≤ 8) :
    Calls Tryd.prog 70 #[.pointer (some ⟨g, 0, none⟩), .int .i64 z] w fun e w' => e = .returned (.int .i64 (rNum L N n bad).1) ∧ RdAt w' g q L (rNum L N n bad).2.1 (rNum L N n bad).2.2 ∧ w.grownBy w' (some g) := by
  unfold rNum
  cases bad
  · by_cases hz : n + N ≤ L.length
    · rw [rTake_ok hz]
      exact reader_Num_ok g q L n N z w h hN h8 hz
    · rw [rTake_fail (by omega), numV_nil]
      exact reader_Num_fail g q L n N z w h hN h8 (by omega)
  · rw [rTake_bad, numV_nil]
    refine (reader_Num_bad g q L n z w h).mono ?_; rintro e w' ⟨rfl, rfl⟩
    exact ⟨rfl, h, World.grownBy.refl _ _⟩
set_option maxHeartbeats 400000 in
theorem rd_Text (g q : Nat) (L : List UInt8) (n : Nat) (bad : Bool) (w : World) (h : RdAt w g q L n bad) :
    Calls Tryd.prog 100 #[.pointer (some ⟨g, 0, none⟩)] w fun e w' => e = .returned (.string ⟨(rText L n bad).1.toArray⟩) ∧ RdAt w' g q L (rText L n bad).2.1 (rText L n bad).2.2 ∧ w.grownBy w' (some g) := by
  unfold rText
  obtain ⟨A, hA⟩ : ∃ A, rNum L 1 n bad = A := ⟨_, rfl⟩
  obtain ⟨c, n1, b1⟩ := A
  have HNum := Lib.hid (rd_Num g q L n 1 bad 1 w h (by decide) (by omega))
  rw [hA] at HNum ⊢
  clear hA h
  obtain ⟨B, hB⟩ : ∃ B, rTake L c n1 b1 = B := ⟨_, rfl⟩
  have HNext := Lib.hid (fun W hW => rd_next g q L n1 b1 c W hW)
  rw [hB] at HNext ⊢
  clear hB
  go_enter Tryd.func100, Tryd.ntmps100
  go_wp2_with fail
  refine HNum.out.mono ?_; rintro e w1 ⟨rfl, hR, hG⟩
  have HG := Lib.hid hG
  clear hG
  go_wp2_with fail
  refine (HNext.out w1 hR).mono ?_; rintro e w2 ⟨r, rfl, hr, hR2, hG2⟩
  have hcv := conv_row (P := Tryd.prog) (src := 30) (dst := 9) (e := 5) Tryd.underlying30 Tryd.underlying5 Tryd.underlying9 hr
  have HR2 := Lib.hid hR2
  have HG2 := Lib.hid hG2
  clear hr hR hR2 hG2 HNum HNext
  go_wp2_with fail
  go_ret
  exact ⟨rfl, HR2.out, grown_grown HG.out HG2.out⟩
theorem rd_Take (g q : Nat) (L : List UInt8) (n : Nat) (bad : Bool) (z : Int) (w : World) (h : RdAt w g q L n bad) :
    Calls Tryd.prog 113 #[.pointer (some ⟨g, 0, none⟩), .int .i64 z] w fun e w' => ∃ r, e = .returned r ∧ RowAt w' r (rTake L z n bad).1.length (byteV (rTake L z n bad).1) ∧ RdAt w' g q L (rTake L z n bad).2.1 (rTake L z n bad).2.2 ∧ w.grownBy w' (some g) := by
  have hBL := rTake_len L z n bad
  have hL := h.2.2.2.1
  have HNext := Lib.hid (rd_next g q L n bad z w h)
  clear h
  obtain ⟨B, hB⟩ : ∃ B, rTake L z n bad = B := ⟨_, rfl⟩
  rw [hB] at HNext hBL ⊢
  clear hB
  go_enter Tryd.func113, Tryd.ntmps113
  go_wp2_with fail
  refine HNext.out.mono ?_; rintro e w1 ⟨r, rfl, hr, hR, hG⟩
  have HR2 := Lib.hid hR
  have HG := Lib.hid hG
  have Hr2 := Lib.hid hr
  clear hr hR hG HNext
  go_wp2_with fail
  rw [show Value.int IntKind.i64 0 = Value.int IntKind.i64 ((0 : Nat) : Int) from rfl]
  refine (octet_grown r B.1 0 _ Hr2.out (by omega)).mono ?_; rintro e w2 ⟨rfl, hO, hb⟩
  have hrow : RowAt w2 _ B.1.length (byteV B.1) := RowAt.owns hO (fun i hi => byteV_at hi)
  have HO := Lib.hid hrow
  have HB := Lib.hid hb
  clear hrow hO hb Hr2
  go_wp2_with fail
  go_ret
  exact ⟨_, rfl, HO.out, rd_below HR2.out HB.out, grown_below HG.out HB.out⟩
end Go.Proofs.YtjikkipdmonndaaDoor

/- Layer 3: the reference's reader: what lies at its address, and its methods. -/
namespace Go.Proofs.YtjikkipdmonndaaDoor
open Go.RowKit
set_option linter.unusedSimpArgs false
set_option linter.unusedVariables false
/-- a slice that isn't empty lies in block q -/
def inBlk (v : Value) (q : Nat) : Prop := ∀ a n c, v = .slice (some a) n c → 0 < n → a.block = q
theorem row_stay {w w' : World} {v : Value} {n : Nat} {f : Nat → Value} {q : Nat} (h : RowAt w v n f) (hq : inBlk v q) (hs : w.heap.size ≤ w'.heap.size) (hb : q < w.heap.size → w'.heap[q]? = w.heap[q]?) : RowAt w' v n f := by
  rcases h with h | ⟨b, off, cap, h1, h2, h3, h4, h5, h6⟩
  · exact Or.inl h
  · have e : b = q := hq _ _ _ h1 h2
    subst e
    refine Or.inr ⟨b, off, cap, h1, h2, h3, h4, by omega, fun i hi => ?_⟩
    rw [← h6 i hi]
    exact World.cell?_of_block (hb h5)
/-- the reference's reader at block g over the bytes L, which lie in block q -/
def RfAt (w : World) (g q : Nat) (L : List UInt8) (n : Nat) (bad : Bool) : Prop :=
  ∃ rv, w.heap[g]? = some (.cells #[rv, .int .i64 (n : Int), .bool bad] 69 (0, 0)) ∧ RowAt w rv (L.length - n) (byteV (L.drop n)) ∧ inBlk rv q ∧ q ≠ g ∧ n ≤ L.length ∧ L.length ≤ 100000000
theorem rf_here {w : World} {g q : Nat} {L : List UInt8} {n : Nat} {bad : Bool} (h : RfAt w g q L n bad) : n ≤ L.length ∧ L.length ≤ 100000000 ∧ g < w.heap.size := by
  obtain ⟨rv, h1, h2, h3, h4, h5, h6⟩ := h
  refine ⟨h5, h6, ?_⟩
  by_cases hg : g < w.heap.size
  · exact hg
  · rw [Array.getElem?_eq_none (by omega)] at h1; cases h1
theorem rf_stay {w w' : World} {g q : Nat} {L : List UInt8} {n : Nat} {bad : Bool} (h : RfAt w g q L n bad) (hs : w.heap.size ≤ w'.heap.size) (hg : w'.heap[g]? = w.heap[g]?) (hq : q < w.heap.size → w'.heap[q]? = w.heap[q]?) : RfAt w' g q L n bad := by
  obtain ⟨rv, h1, h2, h3, h4, h5, h6⟩ := h
  exact ⟨rv, hg.trans h1, row_stay h2 h3 hs hq, h3, h4, h5, h6⟩
theorem rf_below {w w' : World} {g q : Nat} {L : List UInt8} {n : Nat} {bad : Bool} (h : RfAt w g q L n bad) (hb : Below w.heap.size w w') : RfAt w' g q L n bad :=
  rf_stay h hb.size (hb.block g (rf_here h).2.2) (fun hq => hb.block q hq)
theorem rf_grown {w w' : World} {g q : Nat} {L : List UInt8} {n : Nat} {bad : Bool} {o : Option Nat} (h : RfAt w g q L n bad) (hb : w.grownBy w' o) (hg : some g ≠ o) (hq : some q ≠ o) : RfAt w' g q L n bad :=
  rf_stay h hb.size (hb.block g (rf_here h).2.2 hg) (fun h => hb.block q h hq)
theorem rf_drew {w : World} {g q : Nat} {L : List UInt8} {n : Nat} {bad : Bool} (h : RfAt w g q L n bad) (m : Nat) : RfAt (w.drewN m) g q L n bad := h
theorem row_drop {w : World} {q n m : Nat} {L : List UInt8} {a : Value} (h : RowAt w a (L.length - n) (byteV (L.drop n))) (hq : inBlk a q) : ∃ p cap, a = .slice p (L.length - n) cap := by
  rcases h with ⟨p, cap, rfl, h0, _⟩ | ⟨b, off, cap, rfl, _⟩
  · exact ⟨p, cap, by rw [h0]⟩
  · exact ⟨_, cap, rfl⟩
theorem ref_Take_bad (g q : Nat) (L : List UInt8) (n : Nat) (z : Int) (w : World) (h : RfAt w g q L n true) :
    Calls Tryd.prog 80 #[.pointer (some ⟨g, 0, none⟩), .int .i64 z] w fun e w' => e = .returned (.slice none 0 0) ∧ RfAt w' g q L n true ∧ w.grownBy w' (some g) := by
  have HR := Lib.hid h
  obtain ⟨rv, hg, hr, hi, hq, hn, hL⟩ := h
  have c2 := cell_of hg 2 rfl
  have f2 := free_of hg 2
  have HG := Lib.hid hg
  have Hr := Lib.hid hr
  clear hg hr
  go_enter Tryd.func80, Tryd.ntmps80
  go_wp2_with fail
  go_ret
  obtain ⟨k1, k2⟩ := set_at HG.out 2 (.bool true) 0
  exact ⟨rfl, ⟨rv, k1, row_stay Hr.out hi k2.size (fun h => k2.block q h (by simpa using hq)), hi, hq, hn, hL⟩, k2⟩
theorem ref_Take_fail (g q : Nat) (L : List UInt8) (n : Nat) (z : Int) (w : World) (h : RfAt w g q L n false) (hz : z < 0 ∨ (L.length : Int) - n < z) :
    Calls Tryd.prog 80 #[.pointer (some ⟨g, 0, none⟩), .int .i64 z] w fun e w' => e = .returned (.slice none 0 0) ∧ RfAt w' g q L n true ∧ w.grownBy w' (some g) := by
  have HR := Lib.hid h
  obtain ⟨rv, hg, hr, hi, hq, hn, hL⟩ := h
  obtain ⟨p, cap, rfl⟩ := row_drop hr hi (m := 0)
  have c0 := cell_of hg 0 rfl
  have c2 := cell_of hg 2 rfl
  have f2 := free_of hg 2
  have HG := Lib.hid hg
  have Hr := Lib.hid hr
  clear hg hr
  have hz0 : z < 0 ∧ decide (z < 0) = true ∨ decide (z < 0) = false ∧ decide (((L.length - n : Nat) : Int) < z) = true := by
    by_cases h : z < 0
    · exact Or.inl ⟨h, by simpa using h⟩
    · exact Or.inr ⟨by simpa using h, by simp; omega⟩
  have hl : (((L.length - n : Nat)) : Int) ≤ 9223372036854775807 := by omega
  generalize hln : L.length - n = ln at *
  rcases hz0 with ⟨_, e1⟩ | ⟨e1, e2⟩
  all_goals
    go_enter Tryd.func80, Tryd.ntmps80
    go_wp2_with fail
    go_ret
    obtain ⟨k1, k2⟩ := set_at HG.out 2 (.bool true) 0
    exact ⟨rfl, ⟨_, k1, row_stay (by rw [hln]; exact Hr.out) hi k2.size (fun h => k2.block q h (by simpa using hq)), hi, hq, hn, hL⟩, k2⟩
end Go.Proofs.YtjikkipdmonndaaDoor
