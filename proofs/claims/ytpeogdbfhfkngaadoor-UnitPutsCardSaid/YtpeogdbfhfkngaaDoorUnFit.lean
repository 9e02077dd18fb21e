/- Layer 15: whether a unit has bytes: both sides. -/
import Derived.Test.YtpeogdbfhfkngaaDoorUnA
import Derived.Test.YtpeogdbfhfkngaaDoorPgm
import Derived.Test.YtpeogdbfhfkngaaDoorBoxed
import Derived.Test.YtpeogdbfhfkngaaDoorCodeSame
namespace Go.Proofs.YtpeogdbfhfkngaaDoor
open Go.RowKit
set_option linter.unusedSimpArgs false
set_option linter.unusedVariables false
def lenU (x : Un) : Prop := x.name.length ≤ 255 ∧ x.params.length ≤ 8 ∧ x.locals.length ≤ 1024 ∧ x.code.length ≤ 16384
instance (x : Un) : Decidable (lenU x) := by unfold lenU; infer_instance
def fitU (x : Un) : Bool := decide (lenU x) && (x.params.all fitB && (x.locals.all fitB && (fitB x.result && x.code.all rI)))
theorem fitU_len {x : Un} (h : ¬ lenU x) : fitU x = false := by unfold fitU; rw [decide_eq_false h]; rfl
theorem fitU_ps {x : Un} (h : x.params.all fitB = false) : fitU x = false := by unfold fitU; rw [h]; simp
theorem fitU_ls {x : Un} (h : x.locals.all fitB = false) : fitU x = false := by unfold fitU; rw [h]; simp
theorem fitU_rs {x : Un} (h : fitB x.result = false) : fitU x = false := by unfold fitU; rw [h]; simp
theorem fitU_cs {x : Un} (h : x.code.all rI = false) : fitU x = false := by unfold fitU; rw [h]; simp
theorem fitU_ok {x : Un} (h0 : lenU x) (h1 : x.params.all fitB = true) (h2 : x.locals.all fitB = true) (h3 : fitB x.result = true) (h4 : x.code.all rI = true) : fitU x = true := by unfold fitU; rw [decide_eq_true h0, h1, h2, h3, h4]; rfl
theorem fitU_is {x : Un} (h : fitU x = true) : lenU x ∧ x.params.all fitB = true ∧ x.locals.all fitB = true ∧ fitB x.result = true ∧ x.code.all rI = true := by
  unfold fitU at h
  simp only [Bool.and_eq_true, decide_eq_true_eq] at h
  exact h
theorem below_drew_of {w w' : World} (h : ∃ m, w' = w.drewN m) : Below w.heap.size w w' := by obtain ⟨m, rfl⟩ := h; exact Below_drewN _ _ _
theorem row_lit1 (w : World) (z : Int) (t : TypeId) (hz : I64 z) : RowR 1 intR (w.alloc (.cells #[.int .i64 z] t)) (.slice (some ⟨w.heap.size, 0, none⟩) 1 1) [z] := row_cells1 (cell_new w _ t (0, 0) 0 rfl) hz
set_option maxHeartbeats 4000000 in
theorem unit_Fits (a b c : Value) (x : Un) (w : World) (hT : STab w) (h : UnAt w a b c x) :
    Calls Tryd.prog 10 #[.agg #[.string ⟨x.name.toArray⟩, a, .int .i64 x.result, b, c]] w fun e w' => e = .returned (.bool (fitU x)) ∧ Below w.heap.size w w' := by
  have l0 : x.name.length ≤ 9223372036854775807 := h.ns
  have hcs := h.cs
  have R64 := Lib.hid h.r64
  obtain ⟨sa, ca, ea⟩ := row_get h.ps
  obtain ⟨sb, cb, eb⟩ := row_get h.ls
  obtain ⟨sc, cc, ec⟩ := row_get h.cs
  subst ea eb ec
  have l1 := h.ps.len
  have l2 := h.ls.len
  have l3 := h.cs.len
  have HLN := Lib.hid (fun q : ¬ lenU x => fitU_len q)
  have HPS := Lib.hid (fun q => fitU_ps (x := x) q)
  have HLS := Lib.hid (fun q => fitU_ls (x := x) q)
  have HRS := Lib.hid (fun q => fitU_rs (x := x) q)
  have HCS := Lib.hid (fun q => fitU_cs (x := x) q)
  have HOK := Lib.hid (fun q0 q1 q2 q3 q4 => fitU_ok (x := x) q0 q1 q2 q3 q4)
  have HDF := Lib.hid (show lenU x ↔ (x.name.length ≤ 255 ∧ x.params.length ≤ 8 ∧ x.locals.length ≤ 1024 ∧ x.code.length ≤ 16384) from Iff.rfl)
  have HS1 := Lib.hid (fun W (hb : Below w.heap.size w W) => (unit_small _ x.params W (h.ps.below intR_stable hb)).mono (fun _ _ q => And.intro q.1 (below_drew_of q.2)))
  have HS2 := Lib.hid (fun W (hb : Below w.heap.size w W) => (unit_small _ x.locals W (h.ls.below intR_stable hb)).mono (fun _ _ q => And.intro q.1 (below_drew_of q.2)))
  clear h
  have hsz : (⟨x.name.toArray⟩ : ByteArray).size = x.name.length := by simp [ByteArray.size]
  generalize (⟨x.name.toArray⟩ : ByteArray) = nm at *
  generalize hn0 : x.name.length = n0 at *
  generalize hn1 : x.params.length = n1 at *
  generalize hn2 : x.locals.length = n2 at *
  generalize hL : x.code = L at *
  generalize hn3 : L.length = n3 at *
  generalize x.result = rs at *
  have HR := Lib.hid (fun W => (unit_small (.slice (some ⟨W.heap.size, 0, none⟩) 1 1) [rs] (W.alloc (.cells #[.int .i64 rs] 3)) (row_lit1 W rs _ R64.out)).mono (fun _ _ q => And.intro q.1 (below_drew_of q.2)))
  rw [show ([rs].all fitB) = fitB rs by simp] at HR
  clear hn0 hn1 hn2 hL
  obtain ⟨W0, hW0⟩ : ∃ W0, W0 = w.alloc (.cells #[.string nm, .slice sa n1 ca, .int .i64 rs, .slice sb n2 cb, .slice sc n3 cc] 25) := ⟨_, rfl⟩
  have K := Lib.hid (show Boxed W0 w.heap.size [.string nm, .slice sa n1 ca, .int .i64 rs, .slice sb n2 cb, .slice sc n3 cc] by rw [hW0]; exact Boxed.new w _ _ (Below.refl _ _))
  have hz0 : w.heap.size < W0.heap.size := by rw [hW0]; simp
  have hB0 : Below w.heap.size w W0 := by rw [hW0]; exact (Below.refl _ _).alloc (Nat.le_refl _) _
  have HW0 := Lib.hid hW0
  clear hW0
  by_cases h0 : n0 ≤ 255
  case neg =>
    have q0 : (255 < (n0 : Int)) = True := eq_true (by omega)
    have hs := Lib.hid (HLN.out (fun g => h0 (HDF.out.1 g).1))
    clear h0
    go_enter Tryd.func10, Tryd.ntmps10
    go_wp2_with fail
    go_ret
    exact ⟨by rw [hs.out]; rfl, by rw [← HW0.out]; exact hB0⟩
  have q0 : (255 < (n0 : Int)) = False := eq_false (by omega)
  by_cases h1 : n1 ≤ 8
  case neg =>
    have q1 : (8 < (n1 : Int)) = True := eq_true (by omega)
    have hs := Lib.hid (HLN.out (fun g => h1 (HDF.out.1 g).2.1))
    clear h0 h1
    go_enter Tryd.func10, Tryd.ntmps10
    go_wp2_with fail
    go_ret
    exact ⟨by rw [hs.out]; rfl, by rw [← HW0.out]; exact hB0⟩
  have q1 : (8 < (n1 : Int)) = False := eq_false (by omega)
  by_cases h2 : n2 ≤ 1024
  case neg =>
    have q2 : (1024 < (n2 : Int)) = True := eq_true (by omega)
    have hs := Lib.hid (HLN.out (fun g => h2 (HDF.out.1 g).2.2.1))
    clear h0 h1 h2
    go_enter Tryd.func10, Tryd.ntmps10
    go_wp2_with fail
    go_ret
    exact ⟨by rw [hs.out]; rfl, by rw [← HW0.out]; exact hB0⟩
  have q2 : (1024 < (n2 : Int)) = False := eq_false (by omega)
  by_cases h3 : n3 ≤ 16384
  case neg =>
    have q3 : (16384 < (n3 : Int)) = True := eq_true (by omega)
    have hs := Lib.hid (HLN.out (fun g => h3 (HDF.out.1 g).2.2.2))
    clear h0 h1 h2 h3
    go_enter Tryd.func10, Tryd.ntmps10
    go_wp2_with fail
    go_ret
    exact ⟨by rw [hs.out]; rfl, by rw [← HW0.out]; exact hB0⟩
  have q3 : (16384 < (n3 : Int)) = False := eq_false (by omega)
  have HL0 := Lib.hid (HDF.out.2 ⟨h0, h1, h2, h3⟩)
  clear HLN HDF h0 h1 h2 h3
  cases hp : x.params.all fitB
  · have hs := Lib.hid (HPS.out hp)
    rw [hp] at HS1
    clear hp
    go_enter Tryd.func10, Tryd.ntmps10
    go_wp2_with fail
    refine (HS1.out _ (by rw [← HW0.out]; exact hB0)).mono ?_; rintro e w1 ⟨rfl, hb1⟩
    rw [← HW0.out] at hb1
    have hB1 := hB0.trans (hb1.mono hB0.size)
    go_wp2_with fail
    go_ret
    exact ⟨by rw [hs.out]; rfl, hB1⟩
  rw [hp] at HS1
  cases hq : x.locals.all fitB
  · have hs := Lib.hid (HLS.out hq)
    rw [hq] at HS2
    clear hp hq
    go_enter Tryd.func10, Tryd.ntmps10
    go_wp2_with fail
    refine (HS1.out _ (by rw [← HW0.out]; exact hB0)).mono ?_; rintro e w1 ⟨rfl, hb1⟩
    rw [← HW0.out] at hb1
    have hB1 := hB0.trans (hb1.mono hB0.size)
    have e3 := (K.out.keep hz0 hb1) 3 _ rfl
    go_wp2_with fail
    refine (HS2.out _ hB1).mono ?_; rintro e w2 ⟨rfl, hb2⟩
    have hB2 := hB1.trans (hb2.mono hB1.size)
    clear e3
    go_wp2_with fail
    go_ret
    exact ⟨by rw [hs.out]; rfl, hB2⟩
  rw [hq] at HS2
  have HOK := Lib.hid (HOK.out HL0.out hp hq)
  clear hp hq
  cases hr : fitB rs
  · have hs := Lib.hid (HRS.out hr)
    rw [hr] at HR
    clear hr
    go_enter Tryd.func10, Tryd.ntmps10
    go_wp2_with fail
    refine (HS1.out _ (by rw [← HW0.out]; exact hB0)).mono ?_; rintro e w1 ⟨rfl, hb1⟩
    rw [← HW0.out] at hb1
    have hB1 := hB0.trans (hb1.mono hB0.size)
    have e3 := (K.out.keep hz0 hb1) 3 _ rfl
    go_wp2_with fail
    refine (HS2.out _ hB1).mono ?_; rintro e w2 ⟨rfl, hb2⟩
    have hB2 := hB1.trans (hb2.mono hB1.size)
    have hb2 := hb1.trans (hb2.mono hb1.size)
    clear e3
    have e2 := (K.out.keep hz0 hb2) 2 _ rfl
    go_wp2_with fail
    refine (HR.out w2).mono ?_; rintro e w3 ⟨rfl, hb3⟩
    have hB3 := (hB2.alloc hB2.size _).trans (hb3.mono (by simp; have := hB2.size; omega))
    clear e2
    go_wp2_with fail
    go_ret
    exact ⟨by rw [hs.out]; rfl, hB3⟩
  rw [hr] at HR
  have HOK := Lib.hid (HOK.out hr)
  clear hr
  go_enter Tryd.func10, Tryd.ntmps10
  go_wp2_with fail
  refine (HS1.out _ (by rw [← HW0.out]; exact hB0)).mono ?_; rintro e w1 ⟨rfl, hb1⟩
  rw [← HW0.out] at hb1
  have hB1 := hB0.trans (hb1.mono hB0.size)
  have e3 := (K.out.keep hz0 hb1) 3 _ rfl
  go_wp2_with fail
  refine (HS2.out _ hB1).mono ?_; rintro e w2 ⟨rfl, hb2⟩
  have hB2 := hB1.trans (hb2.mono hB1.size)
  have hb2 := hb1.trans (hb2.mono hb1.size)
  clear e3
  have e2 := (K.out.keep hz0 hb2) 2 _ rfl
  go_wp2_with fail
  refine (HR.out w2).mono ?_; rintro e w3 ⟨rfl, hb3⟩
  have hB3 := (hB2.alloc hB2.size _).trans (hb3.mono (by simp; have := hB2.size; omega))
  have hb3 := (hb2.alloc hb2.size _).trans (hb3.mono (by simp; have := hb2.size; omega))
  clear e2
  have e4 := (K.out.keep hz0 hb3) 4 _ rfl
  go_wp2_with fail
  go_loopw [47] (fun j wr => ∃ k : Nat, k ≤ n3 ∧ j = .int .i64 k ∧ Hid ((L.take k).all rI = true) ∧ Below w.heap.size w wr) (fun j _ => n3 - (intOf j).toNat)
  case atStart => exact ⟨0, by omega, rfl, Lib.hid (by simp), hB3⟩
  case round =>
    clear e4 hb3 hB3 hb2 hB2 hb1 hB1 HS1 HS2 HR
    obtain ⟨k, hk, rfl, hall, hB⟩ := hrel
    have hz' := hB.size
    by_cases hlt : k < n3
    · obtain ⟨b, off, rfl, hbw, hc⟩ := ins_at hcs (k := k) (by omega)
      obtain ⟨y, hy⟩ : ∃ y, L[k]? = some y := get_some (by omega)
      obtain ⟨c0, c1, c2, w0, w1, w2⟩ := hc k y hy
      have c0 := (hB.cell (p := ⟨b, off + k * 3, none⟩) hbw).trans c0
      have c1 := (hB.cell (p := ⟨b, off + k * 3 + 1, none⟩) hbw).trans c1
      have c2 := (hB.cell (p := ⟨b, off + k * 3 + 2, none⟩) hbw).trans c2
      have hts := Lib.hid (take_snoc hy)
      have hR := op_RightS y.1 y.2.1 y.2.2
      have hno := Lib.hid (all_take_no hy)
      have hxr : oRight y.1 y.2.1 y.2.2 = rI y := rfl
      rw [hxr] at hR
      clear hc hxr hy
      cases hr : rI y
      · have hs := Lib.hid (HCS.out (hno.out hr))
        rw [hr] at hR
        clear hr hall hts
        go_wp2_with fail
        refine (hR _ (hT.below (by (repeat' (first | (with_reducible exact Below.refl _ _) | (with_reducible assumption) | (with_reducible refine more_below ?_ ?_ _ _) | (with_reducible refine below_drewN ?_ _) | (with_reducible refine Below.alloc ?_ ?_ _) | (with_reducible refine Below.drew ?_) | (with_reducible refine Below.setCell ?_ ?_ _) | (simp only [World.size_alloc, World.size_setCell, World.size_drew, more_size, World.heap_drewN]; omega) | go_size))))).mono ?_; rintro e W1 ⟨rfl, hb1⟩
        have hB1 : Below w.heap.size w W1 := Below.trans (by (repeat' (first | (with_reducible exact Below.refl _ _) | (with_reducible assumption) | (with_reducible refine more_below ?_ ?_ _ _) | (with_reducible refine below_drewN ?_ _) | (with_reducible refine Below.alloc ?_ ?_ _) | (with_reducible refine Below.drew ?_) | (with_reducible refine Below.setCell ?_ ?_ _) | (simp only [World.size_alloc, World.size_setCell, World.size_drew, more_size, World.heap_drewN]; omega) | go_size))) (hb1.mono (by simp; omega))
        go_wp2_with fail
        go_ret
        exact ⟨by rw [hs.out]; rfl, hB1⟩
      · rw [hr] at hR
        have hal := Lib.hid (show (L.take (k + 1)).all rI = true by rw [hts.out, List.all_append, hall.out]; simp [hr])
        clear hr hall hts
        go_wp2_with fail
        refine (hR _ (hT.below (by (repeat' (first | (with_reducible exact Below.refl _ _) | (with_reducible assumption) | (with_reducible refine more_below ?_ ?_ _ _) | (with_reducible refine below_drewN ?_ _) | (with_reducible refine Below.alloc ?_ ?_ _) | (with_reducible refine Below.drew ?_) | (with_reducible refine Below.setCell ?_ ?_ _) | (simp only [World.size_alloc, World.size_setCell, World.size_drew, more_size, World.heap_drewN]; omega) | go_size))))).mono ?_; rintro e W1 ⟨rfl, hb1⟩
        have hB1 : Below w.heap.size w W1 := Below.trans (by (repeat' (first | (with_reducible exact Below.refl _ _) | (with_reducible assumption) | (with_reducible refine more_below ?_ ?_ _ _) | (with_reducible refine below_drewN ?_ _) | (with_reducible refine Below.alloc ?_ ?_ _) | (with_reducible refine Below.drew ?_) | (with_reducible refine Below.setCell ?_ ?_ _) | (simp only [World.size_alloc, World.size_setCell, World.size_drew, more_size, World.heap_drewN]; omega) | go_size))) (hb1.mono (by simp; omega))
        go_wp2_with fail
        go_roundw
        case rel => exact ⟨k + 1, by omega, by simp, hal, hB1⟩
        case measure => first | (simp [intOf]; done) | (simp [intOf]; omega)
    · obtain rfl : k = n3 := by omega
      have hs := Lib.hid (HOK.out (by have := hall.out; rwa [List.take_of_length_le (by omega)] at this))
      go_wp2_with fail
      go_ret
      exact ⟨by rw [hs.out]; rfl, hB⟩
set_option maxHeartbeats 4000000 in
theorem ref15_Fits (a b c : Value) (x : Un) (w : World) (h : UnAt w a b c x) :
    Calls Tryd.prog 22 #[.agg #[.string ⟨x.name.toArray⟩, a, .int .i64 x.result, b, c]] w fun e w' => e = .returned (.bool (fitU x)) ∧ Below w.heap.size w w' := by
  have l0 : x.name.length ≤ 9223372036854775807 := h.ns
  have hcs := h.cs
  have R64 := Lib.hid h.r64
  obtain ⟨sa, ca, ea⟩ := row_get h.ps
  obtain ⟨sb, cb, eb⟩ := row_get h.ls
  obtain ⟨sc, cc, ec⟩ := row_get h.cs
  subst ea eb ec
  have l1 := h.ps.len
  have l2 := h.ls.len
  have l3 := h.cs.len
  have HLN := Lib.hid (fun q : ¬ lenU x => fitU_len q)
  have HPS := Lib.hid (fun q => fitU_ps (x := x) q)
  have HLS := Lib.hid (fun q => fitU_ls (x := x) q)
  have HRS := Lib.hid (fun q => fitU_rs (x := x) q)
  have HCS := Lib.hid (fun q => fitU_cs (x := x) q)
  have HOK := Lib.hid (fun q0 q1 q2 q3 q4 => fitU_ok (x := x) q0 q1 q2 q3 q4)
  have HDF := Lib.hid (show lenU x ↔ (x.name.length ≤ 255 ∧ x.params.length ≤ 8 ∧ x.locals.length ≤ 1024 ∧ x.code.length ≤ 16384) from Iff.rfl)
  have HS1 := Lib.hid (fun W (hb : Below w.heap.size w W) => (ref15_bytes _ x.params W (h.ps.below intR_stable hb)).mono (fun _ _ q => And.intro q.1 (below_drew_of q.2)))
  have HS2 := Lib.hid (fun W (hb : Below w.heap.size w W) => (ref15_bytes _ x.locals W (h.ls.below intR_stable hb)).mono (fun _ _ q => And.intro q.1 (below_drew_of q.2)))
  clear h
  have hsz : (⟨x.name.toArray⟩ : ByteArray).size = x.name.length := by simp [ByteArray.size]
  generalize (⟨x.name.toArray⟩ : ByteArray) = nm at *
  generalize hn0 : x.name.length = n0 at *
  generalize hn1 : x.params.length = n1 at *
  generalize hn2 : x.locals.length = n2 at *
  generalize hL : x.code = L at *
  generalize hn3 : L.length = n3 at *
  generalize x.result = rs at *
  clear hn0 hn1 hn2 hL
  have HFB := Lib.hid (show fitB rs = decide (0 ≤ rs ∧ rs ≤ 255) from rfl)
  go_enter Tryd.func22, Tryd.ntmps22
  go_wp2_with fail
  go_loopw [3] (fun j wr => ∃ k : Nat, k ≤ n3 ∧ j = .int .i64 k ∧ Hid ((L.take k).all rI = true) ∧ Hid (Below (w.heap.size + 1) (w.alloc (.cells #[.string nm, .slice sa n1 ca, .int .i64 rs, .slice sb n2 cb, .slice sc n3 cc] 25)) wr)) (fun j _ => n3 - (intOf j).toNat)
  case atStart => exact ⟨0, by omega, rfl, Lib.hid (by simp), Lib.hid (Below.refl _ _)⟩
  case round =>
    obtain ⟨k, hk, rfl, hall, hBw⟩ := hrel
    have z0 : w.heap.size < wr.heap.size := by have := hBw.out.size; simp at this; omega
    have hB : Below w.heap.size w wr := Below.trans (by (repeat' (first | (with_reducible exact Below.refl _ _) | (with_reducible assumption) | (with_reducible refine below_drewN ?_ _) | (with_reducible refine Below.alloc ?_ ?_ _) | (with_reducible refine Below.drew ?_) | (with_reducible refine Below.setCell ?_ ?_ _) | go_size))) (hBw.out.mono (by omega))
    have K := Lib.hid (Boxed.new w [.string nm, .slice sa n1 ca, .int .i64 rs, .slice sb n2 cb, .slice sc n3 cc] 25 hBw.out)
    have e4 := K.out 4 _ rfl
    by_cases hlt : k < n3
    · obtain ⟨b, off, rfl, hbw, hc⟩ := ins_at hcs (k := k) (by omega)
      obtain ⟨y, hy⟩ : ∃ y, L[k]? = some y := get_some (by omega)
      obtain ⟨c0, c1, c2, w0, w1, w2⟩ := hc k y hy
      have c0 := (hB.cell (p := ⟨b, off + k * 3, none⟩) hbw).trans c0
      have c1 := (hB.cell (p := ⟨b, off + k * 3 + 1, none⟩) hbw).trans c1
      have c2 := (hB.cell (p := ⟨b, off + k * 3 + 2, none⟩) hbw).trans c2
      have hts := Lib.hid (take_snoc hy)
      have hR := ref12_Right y.1 y.2.1 y.2.2
      have hno := Lib.hid (all_take_no hy)
      have hxr : oRight y.1 y.2.1 y.2.2 = rI y := rfl
      rw [hxr] at hR
      clear hc hxr hy
      cases hr : rI y
      · have hs := Lib.hid (HCS.out (hno.out hr))
        rw [hr] at hR
        clear hr hall hts
        go_wp2_with fail
        refine (hR _).mono ?_; rintro e W1 ⟨rfl, hb1⟩
        have hB1 : Below w.heap.size w W1 := hB.trans (hb1.mono hB.size)
        go_wp2_with fail
        go_ret
        exact ⟨by rw [hs.out]; rfl, hB1⟩
      · rw [hr] at hR
        have hal := Lib.hid (show (L.take (k + 1)).all rI = true by rw [hts.out, List.all_append, hall.out]; simp [hr])
        clear hr hall hts
        go_wp2_with fail
        refine (hR _).mono ?_; rintro e W1 ⟨rfl, hb1⟩
        have hB1 := hBw.out.trans (hb1.mono (by omega))
        go_wp2_with fail
        go_roundw
        case rel => exact ⟨k + 1, by omega, by simp, hal, Lib.hid hB1⟩
        case measure => first | (simp [intOf]; done) | (simp [intOf]; omega)
    · obtain rfl : k = n3 := by omega
      have HC := Lib.hid (show L.all rI = true by have := hall.out; rwa [List.take_of_length_le (by omega)] at this)
      have e0 := K.out 0 _ rfl
      have e1 := K.out 1 _ rfl
      have e2 := K.out 2 _ rfl
      have e3 := K.out 3 _ rfl
      clear hcs hall hlt
      by_cases h0 : n0 ≤ 255
      case neg =>
        have q0 : ((n0 : Int) < 256) = False := eq_false (by omega)
        have hs := Lib.hid (HLN.out (fun g => h0 (HDF.out.1 g).1))
        clear h0
        go_wp2_with fail
        go_ret
        exact ⟨by rw [hs.out]; rfl, hB⟩
      have q0 : ((n0 : Int) < 256) = True := eq_true (by omega)
      by_cases h1 : n1 ≤ 8
      case neg =>
        have q1 : ((n1 : Int) ≤ 8) = False := eq_false (by omega)
        have hs := Lib.hid (HLN.out (fun g => h1 (HDF.out.1 g).2.1))
        clear h0 h1
        go_wp2_with fail
        go_ret
        exact ⟨by rw [hs.out]; rfl, hB⟩
      have q1 : ((n1 : Int) ≤ 8) = True := eq_true (by omega)
      by_cases h2 : n2 ≤ 1024
      case neg =>
        have q2 : ((n2 : Int) ≤ 1024) = False := eq_false (by omega)
        have hs := Lib.hid (HLN.out (fun g => h2 (HDF.out.1 g).2.2.1))
        clear h0 h1 h2
        go_wp2_with fail
        go_ret
        exact ⟨by rw [hs.out]; rfl, hB⟩
      have q2 : ((n2 : Int) ≤ 1024) = True := eq_true (by omega)
      by_cases h3 : k ≤ 16384
      case neg =>
        have q3 : ((k : Int) ≤ 16384) = False := eq_false (by omega)
        have hs := Lib.hid (HLN.out (fun g => h3 (HDF.out.1 g).2.2.2))
        clear h0 h1 h2 h3
        go_wp2_with fail
        go_ret
        exact ⟨by rw [hs.out]; rfl, hB⟩
      have q3 : ((k : Int) ≤ 16384) = True := eq_true (by omega)
      have HL0 := Lib.hid (HDF.out.2 ⟨h0, h1, h2, h3⟩)
      clear HLN HDF h0 h1 h2 h3
      cases hp : x.params.all fitB
      · have hs := Lib.hid (HPS.out hp)
        rw [hp] at HS1
        clear hp
        go_wp2_with fail
        refine (HS1.out _ hB).mono ?_; rintro e w1 ⟨rfl, hb1⟩
        have hB1 := hB.trans (hb1.mono hB.size)
        have e2 := (K.out.keep z0 hb1) 2 _ rfl
        have e3 := (K.out.keep z0 hb1) 3 _ rfl
        go_wp2_with fail
        go_ret
        exact ⟨by rw [hs.out]; rfl, hB1⟩
      rw [hp] at HS1
      cases hq : x.locals.all fitB
      · have hs := Lib.hid (HLS.out hq)
        rw [hq] at HS2
        clear hp hq
        go_wp2_with fail
        refine (HS1.out _ hB).mono ?_; rintro e w1 ⟨rfl, hb1⟩
        have hB1 := hB.trans (hb1.mono hB.size)
        have e2 := (K.out.keep z0 hb1) 2 _ rfl
        have e3 := (K.out.keep z0 hb1) 3 _ rfl
        go_wp2_with fail
        refine (HS2.out _ hB1).mono ?_; rintro e w2 ⟨rfl, hb2⟩
        have hB2 := hB1.trans (hb2.mono hB1.size)
        have hb2 := hb1.trans (hb2.mono hb1.size)
        have e2 := (K.out.keep z0 hb2) 2 _ rfl
        go_wp2_with fail
        go_ret
        exact ⟨by rw [hs.out]; rfl, hB2⟩
      rw [hq] at HS2
      have HOK := Lib.hid (HOK.out HL0.out hp hq)
      clear hp hq
      by_cases r0 : 0 ≤ rs
      case neg =>
        have hs := Lib.hid (HRS.out (HFB.out.trans (decide_eq_false (fun g => r0 g.1))))
        have q4 : (0 ≤ rs) = False := eq_false r0
        have q5 : (rs < 0) = True := eq_true (by omega)
        clear r0
        go_wp2_with fail
        refine (HS1.out _ hB).mono ?_; rintro e w1 ⟨rfl, hb1⟩
        have hB1 := hB.trans (hb1.mono hB.size)
        have e2 := (K.out.keep z0 hb1) 2 _ rfl
        have e3 := (K.out.keep z0 hb1) 3 _ rfl
        go_wp2_with fail
        refine (HS2.out _ hB1).mono ?_; rintro e w2 ⟨rfl, hb2⟩
        have hB2 := hB1.trans (hb2.mono hB1.size)
        have hb2 := hb1.trans (hb2.mono hb1.size)
        have e2 := (K.out.keep z0 hb2) 2 _ rfl
        go_wp2_with fail
        go_ret
        exact ⟨by rw [hs.out]; rfl, hB2⟩
      have q4 : (0 ≤ rs) = True := eq_true r0
      have q5 : (rs < 0) = False := eq_false (by omega)
      by_cases r1 : rs ≤ 255
      case neg =>
        have hs := Lib.hid (HRS.out (HFB.out.trans (decide_eq_false (fun g => r1 g.2))))
        have q6 : (rs < 256) = False := eq_false (by omega)
        have q7 : (256 ≤ rs) = True := eq_true (by omega)
        clear r0 r1
        go_wp2_with fail
        refine (HS1.out _ hB).mono ?_; rintro e w1 ⟨rfl, hb1⟩
        have hB1 := hB.trans (hb1.mono hB.size)
        have e2 := (K.out.keep z0 hb1) 2 _ rfl
        have e3 := (K.out.keep z0 hb1) 3 _ rfl
        go_wp2_with fail
        refine (HS2.out _ hB1).mono ?_; rintro e w2 ⟨rfl, hb2⟩
        have hB2 := hB1.trans (hb2.mono hB1.size)
        have hb2 := hb1.trans (hb2.mono hb1.size)
        have e2 := (K.out.keep z0 hb2) 2 _ rfl
        go_wp2_with fail
        go_ret
        exact ⟨by rw [hs.out]; rfl, hB2⟩
      have q6 : (rs < 256) = True := eq_true (by omega)
      have q7 : (256 ≤ rs) = False := eq_false (by omega)
      have hs := Lib.hid (HOK.out (HFB.out.trans (decide_eq_true ⟨r0, r1⟩)) HC.out)
      clear r0 r1
      go_wp2_with fail
      refine (HS1.out _ hB).mono ?_; rintro e w1 ⟨rfl, hb1⟩
      have hB1 := hB.trans (hb1.mono hB.size)
      have e2 := (K.out.keep z0 hb1) 2 _ rfl
      have e3 := (K.out.keep z0 hb1) 3 _ rfl
      go_wp2_with fail
      refine (HS2.out _ hB1).mono ?_; rintro e w2 ⟨rfl, hb2⟩
      have hB2 := hB1.trans (hb2.mono hB1.size)
      have hb2 := hb1.trans (hb2.mono hb1.size)
      have e2 := (K.out.keep z0 hb2) 2 _ rfl
      go_wp2_with fail
      go_ret
      exact ⟨by rw [hs.out]; rfl, hB2⟩
end Go.Proofs.YtpeogdbfhfkngaaDoor
