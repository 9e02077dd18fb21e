/- Layer 15: a unit's slots, by the answer. -/
import Derived.Test.YtefejcofmopjfaaGreatDoorOwn
import Derived.Test.YtefejcofmopjfaaGreatDoorPgm
import Derived.Test.YtefejcofmopjfaaGreatDoorBoxed
import Derived.LoopTactic
import Derived.WalkKit
import Derived.WalkSpells
import Derived.WalkLawsBesides
import Derived.Deep.QuietTactic
import Derived.BigQuiet
import Derived.WalkSmall
import Derived.IntWalk
namespace Go.Proofs.YtefejcofmopjfaaGreatDoor
open Go.RowKit
set_option linter.unusedSimpArgs false
set_option linter.unusedVariables false
def slotsL (x : Un) : List Int := x.params ++ (if x.result = 0 then [] else [x.result]) ++ x.locals
set_option maxHeartbeats 4000000 in
theorem ref15_Slots (a b c : Value) (x : Un) (w : World) (h : UnAt w a b c x) (hf : fewU x = true) : Calls Tryz.prog 63 #[.agg #[.string ⟨x.name.toArray⟩, a, .int .i64 x.result, b, c]] w fun e w' => ∃ v, e = .returned v ∧ RowR 1 intR w' v (slotsL x) ∧ Below w.heap.size w w' := by
  obtain ⟨_, f1, f2, _⟩ : x.name.length ≤ 300 ∧ x.params.length ≤ 20 ∧ x.locals.length ≤ 1100 ∧ x.code.length ≤ 300 := of_decide_eq_true hf
  obtain ⟨i, hi, hz, hsize, hby⟩ : ∃ i, Tryz.prog.info? 3 = some i ∧ i.zero = some (.int .i64 0) ∧ i.size = 1 ∧ i.bytes = 8 := ⟨(Tryz.prog.info? 3).get!, by kernel_rfl, by kernel_rfl, by kernel_rfl, by kernel_rfl⟩
  have HI := Lib.hid (show ∀ z ∈ slotsL x, I64 z by
    intro z hz
    have hp := row_ints h.ps
    have hl := row_ints h.ls
    have hr := h.r64
    unfold slotsL at hz
    rcases List.mem_append.1 hz with hz | hz
    · rcases List.mem_append.1 hz with hz | hz
      · exact hp z hz
      · by_cases h0 : x.result = 0
        · rw [if_pos h0] at hz; cases hz
        · rw [if_neg h0] at hz
          have : z = x.result := by simpa using hz
          rw [this]; exact hr
    · exact hl z hz)
  have HS1 := Lib.hid (fun W (hb : Below w.heap.size w W) => (src_ints h.ps).below hb)
  have hls := h.ls
  obtain ⟨sa, ca, rfl⟩ := row_get h.ps
  obtain ⟨sb, cb, rfl⟩ := row_get h.ls
  have cp := @cell_past
  have HD := Lib.hid (show slotsL x = x.params ++ (if x.result = 0 then [] else [x.result]) ++ x.locals from rfl)
  clear h hf
  generalize (⟨x.name.toArray⟩ : ByteArray) = nm at *
  generalize x.result = rs at *
  generalize hp : x.params = P at *
  generalize hq : x.locals = L at *
  obtain ⟨n1, hn1⟩ : ∃ n, P.length = n := ⟨_, rfl⟩
  obtain ⟨n2, hn2⟩ : ∃ n, L.length = n := ⟨_, rfl⟩
  have HN := Lib.hid (show P.length = n1 ∧ L.length = n2 from ⟨hn1, hn2⟩)
  rw [hn1] at f1 HS1 ⊢
  rw [hn2] at f2 hls ⊢
  clear hp hq hn1 hn2
  by_cases h0 : rs = 0
  · have q : (rs != 0) = false := by simp [h0]
    rw [if_pos h0, List.append_nil] at HD
    clear h0
    go_enter Tryz.func63, Tryz.ntmps63
    have HE := Lib.hid (owns_empty1 w (.cells #[.string nm, .slice sa n1 ca, .int .i64 rs, .slice sb n2 cb, c] 38) 3 1)
    go_wp2_with (first | (at_builtin; go_loud (refine wpList_append_src rfl (.tmp 5) (.tmp 7) 35 rfl (w.heap.size + 1) 3 i (.int .i64 0) 1 8 Tryz.underlying35 hi hz hsize hby rfl (by omega) _ 0 [] rfl HE.out _ n1 (iV P) rfl (HS1.out _ (by (repeat' (first | (with_reducible exact Below.refl _ _) | (with_reducible assumption) | (with_reducible refine below_drewN ?_ _) | (with_reducible refine Below.alloc ?_ ?_ _) | (with_reducible refine Below.drew ?_) | (with_reducible refine Below.setCell ?_ ?_ _) | go_size)))) (by rw [iV_len, HN.out.1]; omega) (iV_one P) (by unfold maxLen; omega) (by omega) (by simp) ?_; intro v2 w2 hO2 hG2; have hB2 := grown3 (show Below (w.heap.size + 1) (w.alloc (.cells #[.string nm, .slice sa n1 ca, .int .i64 rs, .slice sb n2 cb, c] 38)) _ from by (repeat' (first | (with_reducible exact Below.refl _ _) | (with_reducible assumption) | (with_reducible refine below_drewN ?_ _) | (with_reducible refine Below.alloc ?_ ?_ _) | (with_reducible refine Below.drew ?_) | (with_reducible refine Below.setCell ?_ ?_ _) | go_size))) (by simp) HE.out hG2; have HO2 := Lib.hid hO2; have z2 : w.heap.size < w2.heap.size := (by have := hB2.size; simp at this; omega); have bx := Boxed.new w [.string nm, .slice sa n1 ca, .int .i64 rs, .slice sb n2 cb, c] 38 hB2; have e2 := bx 2 _ rfl; have e3 := bx 3 _ rfl; clear hO2 hG2 bx)) | fail)
    obtain ⟨X, hX⟩ : ∃ X, X = P := ⟨_, rfl⟩
    have HX := Lib.hid (show w2.ownsRow (w.heap.size + 1) 3 1 v2 X.length (iV X) by rw [hX]; exact own_eq2 HO2.out (by rw [HN.out.1]; omega) rfl)
    have HXl := Lib.hid (show X.length ≤ 21 by rw [hX, HN.out.1]; omega)
    rw [← hX] at HD
    have hBX := Lib.hid hB2
    clear hX hB2
    go_loopw [3, 4] (fun o jj wr => ∃ k : Nat, k ≤ n2 ∧ jj = .int .i64 k ∧ Hid (wr.ownsRow (w.heap.size + 1) 3 1 o (X.length + k) (iV (X ++ L.take k))) ∧ Hid (Below (w.heap.size + 1) (w.alloc (.cells #[.string nm, .slice sa n1 ca, .int .i64 rs, .slice sb n2 cb, c] 38)) wr)) (fun _ jj _ => n2 - (intOf jj).toNat)
    case atStart => exact ⟨0, by omega, rfl, Lib.hid (by simpa using HX.out), hBX⟩
    case round =>
      clear z2 e2 e3
      obtain ⟨k, hk, rfl, hO, hBw⟩ := hrel
      have z0 : w.heap.size < wr.heap.size := by have := hBw.out.size; simp at this; omega
      have hB0 : Below w.heap.size w wr := Below.trans (by (repeat' (first | (with_reducible exact Below.refl _ _) | (with_reducible assumption) | (with_reducible refine below_drewN ?_ _) | (with_reducible refine Below.alloc ?_ ?_ _) | (with_reducible refine Below.drew ?_) | (with_reducible refine Below.setCell ?_ ?_ _) | go_size))) (hBw.out.mono (by omega))
      have e3 := Boxed.new w [.string nm, .slice sa n1 ca, .int .i64 rs, .slice sb n2 cb, c] 38 hBw.out 3 _ rfl
      by_cases hlt : k < n2
      · obtain ⟨z, hzq⟩ := get_some (L := L) (n := k) (by have := HN.out.2; omega)
        obtain ⟨b3, off3, rfl, hbw3, hg⟩ := ints_at hls (k := k) (lt_of_get hzq)
        obtain ⟨g0, _⟩ := hg k z hzq
        have g0 := (hB0.cell (p := ⟨b3, off3 + k, none⟩) hbw3).trans g0
        have hts := Lib.hid (take_snoc hzq)
        have hXl := HXl.out
        clear hg hzq
        have Hown := Lib.hid (fun W (hW : Below wr.heap.size wr W) => owns_below hO.out hW)
        generalize hna : X.length = na at *
        go_wp2_with (first | (at_builtin; go_loud (refine wpList_append_src rfl (.tmp 24) (.tmp 30) 35 rfl (w.heap.size + 1) 3 i (.int .i64 0) 1 8 Tryz.underlying35 hi hz hsize hby rfl (by omega) _ (na + k) _ rfl (Hown.out _ (by (repeat' (first | (with_reducible exact Below.refl _ _) | (with_reducible assumption) | (with_reducible refine below_drewN ?_ _) | (with_reducible refine Below.alloc ?_ ?_ _) | (with_reducible refine Below.drew ?_) | (with_reducible refine Below.setCell ?_ ?_ _) | go_size)))) _ 1 [.int .i64 z] rfl (src_new _ _ _) rfl (by intro u hu; simp at hu; rw [hu]; rfl) (by unfold maxLen; omega) (by omega) (by simp; omega) ?_; intro v3 w3 hO3 hG3; have hB3 := Lib.hid (grown3 (Below.trans hBw.out (show Below (w.heap.size + 1) wr (wr.alloc _) from (show Below wr.heap.size wr _ by (repeat' (first | (with_reducible exact Below.refl _ _) | (with_reducible assumption) | (with_reducible refine below_drewN ?_ _) | (with_reducible refine Below.alloc ?_ ?_ _) | (with_reducible refine Below.drew ?_) | (with_reducible refine Below.setCell ?_ ?_ _) | go_size))).mono (by omega))) (by simp; omega) (Hown.out _ (by (repeat' (first | (with_reducible exact Below.refl _ _) | (with_reducible assumption) | (with_reducible refine below_drewN ?_ _) | (with_reducible refine Below.alloc ?_ ?_ _) | (with_reducible refine Below.drew ?_) | (with_reducible refine Below.setCell ?_ ?_ _) | go_size)))) hG3); have HO3 := Lib.hid hO3; clear hO3 hG3)) | fail)
        go_roundw
        case rel => exact ⟨k + 1, by omega, by simp, Lib.hid (own_eq2 HO3.out (by omega) (by simp [hts.out, iV])), hB3⟩
        case measure => first | (simp [intOf]; done) | (simp [intOf]; omega)
      · obtain rfl : k = n2 := by omega
        have hrow := Lib.hid (show RowR 1 intR wr _ (slotsL x) from row_of_owns (own_eq2 hO.out (by rw [HD.out, List.length_append, HN.out.2]) (by rw [HD.out, List.take_of_length_le (by have := HN.out.2; omega)])) HI.out)
        go_wp2_with fail
        go_returns
        exact ⟨_, rfl, hrow.out, hB0⟩
  · have q : (rs != 0) = true := by simpa using h0
    rw [if_neg h0] at HD
    clear h0
    go_enter Tryz.func63, Tryz.ntmps63
    have HE := Lib.hid (owns_empty1 w (.cells #[.string nm, .slice sa n1 ca, .int .i64 rs, .slice sb n2 cb, c] 38) 3 1)
    go_wp2_with (first | (at_builtin; go_loud (refine wpList_append_src rfl (.tmp 5) (.tmp 7) 35 rfl (w.heap.size + 1) 3 i (.int .i64 0) 1 8 Tryz.underlying35 hi hz hsize hby rfl (by omega) _ 0 [] rfl HE.out _ n1 (iV P) rfl (HS1.out _ (by (repeat' (first | (with_reducible exact Below.refl _ _) | (with_reducible assumption) | (with_reducible refine below_drewN ?_ _) | (with_reducible refine Below.alloc ?_ ?_ _) | (with_reducible refine Below.drew ?_) | (with_reducible refine Below.setCell ?_ ?_ _) | go_size)))) (by rw [iV_len, HN.out.1]; omega) (iV_one P) (by unfold maxLen; omega) (by omega) (by simp) ?_; intro v2 w2 hO2 hG2; have hB2 := grown3 (show Below (w.heap.size + 1) (w.alloc (.cells #[.string nm, .slice sa n1 ca, .int .i64 rs, .slice sb n2 cb, c] 38)) _ from by (repeat' (first | (with_reducible exact Below.refl _ _) | (with_reducible assumption) | (with_reducible refine below_drewN ?_ _) | (with_reducible refine Below.alloc ?_ ?_ _) | (with_reducible refine Below.drew ?_) | (with_reducible refine Below.setCell ?_ ?_ _) | go_size))) (by simp) HE.out hG2; have HO2 := Lib.hid hO2; have z2 : w.heap.size < w2.heap.size := (by have := hB2.size; simp at this; omega); have bx := Boxed.new w [.string nm, .slice sa n1 ca, .int .i64 rs, .slice sb n2 cb, c] 38 hB2; have e2 := bx 2 _ rfl; have e3 := bx 3 _ rfl; clear hO2 hG2 bx)) | (at_builtin; go_loud (refine wpList_append_src rfl (.tmp 12) (.tmp 15) 35 rfl (w.heap.size + 1) 3 i (.int .i64 0) 1 8 Tryz.underlying35 hi hz hsize hby rfl (by omega) _ n1 _ rfl (owns_below (own_eq2 HO2.out (Nat.zero_add n1) rfl) (by (repeat' (first | (with_reducible exact Below.refl _ _) | (with_reducible assumption) | (with_reducible refine below_drewN ?_ _) | (with_reducible refine Below.alloc ?_ ?_ _) | (with_reducible refine Below.drew ?_) | (with_reducible refine Below.setCell ?_ ?_ _) | go_size)))) _ 1 [.int .i64 rs] rfl (src_new _ _ _) rfl (by intro u hu; simp at hu; rw [hu]; rfl) (by unfold maxLen; omega) (by omega) (by simp; omega) ?_; intro v3 w3 hO3 hG3; have hB3 := grown3 (Below.trans hB2 (show Below (w.heap.size + 1) w2 (w2.alloc _) from (show Below w2.heap.size w2 _ by (repeat' (first | (with_reducible exact Below.refl _ _) | (with_reducible assumption) | (with_reducible refine below_drewN ?_ _) | (with_reducible refine Below.alloc ?_ ?_ _) | (with_reducible refine Below.drew ?_) | (with_reducible refine Below.setCell ?_ ?_ _) | go_size))).mono (by omega))) (by simp; omega) (owns_below (own_eq2 HO2.out (Nat.zero_add n1) rfl) (by (repeat' (first | (with_reducible exact Below.refl _ _) | (with_reducible assumption) | (with_reducible refine below_drewN ?_ _) | (with_reducible refine Below.alloc ?_ ?_ _) | (with_reducible refine Below.drew ?_) | (with_reducible refine Below.setCell ?_ ?_ _) | go_size)))) hG3; have HO3 := Lib.hid hO3; have e3 := Boxed.new w [.string nm, .slice sa n1 ca, .int .i64 rs, .slice sb n2 cb, c] 38 hB3 3 _ rfl; clear hO3 hG3)) | fail)
    obtain ⟨X, hX⟩ : ∃ X, X = P ++ [rs] := ⟨_, rfl⟩
    have HX := Lib.hid (show w3.ownsRow (w.heap.size + 1) 3 1 v3 X.length (iV X) by rw [hX]; exact own_eq2 HO3.out (by simp [HN.out.1]) (by rw [iV_app]; rfl))
    have HXl := Lib.hid (show X.length ≤ 21 by rw [hX, List.length_append, HN.out.1]; simp; omega)
    rw [← hX] at HD
    have hBX := Lib.hid hB3
    clear hX hB2
    go_loopw [3, 4] (fun o jj wr => ∃ k : Nat, k ≤ n2 ∧ jj = .int .i64 k ∧ Hid (wr.ownsRow (w.heap.size + 1) 3 1 o (X.length + k) (iV (X ++ L.take k))) ∧ Hid (Below (w.heap.size + 1) (w.alloc (.cells #[.string nm, .slice sa n1 ca, .int .i64 rs, .slice sb n2 cb, c] 38)) wr)) (fun _ jj _ => n2 - (intOf jj).toNat)
    case atStart => exact ⟨0, by omega, rfl, Lib.hid (by simpa using HX.out), hBX⟩
    case round =>
      clear z2 e2 e3
      obtain ⟨k, hk, rfl, hO, hBw⟩ := hrel
      have z0 : w.heap.size < wr.heap.size := by have := hBw.out.size; simp at this; omega
      have hB0 : Below w.heap.size w wr := Below.trans (by (repeat' (first | (with_reducible exact Below.refl _ _) | (with_reducible assumption) | (with_reducible refine below_drewN ?_ _) | (with_reducible refine Below.alloc ?_ ?_ _) | (with_reducible refine Below.drew ?_) | (with_reducible refine Below.setCell ?_ ?_ _) | go_size))) (hBw.out.mono (by omega))
      have e3 := Boxed.new w [.string nm, .slice sa n1 ca, .int .i64 rs, .slice sb n2 cb, c] 38 hBw.out 3 _ rfl
      by_cases hlt : k < n2
      · obtain ⟨z, hzq⟩ := get_some (L := L) (n := k) (by have := HN.out.2; omega)
        obtain ⟨b3, off3, rfl, hbw3, hg⟩ := ints_at hls (k := k) (lt_of_get hzq)
        obtain ⟨g0, _⟩ := hg k z hzq
        have g0 := (hB0.cell (p := ⟨b3, off3 + k, none⟩) hbw3).trans g0
        have hts := Lib.hid (take_snoc hzq)
        have hXl := HXl.out
        clear hg hzq
        have Hown := Lib.hid (fun W (hW : Below wr.heap.size wr W) => owns_below hO.out hW)
        generalize hna : X.length = na at *
        go_wp2_with (first | (at_builtin; go_loud (refine wpList_append_src rfl (.tmp 24) (.tmp 30) 35 rfl (w.heap.size + 1) 3 i (.int .i64 0) 1 8 Tryz.underlying35 hi hz hsize hby rfl (by omega) _ (na + k) _ rfl (Hown.out _ (by (repeat' (first | (with_reducible exact Below.refl _ _) | (with_reducible assumption) | (with_reducible refine below_drewN ?_ _) | (with_reducible refine Below.alloc ?_ ?_ _) | (with_reducible refine Below.drew ?_) | (with_reducible refine Below.setCell ?_ ?_ _) | go_size)))) _ 1 [.int .i64 z] rfl (src_new _ _ _) rfl (by intro u hu; simp at hu; rw [hu]; rfl) (by unfold maxLen; omega) (by omega) (by simp; omega) ?_; intro v3 w3 hO3 hG3; have hB3 := Lib.hid (grown3 (Below.trans hBw.out (show Below (w.heap.size + 1) wr (wr.alloc _) from (show Below wr.heap.size wr _ by (repeat' (first | (with_reducible exact Below.refl _ _) | (with_reducible assumption) | (with_reducible refine below_drewN ?_ _) | (with_reducible refine Below.alloc ?_ ?_ _) | (with_reducible refine Below.drew ?_) | (with_reducible refine Below.setCell ?_ ?_ _) | go_size))).mono (by omega))) (by simp; omega) (Hown.out _ (by (repeat' (first | (with_reducible exact Below.refl _ _) | (with_reducible assumption) | (with_reducible refine below_drewN ?_ _) | (with_reducible refine Below.alloc ?_ ?_ _) | (with_reducible refine Below.drew ?_) | (with_reducible refine Below.setCell ?_ ?_ _) | go_size)))) hG3); have HO3 := Lib.hid hO3; clear hO3 hG3)) | fail)
        go_roundw
        case rel => exact ⟨k + 1, by omega, by simp, Lib.hid (own_eq2 HO3.out (by omega) (by simp [hts.out, iV])), hB3⟩
        case measure => first | (simp [intOf]; done) | (simp [intOf]; omega)
      · obtain rfl : k = n2 := by omega
        have hrow := Lib.hid (show RowR 1 intR wr _ (slotsL x) from row_of_owns (own_eq2 hO.out (by rw [HD.out, List.length_append, HN.out.2]) (by rw [HD.out, List.take_of_length_le (by have := HN.out.2; omega)])) HI.out)
        go_wp2_with fail
        go_returns
        exact ⟨_, rfl, hrow.out, hB0⟩
end Go.Proofs.YtefejcofmopjfaaGreatDoor
