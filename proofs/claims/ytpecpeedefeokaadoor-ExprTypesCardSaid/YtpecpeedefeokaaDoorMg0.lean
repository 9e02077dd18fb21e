/- Merged texts: DeclC, Boxed, Slots, UnSlots, DeclD, DeclF, DeclG, RowOwn, ChunkC, HeldTill, DeclH, DeclAw, Few, FewP, LawDeclLe, RefHead, RefCheck, Facts, DeclS, SlotsO, DeclSc, RefScope, ExSc, ExR0, ExRM. -/
import Derived.Test.YtpecpeedefeokaaDoorDeclB
import Derived.Test.YtpecpeedefeokaaDoorKeep
import Derived.Test.YtpecpeedefeokaaDoorMoreB
import Derived.Test.YtpecpeedefeokaaDoorOwn
import Derived.Test.YtpecpeedefeokaaDoorPgm
import Derived.LoopTactic
import Derived.WalkKit
import Derived.WalkSpells
import Derived.WalkLawsBesides
import Derived.Deep.QuietTactic
import Derived.BigQuiet
import Derived.WalkSmall
import Derived.IntWalk
import Derived.Deep.Cut
import Derived.Deep.CutRange
import Derived.RegionTactic
import Derived.Test.YtpecpeedefeokaaDoorRow
import Derived.Deep.RegionHeld3
import Derived.Laws.OwnMore
import Derived.Test.YtpecpeedefeokaaDoorRowTwo
import Derived.OwnWalk
import Derived.Test.YtpecpeedefeokaaDoorOwnLow
import Derived.Test.YtpecpeedefeokaaDoorLawExTe
import Derived.Test.YtpecpeedefeokaaDoorExL
/- Layer 17: tables. -/
namespace Go.Proofs.YtpecpeedefeokaaDoor
open Go.RowKit
set_option linter.unusedSimpArgs false
set_option linter.unusedVariables false
end Go.Proofs.YtpecpeedefeokaaDoor

/- What a block that was made for a value holds. -/
namespace Go.Proofs.YtpecpeedefeokaaDoor
open Go.RowKit
def Boxed (W : World) (g : Nat) (L : List Value) : Prop := ∀ i u, L[i]? = some u → W.cell? ⟨g, i, none⟩ = some u
theorem Boxed.new (W : World) (L : List Value) (t : TypeId) {W' : World} (h : Below (W.heap.size + 1) (W.alloc (.cells L.toArray t)) W') : Boxed W' W.heap.size L := fun i u hu =>
  (h.cell (p := ⟨W.heap.size, i, none⟩) (by show W.heap.size < _; omega)).trans (by rw [cell_at rfl]; simpa using hu)
theorem Boxed.keep {W W' : World} {g : Nat} {L : List Value} (c : Boxed W g L) (hb : g < W.heap.size) (h : Below W.heap.size W W') : Boxed W' g L := fun i u hu => (h.cell (p := ⟨g, i, none⟩) hb).trans (c i u hu)
/-- two boxes, one behind the other -/
theorem boxed2 (w : World) (L M : List Value) (t u : TypeId) {W' : World} (h : Below (w.heap.size + 2) ((w.alloc (.cells L.toArray t)).alloc (.cells M.toArray u)) W') : Boxed W' w.heap.size L ∧ Boxed W' (w.heap.size + 1) M ∧ w.heap.size + 1 < W'.heap.size ∧ Below w.heap.size w W' := by
  have e : (w.alloc (.cells L.toArray t)).heap.size = w.heap.size + 1 := by simp
  have hb : Below w.heap.size w ((w.alloc (.cells L.toArray t)).alloc (.cells M.toArray u)) := Below.alloc (Below.alloc (Below.refl _ _) (by omega) _) (by simp) _
  refine ⟨?_, ?_, by have := h.size; simp at this; omega, hb.trans (h.mono (by omega))⟩
  · exact Boxed.new w L t (Below.trans (Below.alloc (Below.refl _ _) (by simp) _) (h.mono (by omega)))
  · have := Boxed.new (w.alloc (.cells L.toArray t)) M u (W' := W') (by rw [e]; exact h)
    rw [e] at this; exact this
end Go.Proofs.YtpecpeedefeokaaDoor

/- Layer 15: a unit's slots, by the answer. -/
namespace Go.Proofs.YtpecpeedefeokaaDoor
open Go.RowKit
set_option linter.unusedSimpArgs false
set_option linter.unusedVariables false
def slotsL (x : Un) : List Int := x.params ++ (if x.result = 0 then [] else [x.result]) ++ x.locals
set_option maxHeartbeats 4000000 in
theorem ref15_Slots (a b c : Value) (x : Un) (w : World) (h : UnAt w a b c x) (hf : fewU x = true) : Calls Tryd.prog 22 #[.agg #[.string ⟨x.name.toArray⟩, a, .int .i64 x.result, b, c]] w fun e w' => ∃ v, e = .returned v ∧ RowR 1 intR w' v (slotsL x) ∧ Below w.heap.size w w' := by
  obtain ⟨_, f1, f2, _⟩ : x.name.length ≤ 300 ∧ x.params.length ≤ 20 ∧ x.locals.length ≤ 1100 ∧ x.code.length ≤ 300 := of_decide_eq_true hf
  obtain ⟨i, hi, hz, hsize, hby⟩ : ∃ i, Tryd.prog.info? 3 = some i ∧ i.zero = some (.int .i64 0) ∧ i.size = 1 ∧ i.bytes = 8 := ⟨(Tryd.prog.info? 3).get!, by kernel_rfl, by kernel_rfl, by kernel_rfl, by kernel_rfl⟩
  have HI := Lib.hid (show ∀ z ∈ slotsL x, I64 z by
    intro z hz
    have hp := row_ints h.ps
    have hl := row_ints h.ls
    have hr := h.r64
    unfold slotsL at hz
    rcases List.mem_append.1 hz with hz | hz
    · rcases List.mem_append.1 hz with hz | hz
      · exact hp z hz
      · by_cases h0 : x.result = 0
        · rw [if_pos h0] at hz; cases hz
        · rw [if_neg h0] at hz
          have : z = x.result := by simpa using hz
          rw [this]; exact hr
    · exact hl z hz)
  have HS1 := Lib.hid (fun W (hb : Below w.heap.size w W) => (src_ints h.ps).below hb)
  have hls := h.ls
  obtain ⟨sa, ca, rfl⟩ := row_get h.ps
  obtain ⟨sb, cb, rfl⟩ := row_get h.ls
  have cp := @cell_past
  have HD := Lib.hid (show slotsL x = x.params ++ (if x.result = 0 then [] else [x.result]) ++ x.locals from rfl)
  clear h hf
  generalize (⟨x.name.toArray⟩ : ByteArray) = nm at *
  generalize x.result = rs at *
  generalize hp : x.params = P at *
  generalize hq : x.locals = L at *
  obtain ⟨n1, hn1⟩ : ∃ n, P.length = n := ⟨_, rfl⟩
  obtain ⟨n2, hn2⟩ : ∃ n, L.length = n := ⟨_, rfl⟩
  have HN := Lib.hid (show P.length = n1 ∧ L.length = n2 from ⟨hn1, hn2⟩)
  rw [hn1] at f1 HS1 ⊢
  rw [hn2] at f2 hls ⊢
  clear hp hq hn1 hn2
  by_cases h0 : rs = 0
  · have q : (rs != 0) = false := by simp [h0]
    rw [if_pos h0, List.append_nil] at HD
    clear h0
    go_enter Tryd.func22, Tryd.ntmps22
    have HE := Lib.hid (owns_empty1 w (.cells #[.string nm, .slice sa n1 ca, .int .i64 rs, .slice sb n2 cb, c] 51) 3 1)
    go_wp2_with (first | (at_builtin; go_loud (refine wpList_append_src rfl (.tmp 5) (.tmp 7) 35 rfl (w.heap.size + 1) 3 i (.int .i64 0) 1 8 Tryd.underlying35 hi hz hsize hby rfl (by omega) _ 0 [] rfl HE.out _ n1 (iV P) rfl (HS1.out _ (by (repeat' (first | (with_reducible exact Below.refl _ _) | (with_reducible assumption) | (with_reducible refine below_drewN ?_ _) | (with_reducible refine Below.alloc ?_ ?_ _) | (with_reducible refine Below.drew ?_) | (with_reducible refine Below.setCell ?_ ?_ _) | go_size)))) (by rw [iV_len, HN.out.1]; omega) (iV_one P) (by unfold maxLen; omega) (by omega) (by simp) ?_; intro v2 w2 hO2 hG2; have hB2 := grown3 (show Below (w.heap.size + 1) (w.alloc (.cells #[.string nm, .slice sa n1 ca, .int .i64 rs, .slice sb n2 cb, c] 51)) _ from by (repeat' (first | (with_reducible exact Below.refl _ _) | (with_reducible assumption) | (with_reducible refine below_drewN ?_ _) | (with_reducible refine Below.alloc ?_ ?_ _) | (with_reducible refine Below.drew ?_) | (with_reducible refine Below.setCell ?_ ?_ _) | go_size))) (by simp) HE.out hG2; have HO2 := Lib.hid hO2; have z2 : w.heap.size < w2.heap.size := (by have := hB2.size; simp at this; omega); have bx := Boxed.new w [.string nm, .slice sa n1 ca, .int .i64 rs, .slice sb n2 cb, c] 51 hB2; have e2 := bx 2 _ rfl; have e3 := bx 3 _ rfl; clear hO2 hG2 bx)) | fail)
    obtain ⟨X, hX⟩ : ∃ X, X = P := ⟨_, rfl⟩
    have HX := Lib.hid (show w2.ownsRow (w.heap.size + 1) 3 1 v2 X.length (iV X) by rw [hX]; exact own_eq2 HO2.out (by rw [HN.out.1]; omega) rfl)
    have HXl := Lib.hid (show X.length ≤ 21 by rw [hX, HN.out.1]; omega)
    rw [← hX] at HD
    have hBX := Lib.hid hB2
    clear hX hB2
    go_loopw [3, 4] (fun o jj wr => ∃ k : Nat, k ≤ n2 ∧ jj = .int .i64 k ∧ Hid (wr.ownsRow (w.heap.size + 1) 3 1 o (X.length + k) (iV (X ++ L.take k))) ∧ Hid (Below (w.heap.size + 1) (w.alloc (.cells #[.string nm, .slice sa n1 ca, .int .i64 rs, .slice sb n2 cb, c] 51)) wr)) (fun _ jj _ => n2 - (intOf jj).toNat)
    case atStart => exact ⟨0, by omega, rfl, Lib.hid (by simpa using HX.out), hBX⟩
    case round =>
      clear z2 e2 e3
      obtain ⟨k, hk, rfl, hO, hBw⟩ := hrel
      have z0 : w.heap.size < wr.heap.size := by have := hBw.out.size; simp at this; omega
      have hB0 : Below w.heap.size w wr := Below.trans (by (repeat' (first | (with_reducible exact Below.refl _ _) | (with_reducible assumption) | (with_reducible refine below_drewN ?_ _) | (with_reducible refine Below.alloc ?_ ?_ _) | (with_reducible refine Below.drew ?_) | (with_reducible refine Below.setCell ?_ ?_ _) | go_size))) (hBw.out.mono (by omega))
      have e3 := Boxed.new w [.string nm, .slice sa n1 ca, .int .i64 rs, .slice sb n2 cb, c] 51 hBw.out 3 _ rfl
      by_cases hlt : k < n2
      · obtain ⟨z, hzq⟩ := get_some (L := L) (n := k) (by have := HN.out.2; omega)
        obtain ⟨b3, off3, rfl, hbw3, hg⟩ := ints_at hls (k := k) (lt_of_get hzq)
        obtain ⟨g0, _⟩ := hg k z hzq
        have g0 := (hB0.cell (p := ⟨b3, off3 + k, none⟩) hbw3).trans g0
        have hts := Lib.hid (take_snoc hzq)
        have hXl := HXl.out
        clear hg hzq
        have Hown := Lib.hid (fun W (hW : Below wr.heap.size wr W) => owns_below hO.out hW)
        generalize hna : X.length = na at *
        go_wp2_with (first | (at_builtin; go_loud (refine wpList_append_src rfl (.tmp 24) (.tmp 30) 35 rfl (w.heap.size + 1) 3 i (.int .i64 0) 1 8 Tryd.underlying35 hi hz hsize hby rfl (by omega) _ (na + k) _ rfl (Hown.out _ (by (repeat' (first | (with_reducible exact Below.refl _ _) | (with_reducible assumption) | (with_reducible refine below_drewN ?_ _) | (with_reducible refine Below.alloc ?_ ?_ _) | (with_reducible refine Below.drew ?_) | (with_reducible refine Below.setCell ?_ ?_ _) | go_size)))) _ 1 [.int .i64 z] rfl (src_new _ _ _) rfl (by intro u hu; simp at hu; rw [hu]; rfl) (by unfold maxLen; omega) (by omega) (by simp; omega) ?_; intro v3 w3 hO3 hG3; have hB3 := Lib.hid (grown3 (Below.trans hBw.out (show Below (w.heap.size + 1) wr (wr.alloc _) from (show Below wr.heap.size wr _ by (repeat' (first | (with_reducible exact Below.refl _ _) | (with_reducible assumption) | (with_reducible refine below_drewN ?_ _) | (with_reducible refine Below.alloc ?_ ?_ _) | (with_reducible refine Below.drew ?_) | (with_reducible refine Below.setCell ?_ ?_ _) | go_size))).mono (by omega))) (by simp; omega) (Hown.out _ (by (repeat' (first | (with_reducible exact Below.refl _ _) | (with_reducible assumption) | (with_reducible refine below_drewN ?_ _) | (with_reducible refine Below.alloc ?_ ?_ _) | (with_reducible refine Below.drew ?_) | (with_reducible refine Below.setCell ?_ ?_ _) | go_size)))) hG3); have HO3 := Lib.hid hO3; clear hO3 hG3)) | fail)
        go_roundw
        case rel => exact ⟨k + 1, by omega, by simp, Lib.hid (own_eq2 HO3.out (by omega) (by simp [hts.out, iV])), hB3⟩
        case measure => first | (simp [intOf]; done) | (simp [intOf]; omega)
      · obtain rfl : k = n2 := by omega
        have hrow := Lib.hid (show RowR 1 intR wr _ (slotsL x) from row_of_owns (own_eq2 hO.out (by rw [HD.out, List.length_append, HN.out.2]) (by rw [HD.out, List.take_of_length_le (by have := HN.out.2; omega)])) HI.out)
        go_wp2_with fail
        go_returns
        exact ⟨_, rfl, hrow.out, hB0⟩
  · have q : (rs != 0) = true := by simpa using h0
    rw [if_neg h0] at HD
    clear h0
    go_enter Tryd.func22, Tryd.ntmps22
    have HE := Lib.hid (owns_empty1 w (.cells #[.string nm, .slice sa n1 ca, .int .i64 rs, .slice sb n2 cb, c] 51) 3 1)
    go_wp2_with (first | (at_builtin; go_loud (refine wpList_append_src rfl (.tmp 5) (.tmp 7) 35 rfl (w.heap.size + 1) 3 i (.int .i64 0) 1 8 Tryd.underlying35 hi hz hsize hby rfl (by omega) _ 0 [] rfl HE.out _ n1 (iV P) rfl (HS1.out _ (by (repeat' (first | (with_reducible exact Below.refl _ _) | (with_reducible assumption) | (with_reducible refine below_drewN ?_ _) | (with_reducible refine Below.alloc ?_ ?_ _) | (with_reducible refine Below.drew ?_) | (with_reducible refine Below.setCell ?_ ?_ _) | go_size)))) (by rw [iV_len, HN.out.1]; omega) (iV_one P) (by unfold maxLen; omega) (by omega) (by simp) ?_; intro v2 w2 hO2 hG2; have hB2 := grown3 (show Below (w.heap.size + 1) (w.alloc (.cells #[.string nm, .slice sa n1 ca, .int .i64 rs, .slice sb n2 cb, c] 51)) _ from by (repeat' (first | (with_reducible exact Below.refl _ _) | (with_reducible assumption) | (with_reducible refine below_drewN ?_ _) | (with_reducible refine Below.alloc ?_ ?_ _) | (with_reducible refine Below.drew ?_) | (with_reducible refine Below.setCell ?_ ?_ _) | go_size))) (by simp) HE.out hG2; have HO2 := Lib.hid hO2; have z2 : w.heap.size < w2.heap.size := (by have := hB2.size; simp at this; omega); have bx := Boxed.new w [.string nm, .slice sa n1 ca, .int .i64 rs, .slice sb n2 cb, c] 51 hB2; have e2 := bx 2 _ rfl; have e3 := bx 3 _ rfl; clear hO2 hG2 bx)) | (at_builtin; go_loud (refine wpList_append_src rfl (.tmp 12) (.tmp 15) 35 rfl (w.heap.size + 1) 3 i (.int .i64 0) 1 8 Tryd.underlying35 hi hz hsize hby rfl (by omega) _ n1 _ rfl (owns_below (own_eq2 HO2.out (Nat.zero_add n1) rfl) (by (repeat' (first | (with_reducible exact Below.refl _ _) | (with_reducible assumption) | (with_reducible refine below_drewN ?_ _) | (with_reducible refine Below.alloc ?_ ?_ _) | (with_reducible refine Below.drew ?_) | (with_reducible refine Below.setCell ?_ ?_ _) | go_size)))) _ 1 [.int .i64 rs] rfl (src_new _ _ _) rfl (by intro u hu; simp at hu; rw [hu]; rfl) (by unfold maxLen; omega) (by omega) (by simp; omega) ?_; intro v3 w3 hO3 hG3; have hB3 := grown3 (Below.trans hB2 (show Below (w.heap.size + 1) w2 (w2.alloc _) from (show Below w2.heap.size w2 _ by (repeat' (first | (with_reducible exact Below.refl _ _) | (with_reducible assumption) | (with_reducible refine below_drewN ?_ _) | (with_reducible refine Below.alloc ?_ ?_ _) | (with_reducible refine Below.drew ?_) | (with_reducible refine Below.setCell ?_ ?_ _) | go_size))).mono (by omega))) (by simp; omega) (owns_below (own_eq2 HO2.out (Nat.zero_add n1) rfl) (by (repeat' (first | (with_reducible exact Below.refl _ _) | (with_reducible assumption) | (with_reducible refine below_drewN ?_ _) | (with_reducible refine Below.alloc ?_ ?_ _) | (with_reducible refine Below.drew ?_) | (with_reducible refine Below.setCell ?_ ?_ _) | go_size)))) hG3; have HO3 := Lib.hid hO3; have e3 := Boxed.new w [.string nm, .slice sa n1 ca, .int .i64 rs, .slice sb n2 cb, c] 51 hB3 3 _ rfl; clear hO3 hG3)) | fail)
    obtain ⟨X, hX⟩ : ∃ X, X = P ++ [rs] := ⟨_, rfl⟩
    have HX := Lib.hid (show w3.ownsRow (w.heap.size + 1) 3 1 v3 X.length (iV X) by rw [hX]; exact own_eq2 HO3.out (by simp [HN.out.1]) (by rw [iV_app]; rfl))
    have HXl := Lib.hid (show X.length ≤ 21 by rw [hX, List.length_append, HN.out.1]; simp; omega)
    rw [← hX] at HD
    have hBX := Lib.hid hB3
    clear hX hB2
    go_loopw [3, 4] (fun o jj wr => ∃ k : Nat, k ≤ n2 ∧ jj = .int .i64 k ∧ Hid (wr.ownsRow (w.heap.size + 1) 3 1 o (X.length + k) (iV (X ++ L.take k))) ∧ Hid (Below (w.heap.size + 1) (w.alloc (.cells #[.string nm, .slice sa n1 ca, .int .i64 rs, .slice sb n2 cb, c] 51)) wr)) (fun _ jj _ => n2 - (intOf jj).toNat)
    case atStart => exact ⟨0, by omega, rfl, Lib.hid (by simpa using HX.out), hBX⟩
    case round =>
      clear z2 e2 e3
      obtain ⟨k, hk, rfl, hO, hBw⟩ := hrel
      have z0 : w.heap.size < wr.heap.size := by have := hBw.out.size; simp at this; omega
      have hB0 : Below w.heap.size w wr := Below.trans (by (repeat' (first | (with_reducible exact Below.refl _ _) | (with_reducible assumption) | (with_reducible refine below_drewN ?_ _) | (with_reducible refine Below.alloc ?_ ?_ _) | (with_reducible refine Below.drew ?_) | (with_reducible refine Below.setCell ?_ ?_ _) | go_size))) (hBw.out.mono (by omega))
      have e3 := Boxed.new w [.string nm, .slice sa n1 ca, .int .i64 rs, .slice sb n2 cb, c] 51 hBw.out 3 _ rfl
      by_cases hlt : k < n2
      · obtain ⟨z, hzq⟩ := get_some (L := L) (n := k) (by have := HN.out.2; omega)
        obtain ⟨b3, off3, rfl, hbw3, hg⟩ := ints_at hls (k := k) (lt_of_get hzq)
        obtain ⟨g0, _⟩ := hg k z hzq
        have g0 := (hB0.cell (p := ⟨b3, off3 + k, none⟩) hbw3).trans g0
        have hts := Lib.hid (take_snoc hzq)
        have hXl := HXl.out
        clear hg hzq
        have Hown := Lib.hid (fun W (hW : Below wr.heap.size wr W) => owns_below hO.out hW)
        generalize hna : X.length = na at *
        go_wp2_with (first | (at_builtin; go_loud (refine wpList_append_src rfl (.tmp 24) (.tmp 30) 35 rfl (w.heap.size + 1) 3 i (.int .i64 0) 1 8 Tryd.underlying35 hi hz hsize hby rfl (by omega) _ (na + k) _ rfl (Hown.out _ (by (repeat' (first | (with_reducible exact Below.refl _ _) | (with_reducible assumption) | (with_reducible refine below_drewN ?_ _) | (with_reducible refine Below.alloc ?_ ?_ _) | (with_reducible refine Below.drew ?_) | (with_reducible refine Below.setCell ?_ ?_ _) | go_size)))) _ 1 [.int .i64 z] rfl (src_new _ _ _) rfl (by intro u hu; simp at hu; rw [hu]; rfl) (by unfold maxLen; omega) (by omega) (by simp; omega) ?_; intro v3 w3 hO3 hG3; have hB3 := Lib.hid (grown3 (Below.trans hBw.out (show Below (w.heap.size + 1) wr (wr.alloc _) from (show Below wr.heap.size wr _ by (repeat' (first | (with_reducible exact Below.refl _ _) | (with_reducible assumption) | (with_reducible refine below_drewN ?_ _) | (with_reducible refine Below.alloc ?_ ?_ _) | (with_reducible refine Below.drew ?_) | (with_reducible refine Below.setCell ?_ ?_ _) | go_size))).mono (by omega))) (by simp; omega) (Hown.out _ (by (repeat' (first | (with_reducible exact Below.refl _ _) | (with_reducible assumption) | (with_reducible refine below_drewN ?_ _) | (with_reducible refine Below.alloc ?_ ?_ _) | (with_reducible refine Below.drew ?_) | (with_reducible refine Below.setCell ?_ ?_ _) | go_size)))) hG3); have HO3 := Lib.hid hO3; clear hO3 hG3)) | fail)
        go_roundw
        case rel => exact ⟨k + 1, by omega, by simp, Lib.hid (own_eq2 HO3.out (by omega) (by simp [hts.out, iV])), hB3⟩
        case measure => first | (simp [intOf]; done) | (simp [intOf]; omega)
      · obtain rfl : k = n2 := by omega
        have hrow := Lib.hid (show RowR 1 intR wr _ (slotsL x) from row_of_owns (own_eq2 hO.out (by rw [HD.out, List.length_append, HN.out.2]) (by rw [HD.out, List.take_of_length_le (by have := HN.out.2; omega)])) HI.out)
        go_wp2_with fail
        go_returns
        exact ⟨_, rfl, hrow.out, hB0⟩
end Go.Proofs.YtpecpeedefeokaaDoor

/- Layer 15: a unit's slots, by the program. -/
namespace Go.Proofs.YtpecpeedefeokaaDoor
open Go.RowKit
set_option linter.unusedSimpArgs false
set_option linter.unusedVariables false
end Go.Proofs.YtpecpeedefeokaaDoor

/- Layer 17: a unit's head. -/
namespace Go.Proofs.YtpecpeedefeokaaDoor
open Go.RowKit
set_option linter.unusedSimpArgs false
set_option linter.unusedVariables false
end Go.Proofs.YtpecpeedefeokaaDoor

/- Layer 17: all units; a program. -/
namespace Go.Proofs.YtpecpeedefeokaaDoor
open Go.RowKit
set_option linter.unusedSimpArgs false
set_option linter.unusedVariables false
end Go.Proofs.YtpecpeedefeokaaDoor

/- Layer 17: a program's declarations. -/
namespace Go.Proofs.YtpecpeedefeokaaDoor
open Go.RowKit
set_option linter.unusedSimpArgs false
set_option linter.unusedVariables false
end Go.Proofs.YtpecpeedefeokaaDoor

/- Rows of the call's own, as what they read as: elements of q cells each. -/
namespace Go.Proofs.YtpecpeedefeokaaDoor
open Go.RowKit
set_option linter.unusedSimpArgs false
set_option linter.unusedVariables false
theorem flat_len {α : Type} {enc : α → List Value} {q : Nat} (h : ∀ x, (enc x).length = q) : ∀ L : List α, (L.flatMap enc).length = L.length * q
  | [] => by simp
  | x :: t => by
    rw [List.flatMap_cons, List.length_append, h x, flat_len h t, List.length_cons, Nat.succ_mul]; omega
theorem flat_get {α : Type} {enc : α → List Value} {q : Nat} (h : ∀ x, (enc x).length = q) : ∀ (L : List α) (i j : Nat) (x : α), L[i]? = some x → j < q → (L.flatMap enc)[i * q + j]? = (enc x)[j]?
  | [], i, j, x, hx, _ => by simp at hx
  | y :: t, i, j, x, hx, hj => by
    rw [List.flatMap_cons]
    cases i with
    | zero =>
      obtain rfl : y = x := by simpa using hx
      rw [Nat.zero_mul, Nat.zero_add, List.getElem?_append_left (by rw [h]; exact hj)]
    | succ i =>
      rw [List.getElem?_append_right (by rw [h, Nat.succ_mul]; omega), h, ← flat_get h t i j x (by simpa using hx) hj]
      congr 1
      rw [Nat.succ_mul]; omega
theorem row_owned {α : Type} {enc : α → List Value} {q : Nat} {R : Rep α} {w : World} {B : Nat} {e : TypeId} {v : Value} {L : List α} (h : ∀ x, (enc x).length = q) (hv : w.ownsRow B e q v L.length (L.flatMap enc)) (hR : ∀ x ∈ L, R w (enc x) x) : RowR q R w v L := by
  obtain ⟨hl, hv⟩ := hv
  rcases hv with ⟨rfl, h0⟩ | ⟨g, cap, cur, rfl, hb, hg, h1, h2, h3, h4⟩
  · exact Or.inl ⟨none, 0, rfl, List.length_eq_zero_iff.1 h0, fun _ => rfl⟩
  · by_cases h0 : L.length = 0
    · exact Or.inl ⟨_, cap, by rw [h0], List.length_eq_zero_iff.1 h0, fun h => by cases h⟩
    · have hlt : g < w.heap.size := by
        by_cases hgl : g < w.heap.size
        · exact hgl
        · rw [Array.getElem?_eq_none (Nat.le_of_not_lt hgl)] at hg; cases hg
      refine Or.inr ⟨g, 0, cap, rfl, by omega, h1, h2, hlt, fun i x hx => ?_⟩
      refine ⟨enc x, h x, fun j u hu => ?_, hR x (List.mem_of_getElem? hx)⟩
      have hj : j < q := by rw [← h x]; exact lt_of_get hu
      have hi := lt_of_get hx
      have h5 := flat_get h L i j x hx hj
      have hij : i * q + j < L.length * q := by
        have : (i + 1) * q ≤ L.length * q := Nat.mul_le_mul_right q hi
        rw [Nat.succ_mul] at this
        omega
      rw [hu, ← h4, List.getElem?_take, if_pos hij] at h5
      unfold World.cell?
      rw [hg]
      simp only [Nat.zero_add]
      simpa using h5
end Go.Proofs.YtpecpeedefeokaaDoor

/- Rows as chunks of cells: what is appended to a row of the call's own, whatever its elements are. -/
namespace Go.Proofs.YtpecpeedefeokaaDoor
open Go.RowKit
set_option linter.unusedSimpArgs false
set_option linter.unusedVariables false
abbrev Chunk (q : Nat) := {c : List Value // c.length = q}
def flatC {q : Nat} (CH : List (Chunk q)) : List Value := CH.flatMap Subtype.val
theorem flatC_len {q : Nat} (CH : List (Chunk q)) : (flatC CH).length = CH.length * q := flat_len (fun x => x.2) CH
theorem flatC_app {q : Nat} (A B : List (Chunk q)) : flatC (A ++ B) = flatC A ++ flatC B := by simp [flatC]
theorem flatC_one {q : Nat} (c : Chunk q) : flatC [c] = c.1 := by simp [flatC]
theorem flatC_at {q : Nat} (CH : List (Chunk q)) {k : Nat} {u : Value} (h : (flatC CH)[k]? = some u) : ∃ i j c, k = i * q + j ∧ j < q ∧ CH[i]? = some c ∧ c.1[j]? = some u := by
  have hk : k < CH.length * q := by rw [← flatC_len]; exact lt_of_get h
  have hq : 0 < q := by
    rcases Nat.eq_zero_or_pos q with rfl | h0
    · simp at hk
    · exact h0
  have hi : k / q < CH.length := Nat.div_lt_of_lt_mul (by rw [Nat.mul_comm]; exact hk)
  obtain ⟨c, hc⟩ := get_some hi
  have hkk : k = k / q * q + k % q := by rw [Nat.mul_comm]; exact (Nat.div_add_mod k q).symm
  have hr : k % q < q := Nat.mod_lt _ hq
  refine ⟨k / q, k % q, c, hkk, hr, hc, ?_⟩
  rw [← flat_get (enc := Subtype.val) (fun x => x.2) CH (k / q) (k % q) c hc hr, ← hkk]
  exact h
theorem row_chunks {α : Type} {q : Nat} {R : Rep α} {w : World} {v : Value} {L : List α} (h : RowR q R w v L) : ∃ CH : List (Chunk q), CH.length = L.length ∧ (∀ (i : Nat) (c : Chunk q) (x : α), CH[i]? = some c → L[i]? = some x → R w c.1 x) ∧ Src w v L.length (flatC CH) := by
  rcases h with ⟨a, cap, rfl, rfl, h⟩ | ⟨b, off, cap, h1, h2, h3, h4, h5, h6⟩
  · refine ⟨[], rfl, fun i c x hc => by simp at hc, ?_⟩
    cases a with
    | none => obtain rfl := h rfl; exact Or.inl ⟨rfl, rfl, rfl⟩
    | some ad => exact Or.inr ⟨ad, cap, rfl, fun j u hu => by simp [flatC] at hu⟩
  · obtain ⟨f, hf⟩ := Classical.axiomOfChoice (r := fun (i : Fin L.length) (C : List Value) => C.length = q ∧ (∀ j u, C[j]? = some u → w.cell? ⟨b, off + i.val * q + j, none⟩ = some u) ∧ R w C L[i]) (fun i => h6 i.val L[i] (by simp))
    refine ⟨List.ofFn (fun i => ⟨f i, (hf i).1⟩), by simp, fun i c x hc hx => ?_, Or.inr ⟨⟨b, off, none⟩, cap, h1, fun k u hu => ?_⟩⟩
    · have hi := lt_of_get hx
      have e1 : c = ⟨f ⟨i, hi⟩, (hf ⟨i, hi⟩).1⟩ := by simpa [hi] using hc.symm
      have e2 : L[(⟨i, hi⟩ : Fin L.length)] = x := by simpa [hi] using hx
      rw [e1, ← e2]
      exact (hf ⟨i, hi⟩).2.2
    · obtain ⟨i, j, c, rfl, hj, hc, hcu⟩ := flatC_at _ hu
      have hi : i < L.length := by have := lt_of_get hc; simpa using this
      have e1 : c = ⟨f ⟨i, hi⟩, (hf ⟨i, hi⟩).1⟩ := by simpa [hi] using hc.symm
      rw [e1] at hcu
      rw [add_at, ← Nat.add_assoc]
      exact (hf ⟨i, hi⟩).2.1 j u hcu
theorem row_conv {α β : Type} {q : Nat} {R : Rep α} {S : Rep β} {w : World} {v : Value} {L : List α} {M : List β} (h : RowR q R w v L) (hl : L.length = M.length) (hR : ∀ (i : Nat) (x : α) (y : β) (cs : List Value), L[i]? = some x → M[i]? = some y → R w cs x → S w cs y) : RowR q S w v M := by
  rcases h with ⟨a, cap, rfl, rfl, h⟩ | ⟨b, off, cap, h1, h2, h3, h4, h5, h6⟩
  · exact Or.inl ⟨a, cap, rfl, List.length_eq_zero_iff.1 hl.symm, h⟩
  · refine Or.inr ⟨b, off, cap, by rw [← hl]; exact h1, by omega, by omega, h4, h5, fun i y hy => ?_⟩
    obtain ⟨x, hx⟩ := get_some (L := L) (n := i) (by have := lt_of_get hy; omega)
    obtain ⟨C, g1, g2, g3⟩ := h6 i x hx
    exact ⟨C, g1, g2, hR i x y C hx hy g3⟩
theorem row_of_chunks {α : Type} {q : Nat} {R : Rep α} {w : World} {B : Nat} {e : TypeId} {v : Value} {n : Nat} {CH : List (Chunk q)} {L : List α} (hv : w.ownsRow B e q v n (flatC CH)) (hn : n = CH.length) (hl : CH.length = L.length) (hR : ∀ (i : Nat) (c : Chunk q) (x : α), CH[i]? = some c → L[i]? = some x → R w c.1 x) : RowR q R w v L := by
  subst hn
  exact row_conv (row_owned (enc := Subtype.val) (R := fun _ cs (c : Chunk q) => cs = c.1) (fun x => x.2) hv (fun _ _ => rfl)) hl (fun i x y cs hx hy e => by rw [e]; exact hR i x y hx hy)
theorem chunks_one {q : Nat} {CH : List (Chunk q)} (h : ∀ (i : Nat) (c : Chunk q), CH[i]? = some c → ∀ u ∈ c.1, u.oneCell' = true) : ∀ u ∈ flatC CH, u.oneCell' = true := by
  intro u hu
  obtain ⟨c, hc, hu⟩ := List.mem_flatMap.1 hu
  obtain ⟨i, hi, rfl⟩ := List.getElem_of_mem hc
  exact h i _ (by simp [hi]) u hu
theorem own_ne_type {w : World} {B : Nat} {e t : TypeId} {q n g : Nat} {u : Value} {xs : List Value} {C : Array Value} {fr : Nat × Nat} (h : w.ownsRow B e q u n xs) (hg : w.heap[g]? = some (.cells C t fr)) (hne : e ≠ t) : u.ownBlock ≠ some g := by
  intro hu
  rcases h.2 with ⟨h0, _⟩ | ⟨b, cap, cur, h0, _, h1, _⟩
  · rw [h0] at hu; simp [Value.ownBlock] at hu
  · rw [h0] at hu
    have : b = g := by simpa [Value.ownBlock] using hu
    subst this
    rw [hg] at h1
    simp at h1
    exact hne h1.2.1.symm
end Go.Proofs.YtpecpeedefeokaaDoor

/- A region that draws its order: a condition on the world that hangs on what has been carried out: loads may be taken first, of cells that a store of the same region writes later. -/
namespace Go.Proofs.YtpecpeedefeokaaDoor
open Go.RowKit
section
variable {P : Program} {ops : Array Oper} {Q : Exit → Act → World → Prop} {md : Region.Mode} {S : Array Bool → World → Prop}
/-- whatever comes up next; S holds behind each operation, of what has come up by then -/
def wpTill (P : Program) (md : Region.Mode) (ops : Array Oper) (Q : Exit → Act → World → Prop) (S : Array Bool → World → Prop) : Nat → Array Bool → Act → World → Prop
  | 0, L, a, w => Region.ready md ops L = [] ∧ Q .normal a w
  | n + 1, L, a, w => (Region.ready md ops L = [] → Q .normal a w) ∧
    ∀ i ∈ Region.ready md ops L, wpOp P ops Q i (fun b v => S (L.setIfInBounds i true) v ∧ wpTill P md ops Q S n (L.setIfInBounds i true) b v) a w
theorem till_any : ∀ (n : Nat) (L : Array Bool) (a : Act) (w : World), wpTill P md ops Q S n L a w → wpAny P md ops Q n L a w
  | 0, _, _, _, h => h
  | n + 1, _, _, _, h => ⟨h.1, fun i hi => wpOp_mono (fun b v k => till_any n _ b v k.2) (h.2 i hi)⟩
theorem till_first {i z : Nat} {oi : Oper} {u : Value} {T : World → Prop} (hi : ops[i]? = some oi) (hsel : ∀ (j : Nat) (o : Oper) cs b, ops[j]? = some o → o.op ≠ .select cs b)
    (hQ : ∀ c a w, Q (.panic c) (a.put oi.dst u) w → Q (.panic c) a w) (hz : ∀ oz, ops[z]? = some oz → ∃ e ∈ oz.after, Region.binds md e = true ∧ e.on = i) (hiz : i ≠ z)
    (hT : ∀ L v, L.getD z true = false → S L v → T v) (hS2 : ∀ L v, S (L.setIfInBounds i true) v ↔ S L v) :
    ∀ (n : Nat) (L : Array Bool) (a : Act) (w : World),
      (∀ j oj, ops[j]? = some oj → j ≠ i → L.getD j true = false → (∀ e ∈ oj.after, Region.binds md e = true → e.on ≠ i) → oi.apart ops oj = true) →
      i ∈ Region.ready md ops L → YieldsIf P ops T oi u a → L.getD z true = false → S L w →
      wpTill P md ops Q S n (L.setIfInBounds i true) (a.put oi.dst u) w → wpTill P md ops Q S (n + 1) L a w := by
  intro n
  induction n with
  | zero =>
    intro L a w _ hr hy hL hS H
    refine ⟨fun h => (by rw [h] at hr; cases hr), fun j hj => ?_⟩
    by_cases hji : j = i
    · subst hji; exact hy.wpOp hi (hT L w hL hS) ⟨(hS2 L w).2 hS, H⟩
    · have := ready_mono hj hji
      rw [H.1] at this
      cases this
  | succ n ih =>
    intro L a w hfree hr hy hL hS H
    refine ⟨fun h => (by rw [h] at hr; cases hr), fun j hj => ?_⟩
    by_cases hji : j = i
    · subst hji; exact hy.wpOp hi (hT L w hL hS) ⟨(hS2 L w).2 hS, H⟩
    · have hK := H.2 j (ready_mono hj hji)
      obtain ⟨hun, oj, hoj, hall⟩ := mem_ready.1 hj
      have hiun := (mem_ready.1 hr).1
      have hwait : ∀ e ∈ oj.after, Region.binds md e = true → e.on ≠ i := fun e he hb heq => by
        have h1 := hall e he hb
        rw [heq] at h1
        rcases Nat.lt_or_ge i L.size with h' | h'
        · simp [h'] at hiun h1; rw [hiun] at h1; cases h1
        · simp [Array.getElem?_eq_none h'] at h1
      have hjz : j ≠ z := by
        rintro rfl
        obtain ⟨e, he, hb, heq⟩ := hz oj hoj
        exact hwait e he hb heq
      have h2 := wpOp_putIf hoj (hfree j oj hoj hji hun hwait) (fun cs b => hsel i oi cs b hi) (fun cs b => hsel j oj cs b hoj) hQ hy hK
      refine wpOp_mono (fun b v k => ?_) h2
      have hSv : S (L.setIfInBounds j true) v := (hS2 _ v).1 (by
        have := k.2.1
        rw [Array.setIfInBounds_comm _ _ (Ne.symm hji)] at this
        exact this)
      have hzL : (L.setIfInBounds j true).getD z true = false := by rw [getD_set_ne true hjz]; exact hL
      refine ⟨hSv, ih (L.setIfInBounds j true) b v (fun k' ok hk hki hu hno => hfree k' ok hk hki (by
          by_cases hjk : j = k'
          · subst hjk; exact hun
          · rw [getD_set_ne true hjk] at hu; exact hu) hno) (ready_mono hr (Ne.symm hji)) k.1 hzL hSv ?_⟩
      rw [Array.setIfInBounds_comm _ _ hji]
      exact k.2.2
/-- does number z wait for number i? -/
def waits (md : Region.Mode) (ops : Array Oper) (z i : Nat) : Bool := match ops[z]? with
  | some oz => oz.after.any fun e => Region.binds md e && e.on == i
  | none => true
theorem waits_spec {z i : Nat} (h : waits md ops z i = true) : ∀ oz, ops[z]? = some oz → ∃ e ∈ oz.after, Region.binds md e = true ∧ e.on = i := by
  intro oz ho
  unfold waits at h
  rw [ho] at h
  simp only [Array.any_eq_true, Bool.and_eq_true, beq_iff_eq] at h
  obtain ⟨k, hk, h1, h2⟩ := h
  exact ⟨_, Array.getElem_mem hk, h1, h2⟩
theorem till_take (z : Nat) (T : World → Prop) {i : Nat} {oi : Oper} {u : Value} {n : Nat} {L : Array Bool} {a : Act} {w : World} (hi : ops[i]? = some oi)
    (hs : Region.noSelect ops = true) (hf : Region.free md ops L i = true) (hr : (Region.ready md ops L).contains i = true) (hz : waits md ops z i = true) (hL : L.getD z true = false) (hiz : i ≠ z)
    (hT : ∀ L v, L.getD z true = false → S L v → T v) (hS2 : ∀ L v, S (L.setIfInBounds i true) v ↔ S L v)
    (hQ : ∀ c a w, Q (.panic c) (a.put oi.dst u) w → Q (.panic c) a w) (hy : YieldsIf P ops T oi u a) (hS : S L w)
    (h : S (L.setIfInBounds i true) w → wpTill P md ops Q S n (L.setIfInBounds i true) (a.put oi.dst u) w) : wpTill P md ops Q S (n + 1) L a w :=
  till_first hi (Region.noSelect_spec hs) hQ (waits_spec hz) hiz hT hS2 n L a w (Region.free_spec hi hf) (by simpa using hr) hy hL hS (h ((hS2 L w).2 hS))
/-- one alone may come up next -/
theorem till_one {i : Nat} {o : Oper} {n : Nat} {L : Array Bool} {a : Act} {w : World} (hr : Region.ready md ops L = [i]) (ho : ops[i]? = some o)
    (h : ∀ K' : Act → World → Prop, Shut (∀ b v, S (L.setIfInBounds i true) v → (S (L.setIfInBounds i true) v → wpTill P md ops Q S n (L.setIfInBounds i true) b v) → K' b v) →
      if Region.wanted o (yielded ops a.tmps) = true then Oper.wp P o a w K' Q else K' (a.put o.dst undef) w) : wpTill P md ops Q S (n + 1) L a w := by
  refine ⟨fun h0 => (by rw [hr] at h0; cases h0), fun j hj => ?_⟩
  rw [hr] at hj
  obtain rfl := List.mem_singleton.1 hj
  exact wpOp_step ho fun K' hK => h K' fun b v hS hW => hK b v ⟨hS, hW hS⟩
theorem till_done {L : Array Bool} {a : Act} {w : World} (hr : Region.ready md ops L = []) (h : Q .normal a w) : ∀ n, wpTill P md ops Q S n L a w
  | 0 => ⟨hr, h⟩
  | _ + 1 => ⟨fun _ => h, by rw [hr]; simp⟩
theorem wp_region_till {id : Nat} {a : Act} {w : World} (hm : P.follows .mixedOrders = true) (hS : S (Array.replicate ops.size false) w.drew)
    (h : S (Array.replicate ops.size false) w.drew → wpTill P .any ops Q S ops.size (Array.replicate ops.size false) a w.drew) : (Code.region id ops true).wp P Q a w :=
  wp_region_any hm (till_any _ _ _ _ (h hS))
end
end Go.Proofs.YtpecpeedefeokaaDoor

/- Layer 17: copies; what units take, and tell. -/
namespace Go.Proofs.YtpecpeedefeokaaDoor
open Go.RowKit
set_option linter.unusedSimpArgs false
set_option linter.unusedVariables false
def sigR : Rep (List Int × Int) := fun w cs s => ∃ a, cs = [a, .int .i64 s.2] ∧ RowR 1 intR w a s.1
theorem sigR_stable : Stable sigR := fun _ _ _ _ ⟨a, h1, h2⟩ hb => ⟨a, h1, h2.below intR_stable hb⟩
def sigC (U : List Value) (us : List Un) : List (Chunk 2) := List.zipWith (fun u (x : Un) => ⟨[u, .int .i64 x.result], rfl⟩) U us
theorem sigC_snoc (U : List Value) (us : List Un) (u : Value) (x : Un) (h : U.length = us.length) : flatC (sigC (U ++ [u]) (us ++ [x])) = flatC (sigC U us) ++ [u, .int .i64 x.result] := by
  unfold sigC
  rw [List.zipWith_append h, flatC_app]
  simp [flatC]
theorem sigs_row {w : World} {B C : Nat} {U : List Value} {us : List Un} {v : Value} {n : Nat} (hn : n = us.length) (hR : OwnRows B 3 w U (us.map Un.params)) (hO : w.ownsRow C 54 2 v n (flatC (sigC U us))) (hI : ∀ x ∈ us, ∀ z ∈ x.params, I64 z) : RowR 2 sigR w v (us.map fun x => (x.params, x.result)) := by
  have hlen : U.length = us.length := by have := hR.len; simpa using this
  have hcl : (sigC U us).length = us.length := by simp [sigC, hlen]
  refine row_of_chunks hO (by rw [hcl, hn]) (by simp [hcl]) (fun i c y hc hy => ?_)
  rw [List.getElem?_map] at hy
  obtain ⟨x, hx, rfl⟩ := Option.map_eq_some_iff.1 hy
  obtain ⟨u, hu⟩ := get_some (L := U) (n := i) (by rw [hlen]; exact lt_of_get hx)
  have hcc : c = ⟨[u, .int .i64 x.result], rfl⟩ := by
    unfold sigC at hc
    rw [List.getElem?_zipWith, hu, hx] at hc
    injection hc with hc
    exact hc.symm
  subst hcc
  exact ⟨u, rfl, row_of_owns (hR.row i u x.params hu (by rw [List.getElem?_map, hx]; rfl)) (hI x (List.mem_of_getElem? hx))⟩
/-- what units take and tell, in rows of the call's own -/
def SigsO (B : Nat) (w : World) (v : Value) (us : List Un) : Prop := ∃ U, OwnRows B 3 w U (us.map Un.params) ∧ w.ownsRow B 54 2 v us.length (flatC (sigC U us))
theorem units_int {w : World} {a : Option Addr} {n c : Nat} {us : List Un} (hv : RowR 5 unitR w (.slice a n c) us) (x : Un) (hx : x ∈ us) : ∀ z ∈ x.params, I64 z := by
  obtain ⟨k, hk, rfl⟩ := List.getElem_of_mem hx
  obtain ⟨_, _, _, _, hc⟩ := unit_at hv hk
  obtain ⟨_, _, _, _, _, _, _, _, hU⟩ := hc k us[k] (by simp [hk])
  exact row_ints hU.ps
end Go.Proofs.YtpecpeedefeokaaDoor

/- Layer 17: the program answers; shorter lists. -/
namespace Go.Proofs.YtpecpeedefeokaaDoor
open Go.RowKit
set_option linter.unusedSimpArgs false
set_option linter.unusedVariables false
def un0 : Un := ⟨[], [], 0, [], []⟩
def un34 : Un := ⟨[], [], 0, [], [(34, 0, 0)]⟩
def pr34 : Pr := ⟨[], [], [], [un34]⟩
def prNo : Pr := ⟨[], [], [], []⟩
end Go.Proofs.YtpecpeedefeokaaDoor

/- Whether a program's lists are short. -/
namespace Go.Proofs.YtpecpeedefeokaaDoor
open Go.RowKit
set_option linter.unusedSimpArgs false
set_option linter.unusedVariables false
set_option maxHeartbeats 2000000 in
theorem law15_Few (a b c : Value) (x : Un) (w : World) (h : UnAt w a b c x) : Calls Tryd.prog 20 #[.agg #[.string ⟨x.name.toArray⟩, a, .int .i64 x.result, b, c]] w fun e w' => e = .returned (.bool (fewU x)) ∧ Below w.heap.size w w' := by
  have l1 := h.ps.len
  have l2 := h.ls.len
  have l3 := h.cs.len
  have l0 : x.name.length ≤ 9223372036854775807 := h.ns
  obtain ⟨sa, ca, rfl⟩ := row_get h.ps
  obtain ⟨sb, cb, rfl⟩ := row_get h.ls
  obtain ⟨sc, cc, rfl⟩ := row_get h.cs
  have cp := @cell_past
  have HD := Lib.hid (show fewU x = decide (x.name.length ≤ 300 ∧ x.params.length ≤ 20 ∧ x.locals.length ≤ 1100 ∧ x.code.length ≤ 300) from rfl)
  clear h
  have hsz : (⟨x.name.toArray⟩ : ByteArray).size = x.name.length := by simp [ByteArray.size]
  generalize (⟨x.name.toArray⟩ : ByteArray) = nm at *
  generalize x.name.length = n0 at *
  generalize x.params.length = n1 at *
  generalize x.locals.length = n2 at *
  generalize x.code.length = n3 at *
  by_cases h0 : n0 ≤ 300
  · have q0 : ((n0 : Int) ≤ 300) = True := eq_true (by omega)
    by_cases h1 : n1 ≤ 20
    · have q1 : ((n1 : Int) ≤ 20) = True := eq_true (by omega)
      by_cases h2 : n2 ≤ 1100
      · have q2 : ((n2 : Int) ≤ 1100) = True := eq_true (by omega)
        by_cases h3 : n3 ≤ 300
        · have q3 : ((n3 : Int) ≤ 300) = True := eq_true (by omega)
          have hs := Lib.hid (HD.out.trans (decide_eq_true ⟨h0, h1, h2, h3⟩))
          clear h0 h1 h2 h3
          go_enter Tryd.func20, Tryd.ntmps20
          go_wp2_with fail
          go_ret
          exact ⟨by rw [hs.out]; rfl, by (repeat' (first | (with_reducible exact Below.refl _ _) | (with_reducible assumption) | (with_reducible refine below_drewN ?_ _) | (with_reducible refine Below.alloc ?_ ?_ _) | (with_reducible refine Below.drew ?_) | (with_reducible refine Below.setCell ?_ ?_ _) | go_size))⟩
        · have q3 : ((n3 : Int) ≤ 300) = False := eq_false (by omega)
          have hs := Lib.hid (HD.out.trans (decide_eq_false (fun g => h3 g.2.2.2)))
          clear h0 h1 h2 h3
          go_enter Tryd.func20, Tryd.ntmps20
          go_wp2_with fail
          go_ret
          exact ⟨by rw [hs.out]; rfl, by (repeat' (first | (with_reducible exact Below.refl _ _) | (with_reducible assumption) | (with_reducible refine below_drewN ?_ _) | (with_reducible refine Below.alloc ?_ ?_ _) | (with_reducible refine Below.drew ?_) | (with_reducible refine Below.setCell ?_ ?_ _) | go_size))⟩
      · have q2 : ((n2 : Int) ≤ 1100) = False := eq_false (by omega)
        have hs := Lib.hid (HD.out.trans (decide_eq_false (fun g => h2 g.2.2.1)))
        clear h0 h1 h2
        go_enter Tryd.func20, Tryd.ntmps20
        go_wp2_with fail
        go_ret
        exact ⟨by rw [hs.out]; rfl, by (repeat' (first | (with_reducible exact Below.refl _ _) | (with_reducible assumption) | (with_reducible refine below_drewN ?_ _) | (with_reducible refine Below.alloc ?_ ?_ _) | (with_reducible refine Below.drew ?_) | (with_reducible refine Below.setCell ?_ ?_ _) | go_size))⟩
    · have q1 : ((n1 : Int) ≤ 20) = False := eq_false (by omega)
      have hs := Lib.hid (HD.out.trans (decide_eq_false (fun g => h1 g.2.1)))
      clear h0 h1
      go_enter Tryd.func20, Tryd.ntmps20
      go_wp2_with fail
      go_ret
      exact ⟨by rw [hs.out]; rfl, by (repeat' (first | (with_reducible exact Below.refl _ _) | (with_reducible assumption) | (with_reducible refine below_drewN ?_ _) | (with_reducible refine Below.alloc ?_ ?_ _) | (with_reducible refine Below.drew ?_) | (with_reducible refine Below.setCell ?_ ?_ _) | go_size))⟩
  · have q0 : ((n0 : Int) ≤ 300) = False := eq_false (by omega)
    have hs := Lib.hid (HD.out.trans (decide_eq_false (fun g => h0 g.1)))
    clear h0
    go_enter Tryd.func20, Tryd.ntmps20
    go_wp2_with fail
    go_ret
    exact ⟨by rw [hs.out]; rfl, by (repeat' (first | (with_reducible exact Below.refl _ _) | (with_reducible assumption) | (with_reducible refine below_drewN ?_ _) | (with_reducible refine Below.alloc ?_ ?_ _) | (with_reducible refine Below.drew ?_) | (with_reducible refine Below.setCell ?_ ?_ _) | go_size))⟩
end Go.Proofs.YtpecpeedefeokaaDoor

/- Whether a program's lists are short: all of it. -/
namespace Go.Proofs.YtpecpeedefeokaaDoor
open Go.RowKit
set_option linter.unusedSimpArgs false
set_option linter.unusedVariables false
set_option maxHeartbeats 4000000 in
theorem law16_Few (vc vv vb vu : Value) (p : Pr) (w : World) (h : PrAt w vc vv vb vu p) : Calls Tryd.prog 6 #[.agg #[vc, vv, vb, vu]] w fun e w' => e = .returned (.bool (fewP p)) ∧ Below w.heap.size w w' := by
  have l0 := h.cs.len
  have l1 := h.vs.len
  have l2 := h.bs.len
  have l3 := h.us.len
  have hv := h.vs
  have hb := h.bs
  have hu := h.us
  obtain ⟨s0, t0, rfl⟩ := row_get h.cs
  obtain ⟨s1, t1, rfl⟩ := row_get h.vs
  obtain ⟨s2, t2, rfl⟩ := row_get h.bs
  obtain ⟨s3, t3, rfl⟩ := row_get h.us
  have cp := @cell_past
  have HD := Lib.hid (show fewP p = decide ((p.consts.length ≤ 60 ∧ p.vars.length ≤ 70 ∧ p.blocks.length ≤ 40 ∧ p.units.length ≤ 10) ∧ (∀ x ∈ p.vars, x.name.length ≤ 300) ∧ (∀ x ∈ p.blocks, x.name.length ≤ 300) ∧ ∀ x ∈ p.units, fewU x = true) from rfl)
  clear h
  obtain ⟨n0, e0⟩ : ∃ n, p.consts.length = n := ⟨_, rfl⟩
  obtain ⟨n1, e1⟩ : ∃ n, p.vars.length = n := ⟨_, rfl⟩
  obtain ⟨n2, e2⟩ : ∃ n, p.blocks.length = n := ⟨_, rfl⟩
  obtain ⟨n3, e3⟩ : ∃ n, p.units.length = n := ⟨_, rfl⟩
  rw [e0] at l0 HD ⊢
  rw [e1] at l1 hv HD ⊢
  rw [e2] at l2 hb HD ⊢
  rw [e3] at l3 hu HD ⊢
  have HE := Lib.hid (show p.vars.length = n1 ∧ p.blocks.length = n2 ∧ p.units.length = n3 from ⟨e1, e2, e3⟩)
  clear e0 e1 e2 e3
  by_cases h0 : 60 < n0
  · have q0 : (60 < (n0 : Int)) = True := eq_true (by omega)
    have hs := Lib.hid (HD.out.trans (decide_eq_false (fun g => by omega)))
    clear h0 hv hb hu
    go_enter Tryd.func6, Tryd.ntmps6
    go_wp2_with fail
    go_ret
    exact ⟨by rw [hs.out]; rfl, by (repeat' (first | (with_reducible exact Below.refl _ _) | (with_reducible assumption) | (with_reducible refine below_drewN ?_ _) | (with_reducible refine Below.alloc ?_ ?_ _) | (with_reducible refine Below.drew ?_) | (with_reducible refine Below.setCell ?_ ?_ _) | go_size))⟩
  have q0 : (60 < (n0 : Int)) = False := eq_false (by omega)
  by_cases h1 : 70 < n1
  · have q1 : (70 < (n1 : Int)) = True := eq_true (by omega)
    have hs := Lib.hid (HD.out.trans (decide_eq_false (fun g => by omega)))
    clear h0 h1 hv hb hu
    go_enter Tryd.func6, Tryd.ntmps6
    go_wp2_with fail
    go_ret
    exact ⟨by rw [hs.out]; rfl, by (repeat' (first | (with_reducible exact Below.refl _ _) | (with_reducible assumption) | (with_reducible refine below_drewN ?_ _) | (with_reducible refine Below.alloc ?_ ?_ _) | (with_reducible refine Below.drew ?_) | (with_reducible refine Below.setCell ?_ ?_ _) | go_size))⟩
  have q1 : (70 < (n1 : Int)) = False := eq_false (by omega)
  by_cases h2 : 40 < n2
  · have q2 : (40 < (n2 : Int)) = True := eq_true (by omega)
    have hs := Lib.hid (HD.out.trans (decide_eq_false (fun g => by omega)))
    clear h0 h1 h2 hv hb hu
    go_enter Tryd.func6, Tryd.ntmps6
    go_wp2_with fail
    go_ret
    exact ⟨by rw [hs.out]; rfl, by (repeat' (first | (with_reducible exact Below.refl _ _) | (with_reducible assumption) | (with_reducible refine below_drewN ?_ _) | (with_reducible refine Below.alloc ?_ ?_ _) | (with_reducible refine Below.drew ?_) | (with_reducible refine Below.setCell ?_ ?_ _) | go_size))⟩
  have q2 : (40 < (n2 : Int)) = False := eq_false (by omega)
  by_cases h3 : 10 < n3
  · have q3 : (10 < (n3 : Int)) = True := eq_true (by omega)
    have hs := Lib.hid (HD.out.trans (decide_eq_false (fun g => by omega)))
    clear h0 h1 h2 h3 hv hb hu
    go_enter Tryd.func6, Tryd.ntmps6
    go_wp2_with fail
    go_ret
    exact ⟨by rw [hs.out]; rfl, by (repeat' (first | (with_reducible exact Below.refl _ _) | (with_reducible assumption) | (with_reducible refine below_drewN ?_ _) | (with_reducible refine Below.alloc ?_ ?_ _) | (with_reducible refine Below.drew ?_) | (with_reducible refine Below.setCell ?_ ?_ _) | go_size))⟩
  have q3 : (10 < (n3 : Int)) = False := eq_false (by omega)
  have HY := Lib.hid (fun (g1 : ∀ x ∈ p.vars, x.name.length ≤ 300) (g2 : ∀ x ∈ p.blocks, x.name.length ≤ 300) (g3 : ∀ x ∈ p.units, fewU x = true) => HD.out.trans (decide_eq_true ⟨by omega, g1, g2, g3⟩))
  have HV := Lib.hid (fun (x : Vr) (hx : x ∈ p.vars) (g : 300 < x.name.length) => HD.out.trans (decide_eq_false (fun q => by have := q.2.1 x hx; omega)))
  have HB := Lib.hid (fun (x : Bk) (hx : x ∈ p.blocks) (g : 300 < x.name.length) => HD.out.trans (decide_eq_false (fun q => by have := q.2.2.1 x hx; omega)))
  have HU := Lib.hid (fun (x : Un) (hx : x ∈ p.units) (g : fewU x = false) => HD.out.trans (decide_eq_false (fun q => by have := q.2.2.2 x hx; rw [g] at this; cases this)))
  clear HD h0 h1 h2 h3
  have mc := @more_cell
  have mf := @more_frozen
  have ms := @more_set
  have md := more_drewN
  have mm := more_more
  go_enter Tryd.func6, Tryd.ntmps6
  go_wp2_with fail
  go_loopw [3] (fun j wr => ∃ k : Nat, k ≤ n1 ∧ j = .int .i64 k ∧ Hid (∀ x ∈ p.vars.take k, x.name.length ≤ 300) ∧ wr = w.alloc (.cells #[.slice s0 n0 t0, .slice s1 n1 t1, .slice s2 n2 t2, .slice s3 n3 t3] 27)) (fun j _ => n1 - (intOf j).toNat)
  case atStart => exact ⟨0, by omega, rfl, Lib.hid (by simp), rfl⟩
  case round =>
    obtain ⟨k, hk, rfl, hall, rfl⟩ := hrel
    by_cases hlt : k < n1
    · obtain ⟨x, hx⟩ := get_some (L := p.vars) (n := k) (by have := HE.out.1; omega)
      obtain ⟨b, off, rfl, hbw, hc⟩ := var_at hv (k := k) (lt_of_get hx)
      obtain ⟨c0, _, _, _, _, hz, _⟩ := hc k x hx
      have hz : x.name.length ≤ 9223372036854775807 := hz
      have hsz : (⟨x.name.toArray⟩ : ByteArray).size = x.name.length := by simp [ByteArray.size]
      have HX := Lib.hid hx
      clear hc hx
      generalize (⟨x.name.toArray⟩ : ByteArray) = nm at *
      by_cases hl : 300 < x.name.length
      · have hs := Lib.hid (HV.out x (List.mem_of_getElem? HX.out) hl)
        generalize x.name.length = nl at *
        have q4 : (300 < (nl : Int)) = True := eq_true (by omega)
        clear hall hv hb hu
        go_wp2_with fail
        go_ret
        exact ⟨by rw [hs.out]; rfl, by (repeat' (first | (with_reducible exact Below.refl _ _) | (with_reducible assumption) | (with_reducible refine below_drewN ?_ _) | (with_reducible refine Below.alloc ?_ ?_ _) | (with_reducible refine Below.drew ?_) | (with_reducible refine Below.setCell ?_ ?_ _) | go_size))⟩
      · have hs := Lib.hid (show ∀ m ∈ p.vars.take (k + 1), m.name.length ≤ 300 by
          intro m hm
          rw [take_snoc HX.out] at hm
          rcases List.mem_append.1 hm with hm | hm
          · exact hall.out m hm
          · rw [List.mem_singleton.1 hm]; omega)
        generalize x.name.length = nl at *
        have q4 : (300 < (nl : Int)) = False := eq_false (by omega)
        clear hall
        go_wp2_with fail
        go_roundw
        case rel => exact ⟨k + 1, by omega, by simp, hs, trivial⟩
        case measure => first | (simp [intOf]; done) | (simp [intOf]; omega)
    · obtain rfl : k = n1 := by omega
      have H1 := Lib.hid (show ∀ x ∈ p.vars, x.name.length ≤ 300 by have := hall.out; rw [List.take_of_length_le (by have := HE.out.1; omega)] at this; exact this)
      clear hall hv
      go_wp2_with fail
      go_loopw [4] (fun j wr => ∃ q : Nat, q ≤ n2 ∧ j = .int .i64 q ∧ Hid (∀ x ∈ p.blocks.take q, x.name.length ≤ 300) ∧ wr = w.alloc (.cells #[.slice s0 n0 t0, .slice s1 k t1, .slice s2 n2 t2, .slice s3 n3 t3] 27)) (fun j _ => n2 - (intOf j).toNat)
      case atStart => exact ⟨0, by omega, rfl, Lib.hid (by simp), rfl⟩
      case round =>
        obtain ⟨q, hq, rfl, hall, rfl⟩ := hrel
        by_cases hlq : q < n2
        · obtain ⟨x, hx⟩ := get_some (L := p.blocks) (n := q) (by have := HE.out.2.1; omega)
          obtain ⟨b, off, rfl, hbw, hc⟩ := blk_at hb (k := q) (lt_of_get hx)
          obtain ⟨c0, _, hz, _⟩ := hc q x hx
          have hz : x.name.length ≤ 9223372036854775807 := hz
          have hsz : (⟨x.name.toArray⟩ : ByteArray).size = x.name.length := by simp [ByteArray.size]
          have HX := Lib.hid hx
          clear hc hx
          generalize (⟨x.name.toArray⟩ : ByteArray) = nm at *
          by_cases hl : 300 < x.name.length
          · have hs := Lib.hid (HB.out x (List.mem_of_getElem? HX.out) hl)
            generalize x.name.length = nl at *
            have q4 : (300 < (nl : Int)) = True := eq_true (by omega)
            clear hall hb hu
            go_wp2_with fail
            go_ret
            exact ⟨by rw [hs.out]; rfl, by (repeat' (first | (with_reducible exact Below.refl _ _) | (with_reducible assumption) | (with_reducible refine below_drewN ?_ _) | (with_reducible refine Below.alloc ?_ ?_ _) | (with_reducible refine Below.drew ?_) | (with_reducible refine Below.setCell ?_ ?_ _) | go_size))⟩
          · have hs := Lib.hid (show ∀ m ∈ p.blocks.take (q + 1), m.name.length ≤ 300 by
              intro m hm
              rw [take_snoc HX.out] at hm
              rcases List.mem_append.1 hm with hm | hm
              · exact hall.out m hm
              · rw [List.mem_singleton.1 hm]; omega)
            generalize x.name.length = nl at *
            have q4 : (300 < (nl : Int)) = False := eq_false (by omega)
            clear hall
            go_wp2_with fail
            go_roundw
            case rel => exact ⟨q + 1, by omega, by simp, hs, trivial⟩
            case measure => first | (simp [intOf]; done) | (simp [intOf]; omega)
        · obtain rfl : q = n2 := by omega
          have H2 := Lib.hid (show ∀ x ∈ p.blocks, x.name.length ≤ 300 by have := hall.out; rw [List.take_of_length_le (by have := HE.out.2.1; omega)] at this; exact this)
          clear hall hb
          go_wp2_with fail
          go_loopw [5] (fun j wr => ∃ (i : Nat) (l : Array Obj) (d : Nat), i ≤ n3 ∧ j = .int .i64 i ∧ Hid (∀ x ∈ p.units.take i, fewU x = true) ∧ wr = wmore (w.alloc (.cells #[.slice s0 n0 t0, .slice s1 k t1, .slice s2 q t2, .slice s3 n3 t3] 27)) l d) (fun j _ => n3 - (intOf j).toNat)
          case atStart => exact ⟨0, #[], _, by omega, rfl, Lib.hid (by simp), more_start _⟩
          case round =>
            obtain ⟨i, l, d, hi, rfl, hall, rfl⟩ := hrel
            by_cases hli : i < n3
            · have hB : Below w.heap.size w (wmore (w.alloc (.cells #[.slice s0 n0 t0, .slice s1 k t1, .slice s2 q t2, .slice s3 n3 t3] 27)) l d) := by (repeat' (first | (with_reducible exact Below.refl _ _) | (with_reducible assumption) | (with_reducible refine more_below ?_ ?_ _ _) | (with_reducible refine below_drewN ?_ _) | (with_reducible refine Below.alloc ?_ ?_ _) | (with_reducible refine Below.drew ?_) | (with_reducible refine Below.setCell ?_ ?_ _) | (simp only [World.size_alloc, World.size_setCell, World.size_drew, more_size, World.heap_drewN]; omega) | go_size))
              obtain ⟨x, hx⟩ := get_some (L := p.units) (n := i) (by have := HE.out.2.2; omega)
              obtain ⟨b, off, rfl, hbw, hc⟩ := unit_at hu (k := i) (lt_of_get hx)
              obtain ⟨u1, u3, u4, c0, c1, c2, c3, c4, hU⟩ := hc i x hx
              have HX := Lib.hid hx
              have HF := Lib.hid (law15_Few u1 u3 u4 x _ (hU.below hB))
              obtain ⟨su1, cu1, rfl⟩ := row_get hU.ps
              obtain ⟨su3, cu3, rfl⟩ := row_get hU.ls
              obtain ⟨su4, cu4, rfl⟩ := row_get hU.cs
              have hU0 := hU.below hB
              clear hc hx hU
              go_wp2_with fail
              refine (HF.out).mono ?_
              rintro e W1 ⟨rfl, hb1⟩
              obtain ⟨l2, d2, rfl⟩ := more_of hb1
              clear hb1
              rw [more_more]
              generalize hff : fewU x = ff
              cases ff
              · have hs := Lib.hid (HU.out x (List.mem_of_getElem? HX.out) hff)
                clear hff
                go_wp2_with fail
                go_ret
                exact ⟨by rw [hs.out]; rfl, by (repeat' (first | (with_reducible exact Below.refl _ _) | (with_reducible assumption) | (with_reducible refine more_below ?_ ?_ _ _) | (with_reducible refine below_drewN ?_ _) | (with_reducible refine Below.alloc ?_ ?_ _) | (with_reducible refine Below.drew ?_) | (with_reducible refine Below.setCell ?_ ?_ _) | (simp only [World.size_alloc, World.size_setCell, World.size_drew, more_size, World.heap_drewN]; omega) | go_size))⟩
              · have hs := Lib.hid (show ∀ m ∈ p.units.take (i + 1), fewU m = true by
                  intro m hm
                  rw [take_snoc HX.out] at hm
                  rcases List.mem_append.1 hm with hm | hm
                  · exact hall.out m hm
                  · rw [List.mem_singleton.1 hm]; exact hff)
                clear hff
                go_wp2_with fail
                go_roundw
                case rel => exact ⟨i + 1, _, _, by omega, by simp, hs, rfl⟩
                case measure => first | (simp [intOf]; done) | (simp [intOf]; omega)
            · obtain rfl : i = n3 := by omega
              have hs := Lib.hid (HY.out H1.out H2.out (by have := hall.out; rw [List.take_of_length_le (by have := HE.out.2.2; omega)] at this; exact this))
              clear hall
              go_wp2_with fail
              go_ret
              exact ⟨by rw [hs.out]; rfl, by (repeat' (first | (with_reducible exact Below.refl _ _) | (with_reducible assumption) | (with_reducible refine more_below ?_ ?_ _ _) | (with_reducible refine below_drewN ?_ _) | (with_reducible refine Below.alloc ?_ ?_ _) | (with_reducible refine Below.drew ?_) | (with_reducible refine Below.setCell ?_ ?_ _) | (simp only [World.size_alloc, World.size_setCell, World.size_drew, more_size, World.heap_drewN]; omega) | go_size))⟩
end Go.Proofs.YtpecpeedefeokaaDoor

/- Layer 17: the walk of DeclLess. -/
namespace Go.Proofs.YtpecpeedefeokaaDoor
open Go.RowKit
set_option linter.unusedSimpArgs false
set_option linter.unusedVariables false
end Go.Proofs.YtpecpeedefeokaaDoor

/- Layer 17: a unit's head, by the answer. -/
namespace Go.Proofs.YtpecpeedefeokaaDoor
open Go.RowKit
set_option linter.unusedSimpArgs false
set_option linter.unusedVariables false
end Go.Proofs.YtpecpeedefeokaaDoor

/- Layer 17: a program's declarations, by the answer. -/
namespace Go.Proofs.YtpecpeedefeokaaDoor
open Go.RowKit
set_option linter.unusedSimpArgs false
set_option linter.unusedVariables false
end Go.Proofs.YtpecpeedefeokaaDoor

/- A region that draws its order, by facts that stay: a condition on what has been carried out, the frame and the world; one goal for each operation, whatever the order. -/
namespace Go.Proofs.YtpecpeedefeokaaDoor
open Go.RowKit
set_option linter.unusedSimpArgs false
set_option linter.unusedVariables false
section
variable {P : Program} {ops : Array Oper} {Q : Exit → Act → World → Prop} {S : Array Bool → Act → World → Prop}
def openN : Nat → Array Bool → Nat
  | 0, _ => 0
  | k + 1, L => openN k L + (if L.getD k true then 0 else 1)
theorem openN_le : ∀ (k : Nat) (L : Array Bool), openN k L ≤ k
  | 0, _ => Nat.le_refl _
  | k + 1, L => by have := openN_le k L; show openN k L + _ ≤ _; split <;> omega
theorem getD_set_self (L : Array Bool) (i : Nat) : (L.setIfInBounds i true).getD i true = true := by
  rcases Nat.lt_or_ge i L.size with h | h
  · simp [h]
  · simp [Array.getElem?_eq_none h]
theorem openN_past {i : Nat} {L : Array Bool} : ∀ k : Nat, k ≤ i → openN k (L.setIfInBounds i true) = openN k L
  | 0, _ => rfl
  | k + 1, h => by
    show openN k _ + _ = openN k L + _
    rw [openN_past k (by omega), getD_set_ne true (by omega)]
theorem openN_set {i : Nat} {L : Array Bool} (hL : L.getD i true = false) : ∀ k : Nat, i < k → openN k (L.setIfInBounds i true) + 1 = openN k L
  | 0, h => by omega
  | k + 1, h => by
    show openN k _ + _ + 1 = openN k L + _
    by_cases hik : i = k
    · subst hik
      rw [openN_past i (Nat.le_refl _), getD_set_self, hL]; simp
    · have := openN_set hL k (by omega)
      rw [getD_set_ne true hik]; omega
theorem openN_zero {L : Array Bool} : ∀ k : Nat, openN k L = 0 → ∀ j, j < k → L.getD j true = true
  | 0, _, j, hj => by omega
  | k + 1, h, j, hj => by
    have h' : openN k L + (if L.getD k true then 0 else 1) = 0 := h
    by_cases hjk : j = k
    · subst hjk
      cases hq : L.getD j true
      · rw [hq] at h'; simp at h'
      · rfl
    · exact openN_zero k (by omega) j (by omega)
/-- does each number wait for smaller ones alone? -/
def ordered (ops : Array Oper) : Bool := (List.range ops.size).all fun i => match ops[i]? with
  | some o => o.after.all fun e => !Region.binds .any e || decide (e.on < i)
  | none => true
theorem ordered_spec (h : ordered ops = true) {i : Nat} {o : Oper} (ho : ops[i]? = some o) : ∀ e ∈ o.after, Region.binds .any e = true → e.on < i := by
  intro e he hb
  have hlt : i < ops.size := (Array.getElem?_eq_some_iff.1 ho).1
  have := List.all_eq_true.1 h i (List.mem_range.2 hlt)
  rw [ho] at this
  have := Array.all_eq_true_iff_forall_mem.1 this e he
  rw [hb] at this
  simpa using this
theorem getD_two {L : Array Bool} {j : Nat} (h : j < L.size) : L.getD j true = L.getD j false := by simp [h]
theorem ready_nil (ho : ordered ops = true) {L : Array Bool} (hL : L.size = ops.size) (h : Region.ready .any ops L = []) : ∀ j, j < ops.size → L.getD j false = true := by
  intro j
  induction j using Nat.strongRecOn with
  | ind j ih =>
    intro hj
    cases hq : L.getD j false
    · exfalso
      have hm : j ∈ Region.ready .any ops L := mem_ready.2 ⟨by rw [getD_two (by omega)]; exact hq, ops[j], Array.getElem?_eq_some_iff.2 ⟨hj, rfl⟩, fun e he hb => by
        have hlt := ordered_spec ho (Array.getElem?_eq_some_iff.2 ⟨hj, rfl⟩) e he hb
        exact ih _ hlt (by omega)⟩
      rw [h] at hm
      cases hm
    · rfl
/-- what number i waits for -/
def waitsOf (ops : Array Oper) (i : Nat) : List Nat := match ops[i]? with
  | some o => (o.after.toList.filter (Region.binds .any)).map (·.on)
  | none => []
/-- what is listed has all listed that it waits for -/
def Closed (ops : Array Oper) (L : Array Bool) : Prop := ∀ j, L.getD j false = true → ∀ k ∈ waitsOf ops j, L.getD k false = true
theorem Closed.step {L : Array Bool} (hC : Closed ops L) {j k : Nat} (h : L.getD j false = true) (hk : (waitsOf ops j).contains k = true) : L.getD k false = true := hC j h k (by simpa using hk)
theorem getD_no {L : Array Bool} {i : Nat} (h0 : L.getD i true = false) (h : L.getD i false = true) : False := by
  rcases Nat.lt_or_ge i L.size with h' | h'
  · rw [getD_two h', h] at h0; cases h0
  · simp [h'] at h
/-- number i, wherever it comes -/
def StepAt (P : Program) (ops : Array Oper) (Q : Exit → Act → World → Prop) (S : Array Bool → Act → World → Prop) (i : Nat) : Prop :=
  ∀ L b v, Closed ops L → L.getD i true = false → (∀ j ∈ waitsOf ops i, L.getD j false = true) → S L b v → wpOp P ops Q i (fun b' v' => S (L.setIfInBounds i true) b' v') b v
theorem StepAt.mk {i : Nat} {o : Oper} {ws : List Nat} (ho : ops[i]? = some o) (hw : waitsOf ops i = ws)
    (h : ∀ L b v, Closed ops L → L.getD i true = false → (∀ j ∈ ws, L.getD j false = true) → S L b v → ∀ K : Act → World → Prop, Shut (∀ b' v', S (L.setIfInBounds i true) b' v' → K b' v') →
      if Region.wanted o (yielded ops b.tmps) = true then Oper.wp P o b v K Q else K (b.put o.dst undef) v) : StepAt P ops Q S i :=
  fun L b v hC h0 hj hS => wpOp_step ho fun K hK => h L b v hC h0 (hw ▸ hj) hS K hK
def AllSteps (P : Program) (ops : Array Oper) (Q : Exit → Act → World → Prop) (S : Array Bool → Act → World → Prop) (n : Nat) : Prop := ∀ i, i < n → StepAt P ops Q S i
theorem AllSteps.zero : AllSteps P ops Q S 0 := fun _ h => by omega
theorem AllSteps.succ {n : Nat} (h : AllSteps P ops Q S n) (hn : StepAt P ops Q S n) : AllSteps P ops Q S (n + 1) := fun i hi => by
  by_cases hin : i = n
  · exact hin ▸ hn
  · exact h i (by omega)
theorem any_facts (ho : ordered ops = true) (hs : AllSteps P ops Q S ops.size) (he : ∀ L b v, (∀ j, j < ops.size → L.getD j false = true) → S L b v → Q .normal b v) :
    ∀ (n : Nat) (L : Array Bool) (b : Act) (v : World), L.size = ops.size → Closed ops L → openN ops.size L ≤ n → S L b v → wpAny P .any ops Q n L b v := by
  have nil_of : ∀ L : Array Bool, openN ops.size L = 0 → Region.ready .any ops L = [] := by
    intro L h0
    rw [List.eq_nil_iff_forall_not_mem]
    intro j hj
    obtain ⟨h1, o, h2, _⟩ := mem_ready.1 hj
    rw [openN_zero _ h0 j (Array.getElem?_eq_some_iff.1 h2).1] at h1
    cases h1
  intro n
  induction n with
  | zero =>
    intro L b v hL hC h0 hS
    have hr := nil_of L (by omega)
    exact ⟨hr, he L b v (ready_nil ho hL hr) hS⟩
  | succ n ih =>
    intro L b v hL hC h0 hS
    refine ⟨fun hr => he L b v (ready_nil ho hL hr) hS, fun i hi => ?_⟩
    obtain ⟨h1, o, h2, h3⟩ := mem_ready.1 hi
    have hlt := (Array.getElem?_eq_some_iff.1 h2).1
    have hw : ∀ j ∈ waitsOf ops i, L.getD j false = true := by
      intro j hj
      unfold waitsOf at hj
      rw [h2] at hj
      obtain ⟨e, he1, rfl⟩ := List.mem_map.1 hj
      obtain ⟨he2, he3⟩ := List.mem_filter.1 he1
      exact h3 e (by simpa using he2) he3
    refine wpOp_mono (fun b' v' h' => ih _ b' v' (by simpa using hL) (fun j hj k hk => ?_) (by have := openN_set h1 ops.size hlt; omega) h') (hs i hlt L b v hC h1 hw hS)
    by_cases hij : i = j
    · subst hij; exact getD_set_true (hw k hk)
    · rw [getD_set_ne false hij] at hj; exact getD_set_true (hC j hj k hk)
theorem getD_open {L : Array Bool} {i : Nat} (h0 : L.getD i true = false) : L.getD i false = false := by
  rcases Nat.lt_or_ge i L.size with h' | h'
  · rw [← getD_two h']; exact h0
  · simp [h'] at h0
theorem getD_set_done {L : Array Bool} {i : Nat} (h0 : L.getD i true = false) : (L.setIfInBounds i true).getD i false = true := by
  rcases Nat.lt_or_ge i L.size with h' | h'
  · simp [h']
  · simp [h'] at h0
theorem wp_region_facts {id n : Nat} {a : Act} {w : World} (S : Array Bool → Act → World → Prop) (hm : P.follows .mixedOrders = true) (ho : ordered ops = true) (hn : ops.size = n)
    (h0 : S (Array.replicate n false) a w.drew) (hs : AllSteps P ops Q S n) (he : ∀ L b v, (∀ j, j < n → L.getD j false = true) → S L b v → Q .normal b v) : (Code.region id ops true).wp P Q a w := by
  subst hn
  exact wp_region_any hm (any_facts ho hs he _ _ _ _ (by simp) (fun j hj => by by_cases h : j < ops.size <;> simp [Array.getD, h] at hj) (openN_le _ _) h0)
/-- a fact of number j, behind number i -/
theorem flag_ne {L : Array Bool} {i j : Nat} {F : Prop} (h : i ≠ j) (hF : L.getD j false = true → F) : (L.setIfInBounds i true).getD j false = true → F := by
  rw [getD_set_ne false h]; exact hF
theorem flag_new {n j : Nat} {F : Prop} : (Array.replicate n false).getD j false = true → F := by
  intro h
  by_cases hj : j < n <;> simp [Array.getD, hj] at h
end
end Go.Proofs.YtpecpeedefeokaaDoor

/- Layer 17: a unit's scope. -/
namespace Go.Proofs.YtpecpeedefeokaaDoor
open Go.RowKit
set_option linter.unusedSimpArgs false
set_option linter.unusedVariables false
/-- a row of the call's own, whose elements read in every world alike -/
def OwnG {α : Type} (q : Nat) (e : TypeId) (R : Rep α) (B : Nat) (w : World) (v : Value) (L : List α) : Prop := ∃ CH : List (Chunk q), CH.length = L.length ∧ (∀ (i : Nat) (c : Chunk q) (x : α), CH[i]? = some c → L[i]? = some x → ∀ W, R W c.1 x) ∧ w.ownsRow B e q v L.length (flatC CH)
theorem OwnG.below {α : Type} {q : Nat} {e : TypeId} {R : Rep α} {B : Nat} {w w' : World} {v : Value} {L : List α} (h : OwnG q e R B w v L) (hb : Below w.heap.size w w') : OwnG q e R B w' v L := by
  obtain ⟨CH, h1, h2, h3⟩ := h
  exact ⟨CH, h1, h2, owns_below h3 hb⟩
theorem OwnG.low {α : Type} {q : Nat} {e : TypeId} {R : Rep α} {B C : Nat} {w : World} {v : Value} {L : List α} (h : OwnG q e R C w v L) (hb : B ≤ C) : OwnG q e R B w v L := by
  obtain ⟨CH, h1, h2, h3⟩ := h
  exact ⟨CH, h1, h2, own_low h3 hb⟩
theorem OwnG.row {α : Type} {q : Nat} {e : TypeId} {R : Rep α} {B : Nat} {w : World} {v : Value} {L : List α} (h : OwnG q e R B w v L) : RowR q R w v L := by
  obtain ⟨CH, h1, h2, h3⟩ := h
  exact row_of_chunks h3 h1.symm h1 (fun i c x hc hx => h2 i c x hc hx w)
theorem OwnG.form {α : Type} {q : Nat} {e : TypeId} {R : Rep α} {B : Nat} {w : World} {v : Value} {L : List α} (h : OwnG q e R B w v L) : ∃ a c, v = .slice a L.length c := by
  obtain ⟨CH, h1, h2, h3⟩ := h
  exact owns_form h3
theorem OwnG.set {α : Type} {q : Nat} {e t : TypeId} {R : Rep α} {B : Nat} {w : World} {v : Value} {L : List α} {g i : Nat} {C : Array Value} {fr : Nat × Nat} {x : Value} (h : OwnG q e R B w v L) (hg : w.heap[g]? = some (.cells C t fr)) (hne : e ≠ t) : OwnG q e R B (w.setCell ⟨g, i, none⟩ x) v L := by
  obtain ⟨CH, h1, h2, h3⟩ := h
  exact ⟨CH, h1, h2, owns_set h3 (own_ne_type h3 hg hne)⟩
theorem OwnRows.set {B : Nat} {e t : TypeId} {w : World} {U : List Value} {L : List (List Int)} {g i : Nat} {C : Array Value} {fr : Nat × Nat} {x : Value} (h : OwnRows B e w U L) (hg : w.heap[g]? = some (.cells C t fr)) (hne : e ≠ t) : OwnRows B e (w.setCell ⟨g, i, none⟩ x) U L :=
  ⟨h.len, fun k u l hu hl => owns_set (h.row k u l hu hl) (own_ne_type (h.row k u l hu hl) hg hne), h.apart⟩
theorem OwnRows.low {B C : Nat} {e : TypeId} {w : World} {U : List Value} {L : List (List Int)} (h : OwnRows C e w U L) (hb : B ≤ C) : OwnRows B e w U L :=
  ⟨h.len, fun k u l hu hl => own_low (h.row k u l hu hl) hb, h.apart⟩
theorem SigsO.below {B : Nat} {w w' : World} {v : Value} {us : List Un} (h : SigsO B w v us) (hb : Below w.heap.size w w') : SigsO B w' v us := by
  obtain ⟨U, h1, h2⟩ := h
  exact ⟨U, h1.below hb, owns_below h2 hb⟩
theorem SigsO.low {B C : Nat} {w : World} {v : Value} {us : List Un} (h : SigsO C w v us) (hb : B ≤ C) : SigsO B w v us := by
  obtain ⟨U, h1, h2⟩ := h
  exact ⟨U, h1.low hb, own_low h2 hb⟩
theorem SigsO.form {B : Nat} {w : World} {v : Value} {us : List Un} (h : SigsO B w v us) : ∃ a c, v = .slice a us.length c := by
  obtain ⟨U, h1, h2⟩ := h
  exact owns_form h2
theorem SigsO.set {B : Nat} {t : TypeId} {w : World} {v : Value} {us : List Un} {g i : Nat} {C : Array Value} {fr : Nat × Nat} {x : Value} (h : SigsO B w v us) (hg : w.heap[g]? = some (.cells C t fr)) (h1 : 3 ≠ t) (h2 : 54 ≠ t) : SigsO B (w.setCell ⟨g, i, none⟩ x) v us := by
  obtain ⟨U, k1, k2⟩ := h
  exact ⟨U, k1.set hg h1, owns_set k2 (own_ne_type k2 hg h2)⟩
theorem var_one (w : World) (cs : List Value) (x : Vr) (h : varR w cs x) : ∀ u ∈ cs, u.oneCell' = true := by
  obtain ⟨rfl, _⟩ := h
  intro u hu; simp at hu; rcases hu with rfl | rfl | rfl | rfl | rfl <;> rfl
theorem blk_one (w : World) (cs : List Value) (x : Bk) (h : blkR w cs x) : ∀ u ∈ cs, u.oneCell' = true := by
  obtain ⟨rfl, _⟩ := h
  intro u hu; simp at hu; rcases hu with rfl | rfl <;> rfl
end Go.Proofs.YtpecpeedefeokaaDoor

/- Layer 15: a unit's slots, in a row of the call's own. -/
namespace Go.Proofs.YtpecpeedefeokaaDoor
open Go.RowKit
set_option linter.unusedSimpArgs false
set_option linter.unusedVariables false
set_option maxHeartbeats 4000000 in
theorem ref15_SlotsO (a b c : Value) (x : Un) (w : World) (h : UnAt w a b c x) (hf : fewU x = true) : Calls Tryd.prog 22 #[.agg #[.string ⟨x.name.toArray⟩, a, .int .i64 x.result, b, c]] w fun e w' => ∃ v, e = .returned v ∧ w'.ownsRow w.heap.size 3 1 v (slotsL x).length (iV (slotsL x)) ∧ (∀ z ∈ slotsL x, I64 z) ∧ Below w.heap.size w w' := by
  obtain ⟨_, f1, f2, _⟩ : x.name.length ≤ 300 ∧ x.params.length ≤ 20 ∧ x.locals.length ≤ 1100 ∧ x.code.length ≤ 300 := of_decide_eq_true hf
  obtain ⟨i, hi, hz, hsize, hby⟩ : ∃ i, Tryd.prog.info? 3 = some i ∧ i.zero = some (.int .i64 0) ∧ i.size = 1 ∧ i.bytes = 8 := ⟨(Tryd.prog.info? 3).get!, by kernel_rfl, by kernel_rfl, by kernel_rfl, by kernel_rfl⟩
  have HI := Lib.hid (show ∀ z ∈ slotsL x, I64 z by
    intro z hz
    have hp := row_ints h.ps
    have hl := row_ints h.ls
    have hr := h.r64
    unfold slotsL at hz
    rcases List.mem_append.1 hz with hz | hz
    · rcases List.mem_append.1 hz with hz | hz
      · exact hp z hz
      · by_cases h0 : x.result = 0
        · rw [if_pos h0] at hz; cases hz
        · rw [if_neg h0] at hz
          have : z = x.result := by simpa using hz
          rw [this]; exact hr
    · exact hl z hz)
  have HS1 := Lib.hid (fun W (hb : Below w.heap.size w W) => (src_ints h.ps).below hb)
  have hls := h.ls
  obtain ⟨sa, ca, rfl⟩ := row_get h.ps
  obtain ⟨sb, cb, rfl⟩ := row_get h.ls
  have cp := @cell_past
  have HD := Lib.hid (show slotsL x = x.params ++ (if x.result = 0 then [] else [x.result]) ++ x.locals from rfl)
  clear h hf
  generalize (⟨x.name.toArray⟩ : ByteArray) = nm at *
  generalize x.result = rs at *
  generalize hp : x.params = P at *
  generalize hq : x.locals = L at *
  obtain ⟨n1, hn1⟩ : ∃ n, P.length = n := ⟨_, rfl⟩
  obtain ⟨n2, hn2⟩ : ∃ n, L.length = n := ⟨_, rfl⟩
  have HN := Lib.hid (show P.length = n1 ∧ L.length = n2 from ⟨hn1, hn2⟩)
  rw [hn1] at f1 HS1 ⊢
  rw [hn2] at f2 hls ⊢
  clear hp hq hn1 hn2
  by_cases h0 : rs = 0
  · have q : (rs != 0) = false := by simp [h0]
    rw [if_pos h0, List.append_nil] at HD
    clear h0
    go_enter Tryd.func22, Tryd.ntmps22
    have HE := Lib.hid (owns_empty1 w (.cells #[.string nm, .slice sa n1 ca, .int .i64 rs, .slice sb n2 cb, c] 51) 3 1)
    go_wp2_with (first | (at_builtin; go_loud (refine wpList_append_src rfl (.tmp 5) (.tmp 7) 35 rfl (w.heap.size + 1) 3 i (.int .i64 0) 1 8 Tryd.underlying35 hi hz hsize hby rfl (by omega) _ 0 [] rfl HE.out _ n1 (iV P) rfl (HS1.out _ (by (repeat' (first | (with_reducible exact Below.refl _ _) | (with_reducible assumption) | (with_reducible refine below_drewN ?_ _) | (with_reducible refine Below.alloc ?_ ?_ _) | (with_reducible refine Below.drew ?_) | (with_reducible refine Below.setCell ?_ ?_ _) | go_size)))) (by rw [iV_len, HN.out.1]; omega) (iV_one P) (by unfold maxLen; omega) (by omega) (by simp) ?_; intro v2 w2 hO2 hG2; have hB2 := grown3 (show Below (w.heap.size + 1) (w.alloc (.cells #[.string nm, .slice sa n1 ca, .int .i64 rs, .slice sb n2 cb, c] 51)) _ from by (repeat' (first | (with_reducible exact Below.refl _ _) | (with_reducible assumption) | (with_reducible refine below_drewN ?_ _) | (with_reducible refine Below.alloc ?_ ?_ _) | (with_reducible refine Below.drew ?_) | (with_reducible refine Below.setCell ?_ ?_ _) | go_size))) (by simp) HE.out hG2; have HO2 := Lib.hid hO2; have z2 : w.heap.size < w2.heap.size := (by have := hB2.size; simp at this; omega); have bx := Boxed.new w [.string nm, .slice sa n1 ca, .int .i64 rs, .slice sb n2 cb, c] 51 hB2; have e2 := bx 2 _ rfl; have e3 := bx 3 _ rfl; clear hO2 hG2 bx)) | fail)
    obtain ⟨X, hX⟩ : ∃ X, X = P := ⟨_, rfl⟩
    have HX := Lib.hid (show w2.ownsRow (w.heap.size + 1) 3 1 v2 X.length (iV X) by rw [hX]; exact own_eq2 HO2.out (by rw [HN.out.1]; omega) rfl)
    have HXl := Lib.hid (show X.length ≤ 21 by rw [hX, HN.out.1]; omega)
    rw [← hX] at HD
    have hBX := Lib.hid hB2
    clear hX hB2
    go_loopw [3, 4] (fun o jj wr => ∃ k : Nat, k ≤ n2 ∧ jj = .int .i64 k ∧ Hid (wr.ownsRow (w.heap.size + 1) 3 1 o (X.length + k) (iV (X ++ L.take k))) ∧ Hid (Below (w.heap.size + 1) (w.alloc (.cells #[.string nm, .slice sa n1 ca, .int .i64 rs, .slice sb n2 cb, c] 51)) wr)) (fun _ jj _ => n2 - (intOf jj).toNat)
    case atStart => exact ⟨0, by omega, rfl, Lib.hid (by simpa using HX.out), hBX⟩
    case round =>
      clear z2 e2 e3
      obtain ⟨k, hk, rfl, hO, hBw⟩ := hrel
      have z0 : w.heap.size < wr.heap.size := by have := hBw.out.size; simp at this; omega
      have hB0 : Below w.heap.size w wr := Below.trans (by (repeat' (first | (with_reducible exact Below.refl _ _) | (with_reducible assumption) | (with_reducible refine below_drewN ?_ _) | (with_reducible refine Below.alloc ?_ ?_ _) | (with_reducible refine Below.drew ?_) | (with_reducible refine Below.setCell ?_ ?_ _) | go_size))) (hBw.out.mono (by omega))
      have e3 := Boxed.new w [.string nm, .slice sa n1 ca, .int .i64 rs, .slice sb n2 cb, c] 51 hBw.out 3 _ rfl
      by_cases hlt : k < n2
      · obtain ⟨z, hzq⟩ := get_some (L := L) (n := k) (by have := HN.out.2; omega)
        obtain ⟨b3, off3, rfl, hbw3, hg⟩ := ints_at hls (k := k) (lt_of_get hzq)
        obtain ⟨g0, _⟩ := hg k z hzq
        have g0 := (hB0.cell (p := ⟨b3, off3 + k, none⟩) hbw3).trans g0
        have hts := Lib.hid (take_snoc hzq)
        have hXl := HXl.out
        clear hg hzq
        have Hown := Lib.hid (fun W (hW : Below wr.heap.size wr W) => owns_below hO.out hW)
        generalize hna : X.length = na at *
        go_wp2_with (first | (at_builtin; go_loud (refine wpList_append_src rfl (.tmp 24) (.tmp 30) 35 rfl (w.heap.size + 1) 3 i (.int .i64 0) 1 8 Tryd.underlying35 hi hz hsize hby rfl (by omega) _ (na + k) _ rfl (Hown.out _ (by (repeat' (first | (with_reducible exact Below.refl _ _) | (with_reducible assumption) | (with_reducible refine below_drewN ?_ _) | (with_reducible refine Below.alloc ?_ ?_ _) | (with_reducible refine Below.drew ?_) | (with_reducible refine Below.setCell ?_ ?_ _) | go_size)))) _ 1 [.int .i64 z] rfl (src_new _ _ _) rfl (by intro u hu; simp at hu; rw [hu]; rfl) (by unfold maxLen; omega) (by omega) (by simp; omega) ?_; intro v3 w3 hO3 hG3; have hB3 := Lib.hid (grown3 (Below.trans hBw.out (show Below (w.heap.size + 1) wr (wr.alloc _) from (show Below wr.heap.size wr _ by (repeat' (first | (with_reducible exact Below.refl _ _) | (with_reducible assumption) | (with_reducible refine below_drewN ?_ _) | (with_reducible refine Below.alloc ?_ ?_ _) | (with_reducible refine Below.drew ?_) | (with_reducible refine Below.setCell ?_ ?_ _) | go_size))).mono (by omega))) (by simp; omega) (Hown.out _ (by (repeat' (first | (with_reducible exact Below.refl _ _) | (with_reducible assumption) | (with_reducible refine below_drewN ?_ _) | (with_reducible refine Below.alloc ?_ ?_ _) | (with_reducible refine Below.drew ?_) | (with_reducible refine Below.setCell ?_ ?_ _) | go_size)))) hG3); have HO3 := Lib.hid hO3; clear hO3 hG3)) | fail)
        go_roundw
        case rel => exact ⟨k + 1, by omega, by simp, Lib.hid (own_eq2 HO3.out (by omega) (by simp [hts.out, iV])), hB3⟩
        case measure => first | (simp [intOf]; done) | (simp [intOf]; omega)
      · obtain rfl : k = n2 := by omega
        have hrow := Lib.hid (show wr.ownsRow w.heap.size 3 1 _ (slotsL x).length (iV (slotsL x)) from own_low (own_eq2 hO.out (by rw [HD.out, List.length_append, HN.out.2]) (by rw [HD.out, List.take_of_length_le (by have := HN.out.2; omega)])) (Nat.le_succ _))
        go_wp2_with fail
        go_returns
        exact ⟨_, rfl, hrow.out, HI.out, hB0⟩
  · have q : (rs != 0) = true := by simpa using h0
    rw [if_neg h0] at HD
    clear h0
    go_enter Tryd.func22, Tryd.ntmps22
    have HE := Lib.hid (owns_empty1 w (.cells #[.string nm, .slice sa n1 ca, .int .i64 rs, .slice sb n2 cb, c] 51) 3 1)
    go_wp2_with (first | (at_builtin; go_loud (refine wpList_append_src rfl (.tmp 5) (.tmp 7) 35 rfl (w.heap.size + 1) 3 i (.int .i64 0) 1 8 Tryd.underlying35 hi hz hsize hby rfl (by omega) _ 0 [] rfl HE.out _ n1 (iV P) rfl (HS1.out _ (by (repeat' (first | (with_reducible exact Below.refl _ _) | (with_reducible assumption) | (with_reducible refine below_drewN ?_ _) | (with_reducible refine Below.alloc ?_ ?_ _) | (with_reducible refine Below.drew ?_) | (with_reducible refine Below.setCell ?_ ?_ _) | go_size)))) (by rw [iV_len, HN.out.1]; omega) (iV_one P) (by unfold maxLen; omega) (by omega) (by simp) ?_; intro v2 w2 hO2 hG2; have hB2 := grown3 (show Below (w.heap.size + 1) (w.alloc (.cells #[.string nm, .slice sa n1 ca, .int .i64 rs, .slice sb n2 cb, c] 51)) _ from by (repeat' (first | (with_reducible exact Below.refl _ _) | (with_reducible assumption) | (with_reducible refine below_drewN ?_ _) | (with_reducible refine Below.alloc ?_ ?_ _) | (with_reducible refine Below.drew ?_) | (with_reducible refine Below.setCell ?_ ?_ _) | go_size))) (by simp) HE.out hG2; have HO2 := Lib.hid hO2; have z2 : w.heap.size < w2.heap.size := (by have := hB2.size; simp at this; omega); have bx := Boxed.new w [.string nm, .slice sa n1 ca, .int .i64 rs, .slice sb n2 cb, c] 51 hB2; have e2 := bx 2 _ rfl; have e3 := bx 3 _ rfl; clear hO2 hG2 bx)) | (at_builtin; go_loud (refine wpList_append_src rfl (.tmp 12) (.tmp 15) 35 rfl (w.heap.size + 1) 3 i (.int .i64 0) 1 8 Tryd.underlying35 hi hz hsize hby rfl (by omega) _ n1 _ rfl (owns_below (own_eq2 HO2.out (Nat.zero_add n1) rfl) (by (repeat' (first | (with_reducible exact Below.refl _ _) | (with_reducible assumption) | (with_reducible refine below_drewN ?_ _) | (with_reducible refine Below.alloc ?_ ?_ _) | (with_reducible refine Below.drew ?_) | (with_reducible refine Below.setCell ?_ ?_ _) | go_size)))) _ 1 [.int .i64 rs] rfl (src_new _ _ _) rfl (by intro u hu; simp at hu; rw [hu]; rfl) (by unfold maxLen; omega) (by omega) (by simp; omega) ?_; intro v3 w3 hO3 hG3; have hB3 := grown3 (Below.trans hB2 (show Below (w.heap.size + 1) w2 (w2.alloc _) from (show Below w2.heap.size w2 _ by (repeat' (first | (with_reducible exact Below.refl _ _) | (with_reducible assumption) | (with_reducible refine below_drewN ?_ _) | (with_reducible refine Below.alloc ?_ ?_ _) | (with_reducible refine Below.drew ?_) | (with_reducible refine Below.setCell ?_ ?_ _) | go_size))).mono (by omega))) (by simp; omega) (owns_below (own_eq2 HO2.out (Nat.zero_add n1) rfl) (by (repeat' (first | (with_reducible exact Below.refl _ _) | (with_reducible assumption) | (with_reducible refine below_drewN ?_ _) | (with_reducible refine Below.alloc ?_ ?_ _) | (with_reducible refine Below.drew ?_) | (with_reducible refine Below.setCell ?_ ?_ _) | go_size)))) hG3; have HO3 := Lib.hid hO3; have e3 := Boxed.new w [.string nm, .slice sa n1 ca, .int .i64 rs, .slice sb n2 cb, c] 51 hB3 3 _ rfl; clear hO3 hG3)) | fail)
    obtain ⟨X, hX⟩ : ∃ X, X = P ++ [rs] := ⟨_, rfl⟩
    have HX := Lib.hid (show w3.ownsRow (w.heap.size + 1) 3 1 v3 X.length (iV X) by rw [hX]; exact own_eq2 HO3.out (by simp [HN.out.1]) (by rw [iV_app]; rfl))
    have HXl := Lib.hid (show X.length ≤ 21 by rw [hX, List.length_append, HN.out.1]; simp; omega)
    rw [← hX] at HD
    have hBX := Lib.hid hB3
    clear hX hB2
    go_loopw [3, 4] (fun o jj wr => ∃ k : Nat, k ≤ n2 ∧ jj = .int .i64 k ∧ Hid (wr.ownsRow (w.heap.size + 1) 3 1 o (X.length + k) (iV (X ++ L.take k))) ∧ Hid (Below (w.heap.size + 1) (w.alloc (.cells #[.string nm, .slice sa n1 ca, .int .i64 rs, .slice sb n2 cb, c] 51)) wr)) (fun _ jj _ => n2 - (intOf jj).toNat)
    case atStart => exact ⟨0, by omega, rfl, Lib.hid (by simpa using HX.out), hBX⟩
    case round =>
      clear z2 e2 e3
      obtain ⟨k, hk, rfl, hO, hBw⟩ := hrel
      have z0 : w.heap.size < wr.heap.size := by have := hBw.out.size; simp at this; omega
      have hB0 : Below w.heap.size w wr := Below.trans (by (repeat' (first | (with_reducible exact Below.refl _ _) | (with_reducible assumption) | (with_reducible refine below_drewN ?_ _) | (with_reducible refine Below.alloc ?_ ?_ _) | (with_reducible refine Below.drew ?_) | (with_reducible refine Below.setCell ?_ ?_ _) | go_size))) (hBw.out.mono (by omega))
      have e3 := Boxed.new w [.string nm, .slice sa n1 ca, .int .i64 rs, .slice sb n2 cb, c] 51 hBw.out 3 _ rfl
      by_cases hlt : k < n2
      · obtain ⟨z, hzq⟩ := get_some (L := L) (n := k) (by have := HN.out.2; omega)
        obtain ⟨b3, off3, rfl, hbw3, hg⟩ := ints_at hls (k := k) (lt_of_get hzq)
        obtain ⟨g0, _⟩ := hg k z hzq
        have g0 := (hB0.cell (p := ⟨b3, off3 + k, none⟩) hbw3).trans g0
        have hts := Lib.hid (take_snoc hzq)
        have hXl := HXl.out
        clear hg hzq
        have Hown := Lib.hid (fun W (hW : Below wr.heap.size wr W) => owns_below hO.out hW)
        generalize hna : X.length = na at *
        go_wp2_with (first | (at_builtin; go_loud (refine wpList_append_src rfl (.tmp 24) (.tmp 30) 35 rfl (w.heap.size + 1) 3 i (.int .i64 0) 1 8 Tryd.underlying35 hi hz hsize hby rfl (by omega) _ (na + k) _ rfl (Hown.out _ (by (repeat' (first | (with_reducible exact Below.refl _ _) | (with_reducible assumption) | (with_reducible refine below_drewN ?_ _) | (with_reducible refine Below.alloc ?_ ?_ _) | (with_reducible refine Below.drew ?_) | (with_reducible refine Below.setCell ?_ ?_ _) | go_size)))) _ 1 [.int .i64 z] rfl (src_new _ _ _) rfl (by intro u hu; simp at hu; rw [hu]; rfl) (by unfold maxLen; omega) (by omega) (by simp; omega) ?_; intro v3 w3 hO3 hG3; have hB3 := Lib.hid (grown3 (Below.trans hBw.out (show Below (w.heap.size + 1) wr (wr.alloc _) from (show Below wr.heap.size wr _ by (repeat' (first | (with_reducible exact Below.refl _ _) | (with_reducible assumption) | (with_reducible refine below_drewN ?_ _) | (with_reducible refine Below.alloc ?_ ?_ _) | (with_reducible refine Below.drew ?_) | (with_reducible refine Below.setCell ?_ ?_ _) | go_size))).mono (by omega))) (by simp; omega) (Hown.out _ (by (repeat' (first | (with_reducible exact Below.refl _ _) | (with_reducible assumption) | (with_reducible refine below_drewN ?_ _) | (with_reducible refine Below.alloc ?_ ?_ _) | (with_reducible refine Below.drew ?_) | (with_reducible refine Below.setCell ?_ ?_ _) | go_size)))) hG3); have HO3 := Lib.hid hO3; clear hO3 hG3)) | fail)
        go_roundw
        case rel => exact ⟨k + 1, by omega, by simp, Lib.hid (own_eq2 HO3.out (by omega) (by simp [hts.out, iV])), hB3⟩
        case measure => first | (simp [intOf]; done) | (simp [intOf]; omega)
      · obtain rfl : k = n2 := by omega
        have hrow := Lib.hid (show wr.ownsRow w.heap.size 3 1 _ (slotsL x).length (iV (slotsL x)) from own_low (own_eq2 hO.out (by rw [HD.out, List.length_append, HN.out.2]) (by rw [HD.out, List.take_of_length_le (by have := HN.out.2; omega)])) (Nat.le_succ _))
        go_wp2_with fail
        go_returns
        exact ⟨_, rfl, hrow.out, HI.out, hB0⟩
end Go.Proofs.YtpecpeedefeokaaDoor

/- Layer 17: the scope of a unit, by the program. -/
namespace Go.Proofs.YtpecpeedefeokaaDoor
open Go.RowKit
set_option linter.unusedSimpArgs false
set_option linter.unusedVariables false
def scopeL (p : Pr) (u : Int) : List Int := if 0 ≤ u then ((p.units[u.toNat]?).map slotsL).getD [] else []
def ScopeAt (w : World) (a b c d : Value) (p : Pr) (u : Int) : Prop := RowR 5 varR w a p.vars ∧ RowR 2 blkR w b p.blocks ∧ RowR 2 sigR w c (p.units.map fun x => (x.params, x.result)) ∧ RowR 1 intR w d (scopeL p u)
theorem ScopeAt.below {w w' : World} {a b c d : Value} {p : Pr} {u : Int} (h : ScopeAt w a b c d p u) (hb : Below w.heap.size w w') : ScopeAt w' a b c d p u :=
  ⟨h.1.below varR_stable hb, h.2.1.below blkR_stable hb, h.2.2.1.below sigR_stable hb, h.2.2.2.below intR_stable hb⟩
theorem set4 {w : World} {g : Nat} {t : TypeId} {x0 x1 x2 x3 a b c d : Value} (h : w.heap[g]? = some (.cells #[x0, x1, x2, x3] t)) :
    (w.frozen? ⟨g, 0, none⟩ = false ∧ (w.setCell ⟨g, 0, none⟩ a).frozen? ⟨g, 1, none⟩ = false ∧ ((w.setCell ⟨g, 0, none⟩ a).setCell ⟨g, 1, none⟩ b).frozen? ⟨g, 2, none⟩ = false ∧ (((w.setCell ⟨g, 0, none⟩ a).setCell ⟨g, 1, none⟩ b).setCell ⟨g, 2, none⟩ c).frozen? ⟨g, 3, none⟩ = false) ∧
    (w.cell? ⟨g, 0, none⟩ = some x0 ∧ (w.setCell ⟨g, 0, none⟩ a).cell? ⟨g, 1, none⟩ = some x1 ∧ ((w.setCell ⟨g, 0, none⟩ a).setCell ⟨g, 1, none⟩ b).cell? ⟨g, 2, none⟩ = some x2 ∧ (((w.setCell ⟨g, 0, none⟩ a).setCell ⟨g, 1, none⟩ b).setCell ⟨g, 2, none⟩ c).cell? ⟨g, 3, none⟩ = some x3) ∧
    ((((w.setCell ⟨g, 0, none⟩ a).setCell ⟨g, 1, none⟩ b).setCell ⟨g, 2, none⟩ c).setCell ⟨g, 3, none⟩ d).heap[g]? = some (.cells #[a, b, c, d] t) := by
  have k1 := obj_self (i := 0) (x := a) h
  have k2 := obj_self (i := 1) (x := b) k1
  have k3 := obj_self (i := 2) (x := c) k2
  have k4 := obj_self (i := 3) (x := d) k3
  exact ⟨⟨obj_frozen h 0, obj_frozen k1 1, obj_frozen k2 2, obj_frozen k3 3⟩, ⟨obj_cell h rfl, obj_cell k1 rfl, obj_cell k2 rfl, obj_cell k3 rfl⟩, k4⟩
/-- four cells of a block that no row lies in -/
theorem ScopeO.set {w : World} {B : Nat} {V : List Vr} {K : List Bk} {us : List Un} {L : List Int} {a b c d : Value} {g i : Nat} {C : Array Value} {t : TypeId} {x : Value} (hg : w.heap[g]? = some (.cells C t)) (h1 : 45 ≠ t) (h2 : 47 ≠ t) (h3 : 54 ≠ t) (h4 : 3 ≠ t)
    (h : OwnG 5 45 varR B w a V ∧ OwnG 2 47 blkR B w b K ∧ SigsO B w c us ∧ w.ownsRow B 3 1 d L.length (iV L)) :
    OwnG 5 45 varR B (w.setCell ⟨g, i, none⟩ x) a V ∧ OwnG 2 47 blkR B (w.setCell ⟨g, i, none⟩ x) b K ∧ SigsO B (w.setCell ⟨g, i, none⟩ x) c us ∧ (w.setCell ⟨g, i, none⟩ x).ownsRow B 3 1 d L.length (iV L) :=
  ⟨h.1.set hg h1, h.2.1.set hg h2, h.2.2.1.set hg h4 h3, owns_set h.2.2.2 (own_ne_type h.2.2.2 hg h4)⟩
theorem scope_fin {w : World} {B : Nat} {V : List Vr} {K : List Bk} {us : List Un} {L : List Int} {a b c d : Value} {g : Nat} {x0 x1 x2 x3 y0 y1 y2 y3 : Value} (hg : w.heap[g]? = some (.cells #[x0, x1, x2, x3] 37))
    (h : OwnG 5 45 varR B w a V ∧ OwnG 2 47 blkR B w b K ∧ SigsO B w c us ∧ w.ownsRow B 3 1 d L.length (iV L)) (W : World) (hW : W = (((w.setCell ⟨g, 0, none⟩ y0).setCell ⟨g, 1, none⟩ y1).setCell ⟨g, 2, none⟩ y2).setCell ⟨g, 3, none⟩ y3) :
    OwnG 5 45 varR B W a V ∧ OwnG 2 47 blkR B W b K ∧ SigsO B W c us ∧ W.ownsRow B 3 1 d L.length (iV L) := by
  subst hW
  have k1 := obj_self (i := 0) (x := y0) hg
  have k2 := obj_self (i := 1) (x := y1) k1
  have k3 := obj_self (i := 2) (x := y2) k2
  exact ScopeO.set k3 (by decide) (by decide) (by decide) (by decide) (ScopeO.set k2 (by decide) (by decide) (by decide) (by decide) (ScopeO.set k1 (by decide) (by decide) (by decide) (by decide) (ScopeO.set hg (by decide) (by decide) (by decide) (by decide) h)))
theorem scope_at {w : World} {B : Nat} {p : Pr} {u : Int} {L : List Int} {a b c d : Value} (h : OwnG 5 45 varR B w a p.vars ∧ OwnG 2 47 blkR B w b p.blocks ∧ SigsO B w c p.units ∧ w.ownsRow B 3 1 d L.length (iV L)) (hL : scopeL p u = L) (hI : ∀ x ∈ p.units, ∀ z ∈ x.params, I64 z) (hz : ∀ z ∈ L, I64 z) : ScopeAt w a b c d p u := by
  obtain ⟨h1, h2, ⟨U, h3, h4⟩, h5⟩ := h
  subst hL
  exact ⟨h1.row, h2.row, sigs_row rfl h3 h4 hI, row_of_owns h5 hz⟩
end Go.Proofs.YtpecpeedefeokaaDoor

/- Layer 17: the scope of a unit, by the answer. -/
namespace Go.Proofs.YtpecpeedefeokaaDoor
open Go.RowKit
set_option linter.unusedSimpArgs false
set_option linter.unusedVariables false
def partL (p : Pr) (u : Int) (k : Nat) : List Int := if u < k then scopeL p u else []
theorem own_ne_row {w : World} {B C : Nat} {e f : TypeId} {q r n m : Nat} {v v' : Value} {xs ys : List Value} (h : w.ownsRow B e q v n xs) (k : w.ownsRow C f r v' m ys) (hne : e ≠ f) {g : Nat} (hv : v.ownBlock = some g) (hv' : v'.ownBlock = some g) : False := owns_type h k hne hv hv'
theorem sigs_rowR {w : World} {C : Nat} {U : List Value} {us : List Un} {v : Value} {n : Nat} (hn : n = us.length) (hl : U.length = us.length) (hR : ∀ (i : Nat) (u : Value) (x : Un), U[i]? = some u → us[i]? = some x → RowR 1 intR w u x.params) (hO : w.ownsRow C 54 2 v n (flatC (sigC U us))) : RowR 2 sigR w v (us.map fun x => (x.params, x.result)) := by
  have hcl : (sigC U us).length = us.length := by simp [sigC, hl]
  refine row_of_chunks hO (by rw [hcl, hn]) (by simp [hcl]) (fun i c y hc hy => ?_)
  rw [List.getElem?_map] at hy
  obtain ⟨x, hx, rfl⟩ := Option.map_eq_some_iff.1 hy
  obtain ⟨u, hu⟩ := get_some (L := U) (n := i) (by rw [hl]; exact lt_of_get hx)
  have hcc : c = ⟨[u, .int .i64 x.result], rfl⟩ := by
    unfold sigC at hc
    rw [List.getElem?_zipWith, hu, hx] at hc
    injection hc with hc
    exact hc.symm
  subst hcc
  exact ⟨u, rfl, hR i u x hu hx⟩
set_option maxHeartbeats 8000000 in
theorem ref17_Scope (pa pb pc pd : Value) (p : Pr) (u : Int) (w : World) (hp : PrAt w pa pb pc pd p) (hf : fewP p = true) :
    Calls Tryd.prog 9 #[.agg #[pa, pb, pc, pd], .int .i64 u] w fun e w' => ∃ a b c d, e = .returned (.agg #[a, b, c, d]) ∧ ScopeAt w' a b c d p u ∧ Below w.heap.size w w' := by
  obtain ⟨i, zz, hi, hz, hsize, hby, hzs⟩ : ∃ i z, Tryd.prog.info? 54 = some i ∧ i.zero = some z ∧ i.size = 2 ∧ i.bytes = 32 ∧ z.cells.size = 2 := ⟨(Tryd.prog.info? 54).get!, .agg #[.slice none 0 0, .int .i64 0], by kernel_rfl, by kernel_rfl, by kernel_rfl, by kernel_rfl, by kernel_rfl⟩
  have hf' := of_decide_eq_true hf
  have hfu := hf'.2.2.2
  obtain ⟨f1, f2, f3, f4⟩ := hf'.1
  clear hf hf'
  obtain ⟨sa, ca, rfl⟩ := row_get hp.cs
  obtain ⟨sb, cb, rfl⟩ := row_get hp.vs
  obtain ⟨sc, cc, rfl⟩ := row_get hp.bs
  obtain ⟨sd, cd, rfl⟩ := row_get hp.us
  obtain ⟨_, hvs, hbs, hus⟩ := hp
  obtain ⟨us, hus'⟩ : ∃ us, p.units = us := ⟨_, rfl⟩
  have HUS := Lib.hid hus'
  rw [hus'] at hus f4 hfu
  obtain ⟨n0, e0⟩ : ∃ n, p.consts.length = n := ⟨_, rfl⟩
  obtain ⟨n1, e1⟩ : ∃ n, p.vars.length = n := ⟨_, rfl⟩
  obtain ⟨n2, e2⟩ : ∃ n, p.blocks.length = n := ⟨_, rfl⟩
  obtain ⟨n3, e3⟩ : ∃ n, us.length = n := ⟨_, rfl⟩
  have HN := Lib.hid e3
  rw [e0, e1, e2, hus', e3]
  rw [e1] at hvs
  rw [e2] at hbs
  rw [e3] at hus f4
  clear e0 e1 e2 e3 hus' f1 f2 f3
  have HV := Lib.hid hvs
  have HK := Lib.hid hbs
  clear hvs hbs
  obtain ⟨W0, hW0⟩ : ∃ W0, W0 = ((w.alloc (.cells #[.slice sa n0 ca, .slice sb n1 cb, .slice sc n2 cc, .slice sd n3 cd] 27)).alloc (.cells #[.slice none 0 0, .slice none 0 0, .slice none 0 0, .slice none 0 0] 37)).alloc (.cells #[.slice sb n1 cb, .slice sc n2 cc, .slice none 0 0, .slice none 0 0] 37) := ⟨_, rfl⟩
  have HB0 := Lib.hid (show Below w.heap.size w W0 by rw [hW0]; exact by (repeat' (first | (with_reducible exact Below.refl _ _) | (with_reducible assumption) | (with_reducible refine below_drewN ?_ _) | (with_reducible refine Below.alloc ?_ ?_ _) | (with_reducible refine Below.drew ?_) | (with_reducible refine Below.setCell ?_ ?_ _) | go_size)))
  have HP0 := Lib.hid (show W0.heap[w.heap.size]? = some (.cells #[.slice sa n0 ca, .slice sb n1 cb, .slice sc n2 cc, .slice sd n3 cd] 27) by rw [hW0]; exact (get_past (by simp; omega)).trans ((get_past (by simp)).trans (get_last rfl)))
  have HR0 := Lib.hid (show W0.heap[w.heap.size + 1]? = some (.cells #[.slice none 0 0, .slice none 0 0, .slice none 0 0, .slice none 0 0] 37) by rw [hW0]; exact (get_past (by simp)).trans (get_last (by simp)))
  have HS0 := Lib.hid (show W0.heap[w.heap.size + 1 + 1]? = some (.cells #[.slice sb n1 cb, .slice sc n2 cc, .slice none 0 0, .slice none 0 0] 37) by rw [hW0]; exact get_last (by simp))
  have HW0 := Lib.hid hW0
  clear hW0
  go_enter Tryd.func9, Tryd.ntmps9
  go_upto_region 2 with fail
  rw [← HW0.out]
  go_wp2_with fail
  go_loopw [6] (fun jj wr => ∃ (k : Nat) (U : List Value) (ag ad : Option Addr) (cs m cdd : Nat), k ≤ n3 ∧ jj = .int .i64 k ∧ Hid (wr.heap[w.heap.size + 1 + 1]? = some (.cells #[.slice sb n1 cb, .slice sc n2 cc, .slice ag k cs, .slice ad m cdd] 37)) ∧ Hid (wr.heap[w.heap.size]? = some (.cells #[.slice sa n0 ca, .slice sb n1 cb, .slice sc n2 cc, .slice sd n3 cd] 27)) ∧ Hid (wr.heap[w.heap.size + 1]? = some (.cells #[.slice none 0 0, .slice none 0 0, .slice none 0 0, .slice none 0 0] 37)) ∧
    Hid (U.length = k) ∧ Hid (∀ (i : Nat) (u : Value) (x : Un), U[i]? = some u → us[i]? = some x → RowR 1 intR w u x.params) ∧ Hid (wr.ownsRow w.heap.size 54 2 (.slice ag k cs) k (flatC (sigC U (us.take k)))) ∧ Hid (wr.ownsRow w.heap.size 3 1 (.slice ad m cdd) m (iV (partL p u k))) ∧ Hid (m = (partL p u k).length ∧ ∀ z ∈ partL p u k, I64 z) ∧ Hid (Below w.heap.size w wr)) (fun jj _ => n3 - (intOf jj).toNat)
  case atStart =>
    have hp0 : partL p u 0 = [] := by
      unfold partL
      by_cases h : u < ((0 : Nat) : Int)
      · rw [if_pos h]; unfold scopeL; rw [if_neg (by omega)]
      · rw [if_neg h]
    exact ⟨0, [], none, none, 0, 0, 0, by omega, rfl, HS0, HP0, HR0, Lib.hid rfl, Lib.hid (by intro i u x h; simp at h), Lib.hid (World.ownsRow_nil _ _ _ _), Lib.hid (by rw [hp0]; exact World.ownsRow_nil _ _ _ _), Lib.hid (by rw [hp0]; exact ⟨rfl, by intro z h; cases h⟩), HB0⟩
  case round =>
    clear HS0 HP0 HR0 HB0
    obtain ⟨k, U, ag, ad, cs, m, cdd, hk, rfl, HS, HP, HR, HU, HUR, HO, HD, HM, HB⟩ := hrel
    have hj5 := HS.out
    have hjp := HP.out
    have hj4 := HR.out
    have c3 := obj_cell hjp (i := 3) rfl
    by_cases hlt : k < n3
    · have qk : ((k : Int) < (n3 : Int)) = True := eq_true (by omega)
      obtain ⟨x, hx⟩ := get_some (L := us) (n := k) (by rw [HN.out]; exact hlt)
      obtain ⟨b, off, rfl, hbw, hc⟩ := unit_at hus (k := k) (by rw [HN.out]; exact hlt)
      obtain ⟨u1, u3, u4, y0, y1, y2, y3, y4, hUx⟩ := hc k x hx
      obtain ⟨a1, b1, rfl⟩ := row_get hUx.ps
      obtain ⟨a3, b3, rfl⟩ := row_get hUx.ls
      obtain ⟨a4, b4, rfl⟩ := row_get hUx.cs
      have e1 := (HB.out.cell (p := ⟨b, off + k * 5 + 1, none⟩) hbw).trans y1
      have e2 := (HB.out.cell (p := ⟨b, off + k * 5 + 2, none⟩) hbw).trans y2
      have zb : b < wr.heap.size := World.block_lt_of_cell? _ _ e1
      have HT := Lib.hid (take_snoc hx)
      have HUl := Lib.hid (show U.length = (us.take k).length by rw [HU.out, List.length_take, HN.out]; omega)
      have HUx := Lib.hid hUx
      have HXx := Lib.hid hx
      clear hc hUx hx
      go_upto_region 5 with fail
      refine wp_region_till (S := (fun (L : Array Bool) (w' : World) => L.getD 18 true = false → ((fun (w' : World) => w'.heap[w.heap.size + 1 + 1]? = some (.cells #[.slice sb n1 cb, .slice sc n2 cc, .slice ag k cs, .slice ad m cdd] 37) ∧ w'.heap[w.heap.size]? = some (.cells #[.slice sa n0 ca, .slice sb n1 cb, .slice sc n2 cc, .slice (some ⟨b, off, none⟩) n3 cd] 27) ∧ w'.cell? ⟨b, off + k * 5 + 1, none⟩ = some (.slice a1 x.params.length b1) ∧ w'.cell? ⟨b, off + k * 5 + 2, none⟩ = some (.int .i64 x.result)) w'))) (by kernel_rfl) ?_ (fun hHeld => ?_)
      · (try dsimp only); exact (fun _ => ⟨hj5, hjp, e1, e2⟩)
      refine till_take 18 (fun (w' : World) => w'.heap[w.heap.size + 1 + 1]? = some (.cells #[.slice sb n1 cb, .slice sc n2 cc, .slice ag k cs, .slice ad m cdd] 37) ∧ w'.heap[w.heap.size]? = some (.cells #[.slice sa n0 ca, .slice sb n1 cb, .slice sc n2 cc, .slice (some ⟨b, off, none⟩) n3 cd] 27) ∧ w'.cell? ⟨b, off + k * 5 + 1, none⟩ = some (.slice a1 x.params.length b1) ∧ w'.cell? ⟨b, off + k * 5 + 2, none⟩ = some (.int .i64 x.result)) (i := 0) (oi := { dst := some 19, op := Op.fieldAddr 37 (Operand.tmp 5) 2, type := 0, pos := _, after := #[], guard := none }) (u := ?_) rfl (by kernel_rfl) (by kernel_rfl) (by kernel_rfl) (by kernel_rfl) (by kernel_rfl) (by decide) (fun L v hL h => h hL) (fun L v => by simp only [getD_set_ne true (show 0 ≠ 18 by decide)]) (fun _ _ _ h => h) (Or.inl ⟨by rfl, ?_⟩) hHeld ?_
      rotate_left
      · intro wt hSw; (try dsimp only at hSw); obtain ⟨h1, h2, h3, h4⟩ := hSw; have q2 := obj_cell h1 (i := 2) rfl; have p3 := obj_cell h2 (i := 3) rfl; clear h1 h2; first | (go_simp; done) | (go_simp; with_reducible rfl) | (trace_state; fail)
      clear hHeld; intro hHeld
      try simp only [Act.put, List.setIfInBounds_toArray, List.set_cons_zero, List.set_cons_succ]
      refine till_take 18 (fun (w' : World) => w'.heap[w.heap.size + 1 + 1]? = some (.cells #[.slice sb n1 cb, .slice sc n2 cc, .slice ag k cs, .slice ad m cdd] 37) ∧ w'.heap[w.heap.size]? = some (.cells #[.slice sa n0 ca, .slice sb n1 cb, .slice sc n2 cc, .slice (some ⟨b, off, none⟩) n3 cd] 27) ∧ w'.cell? ⟨b, off + k * 5 + 1, none⟩ = some (.slice a1 x.params.length b1) ∧ w'.cell? ⟨b, off + k * 5 + 2, none⟩ = some (.int .i64 x.result)) (i := 1) (oi := { dst := some 20, op := Op.load 34 (Operand.tmp 19), type := 34, pos := _, after := #[{ on := 0, ground := Ground.data }], guard := none }) (u := ?_) rfl (by kernel_rfl) (by kernel_rfl) (by kernel_rfl) (by kernel_rfl) (by kernel_rfl) (by decide) (fun L v hL h => h hL) (fun L v => by simp only [getD_set_ne true (show 1 ≠ 18 by decide)]) (fun _ _ _ h => h) (Or.inl ⟨by rfl, ?_⟩) hHeld ?_
      rotate_left
      · intro wt hSw; (try dsimp only at hSw); obtain ⟨h1, h2, h3, h4⟩ := hSw; have q2 := obj_cell h1 (i := 2) rfl; have p3 := obj_cell h2 (i := 3) rfl; clear h1 h2; first | (go_simp; done) | (go_simp; with_reducible rfl) | (trace_state; fail)
      clear hHeld; intro hHeld
      try simp only [Act.put, List.setIfInBounds_toArray, List.set_cons_zero, List.set_cons_succ]
      refine till_take 18 (fun (w' : World) => w'.heap[w.heap.size + 1 + 1]? = some (.cells #[.slice sb n1 cb, .slice sc n2 cc, .slice ag k cs, .slice ad m cdd] 37) ∧ w'.heap[w.heap.size]? = some (.cells #[.slice sa n0 ca, .slice sb n1 cb, .slice sc n2 cc, .slice (some ⟨b, off, none⟩) n3 cd] 27) ∧ w'.cell? ⟨b, off + k * 5 + 1, none⟩ = some (.slice a1 x.params.length b1) ∧ w'.cell? ⟨b, off + k * 5 + 2, none⟩ = some (.int .i64 x.result)) (i := 2) (oi := { dst := some 21, op := Op.fieldAddr 27 (Operand.tmp 2) 3, type := 0, pos := _, after := #[], guard := none }) (u := ?_) rfl (by kernel_rfl) (by kernel_rfl) (by kernel_rfl) (by kernel_rfl) (by kernel_rfl) (by decide) (fun L v hL h => h hL) (fun L v => by simp only [getD_set_ne true (show 2 ≠ 18 by decide)]) (fun _ _ _ h => h) (Or.inl ⟨by rfl, ?_⟩) hHeld ?_
      rotate_left
      · intro wt hSw; (try dsimp only at hSw); obtain ⟨h1, h2, h3, h4⟩ := hSw; have q2 := obj_cell h1 (i := 2) rfl; have p3 := obj_cell h2 (i := 3) rfl; clear h1 h2; first | (go_simp; done) | (go_simp; with_reducible rfl) | (trace_state; fail)
      clear hHeld; intro hHeld
      try simp only [Act.put, List.setIfInBounds_toArray, List.set_cons_zero, List.set_cons_succ]
      refine till_take 18 (fun (w' : World) => w'.heap[w.heap.size + 1 + 1]? = some (.cells #[.slice sb n1 cb, .slice sc n2 cc, .slice ag k cs, .slice ad m cdd] 37) ∧ w'.heap[w.heap.size]? = some (.cells #[.slice sa n0 ca, .slice sb n1 cb, .slice sc n2 cc, .slice (some ⟨b, off, none⟩) n3 cd] 27) ∧ w'.cell? ⟨b, off + k * 5 + 1, none⟩ = some (.slice a1 x.params.length b1) ∧ w'.cell? ⟨b, off + k * 5 + 2, none⟩ = some (.int .i64 x.result)) (i := 3) (oi := { dst := some 22, op := Op.load 25 (Operand.tmp 21), type := 25, pos := _, after := #[{ on := 2, ground := Ground.data }], guard := none }) (u := ?_) rfl (by kernel_rfl) (by kernel_rfl) (by kernel_rfl) (by kernel_rfl) (by kernel_rfl) (by decide) (fun L v hL h => h hL) (fun L v => by simp only [getD_set_ne true (show 3 ≠ 18 by decide)]) (fun _ _ _ h => h) (Or.inl ⟨by rfl, ?_⟩) hHeld ?_
      rotate_left
      · intro wt hSw; (try dsimp only at hSw); obtain ⟨h1, h2, h3, h4⟩ := hSw; have q2 := obj_cell h1 (i := 2) rfl; have p3 := obj_cell h2 (i := 3) rfl; clear h1 h2; first | (go_simp; done) | (go_simp; with_reducible rfl) | (trace_state; fail)
      clear hHeld; intro hHeld
      try simp only [Act.put, List.setIfInBounds_toArray, List.set_cons_zero, List.set_cons_succ]
      refine till_take 18 (fun (w' : World) => w'.heap[w.heap.size + 1 + 1]? = some (.cells #[.slice sb n1 cb, .slice sc n2 cc, .slice ag k cs, .slice ad m cdd] 37) ∧ w'.heap[w.heap.size]? = some (.cells #[.slice sa n0 ca, .slice sb n1 cb, .slice sc n2 cc, .slice (some ⟨b, off, none⟩) n3 cd] 27) ∧ w'.cell? ⟨b, off + k * 5 + 1, none⟩ = some (.slice a1 x.params.length b1) ∧ w'.cell? ⟨b, off + k * 5 + 2, none⟩ = some (.int .i64 x.result)) (i := 4) (oi := { dst := some 23, op := Op.move (Operand.tmp 6), type := 3, pos := _, after := #[], guard := none }) (u := ?_) rfl (by kernel_rfl) (by kernel_rfl) (by kernel_rfl) (by kernel_rfl) (by kernel_rfl) (by decide) (fun L v hL h => h hL) (fun L v => by simp only [getD_set_ne true (show 4 ≠ 18 by decide)]) (fun _ _ _ h => h) (Or.inl ⟨by rfl, ?_⟩) hHeld ?_
      rotate_left
      · intro wt hSw; (try dsimp only at hSw); obtain ⟨h1, h2, h3, h4⟩ := hSw; have q2 := obj_cell h1 (i := 2) rfl; have p3 := obj_cell h2 (i := 3) rfl; clear h1 h2; first | (go_simp; done) | (go_simp; with_reducible rfl) | (trace_state; fail)
      clear hHeld; intro hHeld
      try simp only [Act.put, List.setIfInBounds_toArray, List.set_cons_zero, List.set_cons_succ]
      refine till_take 18 (fun (w' : World) => w'.heap[w.heap.size + 1 + 1]? = some (.cells #[.slice sb n1 cb, .slice sc n2 cc, .slice ag k cs, .slice ad m cdd] 37) ∧ w'.heap[w.heap.size]? = some (.cells #[.slice sa n0 ca, .slice sb n1 cb, .slice sc n2 cc, .slice (some ⟨b, off, none⟩) n3 cd] 27) ∧ w'.cell? ⟨b, off + k * 5 + 1, none⟩ = some (.slice a1 x.params.length b1) ∧ w'.cell? ⟨b, off + k * 5 + 2, none⟩ = some (.int .i64 x.result)) (i := 5) (oi := { dst := some 24, op := Op.indexAddr 25 (Operand.tmp 22) (Operand.tmp 23), type := 0, pos := _, after := #[{ on := 3, ground := Ground.data }, { on := 4, ground := Ground.data }], guard := none }) (u := ?_) rfl (by kernel_rfl) (by kernel_rfl) (by kernel_rfl) (by kernel_rfl) (by kernel_rfl) (by decide) (fun L v hL h => h hL) (fun L v => by simp only [getD_set_ne true (show 5 ≠ 18 by decide)]) (fun _ _ _ h => h) (Or.inl ⟨by rfl, ?_⟩) hHeld ?_
      rotate_left
      · intro wt hSw; (try dsimp only at hSw); obtain ⟨h1, h2, h3, h4⟩ := hSw; have q2 := obj_cell h1 (i := 2) rfl; have p3 := obj_cell h2 (i := 3) rfl; clear h1 h2; first | (go_simp; done) | (go_simp; with_reducible rfl) | (trace_state; fail)
      clear hHeld; intro hHeld
      try simp only [Act.put, List.setIfInBounds_toArray, List.set_cons_zero, List.set_cons_succ]
      refine till_take 18 (fun (w' : World) => w'.heap[w.heap.size + 1 + 1]? = some (.cells #[.slice sb n1 cb, .slice sc n2 cc, .slice ag k cs, .slice ad m cdd] 37) ∧ w'.heap[w.heap.size]? = some (.cells #[.slice sa n0 ca, .slice sb n1 cb, .slice sc n2 cc, .slice (some ⟨b, off, none⟩) n3 cd] 27) ∧ w'.cell? ⟨b, off + k * 5 + 1, none⟩ = some (.slice a1 x.params.length b1) ∧ w'.cell? ⟨b, off + k * 5 + 2, none⟩ = some (.int .i64 x.result)) (i := 6) (oi := { dst := some 25, op := Op.fieldAddr 51 (Operand.tmp 24) 1, type := 0, pos := _, after := #[{ on := 5, ground := Ground.data }], guard := none }) (u := ?_) rfl (by kernel_rfl) (by kernel_rfl) (by kernel_rfl) (by kernel_rfl) (by kernel_rfl) (by decide) (fun L v hL h => h hL) (fun L v => by simp only [getD_set_ne true (show 6 ≠ 18 by decide)]) (fun _ _ _ h => h) (Or.inl ⟨by rfl, ?_⟩) hHeld ?_
      rotate_left
      · intro wt hSw; (try dsimp only at hSw); obtain ⟨h1, h2, h3, h4⟩ := hSw; have q2 := obj_cell h1 (i := 2) rfl; have p3 := obj_cell h2 (i := 3) rfl; clear h1 h2; first | (go_simp; done) | (go_simp; with_reducible rfl) | (trace_state; fail)
      clear hHeld; intro hHeld
      try simp only [Act.put, List.setIfInBounds_toArray, List.set_cons_zero, List.set_cons_succ]
      refine till_take 18 (fun (w' : World) => w'.heap[w.heap.size + 1 + 1]? = some (.cells #[.slice sb n1 cb, .slice sc n2 cc, .slice ag k cs, .slice ad m cdd] 37) ∧ w'.heap[w.heap.size]? = some (.cells #[.slice sa n0 ca, .slice sb n1 cb, .slice sc n2 cc, .slice (some ⟨b, off, none⟩) n3 cd] 27) ∧ w'.cell? ⟨b, off + k * 5 + 1, none⟩ = some (.slice a1 x.params.length b1) ∧ w'.cell? ⟨b, off + k * 5 + 2, none⟩ = some (.int .i64 x.result)) (i := 7) (oi := { dst := some 26, op := Op.load 35 (Operand.tmp 25), type := 35, pos := _, after := #[{ on := 6, ground := Ground.data }], guard := none }) (u := ?_) rfl (by kernel_rfl) (by kernel_rfl) (by kernel_rfl) (by kernel_rfl) (by kernel_rfl) (by decide) (fun L v hL h => h hL) (fun L v => by simp only [getD_set_ne true (show 7 ≠ 18 by decide)]) (fun _ _ _ h => h) (Or.inl ⟨by rfl, ?_⟩) hHeld ?_
      rotate_left
      · intro wt hSw; (try dsimp only at hSw); obtain ⟨h1, h2, h3, h4⟩ := hSw; have q2 := obj_cell h1 (i := 2) rfl; have p3 := obj_cell h2 (i := 3) rfl; clear h1 h2; first | (go_simp; done) | (go_simp; with_reducible rfl) | (trace_state; fail)
      clear hHeld; intro hHeld
      try simp only [Act.put, List.setIfInBounds_toArray, List.set_cons_zero, List.set_cons_succ]
      refine till_take 18 (fun (w' : World) => w'.heap[w.heap.size + 1 + 1]? = some (.cells #[.slice sb n1 cb, .slice sc n2 cc, .slice ag k cs, .slice ad m cdd] 37) ∧ w'.heap[w.heap.size]? = some (.cells #[.slice sa n0 ca, .slice sb n1 cb, .slice sc n2 cc, .slice (some ⟨b, off, none⟩) n3 cd] 27) ∧ w'.cell? ⟨b, off + k * 5 + 1, none⟩ = some (.slice a1 x.params.length b1) ∧ w'.cell? ⟨b, off + k * 5 + 2, none⟩ = some (.int .i64 x.result)) (i := 8) (oi := { dst := some 27, op := Op.fieldAddr 27 (Operand.tmp 2) 3, type := 0, pos := _, after := #[], guard := none }) (u := ?_) rfl (by kernel_rfl) (by kernel_rfl) (by kernel_rfl) (by kernel_rfl) (by kernel_rfl) (by decide) (fun L v hL h => h hL) (fun L v => by simp only [getD_set_ne true (show 8 ≠ 18 by decide)]) (fun _ _ _ h => h) (Or.inl ⟨by rfl, ?_⟩) hHeld ?_
      rotate_left
      · intro wt hSw; (try dsimp only at hSw); obtain ⟨h1, h2, h3, h4⟩ := hSw; have q2 := obj_cell h1 (i := 2) rfl; have p3 := obj_cell h2 (i := 3) rfl; clear h1 h2; first | (go_simp; done) | (go_simp; with_reducible rfl) | (trace_state; fail)
      clear hHeld; intro hHeld
      try simp only [Act.put, List.setIfInBounds_toArray, List.set_cons_zero, List.set_cons_succ]
      refine till_take 18 (fun (w' : World) => w'.heap[w.heap.size + 1 + 1]? = some (.cells #[.slice sb n1 cb, .slice sc n2 cc, .slice ag k cs, .slice ad m cdd] 37) ∧ w'.heap[w.heap.size]? = some (.cells #[.slice sa n0 ca, .slice sb n1 cb, .slice sc n2 cc, .slice (some ⟨b, off, none⟩) n3 cd] 27) ∧ w'.cell? ⟨b, off + k * 5 + 1, none⟩ = some (.slice a1 x.params.length b1) ∧ w'.cell? ⟨b, off + k * 5 + 2, none⟩ = some (.int .i64 x.result)) (i := 9) (oi := { dst := some 28, op := Op.load 25 (Operand.tmp 27), type := 25, pos := _, after := #[{ on := 8, ground := Ground.data }], guard := none }) (u := ?_) rfl (by kernel_rfl) (by kernel_rfl) (by kernel_rfl) (by kernel_rfl) (by kernel_rfl) (by decide) (fun L v hL h => h hL) (fun L v => by simp only [getD_set_ne true (show 9 ≠ 18 by decide)]) (fun _ _ _ h => h) (Or.inl ⟨by rfl, ?_⟩) hHeld ?_
      rotate_left
      · intro wt hSw; (try dsimp only at hSw); obtain ⟨h1, h2, h3, h4⟩ := hSw; have q2 := obj_cell h1 (i := 2) rfl; have p3 := obj_cell h2 (i := 3) rfl; clear h1 h2; first | (go_simp; done) | (go_simp; with_reducible rfl) | (trace_state; fail)
      clear hHeld; intro hHeld
      try simp only [Act.put, List.setIfInBounds_toArray, List.set_cons_zero, List.set_cons_succ]
      refine till_take 18 (fun (w' : World) => w'.heap[w.heap.size + 1 + 1]? = some (.cells #[.slice sb n1 cb, .slice sc n2 cc, .slice ag k cs, .slice ad m cdd] 37) ∧ w'.heap[w.heap.size]? = some (.cells #[.slice sa n0 ca, .slice sb n1 cb, .slice sc n2 cc, .slice (some ⟨b, off, none⟩) n3 cd] 27) ∧ w'.cell? ⟨b, off + k * 5 + 1, none⟩ = some (.slice a1 x.params.length b1) ∧ w'.cell? ⟨b, off + k * 5 + 2, none⟩ = some (.int .i64 x.result)) (i := 10) (oi := { dst := some 29, op := Op.move (Operand.tmp 6), type := 3, pos := _, after := #[], guard := none }) (u := ?_) rfl (by kernel_rfl) (by kernel_rfl) (by kernel_rfl) (by kernel_rfl) (by kernel_rfl) (by decide) (fun L v hL h => h hL) (fun L v => by simp only [getD_set_ne true (show 10 ≠ 18 by decide)]) (fun _ _ _ h => h) (Or.inl ⟨by rfl, ?_⟩) hHeld ?_
      rotate_left
      · intro wt hSw; (try dsimp only at hSw); obtain ⟨h1, h2, h3, h4⟩ := hSw; have q2 := obj_cell h1 (i := 2) rfl; have p3 := obj_cell h2 (i := 3) rfl; clear h1 h2; first | (go_simp; done) | (go_simp; with_reducible rfl) | (trace_state; fail)
      clear hHeld; intro hHeld
      try simp only [Act.put, List.setIfInBounds_toArray, List.set_cons_zero, List.set_cons_succ]
      refine till_take 18 (fun (w' : World) => w'.heap[w.heap.size + 1 + 1]? = some (.cells #[.slice sb n1 cb, .slice sc n2 cc, .slice ag k cs, .slice ad m cdd] 37) ∧ w'.heap[w.heap.size]? = some (.cells #[.slice sa n0 ca, .slice sb n1 cb, .slice sc n2 cc, .slice (some ⟨b, off, none⟩) n3 cd] 27) ∧ w'.cell? ⟨b, off + k * 5 + 1, none⟩ = some (.slice a1 x.params.length b1) ∧ w'.cell? ⟨b, off + k * 5 + 2, none⟩ = some (.int .i64 x.result)) (i := 11) (oi := { dst := some 30, op := Op.indexAddr 25 (Operand.tmp 28) (Operand.tmp 29), type := 0, pos := _, after := #[{ on := 9, ground := Ground.data }, { on := 10, ground := Ground.data }], guard := none }) (u := ?_) rfl (by kernel_rfl) (by kernel_rfl) (by kernel_rfl) (by kernel_rfl) (by kernel_rfl) (by decide) (fun L v hL h => h hL) (fun L v => by simp only [getD_set_ne true (show 11 ≠ 18 by decide)]) (fun _ _ _ h => h) (Or.inl ⟨by rfl, ?_⟩) hHeld ?_
      rotate_left
      · intro wt hSw; (try dsimp only at hSw); obtain ⟨h1, h2, h3, h4⟩ := hSw; have q2 := obj_cell h1 (i := 2) rfl; have p3 := obj_cell h2 (i := 3) rfl; clear h1 h2; first | (go_simp; done) | (go_simp; with_reducible rfl) | (trace_state; fail)
      clear hHeld; intro hHeld
      try simp only [Act.put, List.setIfInBounds_toArray, List.set_cons_zero, List.set_cons_succ]
      refine till_take 18 (fun (w' : World) => w'.heap[w.heap.size + 1 + 1]? = some (.cells #[.slice sb n1 cb, .slice sc n2 cc, .slice ag k cs, .slice ad m cdd] 37) ∧ w'.heap[w.heap.size]? = some (.cells #[.slice sa n0 ca, .slice sb n1 cb, .slice sc n2 cc, .slice (some ⟨b, off, none⟩) n3 cd] 27) ∧ w'.cell? ⟨b, off + k * 5 + 1, none⟩ = some (.slice a1 x.params.length b1) ∧ w'.cell? ⟨b, off + k * 5 + 2, none⟩ = some (.int .i64 x.result)) (i := 12) (oi := { dst := some 31, op := Op.fieldAddr 51 (Operand.tmp 30) 2, type := 0, pos := _, after := #[{ on := 11, ground := Ground.data }], guard := none }) (u := ?_) rfl (by kernel_rfl) (by kernel_rfl) (by kernel_rfl) (by kernel_rfl) (by kernel_rfl) (by decide) (fun L v hL h => h hL) (fun L v => by simp only [getD_set_ne true (show 12 ≠ 18 by decide)]) (fun _ _ _ h => h) (Or.inl ⟨by rfl, ?_⟩) hHeld ?_
      rotate_left
      · intro wt hSw; (try dsimp only at hSw); obtain ⟨h1, h2, h3, h4⟩ := hSw; have q2 := obj_cell h1 (i := 2) rfl; have p3 := obj_cell h2 (i := 3) rfl; clear h1 h2; first | (go_simp; done) | (go_simp; with_reducible rfl) | (trace_state; fail)
      clear hHeld; intro hHeld
      try simp only [Act.put, List.setIfInBounds_toArray, List.set_cons_zero, List.set_cons_succ]
      refine till_take 18 (fun (w' : World) => w'.heap[w.heap.size + 1 + 1]? = some (.cells #[.slice sb n1 cb, .slice sc n2 cc, .slice ag k cs, .slice ad m cdd] 37) ∧ w'.heap[w.heap.size]? = some (.cells #[.slice sa n0 ca, .slice sb n1 cb, .slice sc n2 cc, .slice (some ⟨b, off, none⟩) n3 cd] 27) ∧ w'.cell? ⟨b, off + k * 5 + 1, none⟩ = some (.slice a1 x.params.length b1) ∧ w'.cell? ⟨b, off + k * 5 + 2, none⟩ = some (.int .i64 x.result)) (i := 13) (oi := { dst := some 32, op := Op.load 3 (Operand.tmp 31), type := 3, pos := _, after := #[{ on := 12, ground := Ground.data }], guard := none }) (u := ?_) rfl (by kernel_rfl) (by kernel_rfl) (by kernel_rfl) (by kernel_rfl) (by kernel_rfl) (by decide) (fun L v hL h => h hL) (fun L v => by simp only [getD_set_ne true (show 13 ≠ 18 by decide)]) (fun _ _ _ h => h) (Or.inl ⟨by rfl, ?_⟩) hHeld ?_
      rotate_left
      · intro wt hSw; (try dsimp only at hSw); obtain ⟨h1, h2, h3, h4⟩ := hSw; have q2 := obj_cell h1 (i := 2) rfl; have p3 := obj_cell h2 (i := 3) rfl; clear h1 h2; first | (go_simp; done) | (go_simp; with_reducible rfl) | (trace_state; fail)
      clear hHeld; intro hHeld
      try simp only [Act.put, List.setIfInBounds_toArray, List.set_cons_zero, List.set_cons_succ]
      refine till_take 18 (fun (w' : World) => w'.heap[w.heap.size + 1 + 1]? = some (.cells #[.slice sb n1 cb, .slice sc n2 cc, .slice ag k cs, .slice ad m cdd] 37) ∧ w'.heap[w.heap.size]? = some (.cells #[.slice sa n0 ca, .slice sb n1 cb, .slice sc n2 cc, .slice (some ⟨b, off, none⟩) n3 cd] 27) ∧ w'.cell? ⟨b, off + k * 5 + 1, none⟩ = some (.slice a1 x.params.length b1) ∧ w'.cell? ⟨b, off + k * 5 + 2, none⟩ = some (.int .i64 x.result)) (i := 14) (oi := { dst := some 33, op := Op.build 54 #[(0, Operand.tmp 26), (1, Operand.tmp 32)], type := 54, pos := _, after := #[{ on := 7, ground := Ground.data }, { on := 13, ground := Ground.data }], guard := none }) (u := ?_) rfl (by kernel_rfl) (by kernel_rfl) (by kernel_rfl) (by kernel_rfl) (by kernel_rfl) (by decide) (fun L v hL h => h hL) (fun L v => by simp only [getD_set_ne true (show 14 ≠ 18 by decide)]) (fun _ _ _ h => h) (Or.inl ⟨by rfl, ?_⟩) hHeld ?_
      rotate_left
      · intro wt hSw; (try dsimp only at hSw); obtain ⟨h1, h2, h3, h4⟩ := hSw; have q2 := obj_cell h1 (i := 2) rfl; have p3 := obj_cell h2 (i := 3) rfl; clear h1 h2; first | (go_simp; done) | (go_simp; with_reducible rfl) | (trace_state; fail)
      clear hHeld; intro hHeld
      try simp only [Act.put, List.setIfInBounds_toArray, List.set_cons_zero, List.set_cons_succ]
      refine till_one (i := 15) (o := { dst := some 34, op := Op.buildSlice 34 1 #[(0, Operand.tmp 33)], type := 34, pos := _, after := #[{ on := 14, ground := Ground.data }], guard := none }) (by kernel_rfl) rfl (fun K hK => ?_)
      go_simp
      refine hK.out _ _ ?_ (fun hHeld => ?_)
      · (try dsimp only); exact (fun _ => ⟨(get_past (heap_lt hj5)).trans hj5, (get_past (heap_lt hjp)).trans hjp, (cell_past zb).trans e1, (cell_past zb).trans e2⟩)
      clear hK K
      try simp only [Act.put, List.setIfInBounds_toArray, List.set_cons_zero, List.set_cons_succ]
      refine till_one (i := 16) (o := { dst := some 35, op := Op.call { callee := Callee.builtin Builtin.append, args := #[Operand.tmp 20, Operand.tmp 34], argTypes := #[34, 34] }, type := 34, pos := _, after := #[{ on := 1, ground := Ground.data }, { on := 15, ground := Ground.data }], guard := none }) (by kernel_rfl) rfl (fun K hK => ?_)
      rw [if_pos (by kernel_rfl)]
      have hb15 : Below wr.heap.size wr ((wr.alloc (.cells #[.slice a1 x.params.length b1, .int .i64 x.result] 54)).drew) := (by (repeat' (first | (with_reducible exact Below.refl _ _) | (with_reducible assumption) | (with_reducible refine below_drewN ?_ _) | (with_reducible refine Below.alloc ?_ ?_ _) | (with_reducible refine Below.drew ?_) | (with_reducible refine Below.setCell ?_ ?_ _) | go_size))); refine wp_append_src (.tmp 20) (.tmp 34) 34 rfl w.heap.size 54 i zz 2 32 Tryd.underlying34 hi hz hsize hby hzs (by omega) _ k (flatC (sigC U (us.take k))) rfl (owns_below HO.out hb15) _ 1 [.slice a1 x.params.length b1, .int .i64 x.result] rfl ((src_new wr [.slice a1 x.params.length b1, .int .i64 x.result] 54).below ((Below.refl _ _).drew)) rfl (by intro u hu; simp at hu; rcases hu with rfl | rfl <;> rfl) (by unfold maxLen; omega) (by omega) (Nat.le_trans HB.out.size hb15.size) ?_; intro v2 w2 hO2 hG2; have hOw := owns_below HO.out hb15; have kj5 := obj_below hj5 hb15 (heap_lt hj5); have kjp := obj_below hjp hb15 (heap_lt hjp); have kj4 := obj_below hj4 hb15 (heap_lt hj4); have Hj5 := Lib.hid ((hG2.block (w.heap.size + 1 + 1) (heap_lt kj5) (fun e => own_ne_type hOw kj5 (by decide) e.symm)).trans kj5); have Hjp := Lib.hid ((hG2.block w.heap.size (heap_lt kjp) (fun e => own_ne_type hOw kjp (by decide) e.symm)).trans kjp); have Hj4 := Lib.hid ((hG2.block (w.heap.size + 1) (heap_lt kj4) (fun e => own_ne_type hOw kj4 (by decide) e.symm)).trans kj4); have HB2 := Lib.hid (grown3 (HB.out.trans (hb15.mono HB.out.size)) (Nat.le_trans HB.out.size hb15.size) hOw hG2); have He1 := Lib.hid ((HB2.out.cell (p := ⟨b, off + k * 5 + 1, none⟩) hbw).trans y1); have He2 := Lib.hid ((HB2.out.cell (p := ⟨b, off + k * 5 + 2, none⟩) hbw).trans y2); have HD2 := Lib.hid (owns_grown (owns_below HD.out hb15) hG2 (fun g hg => by intro e; exact own_ne_row HO.out HD.out (by decide) e hg)); obtain ⟨av, cv2, rfl⟩ := owns_form hO2; have HO2 := Lib.hid hO2; have f2 := obj_frozen Hj5.out 2; have g2 := obj_cell Hj5.out (i := 2) rfl; clear hO2 hG2 hOw kj5 kjp kj4
      refine hK.out _ _ ?_ (fun hHeld => ?_)
      · (try dsimp only); exact (fun _ => ⟨Hj5.out, Hjp.out, He1.out, He2.out⟩)
      clear hK K
      try simp only [Act.put, List.setIfInBounds_toArray, List.set_cons_zero, List.set_cons_succ]
      refine till_take 18 (fun (w' : World) => w'.heap[w.heap.size + 1 + 1]? = some (.cells #[.slice sb n1 cb, .slice sc n2 cc, .slice ag k cs, .slice ad m cdd] 37) ∧ w'.heap[w.heap.size]? = some (.cells #[.slice sa n0 ca, .slice sb n1 cb, .slice sc n2 cc, .slice (some ⟨b, off, none⟩) n3 cd] 27) ∧ w'.cell? ⟨b, off + k * 5 + 1, none⟩ = some (.slice a1 x.params.length b1) ∧ w'.cell? ⟨b, off + k * 5 + 2, none⟩ = some (.int .i64 x.result)) (i := 17) (oi := { dst := some 36, op := Op.fieldAddr 37 (Operand.tmp 5) 2, type := 0, pos := _, after := #[{ on := 0, ground := Ground.phase }, { on := 1, ground := Ground.phase }, { on := 2, ground := Ground.phase }, { on := 3, ground := Ground.phase }, { on := 4, ground := Ground.phase }, { on := 5, ground := Ground.phase }, { on := 6, ground := Ground.phase }, { on := 7, ground := Ground.phase }, { on := 8, ground := Ground.phase }, { on := 9, ground := Ground.phase }, { on := 10, ground := Ground.phase }, { on := 11, ground := Ground.phase }, { on := 12, ground := Ground.phase }, { on := 13, ground := Ground.phase }, { on := 14, ground := Ground.phase }, { on := 15, ground := Ground.phase }, { on := 16, ground := Ground.phase }], guard := none }) (u := ?_) rfl (by kernel_rfl) (by kernel_rfl) (by kernel_rfl) (by kernel_rfl) (by kernel_rfl) (by decide) (fun L v hL h => h hL) (fun L v => by simp only [getD_set_ne true (show 17 ≠ 18 by decide)]) (fun _ _ _ h => h) (Or.inl ⟨by rfl, ?_⟩) hHeld ?_
      rotate_left
      · intro wt hSw; (try dsimp only at hSw); obtain ⟨h1, h2, h3, h4⟩ := hSw; have q2 := obj_cell h1 (i := 2) rfl; have p3 := obj_cell h2 (i := 3) rfl; clear h1 h2; first | (go_simp; done) | (go_simp; with_reducible rfl) | (trace_state; fail)
      clear hHeld; intro hHeld
      try simp only [Act.put, List.setIfInBounds_toArray, List.set_cons_zero, List.set_cons_succ]
      refine till_one (i := 18) (o := { dst := none, op := Op.store 34 (Operand.tmp 36) (Operand.tmp 35), type := 0, pos := _, after := #[{ on := 17, ground := Ground.data }, { on := 16, ground := Ground.data }, { on := 16, ground := Ground.chain }, { on := 0, ground := Ground.phase }, { on := 1, ground := Ground.phase }, { on := 2, ground := Ground.phase }, { on := 3, ground := Ground.phase }, { on := 4, ground := Ground.phase }, { on := 5, ground := Ground.phase }, { on := 6, ground := Ground.phase }, { on := 7, ground := Ground.phase }, { on := 8, ground := Ground.phase }, { on := 9, ground := Ground.phase }, { on := 10, ground := Ground.phase }, { on := 11, ground := Ground.phase }, { on := 12, ground := Ground.phase }, { on := 13, ground := Ground.phase }, { on := 14, ground := Ground.phase }, { on := 15, ground := Ground.phase }, { on := 16, ground := Ground.phase }], guard := none }) (by kernel_rfl) rfl (fun K hK => ?_)
      go_simp
      refine hK.out _ _ ?_ (fun hHeld => ?_)
      · (try dsimp only); exact (fun h => absurd h (by decide))
      clear hK K
      try simp only [Act.put, List.setIfInBounds_toArray, List.set_cons_zero, List.set_cons_succ]
      refine till_done (by kernel_rfl) ?_ _
      obtain ⟨W3, hW3⟩ : ∃ W3, W3 = w2.setCell ⟨w.heap.size + 1 + 1, 2, none⟩ (.slice av (k + 1) cv2) := ⟨_, rfl⟩
      have HS3 := Lib.hid (show W3.heap[w.heap.size + 1 + 1]? = some (.cells #[.slice sb n1 cb, .slice sc n2 cc, .slice av (k + 1) cv2, .slice ad m cdd] 37) by rw [hW3]; exact obj_self (A := #[.slice sb n1 cb, .slice sc n2 cc, .slice ag k cs, .slice ad m cdd]) Hj5.out)
      have HP3 := Lib.hid (show W3.heap[w.heap.size]? = some (.cells #[.slice sa n0 ca, .slice sb n1 cb, .slice sc n2 cc, .slice (some ⟨b, off, none⟩) n3 cd] 27) by rw [hW3, get_set (by simp <;> omega)]; exact Hjp.out)
      have HR3 := Lib.hid (show W3.heap[w.heap.size + 1]? = some (.cells #[.slice none 0 0, .slice none 0 0, .slice none 0 0, .slice none 0 0] 37) by rw [hW3, get_set (by simp <;> omega)]; exact Hj4.out)
      have HO3 := Lib.hid (show W3.ownsRow w.heap.size 54 2 (.slice av (k + 1) cv2) (k + 1) (flatC (sigC (U ++ [.slice a1 x.params.length b1]) (us.take (k + 1)))) by rw [hW3, HT.out, sigC_snoc _ _ _ _ HUl.out]; exact owns_set HO2.out (own_ne_type HO2.out Hj5.out (by decide)))
      have HD3 := Lib.hid (show W3.ownsRow w.heap.size 3 1 (.slice ad m cdd) m (iV (partL p u k)) by rw [hW3]; exact owns_set HD2.out (own_ne_type HD2.out Hj5.out (by decide)))
      have HB3 := Lib.hid (show Below w.heap.size w W3 by rw [hW3]; exact HB2.out.setCell (p := ⟨w.heap.size + 1 + 1, 2, none⟩) (show w.heap.size ≤ w.heap.size + 1 + 1 by omega) _)
      have HUR3 := Lib.hid (show ∀ (i : Nat) (u : Value) (y : Un), (U ++ [.slice a1 x.params.length b1])[i]? = some u → us[i]? = some y → RowR 1 intR w u y.params from by
        intro i v y hv hy
        by_cases hik : i < U.length
        · rw [List.getElem?_append_left hik] at hv
          exact HUR.out i v y hv hy
        · have hi2 := lt_of_get hv
          simp only [List.length_append, List.length_cons, List.length_nil] at hi2
          obtain rfl : i = U.length := by omega
          rw [List.getElem?_append_right (Nat.le_refl _), Nat.sub_self] at hv
          obtain rfl := Option.some.inj hv
          rw [HU.out, HXx.out] at hy
          obtain rfl := Option.some.inj hy
          exact HUx.out.ps)
      have HW3 := Lib.hid hW3
      clear hHeld hW3 f2 g2 e1 e2 c3 hj5 hjp hj4
      have HU3 := Lib.hid (show (U ++ [Value.slice a1 x.params.length b1]).length = k + 1 by rw [List.length_append, HU.out]; rfl)
      go_upto_region 6 with fail
      rw [← HW3.out]
      by_cases hku : (k : Int) = u
      · subst hku
        have qe : ((k : Int) == (k : Int)) = true := by simp
        have hU3 := HUx.out.below HB3.out
        have hSl := ref15_SlotsO _ _ _ x W3 hU3 (hfu x (List.mem_of_getElem? HXx.out))
        have c3 := obj_cell HP3.out (i := 3) rfl
        have d0 := (HB3.out.cell (p := ⟨b, off + k * 5, none⟩) hbw).trans y0
        have d1 := (HB3.out.cell (p := ⟨b, off + k * 5 + 1, none⟩) hbw).trans y1
        have d2 := (HB3.out.cell (p := ⟨b, off + k * 5 + 2, none⟩) hbw).trans y2
        have d3 := (HB3.out.cell (p := ⟨b, off + k * 5 + 3, none⟩) hbw).trans y3
        have d4 := (HB3.out.cell (p := ⟨b, off + k * 5 + 4, none⟩) hbw).trans y4
        have hPL := Lib.hid (show partL p (k : Int) (k + 1) = slotsL x by
          unfold partL scopeL
          rw [if_pos (by omega), if_pos (by omega), HUS.out]
          simp [HXx.out])
        clear hU3 y0 y1 y2 y3 y4
        go_wp2_with fail
        refine hSl.mono ?_; rintro e w4 ⟨r, rfl, hO4, hz4, hb4⟩
        obtain ⟨ar, cr, rfl⟩ := owns_form hO4
        have j5 := obj_below HS3.out hb4 (heap_lt HS3.out)
        have jp := obj_below HP3.out hb4 (heap_lt HP3.out)
        have j4 := obj_below HR3.out hb4 (heap_lt HR3.out)
        have f5 := obj_frozen j5 3
        have g5 := obj_cell j5 (i := 3) rfl
        obtain ⟨W5, hW5⟩ : ∃ W5, W5 = w4.setCell ⟨w.heap.size + 1 + 1, 3, none⟩ (.slice ar (slotsL x).length cr) := ⟨_, rfl⟩
        have HS5 := Lib.hid (show W5.heap[w.heap.size + 1 + 1]? = some (.cells #[.slice sb n1 cb, .slice sc n2 cc, .slice av (k + 1) cv2, .slice ar (slotsL x).length cr] 37) by rw [hW5]; exact obj_self (A := #[.slice sb n1 cb, .slice sc n2 cc, .slice av (k + 1) cv2, .slice ad m cdd]) j5)
        have HP5 := Lib.hid (show W5.heap[w.heap.size]? = some (.cells #[.slice sa n0 ca, .slice sb n1 cb, .slice sc n2 cc, .slice (some ⟨b, off, none⟩) n3 cd] 27) by rw [hW5, get_set (by simp <;> omega)]; exact jp)
        have HR5 := Lib.hid (show W5.heap[w.heap.size + 1]? = some (.cells #[.slice none 0 0, .slice none 0 0, .slice none 0 0, .slice none 0 0] 37) by rw [hW5, get_set (by simp <;> omega)]; exact j4)
        have HO5 := Lib.hid (show W5.ownsRow w.heap.size 54 2 (.slice av (k + 1) cv2) (k + 1) (flatC (sigC (U ++ [.slice a1 x.params.length b1]) (us.take (k + 1)))) by rw [hW5]; exact owns_set (owns_below HO3.out hb4) (own_ne_type (owns_below HO3.out hb4) j5 (by decide)))
        have HD5 := Lib.hid (show W5.ownsRow w.heap.size 3 1 (.slice ar (slotsL x).length cr) (slotsL x).length (iV (partL p (k : Int) (k + 1))) by rw [hW5, hPL.out]; exact owns_set (own_low hO4 HB3.out.size) (own_ne_type hO4 j5 (by decide)))
        have HB5 := Lib.hid (show Below w.heap.size w W5 by rw [hW5]; exact (HB3.out.trans (hb4.mono HB3.out.size)).setCell (p := ⟨w.heap.size + 1 + 1, 3, none⟩) (show w.heap.size ≤ w.heap.size + 1 + 1 by omega) _)
        have HM5 := Lib.hid (show (slotsL x).length = (partL p (k : Int) (k + 1)).length ∧ ∀ z ∈ partL p (k : Int) (k + 1), I64 z by rw [hPL.out]; exact ⟨rfl, hz4⟩)
        have HW5 := Lib.hid hW5
        clear hW5 j5 jp j4 hO4 hz4 hb4 hSl
        go_upto_region 4 with fail
        rw [← HW5.out]
        go_wp2_with fail
        go_roundw
        case rel => exact ⟨k + 1, _, _, _, _, _, _, by omega, by simp, HS5, HP5, HR5, HU3, HUR3, HO5, HD5, HM5, HB5⟩
        case measure => first | (simp [intOf]; done) | (simp [intOf]; omega)
      · have qe : ((k : Int) == u) = false := by simpa using hku
        have hPL := Lib.hid (show partL p u (k + 1) = partL p u k by
          unfold partL
          by_cases h : u < (k : Int)
          · rw [if_pos h, if_pos (by omega)]
          · rw [if_neg h, if_neg (by omega)])
        have HD5 := Lib.hid (show W3.ownsRow w.heap.size 3 1 (.slice ad m cdd) m (iV (partL p u (k + 1))) by rw [hPL.out]; exact HD3.out)
        have HM5 := Lib.hid (show m = (partL p u (k + 1)).length ∧ ∀ z ∈ partL p u (k + 1), I64 z by rw [hPL.out]; exact HM.out)
        clear hku
        go_wp2_with fail
        go_roundw
        case rel => exact ⟨k + 1, _, _, _, _, _, _, by omega, by simp, HS3, HP3, HR3, HU3, HUR3, HO3, HD5, HM5, HB3⟩
        case measure => first | (simp [intOf]; done) | (simp [intOf]; omega)
    · obtain rfl : k = n3 := by omega
      have qk : ((k : Int) < (k : Int)) = False := eq_false (by omega)
      have hPL := Lib.hid (show partL p u k = scopeL p u by
        unfold partL
        by_cases h : u < (k : Int)
        · rw [if_pos h]
        · rw [if_neg h]
          unfold scopeL
          by_cases h0 : 0 ≤ u
          · rw [if_pos h0, HUS.out, List.getElem?_eq_none (by rw [HN.out]; omega)]; rfl
          · rw [if_neg h0])
      have d0 := obj_cell hj5 (i := 0) rfl
      have d1 := obj_cell hj5 (i := 1) rfl
      have d2 := obj_cell hj5 (i := 2) rfl
      have d3 := obj_cell hj5 (i := 3) rfl
      obtain ⟨⟨z0, z1, z2, z3⟩, ⟨y0, y1, y2, y3⟩, hfin⟩ := set4 (a := .slice sb n1 cb) (b := .slice sc n2 cc) (c := .slice ag k cs) (d := .slice ad m cdd) hj4
      have e0 := obj_cell hfin (i := 0) rfl
      have e1 := obj_cell hfin (i := 1) rfl
      have e2 := obj_cell hfin (i := 2) rfl
      have e3 := obj_cell hfin (i := 3) rfl
      clear hfin
      go_wp2_with fail
      refine bodyPost_ret (by simp [results, Tryd.results9, go_sem, e0, e1, e2, e3]; try rfl) rfl ?_
      have hBf := (((HB.out.setCell (p := ⟨w.heap.size + 1, 0, none⟩) (Nat.le_succ _) (.slice sb n1 cb)).setCell (p := ⟨w.heap.size + 1, 1, none⟩) (Nat.le_succ _) (.slice sc n2 cc)).setCell (p := ⟨w.heap.size + 1, 2, none⟩) (Nat.le_succ _) (.slice ag k cs)).setCell (p := ⟨w.heap.size + 1, 3, none⟩) (Nat.le_succ _) (.slice ad m cdd)
      have k1 := obj_self (i := 0) (x := .slice sb n1 cb) hj4
      have k2 := obj_self (i := 1) (x := .slice sc n2 cc) k1
      have k3 := obj_self (i := 2) (x := .slice ag k cs) k2
      have o1 := owns_set (o := 0) (x := .slice sb n1 cb) HO.out (own_ne_type HO.out hj4 (by decide))
      have o2 := owns_set (o := 1) (x := .slice sc n2 cc) o1 (own_ne_type o1 k1 (by decide))
      have o3 := owns_set (o := 2) (x := .slice ag k cs) o2 (own_ne_type o2 k2 (by decide))
      have o4 := owns_set (o := 3) (x := .slice ad m cdd) o3 (own_ne_type o3 k3 (by decide))
      have p1 := owns_set (o := 0) (x := .slice sb n1 cb) HD.out (own_ne_type HD.out hj4 (by decide))
      have p2 := owns_set (o := 1) (x := .slice sc n2 cc) p1 (own_ne_type p1 k1 (by decide))
      have p3 := owns_set (o := 2) (x := .slice ag k cs) p2 (own_ne_type p2 k2 (by decide))
      have p4 := owns_set (o := 3) (x := .slice ad m cdd) p3 (own_ne_type p3 k3 (by decide))
      refine ⟨_, _, _, _, rfl, ⟨HV.out.below varR_stable hBf, HK.out.below blkR_stable hBf, ?_, ?_⟩, hBf⟩
      · rw [HUS.out]
        rw [List.take_of_length_le (by rw [HN.out]; exact Nat.le_refl _)] at o4
        exact sigs_rowR HN.out.symm (by rw [HU.out, HN.out]) (fun i v y hv hy => (HUR.out i v y hv hy).below intR_stable hBf) o4
      · rw [← hPL.out]
        exact row_of_owns (own_eq2 p4 HM.out.1 rfl) HM.out.2
end Go.Proofs.YtpecpeedefeokaaDoor

/- Layer 26: what a scope's box holds; how large scopes are. -/
namespace Go.Proofs.YtpecpeedefeokaaDoor
open Go.RowKit
set_option linter.unusedSimpArgs false
set_option linter.unusedVariables false
theorem boxed_four {w : World} {x0 x1 x2 x3 : Value} {g : Nat} {t : TypeId} (h : w.heap[g]? = some (.cells #[x0, x1, x2, x3] t)) :
    w.cell? ⟨g, 0, none⟩ = some x0 ∧ w.cell? ⟨g, 1, none⟩ = some x1 ∧ w.cell? ⟨g, 2, none⟩ = some x2 ∧ w.cell? ⟨g, 3, none⟩ = some x3 :=
  ⟨obj_cell h (i := 0) rfl, obj_cell h (i := 1) rfl, obj_cell h (i := 2) rfl, obj_cell h (i := 3) rfl⟩
theorem scope_small {p : Pr} (u : Int) (h : fewP p = true) : p.vars.length ≤ 70 ∧ p.blocks.length ≤ 40 ∧ (scopeL p u).length ≤ 2000 := by
  have h := of_decide_eq_true h
  refine ⟨h.1.2.1, h.1.2.2.1, ?_⟩
  unfold scopeL
  split
  · cases hu : p.units[u.toNat]? with
    | none => simp
    | some x =>
      have hx := of_decide_eq_true (h.2.2.2 x (List.mem_of_getElem? hu))
      have h1 : (if x.result = 0 then ([] : List Int) else [x.result]).length ≤ 1 := by split <;> simp
      show (slotsL x).length ≤ 2000
      unfold slotsL
      rw [List.length_append, List.length_append]
      omega
  · simp
def scP (p : Pr) (u : Int) : Sc := ⟨p.vars, p.blocks, scopeL p u⟩
theorem scAt_of {w : World} {a b c d : Value} {p : Pr} {u : Int} (h : ScopeAt w a b c d p u) : ScAt w a b d (scP p u) := ⟨h.1, h.2.1, h.2.2.2⟩
end Go.Proofs.YtpecpeedefeokaaDoor

/- Layer 26: the document's Type, of an expression with none within it. -/
namespace Go.Proofs.YtpecpeedefeokaaDoor
open Go.RowKit
set_option linter.unusedSimpArgs false
set_option linter.unusedVariables false
theorem tyV_at {k : Int} {j : Nat} (h : j < (bF k).length) : (tyV k)[j]? = some (.int .i64 (fldT k (j : Int))) := by
  have h0 : ¬ ((j : Int) < 0) := by omega
  unfold tyV fldT
  simp [List.getD, h, h0]
theorem bF_small (k : Int) : (bF k).length ≤ 10 := by
  unfold bF
  repeat' split
  all_goals decide
set_option maxRecDepth 100000 in
set_option maxHeartbeats 8000000 in
theorem ref26_Type0 (a b c d : Value) (s : Sc) (op t n m : Int) (h2 : ¬ op = 2) (v : Value) (w : World) (hs : ScAt w a b d s) (hv : ExV w v ⟨op, t, n, m, []⟩) : Calls Tryd.prog 11 #[.agg #[a, b, c, d], v] w fun r w' => r = .returned (.int .i64 (leafT s ⟨op, t, n, m, []⟩)) ∧ Below w.heap.size w w' := by
  obtain ⟨sl, rfl, _, hrl⟩ := hv
  obtain ⟨al, cl, rfl⟩ := row_get hrl
  have HS := Lib.hid (fun W (h : Below w.heap.size w W) => hs.below h)
  obtain ⟨sa, ca, rfl⟩ := row_get hs.vs
  obtain ⟨sb, cb, rfl⟩ := row_get hs.bs
  obtain ⟨sd, cd, rfl⟩ := row_get hs.ss
  obtain ⟨NV, hNV⟩ : ∃ N, s.vars.length = N := ⟨_, rfl⟩
  obtain ⟨NB, hNB⟩ : ∃ N, s.blocks.length = N := ⟨_, rfl⟩
  obtain ⟨NS, hNS⟩ : ∃ N, s.slots.length = N := ⟨_, rfl⟩
  have HNV := Lib.hid hNV
  have HNB := Lib.hid hNB
  have HNS := Lib.hid hNS
  have hlv := hs.vs.len
  have hlb := hs.bs.len
  have hls := hs.ss.len
  simp only [List.length_nil] at HS ⊢
  rw [hNV, hNB, hNS] at HS
  rw [hNV] at hlv ⊢
  rw [hNB] at hlb ⊢
  rw [hNS] at hls ⊢
  clear hs hNV hNB hNS hrl
  have hK0 := ref01_Right 0
  rw [show kRight 0 = false from rfl] at hK0
  have hKt := ref01_Right t
  have HW := Lib.hid (show ∀ W, W = (w.alloc (.cells #[.slice sa NV ca, .slice sb NB cb, c, .slice sd NS cd] 37)).alloc (.cells #[.int .i64 op, .int .i64 t, .int .i64 n, .int .i64 m, .slice al 0 cl] 30) → Below w.heap.size w W ∧ W.heap[w.heap.size]? = some (.cells #[.slice sa NV ca, .slice sb NB cb, c, .slice sd NS cd] 37) ∧ W.heap[w.heap.size + 1]? = some (.cells #[.int .i64 op, .int .i64 t, .int .i64 n, .int .i64 m, .slice al 0 cl] 30) from by
    rintro W rfl
    refine ⟨by (repeat' (first | (with_reducible exact Below.refl _ _) | (with_reducible assumption) | (with_reducible refine below_drewN ?_ _) | (with_reducible refine Below.alloc ?_ ?_ _) | (with_reducible refine Below.drew ?_) | (with_reducible refine Below.setCell ?_ ?_ _) | go_size)), ?_, get_last (by simp)⟩
    rw [get_past (by simp)]; exact get_last rfl)
  by_cases h1 : op = 1
  · subst h1
    by_cases hm : m = 0
    case neg =>
      have em : (m == 0) = false := by simpa using hm
      have hres := Lib.hid (show leafT s ⟨1, t, n, m, []⟩ = 0 by unfold leafT; simp [hm])
      clear hm hKt
      go_enter Tryd.func11, Tryd.ntmps11
      go_wp2_with fail
      refine (hK0 _).mono ?_; rintro r w2 ⟨rfl, rfl⟩
      go_wp2_with fail
      go_ret
      exact ⟨by rw [hres.out]; rfl, by (repeat' (first | (with_reducible exact Below.refl _ _) | (with_reducible assumption) | (with_reducible refine below_drewN ?_ _) | (with_reducible refine Below.alloc ?_ ?_ _) | (with_reducible refine Below.drew ?_) | (with_reducible refine Below.setCell ?_ ?_ _) | go_size))⟩
    subst hm
    have hI := ref01_In t n
    cases hk : kRight t
    · rw [hk] at hKt
      have hki : kIn t n = false := by cases h : kIn t n with | false => rfl | true => exact absurd (kIn_right h) (by rw [hk]; simp)
      have hres := Lib.hid (show leafT s ⟨1, t, n, 0, []⟩ = 0 by unfold leafT; simp [hki])
      clear hk hki hI
      go_enter Tryd.func11, Tryd.ntmps11
      go_wp2_with fail
      refine (hKt _).mono ?_; rintro r w2 ⟨rfl, rfl⟩
      go_wp2_with fail
      refine (hK0 _).mono ?_; rintro r w2 ⟨rfl, rfl⟩
      go_wp2_with fail
      go_ret
      exact ⟨by rw [hres.out]; rfl, by (repeat' (first | (with_reducible exact Below.refl _ _) | (with_reducible assumption) | (with_reducible refine below_drewN ?_ _) | (with_reducible refine Below.alloc ?_ ?_ _) | (with_reducible refine Below.drew ?_) | (with_reducible refine Below.setCell ?_ ?_ _) | go_size))⟩
    rw [hk] at hKt
    cases hi : kIn t n
    · rw [hi] at hI
      have hres := Lib.hid (show leafT s ⟨1, t, n, 0, []⟩ = 0 by unfold leafT; simp [hi])
      clear hk hi
      go_enter Tryd.func11, Tryd.ntmps11
      go_wp2_with fail
      refine (hKt _).mono ?_; rintro r w2 ⟨rfl, rfl⟩
      go_wp2_with fail
      refine (hI _).mono ?_; rintro r w2 ⟨rfl, rfl⟩
      go_wp2_with fail
      refine (hK0 _).mono ?_; rintro r w2 ⟨rfl, rfl⟩
      go_wp2_with fail
      go_ret
      exact ⟨by rw [hres.out]; rfl, by (repeat' (first | (with_reducible exact Below.refl _ _) | (with_reducible assumption) | (with_reducible refine below_drewN ?_ _) | (with_reducible refine Below.alloc ?_ ?_ _) | (with_reducible refine Below.drew ?_) | (with_reducible refine Below.setCell ?_ ?_ _) | go_size))⟩
    · rw [hi] at hI
      have hres := Lib.hid (show leafT s ⟨1, t, n, 0, []⟩ = t by unfold leafT; simp [hi])
      clear hk hi
      go_enter Tryd.func11, Tryd.ntmps11
      go_wp2_with fail
      refine (hKt _).mono ?_; rintro r w2 ⟨rfl, rfl⟩
      go_wp2_with fail
      refine (hI _).mono ?_; rintro r w2 ⟨rfl, rfl⟩
      go_wp2_with fail
      refine (hKt _).mono ?_; rintro r w2 ⟨rfl, rfl⟩
      go_wp2_with fail
      go_ret
      exact ⟨by rw [hres.out]; rfl, by (repeat' (first | (with_reducible exact Below.refl _ _) | (with_reducible assumption) | (with_reducible refine below_drewN ?_ _) | (with_reducible refine Below.alloc ?_ ?_ _) | (with_reducible refine Below.drew ?_) | (with_reducible refine Below.setCell ?_ ?_ _) | go_size))⟩
  have e1 : (op == 1) = false := by simpa using h1
  by_cases h3 : op = 3
  · subst h3
    by_cases h0 : t = 0
    case neg =>
      have e0 : (t == 0) = false := by simpa using h0
      have hres := Lib.hid (show leafT s ⟨3, t, n, m, []⟩ = 0 by unfold leafT; simp [h0])
      clear h0 hKt
      go_enter Tryd.func11, Tryd.ntmps11
      go_wp2_with fail
      refine (hK0 _).mono ?_; rintro r w2 ⟨rfl, rfl⟩
      go_wp2_with fail
      go_ret
      exact ⟨by rw [hres.out]; rfl, by (repeat' (first | (with_reducible exact Below.refl _ _) | (with_reducible assumption) | (with_reducible refine below_drewN ?_ _) | (with_reducible refine Below.alloc ?_ ?_ _) | (with_reducible refine Below.drew ?_) | (with_reducible refine Below.setCell ?_ ?_ _) | go_size))⟩
    subst h0
    by_cases hm : m = 0
    case neg =>
      have em : (m == 0) = false := by simpa using hm
      have hres := Lib.hid (show leafT s ⟨3, 0, n, m, []⟩ = 0 by unfold leafT; simp [hm])
      clear hm hKt
      go_enter Tryd.func11, Tryd.ntmps11
      go_wp2_with fail
      refine (hK0 _).mono ?_; rintro r w2 ⟨rfl, rfl⟩
      go_wp2_with fail
      go_ret
      exact ⟨by rw [hres.out]; rfl, by (repeat' (first | (with_reducible exact Below.refl _ _) | (with_reducible assumption) | (with_reducible refine below_drewN ?_ _) | (with_reducible refine Below.alloc ?_ ?_ _) | (with_reducible refine Below.drew ?_) | (with_reducible refine Below.setCell ?_ ?_ _) | go_size))⟩
    subst hm
    by_cases hn : 0 ≤ n
    case neg =>
      have en : (0 ≤ n) = False := eq_false hn
      have hin : inb n NS = false := decide_eq_false (fun h => hn h.1)
      have hres := Lib.hid (show leafT s ⟨3, 0, n, 0, []⟩ = 0 by unfold leafT; simp [HNS.out, hin])
      clear hn hin hKt
      go_enter Tryd.func11, Tryd.ntmps11
      go_wp2_with fail
      refine (hK0 _).mono ?_; rintro r w2 ⟨rfl, rfl⟩
      go_wp2_with fail
      go_ret
      exact ⟨by rw [hres.out]; rfl, by (repeat' (first | (with_reducible exact Below.refl _ _) | (with_reducible assumption) | (with_reducible refine below_drewN ?_ _) | (with_reducible refine Below.alloc ?_ ?_ _) | (with_reducible refine Below.drew ?_) | (with_reducible refine Below.setCell ?_ ?_ _) | go_size))⟩
    obtain ⟨k, rfl⟩ : ∃ k : Nat, n = (k : Int) := ⟨n.toNat, by omega⟩
    by_cases hk : k < NS
    case neg =>
      have ek : ((k : Int) < (NS : Int)) = False := eq_false (by omega)
      have hin : inb (k : Int) NS = false := decide_eq_false (by omega)
      have hres := Lib.hid (show leafT s ⟨3, 0, (k : Int), 0, []⟩ = 0 by unfold leafT; simp [HNS.out, hin])
      clear hn hin hk hKt
      go_enter Tryd.func11, Tryd.ntmps11
      go_wp2_with fail
      refine (hK0 _).mono ?_; rintro r w2 ⟨rfl, rfl⟩
      go_wp2_with fail
      go_ret
      exact ⟨by rw [hres.out]; rfl, by (repeat' (first | (with_reducible exact Below.refl _ _) | (with_reducible assumption) | (with_reducible refine below_drewN ?_ _) | (with_reducible refine Below.alloc ?_ ?_ _) | (with_reducible refine Below.drew ?_) | (with_reducible refine Below.setCell ?_ ?_ _) | go_size))⟩
    have hin : inb (k : Int) NS = true := decide_eq_true (by omega)
    obtain ⟨hbW, ho0, ho1⟩ := HW.out _ rfl
    obtain ⟨x, hx⟩ := get_some (L := s.slots) (n := k) (by rw [HNS.out]; exact hk)
    obtain ⟨b, off, rfl, hbw, hc⟩ := ints_at (HS.out w (Below.refl _ _)).ss (k := k) (by rw [HNS.out]; exact hk)
    have d1 := (hc k x hx).1
    have d1 := (hbW.cell (p := ⟨b, off + k, none⟩) hbw).trans d1
    have hxv : s.s (k : Int) = x := by unfold Sc.s; simp [List.getD, hx]
    have qk : ((k : Int) < (NS : Int)) = True := eq_true (by omega)
    have qk' : (k < NS) = True := eq_true hk
    have hcap := cap_row (HS.out w (Below.refl _ _)).ss hk
    have hres := Lib.hid (show leafT s ⟨3, 0, (k : Int), 0, []⟩ = keepR x by unfold leafT; simp [HNS.out, hin, hxv])
    have hK := ref01_Right x
    clear hin hn hc hx hxv hk hbW ho0 ho1 hKt
    cases hkr : kRight x
    · rw [hkr] at hK
      have hres := Lib.hid (show leafT s ⟨3, 0, (k : Int), 0, []⟩ = 0 by rw [hres.out]; unfold keepR; rw [hkr]; rfl)
      clear hkr
      go_enter Tryd.func11, Tryd.ntmps11
      go_wp2_with fail
      refine (hK _).mono ?_; rintro r w2 ⟨rfl, rfl⟩
      go_wp2_with fail
      go_ret
      exact ⟨by rw [hres.out]; rfl, by (repeat' (first | (with_reducible exact Below.refl _ _) | (with_reducible assumption) | (with_reducible refine below_drewN ?_ _) | (with_reducible refine Below.alloc ?_ ?_ _) | (with_reducible refine Below.drew ?_) | (with_reducible refine Below.setCell ?_ ?_ _) | go_size))⟩
    · rw [hkr] at hK
      have hres := Lib.hid (show leafT s ⟨3, 0, (k : Int), 0, []⟩ = x by rw [hres.out]; unfold keepR; rw [hkr]; rfl)
      clear hkr
      go_enter Tryd.func11, Tryd.ntmps11
      go_wp2_with fail
      refine (hK _).mono ?_; rintro r w2 ⟨rfl, rfl⟩
      go_wp2_with fail
      go_ret
      exact ⟨by rw [hres.out]; rfl, by (repeat' (first | (with_reducible exact Below.refl _ _) | (with_reducible assumption) | (with_reducible refine below_drewN ?_ _) | (with_reducible refine Below.alloc ?_ ?_ _) | (with_reducible refine Below.drew ?_) | (with_reducible refine Below.setCell ?_ ?_ _) | go_size))⟩
  have e3 : (op == 3) = false := by simpa using h3
  by_cases h4 : op = 4
  · subst h4
    have hres := Lib.hid (show leafT s ⟨4, t, n, m, []⟩ = 0 by unfold leafT; simp)
    obtain ⟨W0, hW0⟩ : ∃ W0, W0 = (w.alloc (.cells #[.slice sa NV ca, .slice sb NB cb, c, .slice sd NS cd] 37)).alloc (.cells #[.int .i64 4, .int .i64 t, .int .i64 n, .int .i64 m, .slice al 0 cl] 30) := ⟨_, rfl⟩
    obtain ⟨hbW, ho0, ho1⟩ := HW.out W0 hW0
    have HW0 := Lib.hid hW0
    have HB0 := Lib.hid hbW
    have z0 := heap_lt ho0
    have z1 := heap_lt ho1
    have s0 : W0.cell? ⟨w.heap.size, 0, none⟩ = some (.slice sa NV ca) := obj_cell ho0 (i := 0) rfl
    have s1 : W0.cell? ⟨w.heap.size, 1, none⟩ = some (.slice sb NB cb) := obj_cell ho0 (i := 1) rfl
    have g0 : W0.cell? ⟨w.heap.size + 1, 0, none⟩ = some (.int .i64 4) := obj_cell ho1 (i := 0) rfl
    have g1 : W0.cell? ⟨w.heap.size + 1, 1, none⟩ = some (.int .i64 t) := obj_cell ho1 (i := 1) rfl
    have g2 : W0.cell? ⟨w.heap.size + 1, 2, none⟩ = some (.int .i64 n) := obj_cell ho1 (i := 2) rfl
    have g3 : W0.cell? ⟨w.heap.size + 1, 3, none⟩ = some (.int .i64 m) := obj_cell ho1 (i := 3) rfl
    clear hW0 hbW ho0 ho1 HW hKt e1 e3 h1 h3
    have hw2 : IntKind.i64.wrap 2 = 2 := by decide
    have hw1 : IntKind.i64.wrap 1 = 1 := by decide
    have hwt : IntKind.i64.wrap (Int.tdiv 2 2) = 1 := by decide
    go_enter Tryd.func11, Tryd.ntmps11
    go_upto_region 17 with fail
    rw [← HW0.out]
    refine wp_region_held_drew (S := (fun w' => Below W0.heap.size W0 w')) (by kernel_rfl) ?_ (fun hHeld => ?_)
    · (try dsimp only); first | assumption | exact Below.alloc hHeld hHeld.size _ | exact (Below.refl _ _).drew | exact Below.drew (Below.refl _ _) | exact Below_drewN _ _ _ | exact Below.refl _ _ | (trace_state; fail)
    refine wpAnyH_take (i := 0) (oi := { dst := some 77, op := Op.move (Operand.tmp 5), type := 3, pos := _, after := #[], guard := none }) (v := ?_) rfl (by kernel_rfl) (by kernel_rfl) (by kernel_rfl) (fun _ _ _ h => h) (Or.inl ⟨by rfl, ?_⟩) (by assumption) ?_
    rotate_left
    · intro wt hSw; (try dsimp only at hSw); have s0 := cellB hSw s0 z0; have g0 := cellB hSw g0 z1; have g1 := cellB hSw g1 z1; have g2 := cellB hSw g2 z1; have g3 := cellB hSw g3 z1; first | (go_simp; done) | (go_simp; with_reducible rfl) | (trace_state; fail)
    try simp only [Act.put, List.setIfInBounds_toArray, List.set_cons_zero, List.set_cons_succ]
    refine wpAnyH_take (i := 1) (oi := { dst := some 78, op := Op.fieldAddr 30 (Operand.tmp 3) 0, type := 0, pos := _, after := #[], guard := none }) (v := ?_) rfl (by kernel_rfl) (by kernel_rfl) (by kernel_rfl) (fun _ _ _ h => h) (Or.inl ⟨by rfl, ?_⟩) (by assumption) ?_
    rotate_left
    · intro wt hSw; (try dsimp only at hSw); have s0 := cellB hSw s0 z0; have g0 := cellB hSw g0 z1; have g1 := cellB hSw g1 z1; have g2 := cellB hSw g2 z1; have g3 := cellB hSw g3 z1; first | (go_simp; done) | (go_simp; with_reducible rfl) | (trace_state; fail)
    try simp only [Act.put, List.setIfInBounds_toArray, List.set_cons_zero, List.set_cons_succ]
    refine wpAnyH_take (i := 2) (oi := { dst := some 79, op := Op.load 3 (Operand.tmp 78), type := 3, pos := _, after := #[{ on := 1, ground := Ground.data }], guard := none }) (v := ?_) rfl (by kernel_rfl) (by kernel_rfl) (by kernel_rfl) (fun _ _ _ h => h) (Or.inl ⟨by rfl, ?_⟩) (by assumption) ?_
    rotate_left
    · intro wt hSw; (try dsimp only at hSw); have s0 := cellB hSw s0 z0; have g0 := cellB hSw g0 z1; have g1 := cellB hSw g1 z1; have g2 := cellB hSw g2 z1; have g3 := cellB hSw g3 z1; first | (go_simp; done) | (go_simp; with_reducible rfl) | (trace_state; fail)
    try simp only [Act.put, List.setIfInBounds_toArray, List.set_cons_zero, List.set_cons_succ]
    refine wpAnyH_take (i := 3) (oi := { dst := some 80, op := Op.binOp BinOp.sub 3 (Operand.tmp 79) (Operand.const (Value.int IntKind.i64 2)) 3, type := 3, pos := _, after := #[{ on := 2, ground := Ground.data }], guard := none }) (v := ?_) rfl (by kernel_rfl) (by kernel_rfl) (by kernel_rfl) (fun _ _ _ h => h) (Or.inl ⟨by rfl, ?_⟩) (by assumption) ?_
    rotate_left
    · intro wt hSw; (try dsimp only at hSw); have s0 := cellB hSw s0 z0; have g0 := cellB hSw g0 z1; have g1 := cellB hSw g1 z1; have g2 := cellB hSw g2 z1; have g3 := cellB hSw g3 z1; first | (go_simp; done) | (go_simp; with_reducible rfl) | (trace_state; fail)
    try simp only [Act.put, List.setIfInBounds_toArray, List.set_cons_zero, List.set_cons_succ]
    refine wpAnyH_take (i := 4) (oi := { dst := some 81, op := Op.binOp BinOp.quo 3 (Operand.tmp 80) (Operand.const (Value.int IntKind.i64 2)) 3, type := 3, pos := _, after := #[{ on := 3, ground := Ground.data }], guard := none }) (v := ?_) rfl (by kernel_rfl) (by kernel_rfl) (by kernel_rfl) (fun _ _ _ h => h) (Or.inl ⟨by rfl, ?_⟩) (by assumption) ?_
    rotate_left
    · intro wt hSw; (try dsimp only at hSw); have s0 := cellB hSw s0 z0; have g0 := cellB hSw g0 z1; have g1 := cellB hSw g1 z1; have g2 := cellB hSw g2 z1; have g3 := cellB hSw g3 z1; first | (go_simp; done) | (go_simp; with_reducible rfl) | (trace_state; fail)
    try simp only [Act.put, List.setIfInBounds_toArray, List.set_cons_zero, List.set_cons_succ]
    refine wpAnyH_take (i := 5) (oi := { dst := some 82, op := Op.binOp BinOp.eql 3 (Operand.tmp 77) (Operand.tmp 81) 3, type := 4, pos := _, after := #[{ on := 0, ground := Ground.data }, { on := 4, ground := Ground.data }], guard := none }) (v := ?_) rfl (by kernel_rfl) (by kernel_rfl) (by kernel_rfl) (fun _ _ _ h => h) (Or.inl ⟨by rfl, ?_⟩) (by assumption) ?_
    rotate_left
    · intro wt hSw; (try dsimp only at hSw); have s0 := cellB hSw s0 z0; have g0 := cellB hSw g0 z1; have g1 := cellB hSw g1 z1; have g2 := cellB hSw g2 z1; have g3 := cellB hSw g3 z1; first | (go_simp; done) | (go_simp; with_reducible rfl) | (trace_state; fail)
    try simp only [Act.put, List.setIfInBounds_toArray, List.set_cons_zero, List.set_cons_succ]
    refine wpAnyH_take (i := 6) (oi := { dst := some 83, op := Op.move (Operand.tmp 82), type := 4, pos := _, after := #[{ on := 5, ground := Ground.data }], guard := none }) (v := ?_) rfl (by kernel_rfl) (by kernel_rfl) (by kernel_rfl) (fun _ _ _ h => h) (Or.inl ⟨by rfl, ?_⟩) (by assumption) ?_
    rotate_left
    · intro wt hSw; (try dsimp only at hSw); have s0 := cellB hSw s0 z0; have g0 := cellB hSw g0 z1; have g1 := cellB hSw g1 z1; have g2 := cellB hSw g2 z1; have g3 := cellB hSw g3 z1; first | (go_simp; done) | (go_simp; with_reducible rfl) | (trace_state; fail)
    try simp only [Act.put, List.setIfInBounds_toArray, List.set_cons_zero, List.set_cons_succ]
    refine wpAnyH_take (i := 7) (oi := { dst := some 84, op := Op.fieldAddr 30 (Operand.tmp 3) 1, type := 0, pos := _, after := #[{ on := 6, ground := Ground.guard }], guard := some (6, true) }) (v := undef) rfl (by kernel_rfl) (by kernel_rfl) (by kernel_rfl) (fun _ _ _ h => h) (Or.inr ⟨by rfl, rfl⟩) (by assumption) ?_
    try simp only [Act.put, List.setIfInBounds_toArray, List.set_cons_zero, List.set_cons_succ]
    refine wpAnyH_take (i := 8) (oi := { dst := some 85, op := Op.load 3 (Operand.tmp 84), type := 3, pos := _, after := #[{ on := 7, ground := Ground.data }, { on := 6, ground := Ground.guard }], guard := some (6, true) }) (v := undef) rfl (by kernel_rfl) (by kernel_rfl) (by kernel_rfl) (fun _ _ _ h => h) (Or.inr ⟨by rfl, rfl⟩) (by assumption) ?_
    try simp only [Act.put, List.setIfInBounds_toArray, List.set_cons_zero, List.set_cons_succ]
    refine wpAnyH_take (i := 9) (oi := { dst := some 86, op := Op.binOp BinOp.eql 3 (Operand.tmp 85) (Operand.const (Value.int IntKind.i64 0)) 3, type := 4, pos := _, after := #[{ on := 8, ground := Ground.data }, { on := 6, ground := Ground.guard }], guard := some (6, true) }) (v := undef) rfl (by kernel_rfl) (by kernel_rfl) (by kernel_rfl) (fun _ _ _ h => h) (Or.inr ⟨by rfl, rfl⟩) (by assumption) ?_
    try simp only [Act.put, List.setIfInBounds_toArray, List.set_cons_zero, List.set_cons_succ]
    refine wpAnyH_take (i := 10) (oi := { dst := some 87, op := Op.pick (Operand.tmp 83) (Operand.tmp 86) (Operand.const (Value.bool false)), type := 4, pos := _, after := #[{ on := 6, ground := Ground.data }, { on := 9, ground := Ground.data }], guard := none }) (v := ?_) rfl (by kernel_rfl) (by kernel_rfl) (by kernel_rfl) (fun _ _ _ h => h) (Or.inl ⟨by rfl, ?_⟩) (by assumption) ?_
    rotate_left
    · intro wt hSw; (try dsimp only at hSw); have s0 := cellB hSw s0 z0; have g0 := cellB hSw g0 z1; have g1 := cellB hSw g1 z1; have g2 := cellB hSw g2 z1; have g3 := cellB hSw g3 z1; first | (go_simp; done) | (go_simp; with_reducible rfl) | (trace_state; fail)
    try simp only [Act.put, List.setIfInBounds_toArray, List.set_cons_zero, List.set_cons_succ]
    refine wpAnyH_take (i := 11) (oi := { dst := some 88, op := Op.move (Operand.tmp 87), type := 4, pos := _, after := #[{ on := 10, ground := Ground.data }, { on := 6, ground := Ground.chain }], guard := none }) (v := ?_) rfl (by kernel_rfl) (by kernel_rfl) (by kernel_rfl) (fun _ _ _ h => h) (Or.inl ⟨by rfl, ?_⟩) (by assumption) ?_
    rotate_left
    · intro wt hSw; (try dsimp only at hSw); have s0 := cellB hSw s0 z0; have g0 := cellB hSw g0 z1; have g1 := cellB hSw g1 z1; have g2 := cellB hSw g2 z1; have g3 := cellB hSw g3 z1; first | (go_simp; done) | (go_simp; with_reducible rfl) | (trace_state; fail)
    try simp only [Act.put, List.setIfInBounds_toArray, List.set_cons_zero, List.set_cons_succ]
    refine wpAnyH_take (i := 12) (oi := { dst := some 89, op := Op.fieldAddr 30 (Operand.tmp 3) 3, type := 0, pos := _, after := #[{ on := 11, ground := Ground.guard }], guard := some (11, true) }) (v := undef) rfl (by kernel_rfl) (by kernel_rfl) (by kernel_rfl) (fun _ _ _ h => h) (Or.inr ⟨by rfl, rfl⟩) (by assumption) ?_
    try simp only [Act.put, List.setIfInBounds_toArray, List.set_cons_zero, List.set_cons_succ]
    refine wpAnyH_take (i := 13) (oi := { dst := some 90, op := Op.load 3 (Operand.tmp 89), type := 3, pos := _, after := #[{ on := 12, ground := Ground.data }, { on := 11, ground := Ground.guard }], guard := some (11, true) }) (v := undef) rfl (by kernel_rfl) (by kernel_rfl) (by kernel_rfl) (fun _ _ _ h => h) (Or.inr ⟨by rfl, rfl⟩) (by assumption) ?_
    try simp only [Act.put, List.setIfInBounds_toArray, List.set_cons_zero, List.set_cons_succ]
    refine wpAnyH_take (i := 14) (oi := { dst := some 91, op := Op.binOp BinOp.eql 3 (Operand.tmp 90) (Operand.const (Value.int IntKind.i64 0)) 3, type := 4, pos := _, after := #[{ on := 13, ground := Ground.data }, { on := 11, ground := Ground.guard }], guard := some (11, true) }) (v := undef) rfl (by kernel_rfl) (by kernel_rfl) (by kernel_rfl) (fun _ _ _ h => h) (Or.inr ⟨by rfl, rfl⟩) (by assumption) ?_
    try simp only [Act.put, List.setIfInBounds_toArray, List.set_cons_zero, List.set_cons_succ]
    refine wpAnyH_take (i := 15) (oi := { dst := some 92, op := Op.pick (Operand.tmp 88) (Operand.tmp 91) (Operand.const (Value.bool false)), type := 4, pos := _, after := #[{ on := 11, ground := Ground.data }, { on := 14, ground := Ground.data }], guard := none }) (v := ?_) rfl (by kernel_rfl) (by kernel_rfl) (by kernel_rfl) (fun _ _ _ h => h) (Or.inl ⟨by rfl, ?_⟩) (by assumption) ?_
    rotate_left
    · intro wt hSw; (try dsimp only at hSw); have s0 := cellB hSw s0 z0; have g0 := cellB hSw g0 z1; have g1 := cellB hSw g1 z1; have g2 := cellB hSw g2 z1; have g3 := cellB hSw g3 z1; first | (go_simp; done) | (go_simp; with_reducible rfl) | (trace_state; fail)
    try simp only [Act.put, List.setIfInBounds_toArray, List.set_cons_zero, List.set_cons_succ]
    refine wpAnyH_take (i := 16) (oi := { dst := some 93, op := Op.move (Operand.tmp 92), type := 4, pos := _, after := #[{ on := 15, ground := Ground.data }, { on := 11, ground := Ground.chain }], guard := none }) (v := ?_) rfl (by kernel_rfl) (by kernel_rfl) (by kernel_rfl) (fun _ _ _ h => h) (Or.inl ⟨by rfl, ?_⟩) (by assumption) ?_
    rotate_left
    · intro wt hSw; (try dsimp only at hSw); have s0 := cellB hSw s0 z0; have g0 := cellB hSw g0 z1; have g1 := cellB hSw g1 z1; have g2 := cellB hSw g2 z1; have g3 := cellB hSw g3 z1; first | (go_simp; done) | (go_simp; with_reducible rfl) | (trace_state; fail)
    try simp only [Act.put, List.setIfInBounds_toArray, List.set_cons_zero, List.set_cons_succ]
    refine wpAnyH_take (i := 17) (oi := { dst := some 94, op := Op.fieldAddr 30 (Operand.tmp 3) 2, type := 0, pos := _, after := #[{ on := 16, ground := Ground.guard }], guard := some (16, true) }) (v := undef) rfl (by kernel_rfl) (by kernel_rfl) (by kernel_rfl) (fun _ _ _ h => h) (Or.inr ⟨by rfl, rfl⟩) (by assumption) ?_
    try simp only [Act.put, List.setIfInBounds_toArray, List.set_cons_zero, List.set_cons_succ]
    refine wpAnyH_take (i := 18) (oi := { dst := some 95, op := Op.load 3 (Operand.tmp 94), type := 3, pos := _, after := #[{ on := 17, ground := Ground.data }, { on := 16, ground := Ground.guard }], guard := some (16, true) }) (v := undef) rfl (by kernel_rfl) (by kernel_rfl) (by kernel_rfl) (fun _ _ _ h => h) (Or.inr ⟨by rfl, rfl⟩) (by assumption) ?_
    try simp only [Act.put, List.setIfInBounds_toArray, List.set_cons_zero, List.set_cons_succ]
    refine wpAnyH_take (i := 19) (oi := { dst := some 96, op := Op.binOp BinOp.geq 3 (Operand.tmp 95) (Operand.const (Value.int IntKind.i64 0)) 3, type := 4, pos := _, after := #[{ on := 18, ground := Ground.data }, { on := 16, ground := Ground.guard }], guard := some (16, true) }) (v := undef) rfl (by kernel_rfl) (by kernel_rfl) (by kernel_rfl) (fun _ _ _ h => h) (Or.inr ⟨by rfl, rfl⟩) (by assumption) ?_
    try simp only [Act.put, List.setIfInBounds_toArray, List.set_cons_zero, List.set_cons_succ]
    refine wpAnyH_take (i := 20) (oi := { dst := some 97, op := Op.pick (Operand.tmp 93) (Operand.tmp 96) (Operand.const (Value.bool false)), type := 4, pos := _, after := #[{ on := 16, ground := Ground.data }, { on := 19, ground := Ground.data }], guard := none }) (v := ?_) rfl (by kernel_rfl) (by kernel_rfl) (by kernel_rfl) (fun _ _ _ h => h) (Or.inl ⟨by rfl, ?_⟩) (by assumption) ?_
    rotate_left
    · intro wt hSw; (try dsimp only at hSw); have s0 := cellB hSw s0 z0; have g0 := cellB hSw g0 z1; have g1 := cellB hSw g1 z1; have g2 := cellB hSw g2 z1; have g3 := cellB hSw g3 z1; first | (go_simp; done) | (go_simp; with_reducible rfl) | (trace_state; fail)
    try simp only [Act.put, List.setIfInBounds_toArray, List.set_cons_zero, List.set_cons_succ]
    refine wpAnyH_take (i := 21) (oi := { dst := some 98, op := Op.move (Operand.tmp 97), type := 4, pos := _, after := #[{ on := 20, ground := Ground.data }, { on := 16, ground := Ground.chain }], guard := none }) (v := ?_) rfl (by kernel_rfl) (by kernel_rfl) (by kernel_rfl) (fun _ _ _ h => h) (Or.inl ⟨by rfl, ?_⟩) (by assumption) ?_
    rotate_left
    · intro wt hSw; (try dsimp only at hSw); have s0 := cellB hSw s0 z0; have g0 := cellB hSw g0 z1; have g1 := cellB hSw g1 z1; have g2 := cellB hSw g2 z1; have g3 := cellB hSw g3 z1; first | (go_simp; done) | (go_simp; with_reducible rfl) | (trace_state; fail)
    try simp only [Act.put, List.setIfInBounds_toArray, List.set_cons_zero, List.set_cons_succ]
    refine wpAnyH_take (i := 22) (oi := { dst := some 99, op := Op.fieldAddr 30 (Operand.tmp 3) 2, type := 0, pos := _, after := #[{ on := 21, ground := Ground.guard }], guard := some (21, true) }) (v := undef) rfl (by kernel_rfl) (by kernel_rfl) (by kernel_rfl) (fun _ _ _ h => h) (Or.inr ⟨by rfl, rfl⟩) (by assumption) ?_
    try simp only [Act.put, List.setIfInBounds_toArray, List.set_cons_zero, List.set_cons_succ]
    refine wpAnyH_take (i := 23) (oi := { dst := some 100, op := Op.load 3 (Operand.tmp 99), type := 3, pos := _, after := #[{ on := 22, ground := Ground.data }, { on := 21, ground := Ground.guard }], guard := some (21, true) }) (v := undef) rfl (by kernel_rfl) (by kernel_rfl) (by kernel_rfl) (fun _ _ _ h => h) (Or.inr ⟨by rfl, rfl⟩) (by assumption) ?_
    try simp only [Act.put, List.setIfInBounds_toArray, List.set_cons_zero, List.set_cons_succ]
    refine wpAnyH_take (i := 24) (oi := { dst := some 101, op := Op.fieldAddr 37 (Operand.tmp 2) 0, type := 0, pos := _, after := #[{ on := 21, ground := Ground.guard }], guard := some (21, true) }) (v := undef) rfl (by kernel_rfl) (by kernel_rfl) (by kernel_rfl) (fun _ _ _ h => h) (Or.inr ⟨by rfl, rfl⟩) (by assumption) ?_
    try simp only [Act.put, List.setIfInBounds_toArray, List.set_cons_zero, List.set_cons_succ]
    refine wpAnyH_take (i := 25) (oi := { dst := some 102, op := Op.load 23 (Operand.tmp 101), type := 23, pos := _, after := #[{ on := 24, ground := Ground.data }, { on := 21, ground := Ground.guard }], guard := some (21, true) }) (v := undef) rfl (by kernel_rfl) (by kernel_rfl) (by kernel_rfl) (fun _ _ _ h => h) (Or.inr ⟨by rfl, rfl⟩) (by assumption) ?_
    try simp only [Act.put, List.setIfInBounds_toArray, List.set_cons_zero, List.set_cons_succ]
    refine wpAnyH_take (i := 26) (oi := { dst := some 103, op := Op.call { callee := Callee.builtin Builtin.len, args := #[Operand.tmp 102], argTypes := #[23] }, type := 3, pos := _, after := #[{ on := 25, ground := Ground.data }, { on := 21, ground := Ground.guard }], guard := some (21, true) }) (v := undef) rfl (by kernel_rfl) (by kernel_rfl) (by kernel_rfl) (fun _ _ _ h => h) (Or.inr ⟨by rfl, rfl⟩) (by assumption) ?_
    try simp only [Act.put, List.setIfInBounds_toArray, List.set_cons_zero, List.set_cons_succ]
    refine wpAnyH_take (i := 27) (oi := { dst := some 104, op := Op.binOp BinOp.lss 3 (Operand.tmp 100) (Operand.tmp 103) 3, type := 4, pos := _, after := #[{ on := 23, ground := Ground.data }, { on := 26, ground := Ground.data }, { on := 21, ground := Ground.guard }], guard := some (21, true) }) (v := undef) rfl (by kernel_rfl) (by kernel_rfl) (by kernel_rfl) (fun _ _ _ h => h) (Or.inr ⟨by rfl, rfl⟩) (by assumption) ?_
    try simp only [Act.put, List.setIfInBounds_toArray, List.set_cons_zero, List.set_cons_succ]
    refine wpAnyH_take (i := 28) (oi := { dst := some 105, op := Op.pick (Operand.tmp 98) (Operand.tmp 104) (Operand.const (Value.bool false)), type := 4, pos := _, after := #[{ on := 21, ground := Ground.data }, { on := 27, ground := Ground.data }], guard := none }) (v := ?_) rfl (by kernel_rfl) (by kernel_rfl) (by kernel_rfl) (fun _ _ _ h => h) (Or.inl ⟨by rfl, ?_⟩) (by assumption) ?_
    rotate_left
    · intro wt hSw; (try dsimp only at hSw); have s0 := cellB hSw s0 z0; have g0 := cellB hSw g0 z1; have g1 := cellB hSw g1 z1; have g2 := cellB hSw g2 z1; have g3 := cellB hSw g3 z1; first | (go_simp; done) | (go_simp; with_reducible rfl) | (trace_state; fail)
    try simp only [Act.put, List.setIfInBounds_toArray, List.set_cons_zero, List.set_cons_succ]
    refine wpAnyH_take (i := 29) (oi := { dst := some 106, op := Op.move (Operand.tmp 105), type := 4, pos := _, after := #[{ on := 28, ground := Ground.data }, { on := 21, ground := Ground.chain }], guard := none }) (v := ?_) rfl (by kernel_rfl) (by kernel_rfl) (by kernel_rfl) (fun _ _ _ h => h) (Or.inl ⟨by rfl, ?_⟩) (by assumption) ?_
    rotate_left
    · intro wt hSw; (try dsimp only at hSw); have s0 := cellB hSw s0 z0; have g0 := cellB hSw g0 z1; have g1 := cellB hSw g1 z1; have g2 := cellB hSw g2 z1; have g3 := cellB hSw g3 z1; first | (go_simp; done) | (go_simp; with_reducible rfl) | (trace_state; fail)
    try simp only [Act.put, List.setIfInBounds_toArray, List.set_cons_zero, List.set_cons_succ]
    refine wpAnyH_take (i := 30) (oi := { dst := some 107, op := Op.fieldAddr 37 (Operand.tmp 2) 0, type := 0, pos := _, after := #[{ on := 29, ground := Ground.guard }], guard := some (29, true) }) (v := undef) rfl (by kernel_rfl) (by kernel_rfl) (by kernel_rfl) (fun _ _ _ h => h) (Or.inr ⟨by rfl, rfl⟩) (by assumption) ?_
    try simp only [Act.put, List.setIfInBounds_toArray, List.set_cons_zero, List.set_cons_succ]
    refine wpAnyH_take (i := 31) (oi := { dst := some 108, op := Op.load 23 (Operand.tmp 107), type := 23, pos := _, after := #[{ on := 30, ground := Ground.data }, { on := 29, ground := Ground.guard }], guard := some (29, true) }) (v := undef) rfl (by kernel_rfl) (by kernel_rfl) (by kernel_rfl) (fun _ _ _ h => h) (Or.inr ⟨by rfl, rfl⟩) (by assumption) ?_
    try simp only [Act.put, List.setIfInBounds_toArray, List.set_cons_zero, List.set_cons_succ]
    refine wpAnyH_take (i := 32) (oi := { dst := some 109, op := Op.fieldAddr 30 (Operand.tmp 3) 2, type := 0, pos := _, after := #[{ on := 29, ground := Ground.guard }], guard := some (29, true) }) (v := undef) rfl (by kernel_rfl) (by kernel_rfl) (by kernel_rfl) (fun _ _ _ h => h) (Or.inr ⟨by rfl, rfl⟩) (by assumption) ?_
    try simp only [Act.put, List.setIfInBounds_toArray, List.set_cons_zero, List.set_cons_succ]
    refine wpAnyH_take (i := 33) (oi := { dst := some 110, op := Op.load 3 (Operand.tmp 109), type := 3, pos := _, after := #[{ on := 32, ground := Ground.data }, { on := 29, ground := Ground.guard }], guard := some (29, true) }) (v := undef) rfl (by kernel_rfl) (by kernel_rfl) (by kernel_rfl) (fun _ _ _ h => h) (Or.inr ⟨by rfl, rfl⟩) (by assumption) ?_
    try simp only [Act.put, List.setIfInBounds_toArray, List.set_cons_zero, List.set_cons_succ]
    refine wpAnyH_take (i := 34) (oi := { dst := some 111, op := Op.indexAddr 23 (Operand.tmp 108) (Operand.tmp 110), type := 0, pos := _, after := #[{ on := 31, ground := Ground.data }, { on := 33, ground := Ground.data }, { on := 29, ground := Ground.guard }], guard := some (29, true) }) (v := undef) rfl (by kernel_rfl) (by kernel_rfl) (by kernel_rfl) (fun _ _ _ h => h) (Or.inr ⟨by rfl, rfl⟩) (by assumption) ?_
    try simp only [Act.put, List.setIfInBounds_toArray, List.set_cons_zero, List.set_cons_succ]
    refine wpAnyH_take (i := 35) (oi := { dst := some 112, op := Op.fieldAddr 45 (Operand.tmp 111) 2, type := 0, pos := _, after := #[{ on := 34, ground := Ground.data }, { on := 29, ground := Ground.guard }], guard := some (29, true) }) (v := undef) rfl (by kernel_rfl) (by kernel_rfl) (by kernel_rfl) (fun _ _ _ h => h) (Or.inr ⟨by rfl, rfl⟩) (by assumption) ?_
    try simp only [Act.put, List.setIfInBounds_toArray, List.set_cons_zero, List.set_cons_succ]
    refine wpAnyH_take (i := 36) (oi := { dst := some 113, op := Op.load 3 (Operand.tmp 112), type := 3, pos := _, after := #[{ on := 35, ground := Ground.data }, { on := 29, ground := Ground.guard }], guard := some (29, true) }) (v := undef) rfl (by kernel_rfl) (by kernel_rfl) (by kernel_rfl) (fun _ _ _ h => h) (Or.inr ⟨by rfl, rfl⟩) (by assumption) ?_
    try simp only [Act.put, List.setIfInBounds_toArray, List.set_cons_zero, List.set_cons_succ]
    refine wpAnyH_take (i := 37) (oi := { dst := some 114, op := Op.binOp BinOp.gtr 3 (Operand.tmp 113) (Operand.const (Value.int IntKind.i64 1)) 3, type := 4, pos := _, after := #[{ on := 36, ground := Ground.data }, { on := 29, ground := Ground.guard }], guard := some (29, true) }) (v := undef) rfl (by kernel_rfl) (by kernel_rfl) (by kernel_rfl) (fun _ _ _ h => h) (Or.inr ⟨by rfl, rfl⟩) (by assumption) ?_
    try simp only [Act.put, List.setIfInBounds_toArray, List.set_cons_zero, List.set_cons_succ]
    refine wpAnyH_take (i := 38) (oi := { dst := some 115, op := Op.fieldAddr 30 (Operand.tmp 3) 0, type := 0, pos := _, after := #[{ on := 29, ground := Ground.guard }], guard := some (29, true) }) (v := undef) rfl (by kernel_rfl) (by kernel_rfl) (by kernel_rfl) (fun _ _ _ h => h) (Or.inr ⟨by rfl, rfl⟩) (by assumption) ?_
    try simp only [Act.put, List.setIfInBounds_toArray, List.set_cons_zero, List.set_cons_succ]
    refine wpAnyH_take (i := 39) (oi := { dst := some 116, op := Op.load 3 (Operand.tmp 115), type := 3, pos := _, after := #[{ on := 38, ground := Ground.data }, { on := 29, ground := Ground.guard }], guard := some (29, true) }) (v := undef) rfl (by kernel_rfl) (by kernel_rfl) (by kernel_rfl) (fun _ _ _ h => h) (Or.inr ⟨by rfl, rfl⟩) (by assumption) ?_
    try simp only [Act.put, List.setIfInBounds_toArray, List.set_cons_zero, List.set_cons_succ]
    refine wpAnyH_take (i := 40) (oi := { dst := some 117, op := Op.binOp BinOp.eql 3 (Operand.tmp 116) (Operand.const (Value.int IntKind.i64 4)) 3, type := 4, pos := _, after := #[{ on := 39, ground := Ground.data }, { on := 29, ground := Ground.guard }], guard := some (29, true) }) (v := undef) rfl (by kernel_rfl) (by kernel_rfl) (by kernel_rfl) (fun _ _ _ h => h) (Or.inr ⟨by rfl, rfl⟩) (by assumption) ?_
    try simp only [Act.put, List.setIfInBounds_toArray, List.set_cons_zero, List.set_cons_succ]
    refine wpAnyH_take (i := 41) (oi := { dst := some 118, op := Op.binOp BinOp.eql 4 (Operand.tmp 114) (Operand.tmp 117) 4, type := 4, pos := _, after := #[{ on := 37, ground := Ground.data }, { on := 40, ground := Ground.data }, { on := 29, ground := Ground.guard }], guard := some (29, true) }) (v := undef) rfl (by kernel_rfl) (by kernel_rfl) (by kernel_rfl) (fun _ _ _ h => h) (Or.inr ⟨by rfl, rfl⟩) (by assumption) ?_
    try simp only [Act.put, List.setIfInBounds_toArray, List.set_cons_zero, List.set_cons_succ]
    refine wpAnyH_take (i := 42) (oi := { dst := some 119, op := Op.pick (Operand.tmp 106) (Operand.tmp 118) (Operand.const (Value.bool false)), type := 4, pos := _, after := #[{ on := 29, ground := Ground.data }, { on := 41, ground := Ground.data }], guard := none }) (v := ?_) rfl (by kernel_rfl) (by kernel_rfl) (by kernel_rfl) (fun _ _ _ h => h) (Or.inl ⟨by rfl, ?_⟩) (by assumption) ?_
    rotate_left
    · intro wt hSw; (try dsimp only at hSw); have s0 := cellB hSw s0 z0; have g0 := cellB hSw g0 z1; have g1 := cellB hSw g1 z1; have g2 := cellB hSw g2 z1; have g3 := cellB hSw g3 z1; first | (go_simp; done) | (go_simp; with_reducible rfl) | (trace_state; fail)
    try simp only [Act.put, List.setIfInBounds_toArray, List.set_cons_zero, List.set_cons_succ]
    refine wpAnyH_take (i := 43) (oi := { dst := some 120, op := Op.move (Operand.tmp 119), type := 4, pos := _, after := #[{ on := 42, ground := Ground.data }, { on := 29, ground := Ground.chain }], guard := none }) (v := ?_) rfl (by kernel_rfl) (by kernel_rfl) (by kernel_rfl) (fun _ _ _ h => h) (Or.inl ⟨by rfl, ?_⟩) (by assumption) ?_
    rotate_left
    · intro wt hSw; (try dsimp only at hSw); have s0 := cellB hSw s0 z0; have g0 := cellB hSw g0 z1; have g1 := cellB hSw g1 z1; have g2 := cellB hSw g2 z1; have g3 := cellB hSw g3 z1; first | (go_simp; done) | (go_simp; with_reducible rfl) | (trace_state; fail)
    try simp only [Act.put, List.setIfInBounds_toArray, List.set_cons_zero, List.set_cons_succ]
    refine wpAnyH_take (i := 44) (oi := { dst := some 121, op := Op.move (Operand.tmp 5), type := 3, pos := _, after := #[{ on := 43, ground := Ground.guard }], guard := some (43, true) }) (v := undef) rfl (by kernel_rfl) (by kernel_rfl) (by kernel_rfl) (fun _ _ _ h => h) (Or.inr ⟨by rfl, rfl⟩) (by assumption) ?_
    try simp only [Act.put, List.setIfInBounds_toArray, List.set_cons_zero, List.set_cons_succ]
    refine wpAnyH_take (i := 45) (oi := { dst := some 122, op := Op.binOp BinOp.eql 3 (Operand.tmp 121) (Operand.const (Value.int IntKind.i64 0)) 3, type := 4, pos := _, after := #[{ on := 44, ground := Ground.data }, { on := 43, ground := Ground.guard }], guard := some (43, true) }) (v := undef) rfl (by kernel_rfl) (by kernel_rfl) (by kernel_rfl) (fun _ _ _ h => h) (Or.inr ⟨by rfl, rfl⟩) (by assumption) ?_
    try simp only [Act.put, List.setIfInBounds_toArray, List.set_cons_zero, List.set_cons_succ]
    refine wpAnyH_take (i := 46) (oi := { dst := some 123, op := Op.move (Operand.tmp 122), type := 4, pos := _, after := #[{ on := 45, ground := Ground.data }, { on := 43, ground := Ground.chain }, { on := 43, ground := Ground.guard }], guard := some (43, true) }) (v := undef) rfl (by kernel_rfl) (by kernel_rfl) (by kernel_rfl) (fun _ _ _ h => h) (Or.inr ⟨by rfl, rfl⟩) (by assumption) ?_
    try simp only [Act.put, List.setIfInBounds_toArray, List.set_cons_zero, List.set_cons_succ]
    refine wpAnyH_take (i := 47) (oi := { dst := some 124, op := Op.move (Operand.tmp 6), type := 3, pos := _, after := #[{ on := 46, ground := Ground.guard }], guard := some (46, false) }) (v := undef) rfl (by kernel_rfl) (by kernel_rfl) (by kernel_rfl) (fun _ _ _ h => h) (Or.inr ⟨by rfl, rfl⟩) (by assumption) ?_
    try simp only [Act.put, List.setIfInBounds_toArray, List.set_cons_zero, List.set_cons_succ]
    refine wpAnyH_take (i := 48) (oi := { dst := some 125, op := Op.binOp BinOp.eql 3 (Operand.tmp 124) (Operand.const (Value.int IntKind.i64 2)) 3, type := 4, pos := _, after := #[{ on := 47, ground := Ground.data }, { on := 46, ground := Ground.guard }], guard := some (46, false) }) (v := undef) rfl (by kernel_rfl) (by kernel_rfl) (by kernel_rfl) (fun _ _ _ h => h) (Or.inr ⟨by rfl, rfl⟩) (by assumption) ?_
    try simp only [Act.put, List.setIfInBounds_toArray, List.set_cons_zero, List.set_cons_succ]
    refine wpAnyH_take (i := 49) (oi := { dst := some 126, op := Op.pick (Operand.tmp 123) (Operand.const (Value.bool true)) (Operand.tmp 125), type := 4, pos := _, after := #[{ on := 46, ground := Ground.data }, { on := 48, ground := Ground.data }, { on := 43, ground := Ground.guard }], guard := some (43, true) }) (v := undef) rfl (by kernel_rfl) (by kernel_rfl) (by kernel_rfl) (fun _ _ _ h => h) (Or.inr ⟨by rfl, rfl⟩) (by assumption) ?_
    try simp only [Act.put, List.setIfInBounds_toArray, List.set_cons_zero, List.set_cons_succ]
    refine wpAnyH_take (i := 50) (oi := { dst := some 127, op := Op.pick (Operand.tmp 120) (Operand.tmp 126) (Operand.const (Value.bool false)), type := 4, pos := _, after := #[{ on := 43, ground := Ground.data }, { on := 49, ground := Ground.data }], guard := none }) (v := ?_) rfl (by kernel_rfl) (by kernel_rfl) (by kernel_rfl) (fun _ _ _ h => h) (Or.inl ⟨by rfl, ?_⟩) (by assumption) ?_
    rotate_left
    · intro wt hSw; (try dsimp only at hSw); have s0 := cellB hSw s0 z0; have g0 := cellB hSw g0 z1; have g1 := cellB hSw g1 z1; have g2 := cellB hSw g2 z1; have g3 := cellB hSw g3 z1; first | (go_simp; done) | (go_simp; with_reducible rfl) | (trace_state; fail)
    try simp only [Act.put, List.setIfInBounds_toArray, List.set_cons_zero, List.set_cons_succ]
    refine wpAnyH_done (by kernel_rfl) ?_ _
    have HHw := Lib.hid (HB0.out.trans (hHeld.mono HB0.out.size))
    have s0 := cellB hHeld s0 z0
    have g2 := cellB hHeld g2 z1
    clear hHeld
    go_wp2_with fail
    refine (hK0 _).mono ?_; rintro r w2 ⟨rfl, rfl⟩
    go_wp2_with fail
    go_ret
    exact ⟨by rw [hres.out]; rfl, HHw.out⟩
  have e4 : (op == 4) = false := by simpa using h4
  by_cases h5 : op = 5
  · subst h5
    clear h4 h1 h3 e1 e3 e4
    by_cases h0 : t = 0
    case neg =>
      have e0 : (t == 0) = false := by simpa using h0
      have hres := Lib.hid (show leafT s ⟨5, t, n, m, []⟩ = 0 by unfold leafT; simp [h0])
      clear h0 hKt
      go_enter Tryd.func11, Tryd.ntmps11
      go_wp2_with fail
      refine (hK0 _).mono ?_; rintro r w2 ⟨rfl, rfl⟩
      go_wp2_with fail
      go_ret
      exact ⟨by rw [hres.out]; rfl, by (repeat' (first | (with_reducible exact Below.refl _ _) | (with_reducible assumption) | (with_reducible refine below_drewN ?_ _) | (with_reducible refine Below.alloc ?_ ?_ _) | (with_reducible refine Below.drew ?_) | (with_reducible refine Below.setCell ?_ ?_ _) | go_size))⟩
    subst h0
    by_cases hn : 0 ≤ n
    case neg =>
      have en : (0 ≤ n) = False := eq_false hn
      have hin : inb n NB = false := decide_eq_false (fun h => hn h.1)
      have hres := Lib.hid (show leafT s ⟨5, 0, n, m, []⟩ = 0 by unfold leafT; simp [HNB.out, hin])
      clear hn hin hKt
      go_enter Tryd.func11, Tryd.ntmps11
      go_wp2_with fail
      refine (hK0 _).mono ?_; rintro r w2 ⟨rfl, rfl⟩
      go_wp2_with fail
      go_ret
      exact ⟨by rw [hres.out]; rfl, by (repeat' (first | (with_reducible exact Below.refl _ _) | (with_reducible assumption) | (with_reducible refine below_drewN ?_ _) | (with_reducible refine Below.alloc ?_ ?_ _) | (with_reducible refine Below.drew ?_) | (with_reducible refine Below.setCell ?_ ?_ _) | go_size))⟩
    obtain ⟨k, rfl⟩ : ∃ k : Nat, n = (k : Int) := ⟨n.toNat, by omega⟩
    by_cases hk : k < NB
    case neg =>
      have ek : ((k : Int) < (NB : Int)) = False := eq_false (by omega)
      have ek2 : (k < NB) = False := eq_false hk
      have hin : inb (k : Int) NB = false := decide_eq_false (by omega)
      have hres := Lib.hid (show leafT s ⟨5, 0, (k : Int), m, []⟩ = 0 by unfold leafT; simp [HNB.out, hin])
      clear hn hin hk hKt
      go_enter Tryd.func11, Tryd.ntmps11
      go_wp2_with fail
      refine (hK0 _).mono ?_; rintro r w2 ⟨rfl, rfl⟩
      go_wp2_with fail
      go_ret
      exact ⟨by rw [hres.out]; rfl, by (repeat' (first | (with_reducible exact Below.refl _ _) | (with_reducible assumption) | (with_reducible refine below_drewN ?_ _) | (with_reducible refine Below.alloc ?_ ?_ _) | (with_reducible refine Below.drew ?_) | (with_reducible refine Below.setCell ?_ ?_ _) | go_size))⟩
    have hin : inb (k : Int) NB = true := decide_eq_true (by omega)
    obtain ⟨x, hx⟩ := get_some (L := s.blocks) (n := k) (by rw [HNB.out]; exact hk)
    obtain ⟨b, off, rfl, hbw, hc⟩ := blk_at (HS.out w (Below.refl _ _)).bs (k := k) (by rw [HNB.out]; exact hk)
    obtain ⟨_, d1, _⟩ := hc k x hx
    have hxv : s.b (k : Int) = x := by unfold Sc.b; simp [List.getD, hx]
    have qk : ((k : Int) < (NB : Int)) = True := eq_true (by omega)
    have qk' : (k < NB) = True := eq_true hk
    have hcap := cap_row (HS.out w (Below.refl _ _)).bs hk
    have HX := Lib.hid (show leafT s ⟨5, 0, (k : Int), m, []⟩ = keepR (fldT x.kind m) by unfold leafT; simp [HNB.out, hin, hxv])
    generalize x.kind = xk at *
    clear hin hn hc hx hxv hk hKt
    obtain ⟨W0, hW0⟩ : ∃ W0, W0 = (w.alloc (.cells #[.slice sa NV ca, .slice (some ⟨b, off, none⟩) NB cb, c, .slice sd NS cd] 37)).alloc (.cells #[.int .i64 5, .int .i64 0, .int .i64 (k : Int), .int .i64 m, .slice al 0 cl] 30) := ⟨_, rfl⟩
    obtain ⟨hbW, ho0, ho1⟩ := HW.out W0 hW0
    have HW0 := Lib.hid hW0
    have HB0 := Lib.hid hbW
    have z0 := heap_lt ho0
    have z1 := heap_lt ho1
    have s0 : W0.cell? ⟨w.heap.size, 0, none⟩ = some (.slice sa NV ca) := obj_cell ho0 (i := 0) rfl
    have s1 : W0.cell? ⟨w.heap.size, 1, none⟩ = some (.slice (some ⟨b, off, none⟩) NB cb) := obj_cell ho0 (i := 1) rfl
    have g0 : W0.cell? ⟨w.heap.size + 1, 0, none⟩ = some (.int .i64 5) := obj_cell ho1 (i := 0) rfl
    have g1 : W0.cell? ⟨w.heap.size + 1, 1, none⟩ = some (.int .i64 0) := obj_cell ho1 (i := 1) rfl
    have g2 : W0.cell? ⟨w.heap.size + 1, 2, none⟩ = some (.int .i64 (k : Int)) := obj_cell ho1 (i := 2) rfl
    have g3 : W0.cell? ⟨w.heap.size + 1, 3, none⟩ = some (.int .i64 m) := obj_cell ho1 (i := 3) rfl
    clear hW0 hbW ho0 ho1 HW
    have d1 := (HB0.out.cell (p := ⟨b, off + k * 2 + 1, none⟩) hbw).trans d1
    have zb : b < W0.heap.size := Nat.lt_of_lt_of_le hbw HB0.out.size
    by_cases hr : 1 ≤ xk ∧ xk ≤ 8
    case neg =>
      have hF := ref11_Fields_no xk hr W0
      have hres := Lib.hid (show leafT s ⟨5, 0, (k : Int), m, []⟩ = 0 by rw [HX.out, (fld_no (k := xk) (i := m) (by rw [bF_no hr]; simp)).2]; rfl)
      clear hr
      by_cases hm : 0 ≤ m
      · have em : (0 ≤ m) = True := eq_true hm
        have em2 : (m < 0) = False := eq_false (by omega)
        go_enter Tryd.func11, Tryd.ntmps11
        go_upto_region 24 with fail
        rw [← HW0.out]
        go_wp2_with fail
        refine hF.mono ?_; rintro r w2 ⟨rfl, rfl⟩
        go_wp2_with fail
        refine (hK0 _).mono ?_; rintro r w2 ⟨rfl, rfl⟩
        go_wp2_with fail
        go_ret
        exact ⟨by rw [hres.out]; rfl, HB0.out⟩
      · have em : (0 ≤ m) = False := eq_false hm
        go_enter Tryd.func11, Tryd.ntmps11
        go_upto_region 24 with fail
        rw [← HW0.out]
        go_wp2_with fail
        refine hF.mono ?_; rintro r w2 ⟨rfl, rfl⟩
        go_wp2_with fail
        refine (hK0 _).mono ?_; rintro r w2 ⟨rfl, rfl⟩
        go_wp2_with fail
        go_ret
        exact ⟨by rw [hres.out]; rfl, HB0.out⟩
    have hF := ref11_Fields xk hr W0
    obtain ⟨L, hL⟩ : ∃ L, (bF xk).length = L := ⟨_, rfl⟩
    have hFn := fun (h : ¬ (0 ≤ m ∧ m < (L : Int))) => (fld_no (k := xk) (i := m) (by rw [hL]; exact h)).2
    have hFy := fun (j : Nat) (h : j < L) => tyV_at (k := xk) (j := j) (by rw [hL]; exact h)
    have hL10 : L ≤ 10 := by rw [← hL]; exact bF_small xk
    rw [hL] at hF
    clear hr hL
    by_cases hm : 0 ≤ m
    case neg =>
      have em : (0 ≤ m) = False := eq_false hm
      have hres := Lib.hid (show leafT s ⟨5, 0, (k : Int), m, []⟩ = 0 by rw [HX.out, hFn (fun h => hm h.1)]; rfl)
      clear hm hFn hFy
      go_enter Tryd.func11, Tryd.ntmps11
      go_upto_region 24 with fail
      rw [← HW0.out]
      go_wp2_with fail
      refine hF.mono ?_; rintro r w2 ⟨rfl, hw2⟩
      have hb2 : Below W0.heap.size W0 w2 := by rw [hw2]; exact by (repeat' (first | (with_reducible exact Below.refl _ _) | (with_reducible assumption) | (with_reducible refine below_drewN ?_ _) | (with_reducible refine Below.alloc ?_ ?_ _) | (with_reducible refine Below.drew ?_) | (with_reducible refine Below.setCell ?_ ?_ _) | go_size))
      have g3 := cellB hb2 g3 z1
      have HBE := Lib.hid (HB0.out.trans (hb2.mono HB0.out.size))
      clear hw2 hb2
      go_wp2_with fail
      refine (hK0 _).mono ?_; rintro r w2 ⟨rfl, rfl⟩
      go_wp2_with fail
      go_ret
      exact ⟨by rw [hres.out]; rfl, HBE.out⟩
    obtain ⟨j, rfl⟩ : ∃ j : Nat, m = (j : Int) := ⟨m.toNat, by omega⟩
    by_cases hj : j < L
    case neg =>
      have ej : ((j : Int) < (L : Int)) = False := eq_false (by omega)
      have ej2 : (j < L) = False := eq_false hj
      have hres := Lib.hid (show leafT s ⟨5, 0, (k : Int), (j : Int), []⟩ = 0 by rw [HX.out, hFn (fun h => hj (by omega))]; rfl)
      clear hm hj hFn hFy
      go_enter Tryd.func11, Tryd.ntmps11
      go_upto_region 24 with fail
      rw [← HW0.out]
      go_wp2_with fail
      refine hF.mono ?_; rintro r w2 ⟨rfl, hw2⟩
      have hb2 : Below W0.heap.size W0 w2 := by rw [hw2]; exact by (repeat' (first | (with_reducible exact Below.refl _ _) | (with_reducible assumption) | (with_reducible refine below_drewN ?_ _) | (with_reducible refine Below.alloc ?_ ?_ _) | (with_reducible refine Below.drew ?_) | (with_reducible refine Below.setCell ?_ ?_ _) | go_size))
      have g3 := cellB hb2 g3 z1
      have HBE := Lib.hid (HB0.out.trans (hb2.mono HB0.out.size))
      clear hw2 hb2
      go_wp2_with fail
      refine (hK0 _).mono ?_; rintro r w2 ⟨rfl, rfl⟩
      go_wp2_with fail
      go_ret
      exact ⟨by rw [hres.out]; rfl, HBE.out⟩
    have ej : ((j : Int) < (L : Int)) = True := eq_true (by omega)
    have ej2 : (j < L) = True := eq_true hj
    have hY := Lib.hid (hFy j hj)
    clear hFn hFy hm hj
    generalize fldT xk (j : Int) = X at *
    have hK := ref01_Right X
    cases hkr : kRight X
    all_goals
      rw [hkr] at hK
      have hres := Lib.hid (HX.out.trans (show keepR X = if kRight X then X else 0 from rfl))
      rw [hkr] at hres
      clear hkr
      go_enter Tryd.func11, Tryd.ntmps11
      go_upto_region 24 with fail
      rw [← HW0.out]
      go_wp2_with fail
      refine hF.mono ?_; rintro r w2 ⟨rfl, hw2⟩
      have hb2 : Below W0.heap.size W0 w2 := by rw [hw2]; exact by (repeat' (first | (with_reducible exact Below.refl _ _) | (with_reducible assumption) | (with_reducible refine below_drewN ?_ _) | (with_reducible refine Below.alloc ?_ ?_ _) | (with_reducible refine Below.drew ?_) | (with_reducible refine Below.setCell ?_ ?_ _) | go_size))
      have g3 := cellB hb2 g3 z1
      have HBE := Lib.hid (HB0.out.trans (hb2.mono HB0.out.size))
      have cX : w2.cell? ⟨W0.heap.size + 1, j, none⟩ = some (.int .i64 X) := by rw [hw2]; exact obj_cell (get_last (by simp)) hY.out
      clear hw2 hb2
      go_wp2_with fail
      refine (hK _).mono ?_; rintro r w2 ⟨rfl, rfl⟩
      go_wp2_with fail
      go_ret
      exact ⟨by rw [hres.out]; rfl, HBE.out⟩
  have e5 : (op == 5) = false := by simpa using h5
  by_cases h6 : op = 6
  · subst h6
    have hres := Lib.hid (show leafT s ⟨6, t, n, m, []⟩ = 0 by unfold leafT; simp)
    clear hKt h1 h3 h4 h5
    go_enter Tryd.func11, Tryd.ntmps11
    go_wp2_with fail
    refine (hK0 _).mono ?_; rintro r w2 ⟨rfl, rfl⟩
    go_wp2_with fail
    go_ret
    exact ⟨by rw [hres.out]; rfl, by (repeat' (first | (with_reducible exact Below.refl _ _) | (with_reducible assumption) | (with_reducible refine below_drewN ?_ _) | (with_reducible refine Below.alloc ?_ ?_ _) | (with_reducible refine Below.drew ?_) | (with_reducible refine Below.setCell ?_ ?_ _) | go_size))⟩
  have e6 : (op == 6) = false := by simpa using h6
  by_cases h7 : op = 7
  · subst h7
    have hres := Lib.hid (show leafT s ⟨7, t, n, m, []⟩ = 0 by unfold leafT; simp)
    clear hKt h1 h3 h4 h5
    go_enter Tryd.func11, Tryd.ntmps11
    go_wp2_with fail
    refine (hK0 _).mono ?_; rintro r w2 ⟨rfl, rfl⟩
    go_wp2_with fail
    go_ret
    exact ⟨by rw [hres.out]; rfl, by (repeat' (first | (with_reducible exact Below.refl _ _) | (with_reducible assumption) | (with_reducible refine below_drewN ?_ _) | (with_reducible refine Below.alloc ?_ ?_ _) | (with_reducible refine Below.drew ?_) | (with_reducible refine Below.setCell ?_ ?_ _) | go_size))⟩
  have e7 : (op == 7) = false := by simpa using h7
  by_cases h8 : op = 8
  · subst h8
    have hres := Lib.hid (show leafT s ⟨8, t, n, m, []⟩ = 0 by unfold leafT; simp)
    clear hKt h1 h3 h4 h5
    go_enter Tryd.func11, Tryd.ntmps11
    go_wp2_with fail
    refine (hK0 _).mono ?_; rintro r w2 ⟨rfl, rfl⟩
    go_wp2_with fail
    go_ret
    exact ⟨by rw [hres.out]; rfl, by (repeat' (first | (with_reducible exact Below.refl _ _) | (with_reducible assumption) | (with_reducible refine below_drewN ?_ _) | (with_reducible refine Below.alloc ?_ ?_ _) | (with_reducible refine Below.drew ?_) | (with_reducible refine Below.setCell ?_ ?_ _) | go_size))⟩
  have e8 : (op == 8) = false := by simpa using h8
  have e2 : (op == 2) = false := by simpa using h2
  have hres := Lib.hid (show leafT s ⟨op, t, n, m, []⟩ = 0 by unfold leafT; simp [h1, h2, h3, h5])
  clear hKt h1 h2 h3 h4 h5 h6 h7 h8
  go_enter Tryd.func11, Tryd.ntmps11
  go_wp2_with fail
  refine (hK0 _).mono ?_; rintro r w2 ⟨rfl, rfl⟩
  go_wp2_with fail
  go_ret
  exact ⟨by rw [hres.out]; rfl, by (repeat' (first | (with_reducible exact Below.refl _ _) | (with_reducible assumption) | (with_reducible refine below_drewN ?_ _) | (with_reducible refine Below.alloc ?_ ?_ _) | (with_reducible refine Below.drew ?_) | (with_reducible refine Below.setCell ?_ ?_ _) | go_size))⟩
end Go.Proofs.YtpecpeedefeokaaDoor

/- Layer 26: the document's Type, of an expression with more than two within it. -/
namespace Go.Proofs.YtpecpeedefeokaaDoor
open Go.RowKit
set_option linter.unusedSimpArgs false
set_option linter.unusedVariables false
/-- what the call for one within it gives -/
def Typed (w : World) (a b c d : Value) (s : Sc) (x : Ex) : Prop := ∀ W u, Below w.heap.size w W → ExV W u x → Calls Tryd.prog 11 #[.agg #[a, b, c, d], u] W fun r w' => r = .returned (.int .i64 (typeE s x)) ∧ Below W.heap.size W w'
set_option maxRecDepth 100000 in
set_option maxHeartbeats 8000000 in
theorem ref26_TypeM (a b c d : Value) (s : Sc) (op t n m : Int) (x y z : Ex) (l : List Ex) (v : Value) (w : World) (hs : ScAt w a b d s) (hc0 : ∃ p q k, c = .slice p q k) (hv : ExV w v ⟨op, t, n, m, x :: y :: z :: l⟩) (hx : Typed w a b c d s x) (hy : Typed w a b c d s y) :
    Calls Tryd.prog 11 #[.agg #[a, b, c, d], v] w fun r w' => r = .returned (.int .i64 0) ∧ Below w.heap.size w w' := by
  obtain ⟨sl, rfl, _, hrl⟩ := hv
  obtain ⟨sa, ca, rfl⟩ := row_get hs.vs
  obtain ⟨sb, cb, rfl⟩ := row_get hs.bs
  obtain ⟨sd, cd, rfl⟩ := row_get hs.ss
  obtain ⟨p, q, k, rfl⟩ := hc0
  have hlen := hrl.len
  obtain ⟨al, cl, rfl⟩ := row_get hrl
  have hcap := cap_row hrl (k := 0) (by simp)
  obtain ⟨b, off, s1, sn1, sc1, rfl, hbw, _, _, d0, d1, d2, d3, d4, hxv⟩ := ex_at hrl (k := 0) (x := x) rfl
  obtain ⟨b', off', s2, sn2, sc2, hbb, _, _, _, f0, f1, f2, f3, f4, hyv⟩ := ex_at hrl (k := 1) (x := y) rfl
  obtain ⟨rfl, rfl⟩ : b' = b ∧ off' = off := by simp at hbb; exact ⟨hbb.1.symm, hbb.2.symm⟩
  simp only [Nat.zero_mul, Nat.one_mul, Nat.add_zero] at d0 d1 d2 d3 d4 f0 f1 f2 f3 f4
  obtain ⟨N, hN⟩ : ∃ N, (x :: y :: z :: l).length = N := ⟨_, rfl⟩
  have hN3 : 3 ≤ N := by rw [← hN]; simp
  simp only at hlen hcap ⊢
  rw [hN] at hlen hcap ⊢
  have q0 : ((0 : Int) < (N : Int)) = True := eq_true (by omega)
  have q1 : ((1 : Int) < (N : Int)) = True := eq_true (by omega)
  have q2 : ((2 : Int) < (N : Int)) = True := eq_true (by omega)
  have r0 : (0 < N) = True := eq_true (by omega)
  have r1 : (1 < N) = True := eq_true (by omega)
  have r2 : (2 < N) = True := eq_true (by omega)
  obtain ⟨W0, hW0⟩ : ∃ W0, W0 = (w.alloc (.cells #[.slice sa s.vars.length ca, .slice sb s.blocks.length cb, .slice p q k, .slice sd s.slots.length cd] 37)).alloc (.cells #[.int .i64 op, .int .i64 t, .int .i64 n, .int .i64 m, .slice (some ⟨b', off', none⟩) N cl] 30) := ⟨_, rfl⟩
  have ho0 : W0.heap[w.heap.size]? = some (.cells #[.slice sa s.vars.length ca, .slice sb s.blocks.length cb, .slice p q k, .slice sd s.slots.length cd] 37) := by rw [hW0, get_past (by simp)]; exact get_last rfl
  have ho1 : W0.heap[w.heap.size + 1]? = some (.cells #[.int .i64 op, .int .i64 t, .int .i64 n, .int .i64 m, .slice (some ⟨b', off', none⟩) N cl] 30) := by rw [hW0]; exact get_last (by simp)
  have hbW : Below w.heap.size w W0 := by rw [hW0]; exact by (repeat' (first | (with_reducible exact Below.refl _ _) | (with_reducible assumption) | (with_reducible refine below_drewN ?_ _) | (with_reducible refine Below.alloc ?_ ?_ _) | (with_reducible refine Below.drew ?_) | (with_reducible refine Below.setCell ?_ ?_ _) | go_size))
  have HW0 := Lib.hid hW0
  have HB0 := Lib.hid hbW
  have z0 := heap_lt ho0
  have z1 := heap_lt ho1
  have zb : b' < W0.heap.size := Nat.lt_of_lt_of_le hbw hbW.size
  have s0 : W0.cell? ⟨w.heap.size, 0, none⟩ = some (.slice sa s.vars.length ca) := obj_cell ho0 (i := 0) rfl
  have s1 : W0.cell? ⟨w.heap.size, 1, none⟩ = some (.slice sb s.blocks.length cb) := obj_cell ho0 (i := 1) rfl
  have s2 : W0.cell? ⟨w.heap.size, 2, none⟩ = some (.slice p q k) := obj_cell ho0 (i := 2) rfl
  have s3 : W0.cell? ⟨w.heap.size, 3, none⟩ = some (.slice sd s.slots.length cd) := obj_cell ho0 (i := 3) rfl
  have g4 : W0.cell? ⟨w.heap.size + 1, 4, none⟩ = some (.slice (some ⟨b', off', none⟩) N cl) := obj_cell ho1 (i := 4) rfl
  have d0 := (hbW.cell (p := ⟨b', off', none⟩) hbw).trans d0
  have d1 := (hbW.cell (p := ⟨b', off' + 1, none⟩) hbw).trans d1
  have d2 := (hbW.cell (p := ⟨b', off' + 2, none⟩) hbw).trans d2
  have d3 := (hbW.cell (p := ⟨b', off' + 3, none⟩) hbw).trans d3
  have d4 := (hbW.cell (p := ⟨b', off' + 4, none⟩) hbw).trans d4
  have f0 := (hbW.cell (p := ⟨b', off' + 5, none⟩) hbw).trans f0
  have f1 := (hbW.cell (p := ⟨b', off' + 5 + 1, none⟩) hbw).trans f1
  have f2 := (hbW.cell (p := ⟨b', off' + 5 + 2, none⟩) hbw).trans f2
  have f3 := (hbW.cell (p := ⟨b', off' + 5 + 3, none⟩) hbw).trans f3
  have f4 := (hbW.cell (p := ⟨b', off' + 5 + 4, none⟩) hbw).trans f4
  have HXc := Lib.hid (fun W (_ : True) (h : Below W0.heap.size W0 W) => hx W _ (hbW.trans (h.mono hbW.size)) (hxv.below (hbW.trans (h.mono hbW.size))))
  have HYc := Lib.hid (fun W (_ : True) (h : Below W0.heap.size W0 W) => hy W _ (hbW.trans (h.mono hbW.size)) (hyv.below (hbW.trans (h.mono hbW.size))))
  generalize typeE s x = T at *
  generalize typeE s y = U at *
  clear hW0 hbW ho0 ho1 hx hy hxv hyv hs hrl hN hbb
  go_enter Tryd.func11, Tryd.ntmps11
  go_upto_region 5 with fail
  rw [← HW0.out]
  refine wp_region_held_drew (S := (fun w' => Below W0.heap.size W0 w')) (by kernel_rfl) ?_ (fun hHeld => ?_)
  · (try dsimp only); first | assumption | exact Below.alloc hHeld hHeld.size _ | exact (Below.refl _ _).drew | exact Below.drew (Below.refl _ _) | exact Below_drewN _ _ _ | exact Below.refl _ _ | (trace_state; fail)
  refine wpAnyH_take (i := 0) (oi := { dst := some 17, op := Op.load 37 (Operand.tmp 2), type := 37, pos := _, after := #[], guard := none }) (v := ?_) rfl (by kernel_rfl) (by kernel_rfl) (by kernel_rfl) (fun _ _ _ h => h) (Or.inl ⟨by rfl, ?_⟩) (by assumption) ?_
  rotate_left
  · intro wt hSw; (try dsimp only at hSw); have s0 := cellB hSw s0 z0; have s1 := cellB hSw s1 z0; have s2 := cellB hSw s2 z0; have s3 := cellB hSw s3 z0; have g4 := cellB hSw g4 z1; have d0 := cellB hSw d0 zb; have d1 := cellB hSw d1 zb; have d2 := cellB hSw d2 zb; have d3 := cellB hSw d3 zb; have d4 := cellB hSw d4 zb; first | (go_simp; done) | (go_simp; with_reducible rfl) | (trace_state; fail)
  try simp only [Act.put, List.setIfInBounds_toArray, List.set_cons_zero, List.set_cons_succ]
  refine wpAnyH_take (i := 1) (oi := { dst := some 18, op := Op.fieldAddr 30 (Operand.tmp 3) 4, type := 0, pos := _, after := #[], guard := none }) (v := ?_) rfl (by kernel_rfl) (by kernel_rfl) (by kernel_rfl) (fun _ _ _ h => h) (Or.inl ⟨by rfl, ?_⟩) (by assumption) ?_
  rotate_left
  · intro wt hSw; (try dsimp only at hSw); have s0 := cellB hSw s0 z0; have s1 := cellB hSw s1 z0; have s2 := cellB hSw s2 z0; have s3 := cellB hSw s3 z0; have g4 := cellB hSw g4 z1; have d0 := cellB hSw d0 zb; have d1 := cellB hSw d1 zb; have d2 := cellB hSw d2 zb; have d3 := cellB hSw d3 zb; have d4 := cellB hSw d4 zb; first | (go_simp; done) | (go_simp; with_reducible rfl) | (trace_state; fail)
  try simp only [Act.put, List.setIfInBounds_toArray, List.set_cons_zero, List.set_cons_succ]
  refine wpAnyH_take (i := 2) (oi := { dst := some 19, op := Op.load 28 (Operand.tmp 18), type := 28, pos := _, after := #[{ on := 1, ground := Ground.data }], guard := none }) (v := ?_) rfl (by kernel_rfl) (by kernel_rfl) (by kernel_rfl) (fun _ _ _ h => h) (Or.inl ⟨by rfl, ?_⟩) (by assumption) ?_
  rotate_left
  · intro wt hSw; (try dsimp only at hSw); have s0 := cellB hSw s0 z0; have s1 := cellB hSw s1 z0; have s2 := cellB hSw s2 z0; have s3 := cellB hSw s3 z0; have g4 := cellB hSw g4 z1; have d0 := cellB hSw d0 zb; have d1 := cellB hSw d1 zb; have d2 := cellB hSw d2 zb; have d3 := cellB hSw d3 zb; have d4 := cellB hSw d4 zb; first | (go_simp; done) | (go_simp; with_reducible rfl) | (trace_state; fail)
  try simp only [Act.put, List.setIfInBounds_toArray, List.set_cons_zero, List.set_cons_succ]
  refine wpAnyH_take (i := 3) (oi := { dst := some 20, op := Op.indexAddr 28 (Operand.tmp 19) (Operand.const (Value.int IntKind.i64 0)), type := 0, pos := _, after := #[{ on := 2, ground := Ground.data }], guard := none }) (v := ?_) rfl (by kernel_rfl) (by kernel_rfl) (by kernel_rfl) (fun _ _ _ h => h) (Or.inl ⟨by rfl, ?_⟩) (by assumption) ?_
  rotate_left
  · intro wt hSw; (try dsimp only at hSw); have s0 := cellB hSw s0 z0; have s1 := cellB hSw s1 z0; have s2 := cellB hSw s2 z0; have s3 := cellB hSw s3 z0; have g4 := cellB hSw g4 z1; have d0 := cellB hSw d0 zb; have d1 := cellB hSw d1 zb; have d2 := cellB hSw d2 zb; have d3 := cellB hSw d3 zb; have d4 := cellB hSw d4 zb; first | (go_simp; done) | (go_simp; with_reducible rfl) | (trace_state; fail)
  try simp only [Act.put, List.setIfInBounds_toArray, List.set_cons_zero, List.set_cons_succ]
  refine wpAnyH_take (i := 4) (oi := { dst := some 21, op := Op.load 30 (Operand.tmp 20), type := 30, pos := _, after := #[{ on := 3, ground := Ground.data }], guard := none }) (v := ?_) rfl (by kernel_rfl) (by kernel_rfl) (by kernel_rfl) (fun _ _ _ h => h) (Or.inl ⟨by rfl, ?_⟩) (by assumption) ?_
  rotate_left
  · intro wt hSw; (try dsimp only at hSw); have s0 := cellB hSw s0 z0; have s1 := cellB hSw s1 z0; have s2 := cellB hSw s2 z0; have s3 := cellB hSw s3 z0; have g4 := cellB hSw g4 z1; have d0 := cellB hSw d0 zb; have d1 := cellB hSw d1 zb; have d2 := cellB hSw d2 zb; have d3 := cellB hSw d3 zb; have d4 := cellB hSw d4 zb; first | (go_simp; done) | (go_simp; with_reducible rfl) | (trace_state; fail)
  try simp only [Act.put, List.setIfInBounds_toArray, List.set_cons_zero, List.set_cons_succ]
  refine wpAnyH_ready (rs := [5]) (by kernel_rfl) (by simp) ?_
  refine AllReadyH.cons (o := { dst := some 22, op := Op.call { callee := Callee.value (Operand.func 11), args := #[Operand.tmp 17, Operand.tmp 21], argTypes := #[37, 30] }, type := 3, pos := _, after := #[{ on := 0, ground := Ground.data }, { on := 4, ground := Ground.data }], guard := none }) rfl (fun K hK => ?_) AllReadyH.nil
  go_simp
  refine (HXc.out _ trivial hHeld).mono ?_; rintro r w2 ⟨rfl, hb⟩; have hHeld := hHeld.trans (hb.mono hHeld.size)
  go_wp2_with fail
  refine hK.out _ _ ?_ (fun hHeld => ?_)
  · (try dsimp only); first | assumption | exact Below.alloc hHeld hHeld.size _ | exact (Below.refl _ _).drew | exact Below.drew (Below.refl _ _) | exact Below_drewN _ _ _ | exact Below.refl _ _ | (trace_state; fail)
  clear hK K
  try simp only [Act.put, List.setIfInBounds_toArray, List.set_cons_zero, List.set_cons_succ]
  refine wpAnyH_take (i := 6) (oi := { dst := some 6, op := Op.assign (Operand.tmp 22), type := 3, pos := _, after := #[{ on := 5, ground := Ground.data }, { on := 5, ground := Ground.chain }, { on := 0, ground := Ground.phase }, { on := 1, ground := Ground.phase }, { on := 2, ground := Ground.phase }, { on := 3, ground := Ground.phase }, { on := 4, ground := Ground.phase }, { on := 5, ground := Ground.phase }], guard := none }) (v := ?_) rfl (by kernel_rfl) (by kernel_rfl) (by kernel_rfl) (fun _ _ _ h => h) (Or.inl ⟨by rfl, ?_⟩) (by assumption) ?_
  rotate_left
  · intro wt hSw; (try dsimp only at hSw); have s0 := cellB hSw s0 z0; have s1 := cellB hSw s1 z0; have s2 := cellB hSw s2 z0; have s3 := cellB hSw s3 z0; have g4 := cellB hSw g4 z1; have d0 := cellB hSw d0 zb; have d1 := cellB hSw d1 zb; have d2 := cellB hSw d2 zb; have d3 := cellB hSw d3 zb; have d4 := cellB hSw d4 zb; first | (go_simp; done) | (go_simp; with_reducible rfl) | (trace_state; fail)
  try simp only [Act.put, List.setIfInBounds_toArray, List.set_cons_zero, List.set_cons_succ]
  refine wpAnyH_done (by kernel_rfl) ?_ _
  have g4 := g4
  go_upto_region 7 with fail
  refine wp_region_held_drew (S := (fun w' => Below W0.heap.size W0 w')) (by kernel_rfl) ?_ (fun hHeld => ?_)
  · (try dsimp only); first | exact Below.drew hHeld | assumption | (trace_state; fail)
  refine wpAnyH_take (i := 0) (oi := { dst := some 25, op := Op.load 37 (Operand.tmp 2), type := 37, pos := _, after := #[], guard := none }) (v := ?_) rfl (by kernel_rfl) (by kernel_rfl) (by kernel_rfl) (fun _ _ _ h => h) (Or.inl ⟨by rfl, ?_⟩) (by assumption) ?_
  rotate_left
  · intro wt hSw; (try dsimp only at hSw); have s0 := cellB hSw s0 z0; have s1 := cellB hSw s1 z0; have s2 := cellB hSw s2 z0; have s3 := cellB hSw s3 z0; have g4 := cellB hSw g4 z1; have f0 := cellB hSw f0 zb; have f1 := cellB hSw f1 zb; have f2 := cellB hSw f2 zb; have f3 := cellB hSw f3 zb; have f4 := cellB hSw f4 zb; first | (go_simp; done) | (go_simp; with_reducible rfl) | (trace_state; fail)
  try simp only [Act.put, List.setIfInBounds_toArray, List.set_cons_zero, List.set_cons_succ]
  refine wpAnyH_take (i := 1) (oi := { dst := some 26, op := Op.fieldAddr 30 (Operand.tmp 3) 4, type := 0, pos := _, after := #[], guard := none }) (v := ?_) rfl (by kernel_rfl) (by kernel_rfl) (by kernel_rfl) (fun _ _ _ h => h) (Or.inl ⟨by rfl, ?_⟩) (by assumption) ?_
  rotate_left
  · intro wt hSw; (try dsimp only at hSw); have s0 := cellB hSw s0 z0; have s1 := cellB hSw s1 z0; have s2 := cellB hSw s2 z0; have s3 := cellB hSw s3 z0; have g4 := cellB hSw g4 z1; have f0 := cellB hSw f0 zb; have f1 := cellB hSw f1 zb; have f2 := cellB hSw f2 zb; have f3 := cellB hSw f3 zb; have f4 := cellB hSw f4 zb; first | (go_simp; done) | (go_simp; with_reducible rfl) | (trace_state; fail)
  try simp only [Act.put, List.setIfInBounds_toArray, List.set_cons_zero, List.set_cons_succ]
  refine wpAnyH_take (i := 2) (oi := { dst := some 27, op := Op.load 28 (Operand.tmp 26), type := 28, pos := _, after := #[{ on := 1, ground := Ground.data }], guard := none }) (v := ?_) rfl (by kernel_rfl) (by kernel_rfl) (by kernel_rfl) (fun _ _ _ h => h) (Or.inl ⟨by rfl, ?_⟩) (by assumption) ?_
  rotate_left
  · intro wt hSw; (try dsimp only at hSw); have s0 := cellB hSw s0 z0; have s1 := cellB hSw s1 z0; have s2 := cellB hSw s2 z0; have s3 := cellB hSw s3 z0; have g4 := cellB hSw g4 z1; have f0 := cellB hSw f0 zb; have f1 := cellB hSw f1 zb; have f2 := cellB hSw f2 zb; have f3 := cellB hSw f3 zb; have f4 := cellB hSw f4 zb; first | (go_simp; done) | (go_simp; with_reducible rfl) | (trace_state; fail)
  try simp only [Act.put, List.setIfInBounds_toArray, List.set_cons_zero, List.set_cons_succ]
  refine wpAnyH_take (i := 3) (oi := { dst := some 28, op := Op.indexAddr 28 (Operand.tmp 27) (Operand.const (Value.int IntKind.i64 1)), type := 0, pos := _, after := #[{ on := 2, ground := Ground.data }], guard := none }) (v := ?_) rfl (by kernel_rfl) (by kernel_rfl) (by kernel_rfl) (fun _ _ _ h => h) (Or.inl ⟨by rfl, ?_⟩) (by assumption) ?_
  rotate_left
  · intro wt hSw; (try dsimp only at hSw); have s0 := cellB hSw s0 z0; have s1 := cellB hSw s1 z0; have s2 := cellB hSw s2 z0; have s3 := cellB hSw s3 z0; have g4 := cellB hSw g4 z1; have f0 := cellB hSw f0 zb; have f1 := cellB hSw f1 zb; have f2 := cellB hSw f2 zb; have f3 := cellB hSw f3 zb; have f4 := cellB hSw f4 zb; first | (go_simp; done) | (go_simp; with_reducible rfl) | (trace_state; fail)
  try simp only [Act.put, List.setIfInBounds_toArray, List.set_cons_zero, List.set_cons_succ]
  refine wpAnyH_take (i := 4) (oi := { dst := some 29, op := Op.load 30 (Operand.tmp 28), type := 30, pos := _, after := #[{ on := 3, ground := Ground.data }], guard := none }) (v := ?_) rfl (by kernel_rfl) (by kernel_rfl) (by kernel_rfl) (fun _ _ _ h => h) (Or.inl ⟨by rfl, ?_⟩) (by assumption) ?_
  rotate_left
  · intro wt hSw; (try dsimp only at hSw); have s0 := cellB hSw s0 z0; have s1 := cellB hSw s1 z0; have s2 := cellB hSw s2 z0; have s3 := cellB hSw s3 z0; have g4 := cellB hSw g4 z1; have f0 := cellB hSw f0 zb; have f1 := cellB hSw f1 zb; have f2 := cellB hSw f2 zb; have f3 := cellB hSw f3 zb; have f4 := cellB hSw f4 zb; first | (go_simp; done) | (go_simp; with_reducible rfl) | (trace_state; fail)
  try simp only [Act.put, List.setIfInBounds_toArray, List.set_cons_zero, List.set_cons_succ]
  refine wpAnyH_ready (rs := [5]) (by kernel_rfl) (by simp) ?_
  refine AllReadyH.cons (o := { dst := some 30, op := Op.call { callee := Callee.value (Operand.func 11), args := #[Operand.tmp 25, Operand.tmp 29], argTypes := #[37, 30] }, type := 3, pos := _, after := #[{ on := 0, ground := Ground.data }, { on := 4, ground := Ground.data }], guard := none }) rfl (fun K hK => ?_) AllReadyH.nil
  go_simp
  refine (HYc.out _ trivial hHeld).mono ?_; rintro r w2 ⟨rfl, hb⟩; have hHeld := hHeld.trans (hb.mono hHeld.size)
  go_wp2_with fail
  refine hK.out _ _ ?_ (fun hHeld => ?_)
  · (try dsimp only); first | exact Below.drew hHeld | assumption | (trace_state; fail)
  clear hK K
  try simp only [Act.put, List.setIfInBounds_toArray, List.set_cons_zero, List.set_cons_succ]
  refine wpAnyH_take (i := 6) (oi := { dst := some 7, op := Op.assign (Operand.tmp 30), type := 3, pos := _, after := #[{ on := 5, ground := Ground.data }, { on := 5, ground := Ground.chain }, { on := 0, ground := Ground.phase }, { on := 1, ground := Ground.phase }, { on := 2, ground := Ground.phase }, { on := 3, ground := Ground.phase }, { on := 4, ground := Ground.phase }, { on := 5, ground := Ground.phase }], guard := none }) (v := ?_) rfl (by kernel_rfl) (by kernel_rfl) (by kernel_rfl) (fun _ _ _ h => h) (Or.inl ⟨by rfl, ?_⟩) (by assumption) ?_
  rotate_left
  · intro wt hSw; (try dsimp only at hSw); have s0 := cellB hSw s0 z0; have s1 := cellB hSw s1 z0; have s2 := cellB hSw s2 z0; have s3 := cellB hSw s3 z0; have g4 := cellB hSw g4 z1; have f0 := cellB hSw f0 zb; have f1 := cellB hSw f1 zb; have f2 := cellB hSw f2 zb; have f3 := cellB hSw f3 zb; have f4 := cellB hSw f4 zb; first | (go_simp; done) | (go_simp; with_reducible rfl) | (trace_state; fail)
  try simp only [Act.put, List.setIfInBounds_toArray, List.set_cons_zero, List.set_cons_succ]
  refine wpAnyH_done (by kernel_rfl) ?_ _
  have HHw := Lib.hid (HB0.out.trans (hHeld.mono HB0.out.size))
  clear hHeld
  go_wp2_with fail
  go_ret
  exact ⟨rfl, HHw.out⟩
end Go.Proofs.YtpecpeedefeokaaDoor
