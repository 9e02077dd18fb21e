/- expr.fold: one thing of an expression, by what was made of those within it. -/
import Derived.Test.YtpecpeedefeokaaDoorEx
import Derived.Test.YtpecpeedefeokaaDoorBools
import Derived.Test.YtpecpeedefeokaaDoorMoreB
import Derived.Test.YtpecpeedefeokaaDoorHeap
import Derived.LoopTactic
import Derived.OwnWalk
import Derived.WalkKit
import Derived.WalkSpells
import Derived.WalkLawsBesides
import Derived.Deep.QuietTactic
import Derived.BigQuiet
import Derived.WalkSmall
import Derived.IntWalk
namespace Go.Proofs.YtpecpeedefeokaaDoor
open Go.RowKit
set_option linter.unusedSimpArgs false
set_option linter.unusedVariables false
set_option maxHeartbeats 1000000 in
theorem fold_int (fn : Nat) (cap : Array Value) (F : Ex → List Int → Int) (G : Ex → Prop) (w0 : World)
    (he : ∀ (args : Array Value) (W : World), (callFunc fn args).run Tryd.prog W = .ok (.enter fn args) W)
    (hG : ∀ e, G e → ∀ x ∈ e.l, G x) (hI : ∀ e, G e → I64 (foldE F e)) (hS : ∀ e, G e → e.l.length ≤ 300)
    (hF : ∀ W, Below w0.heap.size w0 W → ∀ e v u, G e → ExV W v e → RowR 1 intR W u (e.l.map (foldE F)) → Calls Tryd.prog fn (#[v, u] ++ cap) W fun r W' => r = .returned (.int .i64 (F e (e.l.map (foldE F)))) ∧ Below W.heap.size W W') :
    ∀ e, G e → ∀ W v, Below w0.heap.size w0 W → ExV W v e → Calls Tryd.prog 23 #[v, .func (.func fn) #[] cap] W fun r W' => r = .returned (.int .i64 (foldE F e)) ∧ Below W.heap.size W W' := by
  obtain ⟨i, hi, hz, hsize, hby⟩ : ∃ i, Tryd.prog.info? 3 = some i ∧ i.zero = some (.int .i64 0) ∧ i.size = 1 ∧ i.bytes = 8 := ⟨(Tryd.prog.info? 3).get!, by kernel_rfl, by kernel_rfl, by kernel_rfl, by kernel_rfl⟩
  intro e
  induction e using Ex.ind with
  | h op t n m l ih =>
    intro hg w v hb0 hv
    have hgl := hG _ hg
    have hlen := hS _ hg
    rw [foldE_mk]
    have HFe := Lib.hid (fun W (h : Below w.heap.size w W) u (hu : RowR 1 intR W u (l.map (foldE F))) => hF W (hb0.trans (h.mono hb0.size)) ⟨op, t, n, m, l⟩ v u hg (hv.below h) hu)
    have HIH := Lib.hid (fun x (hx : x ∈ l) W u (h : Below w.heap.size w W) (hu : ExV W u x) => ih x hx (hgl x hx) W u (hb0.trans (h.mono hb0.size)) hu)
    have HI := Lib.hid (fun x (hx : x ∈ l) => hI x (hgl x hx))
    obtain ⟨s, rfl, hr, hrow⟩ := hv
    obtain ⟨sa, sc, rfl⟩ := row_get hrow
    have HX := Lib.hid hrow
    clear hF ih hG hS hI hgl hrow hr
    have hlen : l.length ≤ 300 := hlen
    obtain ⟨N, hN⟩ : ∃ N, l.length = N := ⟨_, rfl⟩
    have HN := Lib.hid hN
    simp only at HFe HX ⊢
    rw [hN] at HFe HX hlen ⊢
    clear hN
    obtain ⟨M, hM⟩ : ∃ M, l.map (foldE F) = M := ⟨_, rfl⟩
    have HM := Lib.hid hM
    rw [hM] at HFe ⊢
    clear hM
    go_enter Tryd.func23, Tryd.ntmps23
    go_wp2_with fail
    obtain ⟨W0, hW0⟩ : ∃ W0, W0 = w.alloc (.cells #[.int .i64 op, .int .i64 t, .int .i64 n, .int .i64 m, .slice sa N sc] 30) := ⟨_, rfl⟩
    rw [← hW0]
    have o0 : W0.heap[w.heap.size]? = some (.cells #[.int .i64 op, .int .i64 t, .int .i64 n, .int .i64 m, .slice sa N sc] 30) := by rw [hW0]; exact get_last rfl
    have hb : Below w.heap.size w W0 := by rw [hW0]; exact by (repeat' (first | (with_reducible exact Below.refl _ _) | (with_reducible assumption) | (with_reducible refine below_drewN ?_ _) | (with_reducible refine Below.alloc ?_ ?_ _) | (with_reducible refine Below.drew ?_) | (with_reducible refine Below.setCell ?_ ?_ _) | go_size))
    have hsz0 : W0.heap.size = w.heap.size + 1 := by rw [hW0]; simp
    have HO0 := Lib.hid o0
    have HB0 := Lib.hid hb
    have hml : M.length = N := by rw [← HM.out, List.length_map]; exact HN.out
    have HML := Lib.hid hml
    clear hW0 o0 hb hml
    go_loopw [5, 11] (fun o jj wr => ∃ k : Nat, k ≤ N ∧ jj = .int .i64 k ∧ Hid (wr.ownsRow W0.heap.size 3 1 o k (iV (M.take k))) ∧ Hid (Below W0.heap.size W0 wr)) (fun _ jj _ => N - (intOf jj).toNat)
    case atStart => exact ⟨0, by omega, rfl, Lib.hid (World.ownsRow_nil _ _ _ _), Lib.hid (Below.refl _ _)⟩
    case round =>
      obtain ⟨k, hk, rfl, hO, hB⟩ := hrel
      have hBw := HB0.out.trans (hB.out.mono (by omega))
      by_cases hlt : k < N
      · have qk : ((k : Int) < (N : Int)) = True := eq_true (by omega)
        have qk' : (k < N) = True := eq_true hlt
        obtain ⟨x, hx⟩ := get_some (L := l) (n := k) (by rw [HN.out]; exact hlt)
        obtain ⟨b, off, s1, sn1, sc1, rfl, hbw, hc1, hc2, d0, d1, d2, d3, d4, hxv⟩ := ex_at HX.out hx
        have hmem := List.mem_of_getElem? hx
        have d0 := (hBw.cell (p := ⟨b, off + k * 5, none⟩) hbw).trans d0
        have d1 := (hBw.cell (p := ⟨b, off + k * 5 + 1, none⟩) hbw).trans d1
        have d2 := (hBw.cell (p := ⟨b, off + k * 5 + 2, none⟩) hbw).trans d2
        have d3 := (hBw.cell (p := ⟨b, off + k * 5 + 3, none⟩) hbw).trans d3
        have d4 := (hBw.cell (p := ⟨b, off + k * 5 + 4, none⟩) hbw).trans d4
        have HC := Lib.hid (fun W u hB hv => HIH.out x hmem W u hB hv)
        have HXV := Lib.hid (hxv.below hBw)
        have HTK := Lib.hid (show M.take (k + 1) = M.take k ++ [foldE F x] from take_snoc (by rw [← HM.out, List.getElem?_map, hx]; rfl))
        have HLT := Lib.hid hlt
        have HBW := Lib.hid hBw
        have hsz := hB.out.size
        have hBr := Lib.hid hB.out
        have hOr := Lib.hid hO.out
        generalize foldE F x = z at *
        clear hx hmem hxv hlt hBw
        go_wp2_with fail
        refine (HC.out _ _ (HBW.out.alloc HBW.out.size _) (HXV.out.below ((Below.refl _ _).alloc (Nat.le_refl _) _))).mono ?_; rintro r w2 ⟨rfl, hb2⟩
        have hb2' : Below wr.heap.size wr w2 := Below.trans ((Below.refl _ _).alloc (Nat.le_refl _) _) (hb2.mono (by simp))
        have hO2 := owns_below hOr.out hb2'
        have hB2 := hBr.out.trans (hb2'.mono hsz)
        have hsz2 := hB2.size
        have HO2 := Lib.hid hO2
        have HB2 := Lib.hid hB2
        clear hb2 hb2' hO2 hB2 hO hB
        go_wp2_with (first | (at_builtin; go_loud (refine wpList_append_src rfl (.tmp 15) (.tmp 19) 35 rfl W0.heap.size 3 i (.int .i64 0) 1 8 Tryd.underlying35 hi hz hsize hby rfl (by omega) _ k _ rfl (owns_below HO2.out ((Below.refl _ _).alloc (Nat.le_refl _) _)) _ 1 [.int .i64 z] rfl (src_new _ _ _) rfl (by intro u hu; simp at hu; rw [hu]; rfl) (by unfold maxLen; omega) (by omega) (by simp; omega) ?_; intro v3 w3 hO3 hG3; have hB3 := Lib.hid (grown3 (HB2.out.alloc hsz2 _) (by simp; omega) (owns_below HO2.out ((Below.refl _ _).alloc (Nat.le_refl _) _)) hG3); have HO3 := Lib.hid hO3; clear hO3 hG3)) | fail)
        go_roundw
        case rel => exact ⟨k + 1, by have := HLT.out; omega, by simp, Lib.hid (by rw [HTK.out]; exact own_eq2 HO3.out rfl (by simp [iV])), hB3⟩
        case measure => have := HLT.out; first | (simp [intOf]; done) | (simp [intOf]; omega)
      · obtain rfl : k = N := by omega
        have qk : ((k : Int) < (k : Int)) = False := eq_false (by omega)
        have qk' : (k < k) = False := eq_false (by omega)
        have hfull : M.take k = M := List.take_of_length_le (by rw [HML.out]; exact Nat.le_refl _)
        have o1 := obj_below HO0.out hB.out (by omega)
        have c0 : wr.cell? ⟨w.heap.size, 0, none⟩ = some (.int .i64 op) := obj_cell o1 (i := 0) rfl
        have c1 : wr.cell? ⟨w.heap.size, 1, none⟩ = some (.int .i64 t) := obj_cell o1 (i := 1) rfl
        have c2 : wr.cell? ⟨w.heap.size, 2, none⟩ = some (.int .i64 n) := obj_cell o1 (i := 2) rfl
        have c3 : wr.cell? ⟨w.heap.size, 3, none⟩ = some (.int .i64 m) := obj_cell o1 (i := 3) rfl
        have c4 : wr.cell? ⟨w.heap.size, 4, none⟩ = some (.slice sa k sc) := obj_cell o1 (i := 4) rfl
        have hrow := row_of_owns (l := M) (own_eq2 hO.out HML.out.symm (by rw [hfull])) (fun z hz => by rw [← HM.out] at hz; obtain ⟨x, hx, rfl⟩ := List.mem_map.1 hz; exact HI.out x hx)
        have HR := Lib.hid (HFe.out wr hBw _ hrow)
        have HBW := Lib.hid hBw
        clear hO hB hrow hfull o1 hBw
        go_wp2_with fail
        refine HR.out.mono ?_; rintro r w2 ⟨rfl, hb2⟩
        go_wp2_with fail
        go_ret
        exact ⟨rfl, HBW.out.trans (hb2.mono HBW.out.size)⟩
set_option maxHeartbeats 1000000 in
theorem fold_bool (fn : Nat) (cap : Array Value) (F : Ex → List Bool → Bool) (G : Ex → Prop) (w0 : World)
    (he : ∀ (args : Array Value) (W : World), (callFunc fn args).run Tryd.prog W = .ok (.enter fn args) W)
    (hG : ∀ e, G e → ∀ x ∈ e.l, G x) (hS : ∀ e, G e → e.l.length ≤ 300)
    (hF : ∀ W, Below w0.heap.size w0 W → ∀ e v u, G e → ExV W v e → RowR 1 boolR W u (e.l.map (foldE F)) → Calls Tryd.prog fn (#[v, u] ++ cap) W fun r W' => r = .returned (.bool (F e (e.l.map (foldE F)))) ∧ Below W.heap.size W W') :
    ∀ e, G e → ∀ W v, Below w0.heap.size w0 W → ExV W v e → Calls Tryd.prog 35 #[v, .func (.func fn) #[] cap] W fun r W' => r = .returned (.bool (foldE F e)) ∧ Below W.heap.size W W' := by
  obtain ⟨i, hi, hz, hsize, hby⟩ : ∃ i, Tryd.prog.info? 4 = some i ∧ i.zero = some (.bool false) ∧ i.size = 1 ∧ i.bytes = 1 := ⟨(Tryd.prog.info? 4).get!, by kernel_rfl, by kernel_rfl, by kernel_rfl, by kernel_rfl⟩
  intro e
  induction e using Ex.ind with
  | h op t n m l ih =>
    intro hg w v hb0 hv
    have hgl := hG _ hg
    have hlen := hS _ hg
    rw [foldE_mk]
    have HFe := Lib.hid (fun W (h : Below w.heap.size w W) u (hu : RowR 1 boolR W u (l.map (foldE F))) => hF W (hb0.trans (h.mono hb0.size)) ⟨op, t, n, m, l⟩ v u hg (hv.below h) hu)
    have HIH := Lib.hid (fun x (hx : x ∈ l) W u (h : Below w.heap.size w W) (hu : ExV W u x) => ih x hx (hgl x hx) W u (hb0.trans (h.mono hb0.size)) hu)
    obtain ⟨s, rfl, hr, hrow⟩ := hv
    obtain ⟨sa, sc, rfl⟩ := row_get hrow
    have HX := Lib.hid hrow
    clear hF ih hG hS hgl hrow hr
    have hlen : l.length ≤ 300 := hlen
    obtain ⟨N, hN⟩ : ∃ N, l.length = N := ⟨_, rfl⟩
    have HN := Lib.hid hN
    simp only at HFe HX ⊢
    rw [hN] at HFe HX hlen ⊢
    clear hN
    obtain ⟨M, hM⟩ : ∃ M, l.map (foldE F) = M := ⟨_, rfl⟩
    have HM := Lib.hid hM
    rw [hM] at HFe ⊢
    clear hM
    go_enter Tryd.func35, Tryd.ntmps35
    go_wp2_with fail
    obtain ⟨W0, hW0⟩ : ∃ W0, W0 = w.alloc (.cells #[.int .i64 op, .int .i64 t, .int .i64 n, .int .i64 m, .slice sa N sc] 30) := ⟨_, rfl⟩
    rw [← hW0]
    have o0 : W0.heap[w.heap.size]? = some (.cells #[.int .i64 op, .int .i64 t, .int .i64 n, .int .i64 m, .slice sa N sc] 30) := by rw [hW0]; exact get_last rfl
    have hb : Below w.heap.size w W0 := by rw [hW0]; exact by (repeat' (first | (with_reducible exact Below.refl _ _) | (with_reducible assumption) | (with_reducible refine below_drewN ?_ _) | (with_reducible refine Below.alloc ?_ ?_ _) | (with_reducible refine Below.drew ?_) | (with_reducible refine Below.setCell ?_ ?_ _) | go_size))
    have hsz0 : W0.heap.size = w.heap.size + 1 := by rw [hW0]; simp
    have HO0 := Lib.hid o0
    have HB0 := Lib.hid hb
    have hml : M.length = N := by rw [← HM.out, List.length_map]; exact HN.out
    have HML := Lib.hid hml
    clear hW0 o0 hb hml
    go_loopw [5, 11] (fun o jj wr => ∃ k : Nat, k ≤ N ∧ jj = .int .i64 k ∧ Hid (wr.ownsRow W0.heap.size 4 1 o k (bV1 (M.take k))) ∧ Hid (Below W0.heap.size W0 wr)) (fun _ jj _ => N - (intOf jj).toNat)
    case atStart => exact ⟨0, by omega, rfl, Lib.hid (World.ownsRow_nil _ _ _ _), Lib.hid (Below.refl _ _)⟩
    case round =>
      obtain ⟨k, hk, rfl, hO, hB⟩ := hrel
      have hBw := HB0.out.trans (hB.out.mono (by omega))
      by_cases hlt : k < N
      · have qk : ((k : Int) < (N : Int)) = True := eq_true (by omega)
        have qk' : (k < N) = True := eq_true hlt
        obtain ⟨x, hx⟩ := get_some (L := l) (n := k) (by rw [HN.out]; exact hlt)
        obtain ⟨b, off, s1, sn1, sc1, rfl, hbw, hc1, hc2, d0, d1, d2, d3, d4, hxv⟩ := ex_at HX.out hx
        have hmem := List.mem_of_getElem? hx
        have d0 := (hBw.cell (p := ⟨b, off + k * 5, none⟩) hbw).trans d0
        have d1 := (hBw.cell (p := ⟨b, off + k * 5 + 1, none⟩) hbw).trans d1
        have d2 := (hBw.cell (p := ⟨b, off + k * 5 + 2, none⟩) hbw).trans d2
        have d3 := (hBw.cell (p := ⟨b, off + k * 5 + 3, none⟩) hbw).trans d3
        have d4 := (hBw.cell (p := ⟨b, off + k * 5 + 4, none⟩) hbw).trans d4
        have HC := Lib.hid (fun W u hB hv => HIH.out x hmem W u hB hv)
        have HXV := Lib.hid (hxv.below hBw)
        have HTK := Lib.hid (show M.take (k + 1) = M.take k ++ [foldE F x] from take_snoc (by rw [← HM.out, List.getElem?_map, hx]; rfl))
        have HLT := Lib.hid hlt
        have HBW := Lib.hid hBw
        have hsz := hB.out.size
        have hBr := Lib.hid hB.out
        have hOr := Lib.hid hO.out
        generalize foldE F x = z at *
        clear hx hmem hxv hlt hBw
        go_wp2_with fail
        refine (HC.out _ _ (HBW.out.alloc HBW.out.size _) (HXV.out.below ((Below.refl _ _).alloc (Nat.le_refl _) _))).mono ?_; rintro r w2 ⟨rfl, hb2⟩
        have hb2' : Below wr.heap.size wr w2 := Below.trans ((Below.refl _ _).alloc (Nat.le_refl _) _) (hb2.mono (by simp))
        have hO2 := owns_below hOr.out hb2'
        have hB2 := hBr.out.trans (hb2'.mono hsz)
        have hsz2 := hB2.size
        have HO2 := Lib.hid hO2
        have HB2 := Lib.hid hB2
        clear hb2 hb2' hO2 hB2 hO hB
        go_wp2_with (first | (at_builtin; go_loud (refine wpList_append_src rfl (.tmp 15) (.tmp 19) 66 rfl W0.heap.size 4 i (.bool false) 1 1 Tryd.underlying66 hi hz hsize hby rfl (by omega) _ k _ rfl (owns_below HO2.out ((Below.refl _ _).alloc (Nat.le_refl _) _)) _ 1 [.bool z] rfl (src_new _ _ _) rfl (by intro u hu; simp at hu; rw [hu]; rfl) (by unfold maxLen; omega) (by omega) (by simp; omega) ?_; intro v3 w3 hO3 hG3; have hB3 := Lib.hid (grown3 (HB2.out.alloc hsz2 _) (by simp; omega) (owns_below HO2.out ((Below.refl _ _).alloc (Nat.le_refl _) _)) hG3); have HO3 := Lib.hid hO3; clear hO3 hG3)) | fail)
        go_roundw
        case rel => exact ⟨k + 1, by have := HLT.out; omega, by simp, Lib.hid (by rw [HTK.out]; exact own_eq2 HO3.out rfl (by simp [bV1])), hB3⟩
        case measure => have := HLT.out; first | (simp [intOf]; done) | (simp [intOf]; omega)
      · obtain rfl : k = N := by omega
        have qk : ((k : Int) < (k : Int)) = False := eq_false (by omega)
        have qk' : (k < k) = False := eq_false (by omega)
        have hfull : M.take k = M := List.take_of_length_le (by rw [HML.out]; exact Nat.le_refl _)
        have o1 := obj_below HO0.out hB.out (by omega)
        have c0 : wr.cell? ⟨w.heap.size, 0, none⟩ = some (.int .i64 op) := obj_cell o1 (i := 0) rfl
        have c1 : wr.cell? ⟨w.heap.size, 1, none⟩ = some (.int .i64 t) := obj_cell o1 (i := 1) rfl
        have c2 : wr.cell? ⟨w.heap.size, 2, none⟩ = some (.int .i64 n) := obj_cell o1 (i := 2) rfl
        have c3 : wr.cell? ⟨w.heap.size, 3, none⟩ = some (.int .i64 m) := obj_cell o1 (i := 3) rfl
        have c4 : wr.cell? ⟨w.heap.size, 4, none⟩ = some (.slice sa k sc) := obj_cell o1 (i := 4) rfl
        have hrow := bools_of_owns (l := M) (own_eq2 hO.out HML.out.symm (by rw [hfull]))
        have HR := Lib.hid (HFe.out wr hBw _ hrow)
        have HBW := Lib.hid hBw
        clear hO hB hrow hfull o1 hBw
        go_wp2_with fail
        refine HR.out.mono ?_; rintro r w2 ⟨rfl, hb2⟩
        go_wp2_with fail
        go_ret
        exact ⟨rfl, HBW.out.trans (hb2.mono HBW.out.size)⟩
end Go.Proofs.YtpecpeedefeokaaDoor
