/- Layer 23: the answer's first state of declarations. -/
import Derived.Test.YthanmbfelihkfaaStNewA
import Derived.Test.YthanmbfelihkfaaStRefClone
import Derived.Test.YthanmbfelihkfaaMoreB
import Derived.LoopTactic
import Derived.OwnWalk
namespace Go.Proofs.Ythanmbfelihkfaa
open Go.RowKit
set_option linter.unusedSimpArgs false
set_option linter.unusedVariables false
theorem rep_snoc (n : Nat) (z : Int) : iV (List.replicate n z) ++ [Value.int .i64 z] = iV (List.replicate (n + 1) z) := by
  rw [List.replicate_succ']
  simp [iV]
theorem bV_snoc (n : Nat) : bV (List.replicate n zeroI) ++ [.int .i64 0, .int .i64 0, .int .i64 0, .int .i64 0, .int .i64 0, .int .i64 0, .int .i64 0, .int .i64 0, .int .i64 0, .int .i64 0] = bV (List.replicate (n + 1) zeroI) := by
  rw [List.replicate_succ', bV_app]
  rfl
theorem var_inits {w : World} {a : Option Addr} {n cap : Nat} {V : List Vr} (h : RowR 5 varR w (.slice a n cap) V) : ∀ x ∈ V, I64 x.init := by
  intro x hx
  obtain ⟨k, hk, rfl⟩ := List.getElem_of_mem hx
  obtain ⟨bb, off, _, _, hc⟩ := var_at h hk
  exact (hc k V[k] (by simp [hk])).2.2.2.2.2.2.2.2.2
theorem new_fin {w : World} {B nb N : Nat} {v b : Value} {U : List Value} {V : List Vr} (hN : V.length = N) (h1 : w.ownsRow B 45 1 v N U) (h2 : OwnRows B 3 w U (V.map newRow)) (h3 : w.ownsRow B 62 10 b nb (bV (List.replicate nb zeroI))) (hI : ∀ x ∈ V, I64 x.init) (hV : N ≤ 70) : OwnS B w v b (newS V nb) U := by
  subst hN
  refine ⟨by unfold newS; rw [List.length_map]; exact h1, h2, by unfold newS; rw [List.length_replicate]; exact h3, ?_, ?_, by unfold I64 newS; dsimp only; omega, by unfold I64 newS; dsimp only; omega, by unfold newS; rw [List.length_map]; omega⟩
  · intro l hl z hz
    obtain ⟨x, hx, rfl⟩ := List.mem_map.1 hl
    obtain rfl := (List.mem_replicate.1 hz).2
    exact hI x hx
  · intro l hl
    obtain rfl := (List.mem_replicate.1 hl).2
    refine ⟨rfl, fun z hz => ?_⟩
    obtain rfl := (List.mem_replicate.1 hz).2
    unfold I64; omega
set_option maxHeartbeats 8000000 in
theorem ref23_New (vv bv : Value) (V : List Vr) (nb : Nat) (w : World) (hvv : RowR 5 varR w vv V) (hbv : ∃ a c, bv = .slice a nb c) (hV : V.length ≤ 70) (hnb : nb ≤ 40) :
    Calls Try.prog 11 #[vv, bv] w fun e w' => ∃ (v b : Value) (U : List Value), e = .returned (.agg #[v, b, .int .i64 0, .int .i64 0]) ∧ OwnS w.heap.size w' v b (newS V nb) U ∧ Below w.heap.size w w' := by
  obtain ⟨i, hi, hz, hsize, hby⟩ : ∃ i, Try.prog.info? 3 = some i ∧ i.zero = some (.int .i64 0) ∧ i.size = 1 ∧ i.bytes = 8 := ⟨(Try.prog.info? 3).get!, by kernel_rfl, by kernel_rfl, by kernel_rfl, by kernel_rfl⟩
  obtain ⟨j, hj, hjz, hjsize, hjby⟩ : ∃ i, Try.prog.info? 45 = some i ∧ i.zero = some (.slice none 0 0) ∧ i.size = 1 ∧ i.bytes = 24 := ⟨(Try.prog.info? 45).get!, by kernel_rfl, by kernel_rfl, by kernel_rfl, by kernel_rfl⟩
  obtain ⟨ii, hii, hiz, hisize, hiby⟩ : ∃ i, Try.prog.info? 62 = some i ∧ i.zero = some (.agg #[.int .i64 0, .int .i64 0, .int .i64 0, .int .i64 0, .int .i64 0, .int .i64 0, .int .i64 0, .int .i64 0, .int .i64 0, .int .i64 0]) ∧ i.size = 10 ∧ i.bytes = 80 := ⟨(Try.prog.info? 62).get!, by kernel_rfl, by kernel_rfl, by kernel_rfl, by kernel_rfl⟩
  obtain ⟨sb, cb, rfl⟩ := hbv
  obtain ⟨sv, cv, rfl⟩ := row_get hvv
  obtain ⟨N, hN⟩ : ∃ N, V.length = N := ⟨_, rfl⟩
  have HN := Lib.hid hN
  rw [hN] at hvv hV ⊢
  clear hN
  have cp := @cell_past
  have fp := @frozen_past
  go_enter Try.func11, Try.ntmps11
  go_wp2_with fail
  go_loopw [6] (fun jj wr => ∃ (k : Nat) (ov : Value) (U : List Value), k ≤ N ∧ jj = .int .i64 k ∧ Hid (wr.heap[w.heap.size]? = some (.cells #[.slice none 0 0, .slice none 0 0, .int .i64 0, .int .i64 0] 31) ∧ wr.heap[w.heap.size + 1]? = some (.cells #[ov, .slice none 0 0, .int .i64 0, .int .i64 0] 31)) ∧ Hid (wr.ownsRow (w.heap.size + 2) 45 1 ov k U) ∧ Hid (OwnRows (w.heap.size + 2) 3 wr U ((V.map newRow).take k)) ∧ Hid (Below w.heap.size w wr)) (fun jj _ => N - (intOf jj).toNat)
  case atStart => exact ⟨0, .slice none 0 0, [], by omega, rfl, Lib.hid ⟨(by rw [get_past (by simp)]; exact get_last rfl), get_last (by simp)⟩, Lib.hid (World.ownsRow_nil _ _ _ _), Lib.hid (by simpa using OwnRows.nil _ _ _), Lib.hid (by (repeat' (first | (with_reducible exact Below.refl _ _) | (with_reducible assumption) | (with_reducible refine below_drewN ?_ _) | (with_reducible refine Below.alloc ?_ ?_ _) | (with_reducible refine Below.drew ?_) | (with_reducible refine Below.setCell ?_ ?_ _) | go_size)))⟩
  case round =>
    obtain ⟨k, ov, U, hk, rfl, hobj, hO, hR, hb⟩ := hrel
    have hz0 : w.heap.size + 1 < wr.heap.size := World.block_lt_of_cell? _ _ (obj_cell hobj.out.2 (i := 0) rfl)
    by_cases hlt : k < N
    · have qk : ((k : Int) < (N : Int)) = True := eq_true (by omega)
      obtain ⟨x, hx⟩ := get_some (L := V) (n := k) (by have := HN.out; omega)
      obtain ⟨bb, off, rfl, hbw, hc⟩ := var_at hvv (k := k) (lt_of_get hx)
      obtain ⟨_, _, c2, _, c4, cc⟩ := hc k x hx
      have c2 := (hb.out.cell (p := ⟨bb, off + k * 5 + 2, none⟩) hbw).trans c2
      have c4 := (hb.out.cell (p := ⟨bb, off + k * 5 + 4, none⟩) hbw).trans c4
      have zv : bb < wr.heap.size := World.block_lt_of_cell? _ _ c2
      have hI := Lib.hid cc.2.2.2.2
      obtain ⟨m, hm⟩ : ∃ m, rowN x = m := ⟨_, rfl⟩
      have HM := Lib.hid (show m ≤ 16 ∧ ∀ q : Nat, q ≤ m → ((q < m) = ((q : Int) < x.n ∧ (q : Int) < 16)) by
        unfold rowN at hm
        refine ⟨by omega, fun q hq => propext ⟨fun h => by omega, fun h => by omega⟩⟩)
      have hts := Lib.hid (show (V.map newRow).take (k + 1) = (V.map newRow).take k ++ [List.replicate m x.init] from take_snoc (by rw [List.getElem?_map, hx]; simp [newRow, hm]))
      have HC2 := Lib.hid (fun W (hW : Below wr.heap.size wr W) => (hW.cell (p := ⟨bb, off + k * 5 + 2, none⟩) zv).trans c2)
      have HC4 := Lib.hid (fun W (hW : Below wr.heap.size wr W) => (hW.cell (p := ⟨bb, off + k * 5 + 4, none⟩) zv).trans c4)
      have HO := Lib.hid (fun W (hW : Below wr.heap.size wr W) => owns_below hO.out hW)
      have HR := Lib.hid (fun W (hW : Below wr.heap.size wr W) (hB : (w.heap.size + 2) ≤ wr.heap.size) u l (hu : W.ownsRow wr.heap.size 3 1 u l.length (iV l)) => OwnRows.snoc hR.out hW hB hu)
      have HJ := Lib.hid (fun W (hW : Below wr.heap.size wr W) => And.intro (obj_below hobj.out.1 hW (by omega)) (obj_below hobj.out.2 hW hz0))
      have HB := Lib.hid (fun W (hW : Below wr.heap.size wr W) => hb.out.trans (hW.mono (by omega)))
      clear hc cc hx hm c2 c4 hO hR hobj
      obtain ⟨gx, hgx⟩ : ∃ g, wr.heap.size = g := ⟨_, rfl⟩
      have HG := Lib.hid hgx
      rw [hgx] at HC2 HC4 HO HR HJ HB hz0 zv
      clear hgx hb
      go_wp2_with fail
      go_loopw [7, 8] (fun oi ji wi => ∃ (q : Nat), q ≤ m ∧ ji = .int .i64 q ∧ Hid (wi.ownsRow gx 3 1 oi q (iV (List.replicate q x.init))) ∧ Hid (Below gx wr wi)) (fun _ ji _ => m - (intOf ji).toNat)
      case atStart => exact ⟨0, by omega, rfl, Lib.hid (World.ownsRow_nil _ _ _ _), Lib.hid (Below.refl _ _)⟩
      case round =>
        obtain ⟨q, hq, rfl, hO, hBw⟩ := hrel
        have c2 := HC2.out _ hBw.out
        have c4 := HC4.out _ hBw.out
        have zr : gx ≤ wr.heap.size := by have := hBw.out.size; have := HG.out; omega
        have hm16 := HM.out.1
        by_cases hqm : q < m
        · have hqq := (HM.out.2 q hq) ▸ hqm
          have q1 : ((q : Int) < x.n) = True := eq_true hqq.1
          have q2 : ((q : Int) < 16) = True := eq_true hqq.2
          clear hqq
          have Hown := Lib.hid (fun W (hW : Below wr.heap.size wr W) => owns_below hO.out hW)
          go_wp2_with (first | (at_builtin; go_loud (refine wpList_append_src rfl (.tmp 30) (.tmp 36) 45 rfl gx 3 i (.int .i64 0) 1 8 Try.underlying45 hi hz hsize hby rfl (by omega) _ q _ rfl (Hown.out _ (by (repeat' (first | (with_reducible exact Below.refl _ _) | (with_reducible assumption) | (with_reducible refine below_drewN ?_ _) | (with_reducible refine Below.alloc ?_ ?_ _) | (with_reducible refine Below.drew ?_) | (with_reducible refine Below.setCell ?_ ?_ _) | go_size)))) _ 1 [.int .i64 x.init] rfl (src_new _ _ _) rfl (by intro u hu; simp at hu; rw [hu]; rfl) (by unfold maxLen; omega) (by omega) (by simp; omega) ?_; intro v2 w2 hO2 hG2; have hB2 := Lib.hid (grown3 (Below.trans hBw.out (show Below gx wr (wr.alloc _) from (show Below wr.heap.size wr _ by (repeat' (first | (with_reducible exact Below.refl _ _) | (with_reducible assumption) | (with_reducible refine below_drewN ?_ _) | (with_reducible refine Below.alloc ?_ ?_ _) | (with_reducible refine Below.drew ?_) | (with_reducible refine Below.setCell ?_ ?_ _) | go_size))).mono (by omega))) (by simp; omega) (Hown.out _ (by (repeat' (first | (with_reducible exact Below.refl _ _) | (with_reducible assumption) | (with_reducible refine below_drewN ?_ _) | (with_reducible refine Below.alloc ?_ ?_ _) | (with_reducible refine Below.drew ?_) | (with_reducible refine Below.setCell ?_ ?_ _) | go_size)))) hG2); have HO2 := Lib.hid hO2; clear hO2 hG2)) | fail)
          go_roundw
          case rel => exact ⟨q + 1, by omega, by simp, Lib.hid (own_eq2 HO2.out (by omega) (rep_snoc _ _)), hB2⟩
          case measure => first | (simp [intOf]; done) | (simp [intOf]; omega)
        · have hqq : ¬ ((q : Int) < x.n ∧ (q : Int) < 16) := (HM.out.2 q hq) ▸ hqm
          obtain rfl : q = m := by omega
          have hz1 : (w.heap.size + 2) ≤ gx := by omega
          by_cases q0 : (q : Int) < x.n
          · have q1 : ((q : Int) < x.n) = True := eq_true q0
            have q2 : ((q : Int) < 16) = False := eq_false (fun h => hqq ⟨q0, h⟩)
            clear hqq q0
            obtain ⟨ao, co, rfl⟩ := owns_form hO.out
            have HRow := Lib.hid (HR.out _ hBw.out hz1 _ (List.replicate q x.init) (by rw [List.length_replicate]; exact hO.out))
            have HOv := Lib.hid (HO.out _ hBw.out)
            obtain ⟨av, cvv, rfl⟩ := owns_form HOv.out
            have hJ := HJ.out _ hBw.out
            have d0 := obj_cell hJ.2 (i := 0) rfl
            have hp1 : w.heap.size + 1 < wr.heap.size := by omega
            have HBB := Lib.hid (HB.out _ hBw.out)
            have hW1 := Lib.hid (show Below wr.heap.size wr (wr.alloc (.cells #[.slice ao q co] 45)) by (repeat' (first | (with_reducible exact Below.refl _ _) | (with_reducible assumption) | (with_reducible refine below_drewN ?_ _) | (with_reducible refine Below.alloc ?_ ?_ _) | (with_reducible refine Below.drew ?_) | (with_reducible refine Below.setCell ?_ ?_ _) | go_size)))
            have HOv2 := Lib.hid (owns_below HOv.out hW1.out)
            have HRow2 := Lib.hid (HRow.out.below hW1.out)
            have HJ1 := Lib.hid (obj_below hJ.1 hW1.out (by omega))
            have HJ2 := Lib.hid (obj_below hJ.2 hW1.out (by omega))
            clear hJ
            go_wp2_with (first | (at_builtin; go_loud (refine wpList_append_src rfl (.tmp 39) (.tmp 41) 28 rfl (w.heap.size + 2) 45 j (.slice none 0 0) 1 24 Try.underlying28 hj hjz hjsize hjby rfl (by omega) _ k U rfl HOv2.out _ 1 [.slice ao q co] rfl (src_new _ _ _) rfl (by intro u hu; rw [List.mem_singleton.1 hu]; rfl) (by unfold maxLen; omega) (by omega) (by simp; omega) ?_; intro v3 w3 hO3 hG3; obtain ⟨a3, c3, rfl⟩ := owns_form hO3; have HO3 := Lib.hid hO3; have HR3 := Lib.hid (HRow2.out.grown HOv2.out (by decide) hG3); have hB3 := grown3 (Below.refl (w.heap.size + 2) _) (by simp; omega) HOv2.out hG3; have hB4 := Lib.hid ((HBB.out.trans (hW1.out.mono (by omega))).trans (hB3.mono (by omega))); have K1 := Lib.hid (obj_below HJ1.out hB3 (by omega)); have K2 := Lib.hid (obj_below HJ2.out hB3 (by omega)); have hf := obj_frozen K2.out 0; have hf0 := obj_cell K2.out (i := 0) rfl; clear hO3 hG3 hB3)) | fail)
            go_roundw
            case rel => exact ⟨k + 1, _, _, by omega, by simp, Lib.hid ⟨(get_set (by simp)).trans K1.out, (obj_self K2.out)⟩, Lib.hid (owns_congr HO3.out (fun g hg => get_set (by simp; omega))), Lib.hid (by rw [hts.out]; exact HR3.out.congr (fun g hg => get_set (by simp; omega))), Lib.hid (hB4.out.setCell (p := ⟨w.heap.size + 1, 0, none⟩) (Nat.le_succ _) _)⟩
            case measure => first | (simp [intOf]; done) | (simp [intOf]; omega)
          · have q1 : ((q : Int) < x.n) = False := eq_false q0
            clear hqq q0
            obtain ⟨ao, co, rfl⟩ := owns_form hO.out
            have HRow := Lib.hid (HR.out _ hBw.out hz1 _ (List.replicate q x.init) (by rw [List.length_replicate]; exact hO.out))
            have HOv := Lib.hid (HO.out _ hBw.out)
            obtain ⟨av, cvv, rfl⟩ := owns_form HOv.out
            have hJ := HJ.out _ hBw.out
            have d0 := obj_cell hJ.2 (i := 0) rfl
            have hp1 : w.heap.size + 1 < wr.heap.size := by omega
            have HBB := Lib.hid (HB.out _ hBw.out)
            have hW1 := Lib.hid (show Below wr.heap.size wr (wr.alloc (.cells #[.slice ao q co] 45)) by (repeat' (first | (with_reducible exact Below.refl _ _) | (with_reducible assumption) | (with_reducible refine below_drewN ?_ _) | (with_reducible refine Below.alloc ?_ ?_ _) | (with_reducible refine Below.drew ?_) | (with_reducible refine Below.setCell ?_ ?_ _) | go_size)))
            have HOv2 := Lib.hid (owns_below HOv.out hW1.out)
            have HRow2 := Lib.hid (HRow.out.below hW1.out)
            have HJ1 := Lib.hid (obj_below hJ.1 hW1.out (by omega))
            have HJ2 := Lib.hid (obj_below hJ.2 hW1.out (by omega))
            clear hJ
            go_wp2_with (first | (at_builtin; go_loud (refine wpList_append_src rfl (.tmp 39) (.tmp 41) 28 rfl (w.heap.size + 2) 45 j (.slice none 0 0) 1 24 Try.underlying28 hj hjz hjsize hjby rfl (by omega) _ k U rfl HOv2.out _ 1 [.slice ao q co] rfl (src_new _ _ _) rfl (by intro u hu; rw [List.mem_singleton.1 hu]; rfl) (by unfold maxLen; omega) (by omega) (by simp; omega) ?_; intro v3 w3 hO3 hG3; obtain ⟨a3, c3, rfl⟩ := owns_form hO3; have HO3 := Lib.hid hO3; have HR3 := Lib.hid (HRow2.out.grown HOv2.out (by decide) hG3); have hB3 := grown3 (Below.refl (w.heap.size + 2) _) (by simp; omega) HOv2.out hG3; have hB4 := Lib.hid ((HBB.out.trans (hW1.out.mono (by omega))).trans (hB3.mono (by omega))); have K1 := Lib.hid (obj_below HJ1.out hB3 (by omega)); have K2 := Lib.hid (obj_below HJ2.out hB3 (by omega)); have hf := obj_frozen K2.out 0; have hf0 := obj_cell K2.out (i := 0) rfl; clear hO3 hG3 hB3)) | fail)
            go_roundw
            case rel => exact ⟨k + 1, _, _, by omega, by simp, Lib.hid ⟨(get_set (by simp)).trans K1.out, (obj_self K2.out)⟩, Lib.hid (owns_congr HO3.out (fun g hg => get_set (by simp; omega))), Lib.hid (by rw [hts.out]; exact HR3.out.congr (fun g hg => get_set (by simp; omega))), Lib.hid (hB4.out.setCell (p := ⟨w.heap.size + 1, 0, none⟩) (Nat.le_succ _) _)⟩
            case measure => first | (simp [intOf]; done) | (simp [intOf]; omega)
    · obtain rfl : k = N := by omega
      have qk : ((k : Int) < (k : Int)) = False := eq_false (by omega)
      have hIn := Lib.hid (var_inits hvv)
      have hRf := Lib.hid (show OwnRows (w.heap.size + 2) 3 wr U (V.map newRow) by have h := hR.out; rwa [List.take_of_length_le (by simp; have := HN.out; omega)] at h)
      clear hR
      go_wp2_with fail
      go_loopw [9] (fun jj wi => ∃ (q : Nat) (ob : Value), q ≤ nb ∧ jj = .int .i64 q ∧ Hid (wi.heap[w.heap.size]? = some (.cells #[.slice none 0 0, .slice none 0 0, .int .i64 0, .int .i64 0] 31) ∧ wi.heap[w.heap.size + 1]? = some (.cells #[ov, ob, .int .i64 0, .int .i64 0] 31)) ∧ Hid (wi.ownsRow (w.heap.size + 2) 45 1 ov k U) ∧ Hid (OwnRows (w.heap.size + 2) 3 wi U (V.map newRow)) ∧ Hid (wi.ownsRow (w.heap.size + 2) 62 10 ob q (bV (List.replicate q zeroI))) ∧ Hid (Below w.heap.size w wi)) (fun jj _ => nb - (intOf jj).toNat)
      case atStart => exact ⟨0, .slice none 0 0, by omega, rfl, hobj, hO, hRf, Lib.hid (World.ownsRow_nil _ _ _ _), hb⟩
      case round =>
        clear hobj hO hRf hb hz0
        obtain ⟨q, ob, hq, rfl, hobj, hO, hRf, hP, hb⟩ := hrel
        have hz0 : w.heap.size + 1 < wr.heap.size := World.block_lt_of_cell? _ _ (obj_cell hobj.out.2 (i := 0) rfl)
        obtain ⟨av, cvv, rfl⟩ := owns_form hO.out
        obtain ⟨ap, cpp, rfl⟩ := owns_form hP.out
        by_cases hqm : q < nb
        · have qq : ((q : Int) < (nb : Int)) = True := eq_true (by omega)
          have d1 := obj_cell hobj.out.2 (i := 1) rfl
          have hW1 := Lib.hid (show Below wr.heap.size wr (wr.alloc (.cells #[.int .i64 0, .int .i64 0, .int .i64 0, .int .i64 0, .int .i64 0, .int .i64 0, .int .i64 0, .int .i64 0, .int .i64 0, .int .i64 0] 62)) by (repeat' (first | (with_reducible exact Below.refl _ _) | (with_reducible assumption) | (with_reducible refine below_drewN ?_ _) | (with_reducible refine Below.alloc ?_ ?_ _) | (with_reducible refine Below.drew ?_) | (with_reducible refine Below.setCell ?_ ?_ _) | go_size)))
          have HO1 := Lib.hid (owns_below hO.out hW1.out)
          have HP1 := Lib.hid (owns_below hP.out hW1.out)
          have HR1 := Lib.hid (hRf.out.below hW1.out)
          have HJ1 := Lib.hid (obj_below hobj.out.1 hW1.out (by omega))
          have HJ2 := Lib.hid (obj_below hobj.out.2 hW1.out (by omega))
          have HBB := Lib.hid (hb.out.trans (hW1.out.mono (by omega)))
          clear hobj hO hP hRf hb hW1
          go_wp2_with (first | (at_builtin; go_loud (refine wpList_append_src rfl (.tmp 51) (.tmp 53) 29 rfl (w.heap.size + 2) 62 ii (.agg #[.int .i64 0, .int .i64 0, .int .i64 0, .int .i64 0, .int .i64 0, .int .i64 0, .int .i64 0, .int .i64 0, .int .i64 0, .int .i64 0]) 10 80 Try.underlying29 hii hiz hisize hiby rfl (by omega) _ q _ rfl HP1.out _ 1 [.int .i64 0, .int .i64 0, .int .i64 0, .int .i64 0, .int .i64 0, .int .i64 0, .int .i64 0, .int .i64 0, .int .i64 0, .int .i64 0] rfl (src_new _ _ _) rfl (by intro u hu; simp at hu; rw [hu]; rfl) (by unfold maxLen; omega) (by omega) (by simp; omega) ?_; intro v3 w3 hO3 hG3; obtain ⟨a3, c3, rfl⟩ := owns_form hO3; have HO3 := Lib.hid hO3; have HR3 := Lib.hid (HR1.out.grown HP1.out (by decide) hG3); have HV3 := Lib.hid (owns_grown HO1.out hG3 (fun g hg => owns_type HO1.out HP1.out (by decide) hg)); have hB3 := grown3 (Below.refl (w.heap.size + 2) _) (by simp; omega) HP1.out hG3; have hB4 := Lib.hid (HBB.out.trans (hB3.mono (by omega))); have K1 := Lib.hid (obj_below HJ1.out hB3 (by omega)); have K2 := Lib.hid (obj_below HJ2.out hB3 (by omega)); have hf := obj_frozen K2.out 1; have hf0 := obj_cell K2.out (i := 1) rfl; clear hO3 hG3 hB3)) | fail)
          go_roundw
          case rel => exact ⟨q + 1, _, by omega, by simp, Lib.hid ⟨(get_set (by simp)).trans K1.out, (obj_self K2.out)⟩, Lib.hid (owns_congr HV3.out (fun g hg => get_set (by simp; omega))), Lib.hid (HR3.out.congr (fun g hg => get_set (by simp; omega))), Lib.hid (own_eq2 (owns_congr HO3.out (fun g hg => get_set (by simp; omega))) rfl (bV_snoc _)), Lib.hid (hB4.out.setCell (p := ⟨w.heap.size + 1, 1, none⟩) (Nat.le_succ _) _)⟩
          case measure => first | (simp [intOf]; done) | (simp [intOf]; omega)
        · obtain rfl : q = nb := by omega
          have qq : ((q : Int) < (q : Int)) = False := eq_false (by omega)
          have d0 := obj_cell hobj.out.2 (i := 0) rfl
          have d1 := obj_cell hobj.out.2 (i := 1) rfl
          have d2 := obj_cell hobj.out.2 (i := 2) rfl
          have d3 := obj_cell hobj.out.2 (i := 3) rfl
          have r0 := obj_cell hobj.out.1 (i := 0) rfl
          have r1 := obj_cell hobj.out.1 (i := 1) rfl
          have r2 := obj_cell hobj.out.1 (i := 2) rfl
          have r3 := obj_cell hobj.out.1 (i := 3) rfl
          have k0 := hobj.out.1
          have k1 := obj_self (i := 0) (x := .slice av k cvv) k0
          have k2 := obj_self (i := 1) (x := .slice ap q cpp) k1
          have k3 := obj_self (i := 2) (x := .int .i64 0) k2
          have k4 := obj_self (i := 3) (x := .int .i64 0) k3
          have z0 := obj_frozen k0 0
          have z1 := obj_frozen k1 1
          have z2 := obj_frozen k2 2
          have z3 := obj_frozen k3 3
          have e0 := obj_cell k4 (i := 0) rfl
          have e1 := obj_cell k4 (i := 1) rfl
          have e2 := obj_cell k4 (i := 2) rfl
          have e3 := obj_cell k4 (i := 3) rfl
          have HF := new_fin HN.out hO.out hRf.out hP.out hIn.out hV
          have HK4 := Lib.hid (show OwnS w.heap.size _ _ _ _ _ from OwnS.low (OwnS.congr (w' := (((wr.setCell ⟨w.heap.size, 0, none⟩ (.slice av k cvv)).setCell ⟨w.heap.size, 1, none⟩ (.slice ap q cpp)).setCell ⟨w.heap.size, 2, none⟩ (.int .i64 0)).setCell ⟨w.heap.size, 3, none⟩ (.int .i64 0)) HF (fun g hg => by rw [get_set (by simp; omega), get_set (by simp; omega), get_set (by simp; omega), get_set (by simp; omega)])) (by omega))
          have HB4 := Lib.hid ((((hb.out.setCell (p := ⟨w.heap.size, 0, none⟩) (Nat.le_refl _) (.slice av k cvv)).setCell (p := ⟨w.heap.size, 1, none⟩) (Nat.le_refl _) (.slice ap q cpp)).setCell (p := ⟨w.heap.size, 2, none⟩) (Nat.le_refl _) (.int .i64 0)).setCell (p := ⟨w.heap.size, 3, none⟩) (Nat.le_refl _) (.int .i64 0))
          clear k0 k1 k2 k3 k4 HF
          go_wp2_with fail
          refine bodyPost_ret (by simp [results, Try.results11, go_sem, e0, e1, e2, e3]; try rfl) rfl ?_
          exact ⟨_, _, U, rfl, HK4.out, HB4.out⟩
end Go.Proofs.Ythanmbfelihkfaa
