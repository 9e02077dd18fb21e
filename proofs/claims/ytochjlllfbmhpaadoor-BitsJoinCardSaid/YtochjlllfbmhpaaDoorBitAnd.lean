/- Sets: what both have. -/
import Derived.Test.YtochjlllfbmhpaaDoorBitPart
namespace Go.Proofs.YtochjlllfbmhpaaDoor
open Go.RowKit
set_option linter.unusedSimpArgs false
set_option linter.unusedVariables false
set_option maxHeartbeats 600000 in
theorem bits_And (v u : Value) (x y : List Bool) (w : World) (hx : SetR w v x) (hy : SetR w u y) : Calls Tryd.prog 14 #[v, u] w fun e w' => ∃ g m, e = .returned (.agg #[.int .i64 (andB x y).length, .slice (some ⟨g, 0, none⟩) m m]) ∧ SetR w' (.agg #[.int .i64 (andB x y).length, .slice (some ⟨g, 0, none⟩) m m]) (andB x y) ∧ Below w.heap.size w w' := by
  have hx0 := Lib.hid hx
  obtain ⟨vs, a, c, rfl, hvs, hlen, hcell0⟩ := hx
  obtain ⟨us, a2, c2, rfl, hus, hlen2, hcell⟩ := hy
  clear hcell0
  have HU := Lib.hid hus
  have U64 := Lib.hid (word_lt hus)
  obtain ⟨n, hn⟩ : ∃ n, x.length = n := ⟨_, rfl⟩
  obtain ⟨n2, hn2⟩ : ∃ n, y.length = n := ⟨_, rfl⟩
  obtain ⟨K, hK⟩ : ∃ K, vs.length = K := ⟨_, rfl⟩
  obtain ⟨K2, hK2⟩ : ∃ K, us.length = K := ⟨_, rfl⟩
  have HK2 := Lib.hid hK2
  have hk2n : K2 = (n2 + 63) / 64 := by rw [← hK2, ← hn2]; exact hus.1
  have HN := Lib.hid hn
  have HN2 := Lib.hid hn2
  rw [hn, hK] at hx0 ⊢
  rw [hn2, hK2]
  rw [hn] at hlen
  rw [hn2] at hlen2
  rw [hK2] at hcell
  have HC := Lib.hid hcell
  clear hvs hus hn hn2 hK hK2 hcell
  obtain ⟨r, hr⟩ : ∃ r, min n n2 = r := ⟨_, rfl⟩
  have hr64 : r ≤ 65536 := by omega
  have hri : (min (n : Int) (n2 : Int)) = (r : Int) := by omega
  have HR := Lib.hid hr
  obtain ⟨m, hm⟩ : ∃ m, (r + 63) / 64 = m := ⟨_, rfl⟩
  have HM := Lib.hid hm
  have hm64 : m ≤ 1024 := by omega
  have HMK := Lib.hid (show m ≤ K2 from by omega)
  have HCu := fun W (h : Below w.heap.size w W) => bits_cut _ x r hr64 W (hx0.out.below h)
  rw [hm] at HCu
  have HCut := Lib.hid HCu
  clear HCu hm hk2n hr
  obtain ⟨W0, hW0⟩ : ∃ W0, W0 = ((w.alloc (.cells #[.int .i64 n, .slice a K c] 26)).alloc (.cells #[.int .i64 n2, .slice a2 K2 c2] 26)).alloc (.cells #[.int .i64 0, .slice none 0 0] 26) := ⟨_, rfl⟩
  have o1 : W0.heap[w.heap.size + 1]? = some (.cells #[.int .i64 n2, .slice a2 K2 c2] 26) := by rw [hW0, get_past (by simp)]; exact get_last (by simp)
  have o2 : W0.heap[w.heap.size + 1 + 1]? = some (.cells #[.int .i64 0, .slice none 0 0] 26) := by rw [hW0]; exact get_last (by simp)
  have hs0 : W0.heap.size = w.heap.size + 1 + 1 + 1 := by rw [hW0]; simp
  have B0 := Lib.hid (show Below w.heap.size w W0 from by rw [hW0]; exact by (repeat' (first | (with_reducible exact Below.refl _ _) | (with_reducible assumption) | (with_reducible refine below_drewN ?_ _) | (with_reducible refine Below.alloc ?_ ?_ _) | (with_reducible refine Below.drew ?_) | (with_reducible refine Below.setCell ?_ ?_ _) | go_size)))
  have H0 := Lib.hid hW0
  have O1 := Lib.hid o1
  have O2 := Lib.hid o2
  have S0 := Lib.hid hs0
  clear o1 o2 hs0 hW0
  have hmain : ∀ (W1 : World) (g : Nat) (ws : List Nat), FreshW W0 W1 g ws → Wds (resize x r) ws → ∃ W2, W2 = W1.alloc (.cells #[.int .i64 r, .slice (some ⟨g, 0, none⟩) m m] 26) ∧ w.heap.size + 1 + 1 + 1 ≤ g ∧ g < W1.heap.size ∧ W2.heap[g]? = some (.cells (uV ws) 45) ∧ W2.heap[W1.heap.size]? = some (.cells #[.int .i64 r, .slice (some ⟨g, 0, none⟩) m m] 26) ∧ W2.heap[w.heap.size + 1]? = some (.cells #[.int .i64 n2, .slice a2 K2 c2] 26) ∧ W2.heap[w.heap.size + 1 + 1]? = some (.cells #[.int .i64 0, .slice none 0 0] 26) ∧ Below w.heap.size w W2 ∧ ws.length = m ∧ ∀ k, ws.getD k 0 < 18446744073709551616 := by
    intro W1 g ws hF hW
    have hs := S0.out
    have hgl := heap_lt hF.obj
    have hsz := hF.below.size
    have p1 := obj_below O1.out hF.below (heap_lt O1.out)
    have p2 := obj_below O2.out hF.below (heap_lt O2.out)
    refine ⟨_, rfl, by have := hF.base; omega, hgl, by rw [get_past hgl]; exact hF.obj, get_last rfl, by rw [get_past (heap_lt p1)]; exact p1, by rw [get_past (heap_lt p2)]; exact p2, (B0.out.trans (hF.below.mono (by omega))).alloc (by omega) _, ?_, fun k => word_lt hW k⟩
    rw [hW.1, resize_len]; exact HM.out
  have HMain := Lib.hid hmain
  clear hmain
  have HCA := Lib.hid (fun W (h : Below w.heap.size w W) (e : r = n) => (congrArg (fun z => Calls Tryd.prog 23 #[.agg #[.int .i64 n, .slice a K c], .int .i64 z] W fun e w' => ∃ g ws, e = .returned (.agg #[.int .i64 r, .slice (some ⟨g, 0, none⟩) m m]) ∧ FreshW W w' g ws ∧ Wds (resize x r) ws) (show ((r : Nat) : Int) = (n : Int) by rw [e])).mp (HCut.out W h))
  have HCB := Lib.hid (fun W (h : Below w.heap.size w W) (e : r = n2) => (congrArg (fun z => Calls Tryd.prog 23 #[.agg #[.int .i64 n, .slice a K c], .int .i64 z] W fun e w' => ∃ g ws, e = .returned (.agg #[.int .i64 r, .slice (some ⟨g, 0, none⟩) m m]) ∧ FreshW W w' g ws ∧ Wds (resize x r) ws) (show ((r : Nat) : Int) = (n2 : Int) by rw [e])).mp (HCut.out W h))
  go_enter Tryd.func14, Tryd.ntmps14
  go_wp2_with fail
  all_goals rw [← H0.out]
  all_goals first | with_reducible refine (HCA.out _ B0.out (by have := HR.out; omega)).mono ?_ | with_reducible refine (HCB.out _ B0.out (by have := HR.out; omega)).mono ?_
  all_goals (
  rintro e W1 ⟨g, ws, rfl, hF, hW⟩
  clear HCA HCB HCut
  obtain ⟨W2, hW2, hg1, hgl, qg, q3, q1, q2, hb2, hwl, hw64⟩ := HMain.out W1 g ws hF hW
  have HW2 := Lib.hid hW2
  have HQ1 := Lib.hid q1
  have HQ2 := Lib.hid q2
  have HQ3 := Lib.hid q3
  have HQG := Lib.hid qg
  have HG := Lib.hid hg1
  have HGL := Lib.hid hgl
  have HB2 := Lib.hid hb2
  have HWD := Lib.hid hW
  have HWL := Lib.hid hwl
  have H64 := Lib.hid hw64
  have cp := @cell_past
  have d1 : W1.cell? ⟨w.heap.size + 1, 1, none⟩ = some (.slice a2 K2 c2) := by
    have := obj_cell q1 (i := 1) (u := .slice a2 K2 c2) rfl
    rw [hW2, cell_past (by omega)] at this; exact this
  have z1 : w.heap.size + 1 < W1.heap.size := by omega
  clear hW2 q1 q2 q3 qg hF hgl hg1 hb2 hW hwl hw64
  go_wp2_with fail
  rw [← HW2.out]
  clear d1 z1 cp
  go_loopw [17] (fun jj wr => ∃ k : Nat, k ≤ m ∧ jj = .int .i64 k ∧ Hid (wr.heap[g]? = some (.cells (uV (partW (· &&& ·) ws us k)) 45)) ∧ Hid (W2.grownBy wr (some g))) (fun jj _ => m - (intOf jj).toNat)
  case atStart => exact ⟨0, by omega, rfl, Lib.hid (by rw [partW_zero]; exact HQG.out), Lib.hid (World.grownBy.refl _ _)⟩
  case round =>
    obtain ⟨k, hk, rfl, hobj, hgr⟩ := hrel
    have j3 := grown_other hgr.out HQ3.out (by have := HGL.out; omega)
    have j2 := grown_other hgr.out HQ2.out (by have := HG.out; omega)
    have j1 := grown_other hgr.out HQ1.out (by have := HG.out; omega)
    have n1 : ¬ g = W1.heap.size := by have := HGL.out; omega
    have n2' : ¬ g = w.heap.size + 1 + 1 := by have := HG.out; omega
    have n3' : ¬ g = w.heap.size + 1 := by have := HG.out; omega
    have c20 : wr.cell? ⟨W1.heap.size, 0, none⟩ = some (.int .i64 r) := obj_cell j3 (i := 0) rfl
    have c21 : wr.cell? ⟨W1.heap.size, 1, none⟩ = some (.slice (some ⟨g, 0, none⟩) m m) := obj_cell j3 (i := 1) rfl
    have e21 : wr.cell? ⟨w.heap.size + 1, 1, none⟩ = some (.slice a2 K2 c2) := obj_cell j1 (i := 1) rfl
    have sf := @far_cell
    have sz := @far_frozen
    have hWL := HWL.out
    have hMK := HMK.out
    by_cases hlt : k < m
    · have qk : ((k : Int) < (m : Int)) = True := eq_true (by omega)
      have qk' : (k < m) = True := eq_true hlt
      have qm : (k : Int) < (m : Int) := by omega
      have qK2 : (k : Int) < (K2 : Int) := by omega
      have fg : wr.frozen? ⟨g, k, none⟩ = false := obj_frozen hobj.out _
      have cg : wr.cell? ⟨g, k, none⟩ = some (.int .u64 ((partW (· &&& ·) ws us k).getD k 0 : Nat)) := obj_cell hobj.out (uV_get (by rw [partW_len]; omega))
      obtain ⟨b, off, rfl, l1, l2, l3, l4⟩ := HC.out (by omega)
      have hBr := HB2.out.trans (grown_below hgr.out (by have := HG.out; omega) HB2.out.size)
      have hc := (hBr.cell (p := ⟨b, off + k, none⟩) l3).trans (l4 k (by omega))
      have l2' : c2 ≤ 9223372036854775807 := l2
      have nb : ¬ g = b := by have := HG.out; omega
      have HV := Lib.hid (show bits .and .u64 ((partW (· &&& ·) ws us k).getD k 0 : Nat) (us.getD k 0 : Nat) = ((ws.getD k 0 &&& us.getD k 0 : Nat) : Int) by
        rw [partW_get _ _ _ _ _ (by omega), if_neg (by omega)]
        exact and_u _ _ (H64.out k) (U64.out k))
      have HRO := Lib.hid (show (wr.setCell ⟨g, k, none⟩ (.int .u64 ((ws.getD k 0 &&& us.getD k 0 : Nat) : Int))).heap[g]? = some (.cells (uV (partW (· &&& ·) ws us (k + 1))) 45) from by
        rw [obj_self hobj.out, uV_set, ← partW_set _ _ _ _ (by omega)])
      have HG2 := Lib.hid (grown_drew (grown_set (q := k) (v := .int .u64 ((ws.getD k 0 &&& us.getD k 0 : Nat) : Int)) hgr.out))
      generalize (partW (· &&& ·) ws us k).getD k 0 = p1 at *
      generalize us.getD k 0 = p2 at *
      generalize ws.getD k 0 = p3 at *
      clear j1 j2 j3 l4 l2 hBr hWL hMK
      go_wp2_with fail
      go_still_tail 12, (by kernel_rfl)
      change wpList _ _ _ _ _ wr.drew
      have fg : wr.drew.frozen? ⟨g, k, none⟩ = false := fg
      have cg : wr.drew.cell? ⟨g, k, none⟩ = some (.int .u64 p1) := cg
      go_wp2_with fail
      rw [HV.out]
      go_roundw
      case rel => exact ⟨k + 1, by omega, by simp, HRO, HG2⟩
      case measure => first | (simp [intOf]; done) | (simp [intOf]; omega)
    · obtain rfl : k = m := by omega
      have qk : ((k : Int) < (k : Int)) = False := eq_false (by omega)
      have qk' : (k < k) = False := eq_false (by omega)
      have d0 : wr.cell? ⟨w.heap.size + 1 + 1, 0, none⟩ = some (.int .i64 0) := obj_cell j2 (i := 0) rfl
      have d1 : wr.cell? ⟨w.heap.size + 1 + 1, 1, none⟩ = some (.slice none 0 0) := obj_cell j2 (i := 1) rfl
      have f0 := obj_frozen j2 0
      have f1 := obj_frozen j2 1
      have hB4 : Below w.heap.size w wr := HB2.out.trans (grown_below hgr.out (by have := HG.out; omega) HB2.out.size)
      have HE := Lib.hid (fin_box (w := w) (z0 := .int .i64 r) (z1 := .slice (some ⟨g, 0, none⟩) k k) hobj.out j2 hB4 (by have := HG.out; omega) n2')
      clear j1 j2 j3 hB4
      go_wp2_with fail
      obtain ⟨W5, hW5, y0, y1, hS, hb⟩ := HE.out
      rw [← hW5]
      refine bodyPost_ret (by simp [results, Tryd.results14, go_sem, y0, y1]; try rfl) rfl ?_
      rw [partW_end _ _ _ _ (fun i h1 h2 => by omega)] at hS
      have hx := wds_and (x := x) (y := y) (a := ws) (b := us) (by rw [HN.out, HN2.out, HR.out]; exact HWD.out) HU.out
      have hl : (andB x y).length = r := by unfold andB; rw [List.length_map, List.length_range, HN.out, HN2.out]; exact HR.out
      have hr := FreshW.set ⟨by have := HG.out; omega, hS, hb⟩ hx (by rw [hl]; exact hr64) (m := k) (by unfold mapW; rw [List.length_map, List.length_range]; exact HWL.out)
      rw [hl] at hr ⊢
      exact ⟨g, _, rfl, hr, hb⟩)
end Go.Proofs.YtochjlllfbmhpaaDoor
