/- The document's order. -/
import Derived.Test.YtemihfcenmhieaaDmRef
namespace Go.Proofs.Ytemihfcenmhieaa
open Go.RowKit
set_option linter.unusedSimpArgs false
set_option linter.unusedVariables false
open DM (rowN okN restF)
theorem rest_len {next : List (List Int)} {f i k : Nat} {met m : List Bool} {done d : List Nat} (h : restF next f i k met done = some (m, d)) : done.length + 1 ≤ d.length ∧ m.length = met.length := by
  obtain ⟨new, hd, r⟩ := DM.rest_rst h
  exact ⟨by rw [hd]; simp, r.len⟩
set_option maxRecDepth 100000 in
set_option maxHeartbeats 8000000 in
theorem ref31_Deep (v : Value) (next : List (List Int)) (w0 : World) (B : Nat) (hB0 : w0.heap.size ≤ B) (hv : RowR 1 gridR w0 v next) (hn : next.length ≤ 1024) (f : Nat) :
    ∀ (i : Nat) (met m : List Bool) (done d : List Nat) (g : Nat) (u : Value) (w : World), restF next f i 0 (met.set i true) done = some (m, d) → d.length ≤ 4096 → i < next.length → met.length = next.length →
      Below w0.heap.size w0 w → B ≤ w.heap.size → w.ownsRow B 4 1 (.slice (some ⟨g, 0, none⟩) next.length next.length) next.length (bV1 met) → w.ownsRow B 3 1 u done.length (iV (nI done)) →
    Calls Try.prog 20 #[v, .int .i64 (i : Int), .slice (some ⟨g, 0, none⟩) next.length next.length, u] w fun r w' => ∃ u', r = .returned u' ∧ w'.ownsRow B 3 1 u' d.length (iV (nI d)) ∧
      w'.ownsRow B 4 1 (.slice (some ⟨g, 0, none⟩) next.length next.length) next.length (bV1 m) ∧ Below B w w' := by
  obtain ⟨i2, hi2, hz2, hsize2, hby2⟩ : ∃ i, Try.prog.info? 3 = some i ∧ i.zero = some (.int .i64 0) ∧ i.size = 1 ∧ i.bytes = 8 := ⟨(Try.prog.info? 3).get!, by kernel_rfl, by kernel_rfl, by kernel_rfl, by kernel_rfl⟩
  have HV0 := Lib.hid hv
  obtain ⟨ad, cap, rfl⟩ := row_get hv
  obtain ⟨n, hN⟩ : ∃ n, next.length = n := ⟨_, rfl⟩
  have HN := Lib.hid hN
  rw [hN] at hn HV0 ⊢
  have hn63 : n ≤ 9223372036854775807 := by omega
  have HNB := Lib.hid hn
  have HB0 := Lib.hid hB0
  clear hv hN hn hB0
  induction f using Nat.strongRecOn with
  | _ f ih =>
    intro i met m done d g u w hrest hdl hi hml hbw hBw hm hu
    have HIH := Lib.hid ih
    clear ih
    obtain ⟨l, hl⟩ := get_some (L := next) (n := i) (by rw [HN.out]; exact hi)
    have hrowN : rowN next i = l := by unfold rowN; simp [List.getD, hl]
    obtain ⟨bn, on', sl, sc, rfl, hbn, hnN, hcN, cn0, hL⟩ := grid_at HV0.out hl
    have HCn := Lib.hid (fun (W : World) (h : Below w0.heap.size w0 W) => (h.cell (p := ⟨bn, on' + i, none⟩) hbn).trans cn0)
    have HLr := Lib.hid (fun (W : World) (h : Below w0.heap.size w0 W) => hL.below intR_stable h)
    obtain ⟨Lr, hLr⟩ : ∃ L, l.length = L := ⟨_, rfl⟩
    have HLl := Lib.hid hLr
    have hLr63 := hL.len
    rw [hLr] at HCn HLr hLr63
    have qi : ((i : Int) < (n : Int)) = True := eq_true (by omega)
    have qi' : (i < n) = True := eq_true hi
    have ci := owns_bool_at hm hi false
    have fi := hm.frozenAt i
    obtain ⟨ub, uc, rfl⟩ := owns_form hu
    obtain ⟨W1, hW1⟩ : ∃ W, W = w.setCell ⟨g, i, none⟩ (.bool true) := ⟨_, rfl⟩
    have HW1 := Lib.hid hW1
    have hgB : B ≤ g ∧ g < w.heap.size := owns_lt hm rfl
    have HM1 := Lib.hid (show W1.ownsRow B 4 1 (.slice (some ⟨g, 0, none⟩) n n) n (bV1 (met.set i true)) by rw [hW1, ← bV1_set]; exact (hm.stored i (.bool true)).1)
    have HU1 := Lib.hid (show W1.ownsRow B 3 1 (.slice ub done.length uc) done.length (iV (nI done)) by rw [hW1]; exact owns_set hu (owns_ne hu hm (by decide)))
    have HB1 := Lib.hid (show Below B w W1 by rw [hW1]; exact (Below.refl B w).setCell (p := ⟨g, i, none⟩) hgB.1 _)
    have HBw := Lib.hid (And.intro hbw hBw)
    have HRS := Lib.hid hrest
    have HDL := Lib.hid hdl
    have HI := Lib.hid hi
    have HML := Lib.hid (show (met.set i true).length = n by rw [List.length_set]; exact hml)
    have HRow := Lib.hid hrowN
    generalize met.getD i false = mi at *
    generalize met.set i true = met1 at *
    clear hW1 hrest hdl hi hml hbw hBw hm hu hl hrowN hL hLr cn0 hgB
    go_enter Try.func20, Try.ntmps20
    go_upto_region 2 with fail
    rw [← HW1.out]
    clear ci fi HW1
    go_wp2_with fail
    go_loopw [3, 9] (fun s3 jj wr => ∃ (k f' : Nat) (met : List Bool) (done : List Nat), k ≤ Lr ∧ jj = .int .i64 k ∧ Hid (f' ≤ f ∧ restF next f' i k met done = some (m, d) ∧ met.length = n) ∧ Hid (wr.ownsRow B 4 1 (.slice (some ⟨g, 0, none⟩) n n) n (bV1 met)) ∧ Hid (wr.ownsRow B 3 1 s3 done.length (iV (nI done))) ∧ Hid (Below B w wr)) (fun _ jj _ => Lr - (intOf jj).toNat)
    case atStart => exact ⟨0, f, met1, done, Nat.zero_le _, rfl, Lib.hid ⟨Nat.le_refl _, HRS.out, HML.out⟩, HM1, HU1, HB1⟩
    case round =>
      obtain ⟨k, f', met, done, hk, rfl, hR, hM, hU, hB⟩ := hrel
      have HB0w := Lib.hid (show Below w0.heap.size w0 wr from HBw.out.1.trans (Below.mono hB.out HB0.out))
      have cn := HCn.out _ HB0w.out
      obtain ⟨ub, uc, rfl⟩ := owns_form hU.out
      have hsz : B ≤ wr.heap.size := Nat.le_trans HBw.out.2 hB.out.size
      by_cases hlt : k < Lr
      case neg =>
        obtain rfl : Lr = k := by omega
        have q1 : ((Lr : Int) < (Lr : Int)) = False := eq_false (by omega)
        have q1' : (Lr < Lr) = False := eq_false (by omega)
        have hfin : met = m ∧ done ++ [i] = d := by
          have h := hR.out.2.1
          cases f' with
          | zero => simp [restF] at h
          | succ f' =>
            unfold restF at h
            rw [HRow.out, HLl.out, if_pos (Nat.le_refl _)] at h
            cases h; exact ⟨rfl, rfl⟩
        obtain ⟨rfl, rfl⟩ := hfin
        have HDd := Lib.hid (show done.length ≤ 4096 by have h := HDL.out; simp at h; omega)
        have hne : ∀ gg, (Value.slice (some ⟨g, 0, none⟩) n n).ownBlock = some gg → (Value.slice ub done.length uc).ownBlock ≠ some gg := fun gg hgg => owns_type hM.out hU.out (by decide) hgg
        have HNE := Lib.hid hne
        clear hlt hk hR hne
        go_wp2_with (first | (at_builtin; go_loud (refine wpList_append_src rfl (.tmp 50) (.tmp 52) 26 rfl B 3 i2 (.int .i64 0) 1 8 Try.underlying26 hi2 hz2 hsize2 hby2 rfl (by omega) _ done.length _ rfl (owns_below hU.out ((Below.refl _ _).alloc (Nat.le_refl _) _)) _ 1 [.int .i64 (i : Int)] rfl (src_new _ _ _) rfl (by intro u hu; simp at hu; rw [hu]; rfl) (by have := HDd.out; unfold maxLen; omega) (by have := HDd.out; omega) (by simp; omega) ?_; intro v6 w6 hO6 hG6; have HB6 := Lib.hid (grown3 (hB.out.alloc hsz _) (by simp; omega) (owns_below hU.out ((Below.refl _ _).alloc (Nat.le_refl _) _)) hG6); have HM6 := Lib.hid (owns_grown (owns_below hM.out ((Below.refl _ _).alloc (Nat.le_refl _) _)) hG6 HNE.out); have HO6 := Lib.hid hO6; clear hO6 hG6)) | fail)
        go_ret
        exact ⟨_, rfl, own_owns HO6.out (by simp) (by rw [nI_app, iV_app]; rfl), HM6.out, HB6.out⟩
      have q1 : ((k : Int) < (Lr : Int)) = True := eq_true (by omega)
      have q1' : (k < Lr) = True := eq_true hlt
      have hk62 : k ≤ 9223372036854775806 := by omega
      have HK := Lib.hid hlt
      obtain ⟨bl, ol, hse, hbl, hnl, hcl, cl1, _⟩ := int_at (HLr.out _ HB0w.out) (k := k) (by rw [HLl.out]; exact hlt)
      subst hse
      obtain ⟨T, hT⟩ : ∃ T, l.getD k 0 = T := ⟨_, rfl⟩
      rw [hT] at cl1
      have HE := Lib.hid (show ∃ f2, f' = f2 + 1 ∧ (if okN n T = true ∧ met.getD T.toNat true = false then (match restF next f2 T.toNat 0 (met.set T.toNat true) done with | none => none | some (m1, d1) => restF next f2 i (k + 1) m1 d1) else restF next f2 i (k + 1) met done) = some (m, d) by
        have h := hR.out.2.1
        cases f' with
        | zero => simp [restF] at h
        | succ f2 =>
          unfold restF at h
          rw [HRow.out, HLl.out, if_neg (by omega), hT, HN.out] at h
          exact ⟨f2, rfl, h⟩)
      obtain ⟨f2, hf2, hE2⟩ := HE.out
      subst hf2
      have HE2 := Lib.hid hE2
      have HFf := Lib.hid hR.out.1
      have HMl := Lib.hid hR.out.2.2
      clear HE hE2 hR hT hlt hk
      by_cases h0 : 0 ≤ T
      case neg =>
        have p0 : (0 ≤ T) = False := eq_false h0
        have HR := Lib.hid (show restF next f2 i (k + 1) met done = some (m, d) by
          have h := HE2.out
          rwa [if_neg (fun h => h0 (of_decide_eq_true h.1).1)] at h)
        clear h0 HE2
        go_wp2_with fail
        go_roundw
        case rel => exact ⟨k + 1, f2, met, done, by have := HK.out; omega, by simp, Lib.hid ⟨by have := HFf.out; omega, HR.out, HMl.out⟩, hM, hU, hB⟩
        case measure => have := HK.out; first | (simp [intOf]; done) | (simp [intOf]; omega)
      obtain ⟨t, rfl⟩ : ∃ t : Nat, T = (t : Int) := ⟨T.toNat, by omega⟩
      rw [Int.toNat_natCast] at HE2
      by_cases htn : t < n
      case neg =>
        have p1 : ((t : Int) < (n : Int)) = False := eq_false (by omega)
        have p1' : (t < n) = False := eq_false htn
        have HR := Lib.hid (show restF next f2 i (k + 1) met done = some (m, d) by
          have h := HE2.out
          rwa [if_neg (fun h => htn (by have := (of_decide_eq_true h.1).2; omega))] at h)
        clear h0 htn HE2
        go_wp2_with fail
        go_roundw
        case rel => exact ⟨k + 1, f2, met, done, by have := HK.out; omega, by simp, Lib.hid ⟨by have := HFf.out; omega, HR.out, HMl.out⟩, hM, hU, hB⟩
        case measure => have := HK.out; first | (simp [intOf]; done) | (simp [intOf]; omega)
      have p1 : ((t : Int) < (n : Int)) = True := eq_true (by omega)
      have p1' : (t < n) = True := eq_true htn
      have hok : okN n (t : Int) = true := decide_eq_true (by omega)
      have cm := owns_bool_at hM.out htn true
      cases hmt : met.getD t true
      case true =>
        rw [hmt] at cm
        have HR := Lib.hid (show restF next f2 i (k + 1) met done = some (m, d) by
          have h := HE2.out
          rwa [if_neg (fun h => by rw [hmt] at h; cases h.2)] at h)
        clear h0 htn hok hmt HE2
        go_wp2_with fail
        go_roundw
        case rel => exact ⟨k + 1, f2, met, done, by have := HK.out; omega, by simp, Lib.hid ⟨by have := HFf.out; omega, HR.out, HMl.out⟩, hM, hU, hB⟩
        case measure => have := HK.out; first | (simp [intOf]; done) | (simp [intOf]; omega)
      case false =>
        rw [hmt] at cm
        have HR := Lib.hid (show ∃ m1 d1, restF next f2 t 0 (met.set t true) done = some (m1, d1) ∧ restF next f2 i (k + 1) m1 d1 = some (m, d) by
          have h := HE2.out
          rw [if_pos ⟨hok, hmt⟩] at h
          split at h
          · cases h
          · rename_i m1 d1 h1; exact ⟨m1, d1, h1, h⟩)
        obtain ⟨m1, d1, hr1, hr2⟩ := HR.out
        have HR2 := Lib.hid hr2
        have hl1 := rest_len hr1
        have hl2 := rest_len hr2
        have HC := Lib.hid (HIH.out f2 (by have := HFf.out; omega) t met m1 done d1 g (.slice ub done.length uc) wr hr1 (by have := HDL.out; omega) htn HMl.out HB0w.out hsz hM.out hU.out)
        have HMl1 := Lib.hid (show m1.length = n by rw [hl1.2, List.length_set]; exact HMl.out)
        clear h0 htn hok hmt HE2 HR hr1 hr2 hl1 hl2
        go_wp2_with fail
        refine HC.out.mono ?_; rintro r w2 ⟨u', rfl, hO2, hM2, hb2⟩
        have HO2 := Lib.hid hO2
        have HM2 := Lib.hid hM2
        have HB2 := Lib.hid (Below.trans hB.out hb2)
        clear hO2 hM2 hb2
        go_wp2_with fail
        go_roundw
        case rel => exact ⟨k + 1, f2, m1, d1, by have := HK.out; omega, by simp, Lib.hid ⟨by have := HFf.out; omega, HR2.out, HMl1.out⟩, HM2, HO2, HB2⟩
        case measure => have := HK.out; first | (simp [intOf]; done) | (simp [intOf]; omega)
theorem rev_take {L : List Int} {k : Nat} (h : k < L.length) : L.reverse.take (k + 1) = L.reverse.take k ++ [L.getD (L.length - 1 - k) 0] := by
  rw [List.take_add_one]
  congr 1
  rw [List.getElem?_reverse h, List.getD_eq_getElem?_getD, List.getElem?_eq_getElem (by omega)]
  rfl
set_option maxRecDepth 100000 in
set_option maxHeartbeats 8000000 in
theorem ref31_Order (v : Value) (next : List (List Int)) (w : World) (hv : RowR 1 gridR w v next) (hn : next.length ≤ 1024) (f : Nat) (m : List Bool) (d : List Nat)
    (hd : (next.length = 0 ∧ d = []) ∨ (0 < next.length ∧ restF next f 0 0 ((List.replicate next.length false).set 0 true) [] = some (m, d))) (hdl : d.length ≤ 4096) (hdn : ∀ x ∈ d, x < next.length) :
    Calls Try.prog 10 #[v] w fun r w' => ∃ u, r = .returned u ∧ w'.ownsRow w.heap.size 3 1 u d.length (iV (nI d.reverse)) ∧ Below w.heap.size w w' := by
  obtain ⟨i, hi, hz, hsize, hby⟩ : ∃ i, Try.prog.info? 4 = some i ∧ i.zero = some (.bool false) ∧ i.size = 1 ∧ i.bytes = 1 := ⟨(Try.prog.info? 4).get!, by kernel_rfl, by kernel_rfl, by kernel_rfl, by kernel_rfl⟩
  obtain ⟨i2, hi2, hz2, hsize2, hby2⟩ : ∃ i, Try.prog.info? 3 = some i ∧ i.zero = some (.int .i64 0) ∧ i.size = 1 ∧ i.bytes = 8 := ⟨(Try.prog.info? 3).get!, by kernel_rfl, by kernel_rfl, by kernel_rfl, by kernel_rfl⟩
  rcases hd with ⟨h0, rfl⟩ | ⟨h0, hd⟩
  · obtain ⟨ad, cap, rfl⟩ := row_get hv
    rw [h0]
    go_enter Try.func10, Try.ntmps10
    go_wp2_with fail
    go_ret
    exact ⟨_, rfl, World.ownsRow_nil _ _ _ _, Below.refl _ _⟩
  have hmk := fun W => run_make W 31 4 i _ Try.underlying31 hi hz .i64 .i64 (next.length : Int) (next.length : Int) (by omega) (by omega) (by rw [hby]; omega) (by omega)
  rw [hsize, Nat.mul_one, made_false, Int.toNat_natCast] at hmk
  have hF := owns_arr w (bV1 (List.replicate next.length false)).toArray 4 1 next.length (by simp [bV1]) (by unfold maxLen; omega)
  have HC := Lib.hid (ref31_Deep v next w w.heap.size (Nat.le_refl _) hv hn f 0 (List.replicate next.length false) m [] d w.heap.size (.slice none 0 0) (w.alloc (.cells (bV1 (List.replicate next.length false)).toArray 4)) hd hdl h0 (by simp) (by (repeat' (first | (with_reducible exact Below.refl _ _) | (with_reducible assumption) | (with_reducible refine below_drewN ?_ _) | (with_reducible refine Below.alloc ?_ ?_ _) | (with_reducible refine Below.drew ?_) | (with_reducible refine Below.setCell ?_ ?_ _) | go_size))) (by simp) hF (World.ownsRow_nil _ _ _ _))
  obtain ⟨ad, cap, rfl⟩ := row_get hv
  obtain ⟨n, hN⟩ : ∃ n, next.length = n := ⟨_, rfl⟩
  rw [hN] at hn HC hmk h0 hdn ⊢
  have hn63 : n ≤ 9223372036854775807 := by omega
  have q0 : ((n : Int) == 0) = false := by have : ¬ (n : Int) = 0 := by omega
                                           simpa using this
  obtain ⟨M, hM⟩ : ∃ M, d.length = M := ⟨_, rfl⟩
  have HM := Lib.hid hM
  have HML := Lib.hid (show M ≤ 4096 by omega)
  have hM63 : M ≤ 9223372036854775806 := by omega
  rw [hM] at HC ⊢
  have HI64 := Lib.hid (nI_i64 (l := d) (n := n) (by omega) hdn)
  have HL := Lib.hid (show (nI d).length = M by rw [nI_len, hM])
  have HRv := Lib.hid (nI_rev d)
  have HNA := Lib.hid (And.intro hn h0)
  generalize (bV1 (List.replicate n false)).toArray = Z at *
  clear hv hN hd hdl hdn hF hi hz hsize hby h0 hn hM
  go_enter Try.func10, Try.ntmps10
  go_wp2_with fail
  refine HC.out.mono ?_; rintro r w2 ⟨u, rfl, hO, _, hb⟩
  obtain ⟨ua, uc, rfl⟩ := owns_form hO
  have hrow := row_of_owns (own_owns hO HL.out.symm rfl) HI64.out
  have HRW := Lib.hid (fun (W : World) (h : Below w2.heap.size w2 W) => hrow.below intR_stable h)
  have HB := Lib.hid (show Below w.heap.size w w2 from (Below.alloc (Below.refl _ _) (Nat.le_refl _) _).trans hb)
  clear hO hb hrow HC
  go_wp2_with fail
  go_loopw [4, 5] (fun o jj wr => ∃ k : Nat, k ≤ M ∧ jj = .int .i64 ((M : Int) - 1 - k) ∧ Hid (wr.ownsRow w2.heap.size 3 1 o k (iV ((nI d).reverse.take k))) ∧ Hid (Below w2.heap.size w2 wr)) (fun _ jj _ => (intOf jj + 1).toNat)
  case atStart => exact ⟨0, Nat.zero_le _, by simp, Lib.hid (World.ownsRow_nil _ _ _ _), Lib.hid (Below.refl _ _)⟩
  case round =>
    obtain ⟨k, hk, rfl, hO, hB2⟩ := hrel
    by_cases hlt : k < M
    case neg =>
      obtain rfl : M = k := by omega
      have q1 : ((0 : Int) ≤ (M : Int) - 1 - (M : Int)) = False := eq_false (by omega)
      have HOo := Lib.hid (show wr.ownsRow w.heap.size 3 1 u4 M (iV (nI d.reverse)) by
        have h := own_low hO.out (B := w.heap.size) HB.out.size
        rw [List.take_of_length_le (by rw [List.length_reverse, HL.out]; exact Nat.le_refl _), ← HRv.out] at h
        exact h)
      have HBB := Lib.hid (HB.out.trans (hB2.out.mono HB.out.size))
      clear hO hlt hk
      go_wp2_with fail
      go_ret
      exact ⟨_, rfl, HOo.out, HBB.out⟩
    obtain ⟨j, hj⟩ : ∃ j : Nat, M = j + 1 + k := ⟨M - 1 - k, by omega⟩
    have hje : (M : Int) - 1 - (k : Int) = (j : Int) := by omega
    rw [hje]
    have q1 : ((0 : Int) ≤ (j : Int)) = True := eq_true (by omega)
    have q2 : ((j : Int) < (M : Int)) = True := eq_true (by omega)
    have q2' : (j < M) = True := eq_true (by omega)
    have hjb : (-9223372036854775808 ≤ (j : Int) - 1) := by omega
    have hjb2 : (j : Int) - 1 ≤ 9223372036854775807 := by omega
    obtain ⟨bl, ol, hse, hbl, hnl, hcl, cl1, _⟩ := int_at (HRW.out _ hB2.out) (k := j) (by rw [HL.out]; omega)
    subst hse
    have HT := Lib.hid (show (nI d).reverse.take (k + 1) = (nI d).reverse.take k ++ [(nI d).getD j 0] by rw [rev_take (by rw [HL.out]; exact hlt), HL.out, show M - 1 - k = j by omega])
    generalize (nI d).getD j 0 = x at *
    have HJ := Lib.hid hj
    have hsz := hB2.out.size
    have HK := Lib.hid hlt
    clear hj hje hlt hk
    go_wp2_with (first | (at_builtin; go_loud (refine wpList_append_src rfl (.tmp 21) (.tmp 26) 26 rfl w2.heap.size 3 i2 (.int .i64 0) 1 8 Try.underlying26 hi2 hz2 hsize2 hby2 rfl (by omega) _ k _ rfl (owns_below hO.out ((Below.refl _ _).alloc (Nat.le_refl _) _)) _ 1 [.int .i64 x] rfl (src_new _ _ _) rfl (by intro u hu; simp at hu; rw [hu]; rfl) (by have := HK.out; have := HML.out; unfold maxLen; omega) (by have := HK.out; have := HML.out; omega) (by simp; omega) ?_; intro v6 w6 hO6 hG6; have HB6 := Lib.hid (grown3 (hB2.out.alloc hsz _) (by simp; omega) (owns_below hO.out ((Below.refl _ _).alloc (Nat.le_refl _) _)) hG6); have HO6 := Lib.hid hO6; clear hO6 hG6)) | fail)
    go_roundw
    case rel => exact ⟨k + 1, by have := HK.out; omega, by have := HJ.out; simp; omega, Lib.hid (by rw [HT.out, iV_app]; exact HO6.out), HB6⟩
    case measure => first | (simp [intOf]; done) | (simp [intOf]; omega)
end Go.Proofs.Ytemihfcenmhieaa
