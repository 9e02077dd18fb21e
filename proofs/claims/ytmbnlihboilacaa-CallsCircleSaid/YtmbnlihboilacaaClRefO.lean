/- The document's order. -/
import Derived.Test.YtmbnlihboilacaaClRef
import Derived.Test.YtmbnlihboilacaaClOrder
namespace Go.Proofs.Ytmbnlihboilacaa
open Go.RowKit
set_option linter.unusedSimpArgs false
set_option linter.unusedVariables false
open CL (ordF readyF rdy cls ofN)
def plc (n : Nat) (out : List Nat) : List Bool := (List.range n).map fun c => out.contains c
theorem plc_len (n : Nat) (out : List Nat) : (plc n out).length = n := by simp [plc]
theorem plc_at {n : Nat} {out : List Nat} {c : Nat} (h : c < n) (d : Bool) : (plc n out).getD c d = out.contains c := by simp [plc, List.getD, h]
theorem plc_set {n : Nat} {out : List Nat} {u : Nat} (h : u < n) : (plc n out).set u true = plc n (out ++ [u]) := by
  apply List.ext_getElem?
  intro i
  rw [List.getElem?_set]
  unfold plc
  by_cases e : u = i
  · subst e; simp [h]
  · rw [if_neg e]
    simp only [List.getElem?_map]
    by_cases hi : i < n
    · have : ¬ i = u := fun h => e h.symm
      simp [hi, this]
    · simp [hi]
structure RSt (B n : Nat) (w wr : World) (o : Value) (m : Nat) (out : List Nat) : Prop where
  hb : Below B w wr
  hp : wr.ownsRow B 4 1 (.slice (some ⟨B, 0, none⟩) n n) n (bV1 (plc n out))
  ho : wr.ownsRow (B + 1) 3 1 o m (iV (nI out))
  hs : B + 1 ≤ wr.heap.size
theorem rdy_all {C : List (List Nat)} {out : List Nat} {u n : Nat} {cs : List Ins} (h : C.getD u [] = ofN n cs) : rdy C out u = (!out.contains u && (ofK cs n).all fun c => out.contains c) := by
  unfold rdy
  rw [h]
  rfl
theorem ofK_all {cs : List Ins} {out : List Nat} (k : Nat) : (ofK cs (k + 1)).all (fun c => out.contains c) = ((ofK cs k).all (fun c => out.contains c) && (!cls cs (k : Int) || out.contains k)) := by
  rw [ofK_succ]
  cases h : cls cs (k : Int) <;> simp
set_option maxRecDepth 100000 in
set_option maxHeartbeats 8000000 in
theorem ref21_Order (v : Value) (L : List Un) (w : World) (hv : RowR 5 unitR w v L) (hn : L.length ≤ 100) :
    Calls Try.prog 8 #[v] w fun r w' => ∃ u ok, r = .returned (.tuple #[u, .bool ok]) ∧ ok = (ordF (calledF L) L.length []).isSome ∧ w'.ownsRow w.heap.size 3 1 u (orI (ordF (calledF L) L.length [])).length (iV (nI (orI (ordF (calledF L) L.length [])))) ∧ Below w.heap.size w w' := by
  obtain ⟨i, hi, hz, hsize, hby⟩ : ∃ i, Try.prog.info? 3 = some i ∧ i.zero = some (.int .i64 0) ∧ i.size = 1 ∧ i.bytes = 8 := ⟨(Try.prog.info? 3).get!, by kernel_rfl, by kernel_rfl, by kernel_rfl, by kernel_rfl⟩
  obtain ⟨i3, hi3, hz3, hsize3, hby3⟩ : ∃ i, Try.prog.info? 4 = some i ∧ i.zero = some (.bool false) ∧ i.size = 1 ∧ i.bytes = 1 := ⟨(Try.prog.info? 4).get!, by kernel_rfl, by kernel_rfl, by kernel_rfl, by kernel_rfl⟩
  obtain ⟨ad, cap, rfl⟩ := row_get hv
  have HCa := Lib.hid (fun (W : World) (h : Below w.heap.size w W) (u : Nat) (x : Un) (hx : L[u]? = some x) (c : Int) => ref21_Calls _ L u x c W (hv.below unitR_stable h) hx)
  obtain ⟨CF, hCF⟩ : ∃ CF, calledF L = CF := ⟨_, rfl⟩
  have HCA := Lib.hid (fun (k : Nat) (x : Un) (hx : L[k]? = some x) => by have h := calledF_at hx; rw [hCF] at h; exact h)
  have HCL := Lib.hid (show CF.length = L.length by rw [← hCF]; exact calledF_len L)
  obtain ⟨n, hN⟩ : ∃ n, L.length = n := ⟨_, rfl⟩
  have HN := Lib.hid hN
  rw [hCF]
  rw [hN] at hn HCa HCA HCL ⊢
  obtain ⟨R, hR⟩ : ∃ R, ordF CF n [] = R := ⟨_, rfl⟩
  rw [hR]
  have HR := Lib.hid hR
  clear hv hN hCF hR
  have hmp := fun W => run_make W 34 4 i3 _ Try.underlying34 hi3 hz3 .i64 .i64 (n : Int) (n : Int) (by omega) (by omega) (by rw [hby3]; omega) (by omega)
  rw [hsize3, Nat.mul_one, made_false, Int.toNat_natCast] at hmp
  have hn63 : n ≤ 9223372036854775807 := by omega
  obtain ⟨ZP, hZP⟩ : ∃ Z, (bV1 (List.replicate n false)).toArray = Z := ⟨_, rfl⟩
  rw [hZP] at hmp
  obtain ⟨s, hs⟩ : ∃ s, w.heap.size = s := ⟨_, rfl⟩
  have HSz := Lib.hid hs
  have HP0 := Lib.hid (show RSt s n w (w.alloc (.cells ZP 4)) (.slice none 0 0) 0 [] by
    subst hs
    have k1 := owns_arr w ZP 4 1 n (by rw [← hZP]; simp [bV1]) (by unfold maxLen; omega)
    rw [← hZP] at k1 ⊢
    have e : List.replicate n false = plc n [] := by
      apply List.ext_getElem?
      intro i
      by_cases hi : i < n <;> simp [plc, hi]
    rw [e] at k1 ⊢
    exact ⟨by (repeat' (first | (with_reducible exact Below.refl _ _) | (with_reducible assumption) | (with_reducible refine below_drewN ?_ _) | (with_reducible refine Below.alloc ?_ ?_ _) | (with_reducible refine Below.drew ?_) | (with_reducible refine Below.setCell ?_ ?_ _) | go_size)), k1, World.ownsRow_nil _ _ _ _, by simp⟩)
  clear hZP hi3 hz3 hsize3 hby3
  go_enter Try.func8, Try.ntmps8
  go_wp2_with fail
  obtain ⟨W0, hW0⟩ : ∃ W, W = w.alloc (.cells ZP 4) := ⟨_, rfl⟩
  rw [← hW0] at HP0 ⊢
  clear hmp hW0 hs
  go_loopw [5] (fun oo wr => ∃ (m oc : Nat) (oa : Option Addr) (out : List Nat), oo = .slice oa m oc ∧ Hid (out.length = m ∧ m ≤ n ∧ ordF CF (n - m) out = R) ∧ Hid (RSt s n w wr (.slice oa m oc) m out)) (fun oo _ => n - (match oo with | .slice _ m _ => m | _ => 0))
  case atStart => exact ⟨0, 0, none, [], rfl, Lib.hid ⟨rfl, Nat.zero_le _, HR.out⟩, HP0⟩
  case round =>
    obtain ⟨m, oc, oa, out, rfl, hT, hQ⟩ := hrel
    by_cases hlt : m < n
    case neg =>
      have hm : n = m := by have := hT.out.2.1; omega
      subst hm
      have q2 : ((n : Int) < (n : Int)) = False := eq_false (by omega)
      have q2' : (n < n) = False := eq_false (by omega)
      have HRe := Lib.hid (show R = some out by have h := hT.out.2.2; rw [Nat.sub_self] at h; exact h.symm)
      have HQQ := hQ
      have HT := hT
      clear hQ hT hlt
      go_wp2_with fail
      go_returns
      refine ⟨_, true, rfl, by rw [HRe.out]; rfl, ?_, by rw [HSz.out]; exact HQQ.out.hb⟩
      rw [HRe.out]
      exact own_eq2 (own_low HQQ.out.ho (by have := HSz.out; omega)) HT.out.1.symm rfl
    have q2 : ((m : Int) < (n : Int)) = True := eq_true (by omega)
    have q2' : (m < n) = True := eq_true hlt
    have HK := Lib.hid hlt
    have HStep := Lib.hid (show ordF CF (n - m) out = match readyF CF out with | none => none | some u => ordF CF (n - (m + 1)) (out ++ [u]) by rw [show n - m = (n - (m + 1)) + 1 by omega]; rfl)
    have HRd := Lib.hid (show readyF CF out = (List.range n).find? (rdy CF out) by unfold readyF; rw [HCL.out])
    have HT := hT
    have HQQ := hQ
    clear hT hQ hlt
    rename World => W1
    go_wp2_with fail
    go_loopw [6, 7] (fun nx uu wr => ∃ (j : Nat) (F : Option Nat), j ≤ n ∧ uu = .int .i64 ((j : Int) - 1) ∧ nx = .int .i64 (optI F) ∧ Hid (F = ((List.range n).drop j).find? (rdy CF out)) ∧ wr = W1) (fun _ uu _ => (intOf uu + 1).toNat)
    case atStart => exact ⟨n, none, Nat.le_refl _, rfl, rfl, Lib.hid (by rw [List.drop_of_length_le (by simp)]; rfl), rfl⟩
    case round =>
      obtain ⟨j, F, hj, rfl, rfl, hF, hwr⟩ := hrel
      subst hwr
      rename World => W1
      by_cases hj0 : j = 0
      case pos =>
        subst hj0
        have q3 : ((0 : Int) ≤ ((0 : Nat) : Int) - 1) = False := eq_false (by omega)
        have HFe := Lib.hid (show F = readyF CF out by rw [hF.out, HRd.out]; rfl)
        clear hF hj
        cases F with
        | none =>
          have HE := Lib.hid (show R = none by have h := HT.out.2.2; rw [HStep.out, ← HFe.out] at h; exact h.symm)
          have qm : optI none = -1 := rfl
          rw [qm]
          go_wp2_with fail
          go_returns
          refine ⟨_, false, rfl, by rw [HE.out]; rfl, by rw [HE.out]; exact World.ownsRow_nil _ _ _ _, by rw [HSz.out]; exact HQQ.out.hb⟩
        | some u =>
          have HE := Lib.hid (show ordF CF (n - (m + 1)) (out ++ [u]) = R by have h := HT.out.2.2; rw [HStep.out, ← HFe.out] at h; exact h)
          have hu := (CL.ready_some HFe.out.symm).1
          rw [HCL.out] at hu
          have qm : optI (some u) = (u : Int) := rfl
          rw [qm]
          have q4 : ((u : Int) < 0) = False := eq_false (by omega)
          have q5 : ((u : Int) < (n : Int)) = True := eq_true (by omega)
          have q5' : (u < n) = True := eq_true hu
          have fu := HQQ.out.hp.frozenAt u
          have cu := owns_bool_at HQQ.out.hp hu false
          rw [plc_at hu] at cu
          have HP2 := Lib.hid (show (W1.setCell ⟨s, u, none⟩ (.bool true)).ownsRow s 4 1 (.slice (some ⟨s, 0, none⟩) n n) n (bV1 (plc n (out ++ [u]))) by
            have h := (HQQ.out.hp.stored u (.bool true)).1
            rw [bV1_set, plc_set hu] at h
            exact h)
          have HO2 := Lib.hid (show (W1.setCell ⟨s, u, none⟩ (.bool true)).ownsRow (s + 1) 3 1 (.slice oa m oc) m (iV (nI out)) from owns_set HQQ.out.ho (fun hg => by have := (owns_lt HQQ.out.ho hg).1; omega))
          have HB2 := Lib.hid (HQQ.out.hb.setCell (p := ⟨s, u, none⟩) (Nat.le_refl _) (.bool true))
          have HS2 := Lib.hid (show s + 1 ≤ (W1.setCell ⟨s, u, none⟩ (.bool true)).heap.size by simpa using HQQ.out.hs)
          obtain ⟨W2, hW2⟩ : ∃ W2, W2 = W1.setCell ⟨s, u, none⟩ (.bool true) := ⟨_, rfl⟩
          rw [← hW2] at HP2 HO2 HB2 HS2
          have HW2 := Lib.hid hW2
          clear hu hW2
          go_wp2_with (first | (at_builtin; rw [← HW2.out]; go_loud (refine wpList_append_src rfl (.tmp 54) (.tmp 56) 25 rfl (s + 1) 3 i (.int .i64 0) 1 8 Try.underlying25 hi hz hsize hby rfl (by omega) _ m _ rfl (owns_below HO2.out ((Below.refl _ _).alloc (Nat.le_refl _) _)) _ 1 [.int .i64 (u : Int)] rfl (src_newE _ _ _ (by rw [HW2.out]; simp)) rfl (by intro u hu; simp at hu; rw [hu]; rfl) (by have := HK.out; unfold maxLen; omega) (by have := HK.out; omega) (by have := HS2.out; simp; omega) ?_; intro v4 w4 hO4 hG4; have HQ4 := Lib.hid (show RSt s n w w4 v4 (m + 1) (out ++ [u]) from ⟨grown3 (HB2.out.alloc (by have := HS2.out; omega) _) (by have := HS2.out; simp; omega) (own_low (owns_below HO2.out ((Below.refl _ _).alloc (Nat.le_refl _) _)) (Nat.le_succ _)) hG4, owns_grown (owns_below HP2.out ((Below.refl _ _).alloc (Nat.le_refl _) _)) hG4 (fun g hg he => by have h1 := (owns_lt HO2.out he).1; have h2 : s = g := Option.some.inj hg; omega), by rw [nI_app, iV_app]; exact hO4, Nat.le_trans HS2.out (Nat.le_trans (by simp) hG4.size)⟩); have hf4 := owns_form hO4; clear hO4 hG4)) | fail)
          obtain ⟨ua, uc, rfl⟩ := hf4
          go_roundw
          case rel => exact ⟨m + 1, uc, ua, out ++ [u], rfl, Lib.hid ⟨by rw [List.length_append, HT.out.1]; rfl, by have := HK.out; omega, HE.out⟩, HQ4⟩
          case measure => have := HK.out; show n - (m + 1) < n - m; omega
      obtain ⟨u, rfl⟩ : ∃ u, j = u + 1 := ⟨j - 1, by omega⟩
      have hu : u < n := by omega
      have hju : (((u + 1 : Nat) : Int) - 1) = (u : Int) := by omega
      rw [hju]
      have q3 : ((0 : Int) ≤ (u : Int)) = True := eq_true (by omega)
      have q5 : ((u : Int) < (n : Int)) = True := eq_true (by omega)
      have q5' : (u < n) = True := eq_true hu
      have hwd : wrap64 ((u : Int) - 1) = (u : Int) - 1 := by unfold wrap64; omega
      have HU := Lib.hid hu
      obtain ⟨x, hx⟩ := get_some (L := L) (n := u) (by rw [HN.out]; exact hu)
      have HCx := Lib.hid (fun c => HCa.out W1 (by rw [HSz.out]; exact HQQ.out.hb) u x hx c)
      have hCu := HCA.out u x hx
      have HRu := Lib.hid (rdy_all (out := out) (show CF.getD u [] = ofN n x.code by simp [List.getD, hCu]))
      have HFu := Lib.hid (show ((List.range n).drop u).find? (rdy CF out) = if rdy CF out u = true then some u else F by
        rw [List.drop_eq_getElem_cons (by simpa using hu), List.find?_cons]
        have e : (List.range n)[u]'(by simpa using hu) = u := by simp
        rw [e, ← hF.out]
        cases rdy CF out u <;> rfl)
      have cu := owns_bool_at HQQ.out.hp hu false
      rw [plc_at hu] at cu
      have HCb := Lib.hid (fun c (hc : c < n) => by have h := owns_bool_at HQQ.out.hp hc false; rw [plc_at hc] at h; exact h)
      generalize x.code = cs at *
      generalize rdy CF out u = ru at *
      generalize out.contains u = ou at *
      clear hF hj hj0 hu hju hx hCu
      go_wp2_with fail
      go_loopw [8, 9] (fun rr cc wr => ∃ (k : Nat), k ≤ n ∧ cc = .int .i64 k ∧ rr = .bool (!ou && (ofK cs k).all fun c => out.contains c) ∧ wr = W1) (fun _ cc _ => n - (intOf cc).toNat)
      case atStart => exact ⟨0, Nat.zero_le _, rfl, by simp [ofK], rfl⟩
      case round =>
        obtain ⟨k, hk, rfl, rfl, hwr⟩ := hrel
        subst hwr
        rename World => W1
        by_cases hlt : k < n
        case neg =>
          obtain rfl : n = k := by omega
          have q6 : ((n : Int) < (n : Int)) = False := eq_false (by omega)
          have q6' : (n < n) = False := eq_false (by omega)
          rw [← HRu.out]
          clear hlt hk
          cases ru
          · have HFx := Lib.hid (show ((List.range n).drop u).find? (rdy CF out) = F from HFu.out)
            go_wp2_with fail
            go_roundw
            case rel => exact ⟨u, F, by have := HU.out; omega, by rw [hwd], rfl, Lib.hid HFx.out.symm, by simp⟩
            case measure => first | (simp [intOf]; done) | (simp [intOf]; omega)
          · have HFx := Lib.hid (show ((List.range n).drop u).find? (rdy CF out) = some u from HFu.out)
            go_wp2_with fail
            go_roundw
            case rel => exact ⟨u, some u, by have := HU.out; omega, by rw [hwd], rfl, Lib.hid HFx.out.symm, by simp⟩
            case measure => first | (simp [intOf]; done) | (simp [intOf]; omega)
        have q6 : ((k : Int) < (n : Int)) = True := eq_true (by omega)
        have q6' : (k < n) = True := eq_true hlt
        have hk62 : k ≤ 9223372036854775806 := by omega
        have HKk := Lib.hid hlt
        have ck := HCb.out k hlt
        have HC := Lib.hid (HCx.out (k : Int))
        have HAl := Lib.hid (ofK_all (cs := cs) (out := out) k)
        generalize out.contains k = ok at *
        generalize (ofK cs k).all (fun c => out.contains c) = a1 at *
        clear hlt hk
        go_wp2_with fail
        refine HC.out.mono ?_; rintro r w2 ⟨rfl, rfl⟩
        cases hcl : cls cs (k : Int)
        · have HA2 := Lib.hid (show (!ou && (ofK cs (k + 1)).all fun c => out.contains c) = (!ou && a1) by rw [HAl.out, hcl]; simp)
          clear hcl
          go_wp2_with fail
          go_roundw
          case rel => exact ⟨k + 1, by have := HKk.out; omega, by simp, by rw [HA2.out], by simp⟩
          case measure => have := HKk.out; first | (simp [intOf]; done) | (simp [intOf]; omega)
        · cases ok
          · have HA2 := Lib.hid (show (!ou && (ofK cs (k + 1)).all fun c => out.contains c) = false by rw [HAl.out, hcl]; simp)
            clear hcl
            go_wp2_with fail
            go_roundw
            case rel => exact ⟨k + 1, by have := HKk.out; omega, by simp, by rw [HA2.out], by simp⟩
            case measure => have := HKk.out; first | (simp [intOf]; done) | (simp [intOf]; omega)
          · have HA2 := Lib.hid (show (!ou && (ofK cs (k + 1)).all fun c => out.contains c) = (!ou && a1) by rw [HAl.out, hcl]; simp)
            clear hcl
            go_wp2_with fail
            go_roundw
            case rel => exact ⟨k + 1, by have := HKk.out; omega, by simp, by rw [HA2.out], by simp⟩
            case measure => have := HKk.out; first | (simp [intOf]; done) | (simp [intOf]; omega)
end Go.Proofs.Ytmbnlihboilacaa
