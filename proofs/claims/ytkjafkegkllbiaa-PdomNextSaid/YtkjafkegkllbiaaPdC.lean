/- flow.Preds. -/
import Derived.Test.YtkjafkegkllbiaaDmIdom
import Derived.Test.YtkjafkegkllbiaaPdB
namespace Go.Proofs.Ytkjafkegkllbiaa
open Go.RowKit
set_option linter.unusedSimpArgs false
set_option linter.unusedVariables false
open DM (okN fp1 fpF)
/-- rows of a row of the call's own -/
structure PPt (s n : Nat) (w wr : World) (U : List Value) (P : List (List Nat)) : Prop where
  hb : Below s w wr
  hpp : wr.ownsRow s 25 1 (.slice (some ⟨s, 0, none⟩) n n) n U
  hrows : OwnRows (s + 1) 3 wr U (P.map nI)
theorem PPt.app {s n : Nat} {w wr w6 : World} {U : List Value} {P : List (List Nat)} {t a : Nat} {o : Obj} {u v6 : Value} {l : List Nat} (h : PPt s n w wr U P) (hs : s + 1 ≤ wr.heap.size) (hu : U[t]? = some u) (hl : P[t]? = some l)
    (hO : w6.ownsRow (s + 1) 3 1 v6 (l.length + 1) (iV (nI l) ++ [.int .i64 (a : Int)])) (hG : (wr.alloc o).grownBy w6 u.ownBlock) (hN : Near (wr.alloc o) u v6) :
    PPt s n w (w6.setCell ⟨s, t, none⟩ v6) (U.set t v6) (P.set t (l ++ [a])) ∧ w6.ownsRow s 25 1 (.slice (some ⟨s, 0, none⟩) n n) n U ∧ s + 1 ≤ w6.heap.size := by
  have hba := (Below.refl wr.heap.size wr).alloc (Nat.le_refl _) o
  have hur : wr.ownsRow (s + 1) 3 1 u (nI l).length (iV (nI l)) := h.hrows.row t u (nI l) hu (by rw [List.getElem?_map, hl]; rfl)
  have hne : ∀ k, k < s + 1 → u.ownBlock ≠ some k := fun k hk hh => by have := (owns_lt hur hh).1; omega
  have hrows := (h.hrows.below hba).put hu (l := nI (l ++ [a])) (own_owns hO (by simp [nI_len]) (by rw [nI_app, iV_app]; rfl)) hG hN
  have hb6 : Below s w w6 := ⟨hG.os.trans (h.hb.os), hG.tape.trans h.hb.tape, hG.output.trans h.hb.output, Nat.le_trans h.hb.size (Nat.le_trans (by simp) hG.size), fun k hk => by
    have h1 := h.hb.block k hk
    rw [← h1]
    have h2 := hG.block k (by simp; omega) (fun e => hne k (by omega) e.symm)
    rw [h2]
    exact get_past (by omega)⟩
  have o3 := owns_grown (owns_below h.hpp hba) hG (fun g hg => by cases hg; exact hne s (by omega))
  refine ⟨⟨hb6.setCell (p := ⟨s, t, none⟩) (Nat.le_refl _) _, (o3.stored t v6).1, ?_⟩, o3, Nat.le_trans hs (Nat.le_trans (by simp) hG.size)⟩
  rw [List.map_set]
  exact rows_set hrows (by omega)
theorem PPt.row_ {s n : Nat} {w wr : World} {U : List Value} {P : List (List Nat)} (h : PPt s n w wr U P) (hP : P.length = n) {t : Nat} (ht : t < n) : ∃ u l, U[t]? = some u ∧ P[t]? = some l ∧ P.getD t [] = l ∧ wr.ownsRow (s + 1) 3 1 u l.length (iV (nI l)) ∧ wr.cell? ⟨s, t, none⟩ = some u ∧ wr.frozen? ⟨s, t, none⟩ = false := by
  have hUl : U.length = n := by have := h.hrows.len; rw [List.length_map, hP] at this; exact this
  obtain ⟨u, hu⟩ := get_some (L := U) (n := t) (by rw [hUl]; exact ht)
  obtain ⟨l, hl⟩ := get_some (L := P) (n := t) (by rw [hP]; exact ht)
  have hrow := h.hrows.row t u (nI l) hu (by rw [List.getElem?_map, hl]; rfl)
  rw [nI_len] at hrow
  refine ⟨u, l, hu, hl, by simp [List.getD, hl], hrow, ?_, h.hpp.frozenAt t⟩
  rw [h.hpp.cellAt t (by omega)]
  exact hu
/-- the last of a row of the call's own -/
theorem own_last {w : World} {B : Nat} {e : TypeId} {a : Option Addr} {c : Nat} {l : List Nat} {m : Nat} (h : w.ownsRow B e 1 (.slice a l.length c) l.length (iV (nI l))) (hl : l.length = m + 1) : ∃ (g z : Nat), a = some ⟨g, 0, none⟩ ∧ w.cell? ⟨g, m, none⟩ = some (.int .i64 (z : Int)) ∧ l.getLast? = some z ∧ m + 1 ≤ c ∧ c ≤ 9223372036854775807 := by
  rcases h.2 with ⟨h1, h0⟩ | ⟨g, cap, cur, h1, _, _, h2, h3, _⟩
  · omega
  · cases h1
    obtain ⟨z, hz⟩ := get_some (L := l) (n := m) (by omega)
    refine ⟨g, z, rfl, ?_, ?_, by omega, h3⟩
    · rw [h.cellAt m (by omega)]
      simp [iV, nI, hz]
    · rw [List.getLast?_eq_getElem?, hl]; exact hz
set_option maxRecDepth 100000 in
set_option maxHeartbeats 8000000 in
theorem flow_Preds (R : Nat) (v : Value) (next : List (List Int)) (w : World) (hv : RowR 1 gridR w v next) (hn : next.length ≤ 1024) (hR : R ≤ 1024) (hrl : ∀ l ∈ next, l.length ≤ R) :
    Calls Try.prog 18 #[v] w fun r w' => ∃ U s, r = .returned (.slice (some ⟨s, 0, none⟩) next.length next.length) ∧ w.heap.size = s ∧ s + 1 ≤ w'.heap.size ∧ PPt s next.length w w' U (fpF next.length 0 next (List.replicate next.length [])) ∧ ∀ l ∈ fpF next.length 0 next (List.replicate next.length []), l.length ≤ R * next.length ∧ ∀ p ∈ l, p < next.length := by
  obtain ⟨i2, hi2, hz2, hsize2, hby2⟩ : ∃ i, Try.prog.info? 3 = some i ∧ i.zero = some (.int .i64 0) ∧ i.size = 1 ∧ i.bytes = 8 := ⟨(Try.prog.info? 3).get!, by kernel_rfl, by kernel_rfl, by kernel_rfl, by kernel_rfl⟩
  obtain ⟨i3, hi3, hz3, hsize3, hby3⟩ : ∃ i, Try.prog.info? 25 = some i ∧ i.zero = some (.slice none 0 0) ∧ i.size = 1 ∧ i.bytes = 24 := ⟨(Try.prog.info? 25).get!, by kernel_rfl, by kernel_rfl, by kernel_rfl, by kernel_rfl⟩
  have HV := Lib.hid hv
  obtain ⟨ad, cap, rfl⟩ := row_get hv
  obtain ⟨n, hN⟩ : ∃ n, next.length = n := ⟨_, rfl⟩
  have HN := Lib.hid hN
  rw [hN] at hn HV ⊢
  have hmp := fun W => run_make W 22 25 i3 _ Try.underlying22 hi3 hz3 .i64 .i64 (n : Int) (n : Int) (by omega) (by omega) (by rw [hby3]; omega) (by omega)
  rw [hsize3, Nat.mul_one, madeS, Int.toNat_natCast] at hmp
  have HB := Lib.hid (And.intro hn (And.intro hR hrl))
  have hn63 : n ≤ 9223372036854775807 := by omega
  obtain ⟨ZP, hZP⟩ : ∃ Z, (List.replicate n (Value.slice none 0 0)).toArray = Z := ⟨_, rfl⟩
  rw [hZP] at hmp
  obtain ⟨s, hs⟩ : ∃ s, w.heap.size = s := ⟨_, rfl⟩
  have HSz := Lib.hid hs
  have HP0 := Lib.hid (show PPt s n w (w.alloc (.cells ZP 25)) (List.replicate n (.slice none 0 0)) (List.replicate n []) ∧ s + 1 ≤ (w.alloc (.cells ZP 25)).heap.size by
    subst hs
    have k1 := owns_arr w ZP 25 1 n (by rw [← hZP]; simp) (by unfold maxLen; omega)
    rw [← hZP] at k1 ⊢
    refine ⟨⟨by (repeat' (first | (with_reducible exact Below.refl _ _) | (with_reducible assumption) | (with_reducible refine below_drewN ?_ _) | (with_reducible refine Below.alloc ?_ ?_ _) | (with_reducible refine Below.drew ?_) | (with_reducible refine Below.setCell ?_ ?_ _) | go_size)), k1, ?_⟩, by simp⟩
    rw [List.map_replicate]
    exact OwnRows.blank _ _ _ n)
  obtain ⟨PF, hPF⟩ : ∃ X, fpF n 0 next (List.replicate n []) = X := ⟨_, rfl⟩
  rw [hPF]
  have HPF := Lib.hid hPF
  clear hv hN hZP hi3 hz3 hsize3 hby3 hn hR hrl hPF
  go_enter Try.func18, Try.ntmps18
  go_wp2_with fail
  obtain ⟨W0, hW0⟩ : ∃ W, W = w.alloc (.cells ZP 25) := ⟨_, rfl⟩
  rw [← hW0] at HP0 ⊢
  clear hmp hW0 hs
  go_loopw [14] (fun jj wr => ∃ (j : Nat) (U : List Value) (P : List (List Nat)), jj = .int .i64 j ∧ j ≤ n ∧ Hid (fpF n j (next.drop j) P = PF ∧ P.length = n ∧ (∀ l ∈ P, l.length ≤ R * j ∧ ∀ p ∈ l, p < n)) ∧ Hid (PPt s n w wr U P ∧ s + 1 ≤ wr.heap.size)) (fun jj _ => n - (intOf jj).toNat)
  case atStart => exact ⟨0, _, _, rfl, Nat.zero_le _, Lib.hid ⟨HPF.out, by simp, fun l hl => by have := List.eq_of_mem_replicate hl; subst this; exact ⟨by simp, by simp⟩⟩, HP0⟩
  case round =>
    obtain ⟨j, U, P, rfl, hj, hR, hP⟩ := hrel
    by_cases hlt : j < n
    case neg =>
      obtain rfl : n = j := by omega
      have q1 : ((n : Int) < (n : Int)) = False := eq_false (by omega)
      have q1' : (n < n) = False := eq_false (by omega)
      have hRe : P = PF := by
        have h := hR.out.1
        rw [List.drop_of_length_le (by rw [HN.out]; exact Nat.le_refl _)] at h
        exact h
      subst hRe
      have HRR := hR
      have HPP := hP
      clear hR hP hlt hj
      go_wp2_with fail
      go_ret
      exact ⟨U, s, rfl, HSz.out, HPP.out.2, HPP.out.1, HRR.out.2.2⟩
    have q1 : ((j : Int) < (n : Int)) = True := eq_true (by omega)
    have q1' : (j < n) = True := eq_true hlt
    have hj62 : j ≤ 9223372036854775806 := by omega
    have HJ := Lib.hid hlt
    obtain ⟨l, hl⟩ := get_some (L := next) (n := j) (by rw [HN.out]; exact hlt)
    have HRj := Lib.hid hR.out
    rw [List.drop_eq_getElem_cons (show j < next.length by rw [HN.out]; exact hlt), show next[j]'(by rw [HN.out]; exact hlt) = l by rw [List.getElem_eq_iff]; exact hl] at HRj
    obtain ⟨bn, on, sl, sc, rfl, hbn, hnN, hcN, cn, hL⟩ := grid_at HV.out hl
    have cn := (hP.out.1.hb.cell (p := ⟨bn, on + j, none⟩) (by rw [← HSz.out]; exact hbn)).trans cn
    have HLr := Lib.hid (show ∀ W : World, Below s w W → RowR 1 intR W (.slice sl l.length sc) l from fun W h => hL.below intR_stable (by rw [HSz.out]; exact h))
    have HLn := Lib.hid (HB.out.2.2 l (List.mem_of_getElem? hl))
    obtain ⟨Lr, hLr⟩ : ∃ L, l.length = L := ⟨_, rfl⟩
    have HLl := Lib.hid hLr
    rw [hLr] at cn HLr HLn
    have hLr63 : Lr ≤ 9223372036854775807 := by have := HLn.out; have := HB.out.2.1; omega
    have HRj := Lib.hid (show fpF n (j + 1) (next.drop (j + 1)) (fp1 n j l P) = PF ∧ P.length = n ∧ (∀ l ∈ P, l.length ≤ R * j ∧ ∀ p ∈ l, p < n) from HRj.out)
    have HP2 := hP
    clear hP hR hl hL hlt hj hLr
    go_wp2_with fail
    obtain ⟨P1, hP1⟩ : ∃ X, fp1 n j l P = X := ⟨_, rfl⟩
    rw [hP1] at HRj
    have HP1 := Lib.hid hP1
    clear hP1
    go_loopw [21] (fun qq wr3 => ∃ (q : Nat) (U : List Value) (P : List (List Nat)), qq = .int .i64 q ∧ q ≤ Lr ∧ Hid (fp1 n j (l.drop q) P = P1 ∧ P.length = n ∧ (∀ l ∈ P, l.length ≤ R * j + q ∧ ∀ p ∈ l, p < n)) ∧ Hid (PPt s n w wr3 U P ∧ s + 1 ≤ wr3.heap.size)) (fun qq _ => Lr - (intOf qq).toNat)
    case atStart => exact ⟨0, U, P, rfl, Nat.zero_le _, Lib.hid ⟨HP1.out, HRj.out.2.1, HRj.out.2.2⟩, HP2⟩
    case round =>
      obtain ⟨q, U, P, rfl, hq, hR, hP⟩ := hrel
      by_cases hlt : q < Lr
      case neg =>
        obtain rfl : Lr = q := by omega
        have q3 : ((Lr : Int) < (Lr : Int)) = False := eq_false (by omega)
        have q3' : (Lr < Lr) = False := eq_false (by omega)
        have hRe : P = P1 := by
          have h := hR.out.1
          rw [List.drop_of_length_le (by rw [HLl.out]; exact Nat.le_refl _)] at h
          exact h
        subst hRe
        have HRn := Lib.hid (show fpF n (j + 1) (next.drop (j + 1)) P = PF ∧ P.length = n ∧ (∀ l ∈ P, l.length ≤ R * (j + 1) ∧ ∀ p ∈ l, p < n) from
          ⟨HRj.out.1, hR.out.2.1, fun l hl => ⟨by have h1 := (hR.out.2.2 l hl).1; have h2 := HLn.out; have h3 : R * (j + 1) = R * j + R := Nat.mul_succ R j; omega, (hR.out.2.2 l hl).2⟩⟩)
        have HPP := hP
        clear hR hP hlt hq
        go_wp2_with fail
        go_roundw
        case rel => exact ⟨j + 1, U, P, by simp, by have := HJ.out; omega, HRn, HPP⟩
        case measure => have := HJ.out; first | (simp [intOf]; done) | (simp [intOf]; omega)
      have q3 : ((q : Int) < (Lr : Int)) = True := eq_true (by omega)
      have q3' : (q < Lr) = True := eq_true hlt
      have hq62 : q ≤ 9223372036854775806 := by omega
      have HQ := Lib.hid hlt
      obtain ⟨bl, ol, hse, hbl, hnl, hcl, cl1, _⟩ := int_at (HLr.out _ hP.out.1.hb) (k := q) (by rw [HLl.out]; exact hlt)
      subst hse
      obtain ⟨T, hT⟩ : ∃ T, l.getD q 0 = T := ⟨_, rfl⟩
      have HRq := Lib.hid (show fp1 n j (l.drop (q + 1)) (if okN n T = true ∧ ¬ (P.getD T.toNat []).getLast? = some j then P.set T.toNat (P.getD T.toNat [] ++ [j]) else P) = P1 by
        have h := hR.out.1
        rw [List.drop_eq_getElem_cons (by rw [HLl.out]; exact hlt)] at h
        have : l[q]'(by rw [HLl.out]; exact hlt) = T := by rw [← hT]; simp [List.getD, HLl.out, hlt]
        rw [this] at h
        exact h)
      rw [hT] at cl1
      clear hT
      have HRs := Lib.hid (show ∀ l ∈ P, l.length ≤ R * j + (q + 1) ∧ ∀ p ∈ l, p < n from fun l hl => ⟨by have := (hR.out.2.2 l hl).1; omega, (hR.out.2.2 l hl).2⟩)
      have HPl := Lib.hid hR.out.2.1
      by_cases h0 : 0 ≤ T
      case neg =>
        have p0 : (T < 0) = True := eq_true (by omega)
        have HRq := Lib.hid (show fp1 n j (l.drop (q + 1)) P = P1 by
          have h := HRq.out
          rwa [if_neg (fun h => h0 (of_decide_eq_true h.1).1)] at h)
        have HPP := hP
        clear h0 hlt hq hR hP
        go_wp2_with fail
        go_roundw
        case rel => exact ⟨q + 1, U, P, by simp, by have := HQ.out; omega, Lib.hid ⟨HRq.out, HPl.out, HRs.out⟩, HPP⟩
        case measure => have := HQ.out; first | (simp [intOf]; done) | (simp [intOf]; omega)
      obtain ⟨t, rfl⟩ : ∃ t : Nat, T = (t : Int) := ⟨T.toNat, by omega⟩
      rw [Int.toNat_natCast] at HRq
      have p0 : ((t : Int) < 0) = False := eq_false (by omega)
      by_cases htn : t < n
      case neg =>
        have p1 : ((n : Int) ≤ (t : Int)) = True := eq_true (by omega)
        have p1' : (n ≤ t) = True := eq_true (by omega)
        have HRq := Lib.hid (show fp1 n j (l.drop (q + 1)) P = P1 by
          have h := HRq.out
          rwa [if_neg (fun h => htn (by have := (of_decide_eq_true h.1).2; omega))] at h)
        have HPP := hP
        clear h0 htn hlt hq hR hP
        go_wp2_with fail
        go_roundw
        case rel => exact ⟨q + 1, U, P, by simp, by have := HQ.out; omega, Lib.hid ⟨HRq.out, HPl.out, HRs.out⟩, HPP⟩
        case measure => have := HQ.out; first | (simp [intOf]; done) | (simp [intOf]; omega)
      have p1 : ((n : Int) ≤ (t : Int)) = False := eq_false (by omega)
      have p1' : (n ≤ t) = False := eq_false (by omega)
      have p2 : ((t : Int) < (n : Int)) = True := eq_true (by omega)
      have p2' : (t < n) = True := eq_true htn
      have hok : okN n (t : Int) = true := decide_eq_true (by omega)
      obtain ⟨u, lt, hu, hlt2, hpg, hrw, cU, fU⟩ := hP.out.1.row_ hR.out.2.1 htn
      rw [hpg] at HRq
      have HRs2 := Lib.hid (show (P.set t (lt ++ [j])).length = n ∧ ∀ l ∈ P.set t (lt ++ [j]), l.length ≤ R * j + (q + 1) ∧ ∀ p ∈ l, p < n by
        refine ⟨by rw [List.length_set]; exact hR.out.2.1, fun l hl => ?_⟩
        rcases List.mem_or_eq_of_mem_set hl with hl | rfl
        · exact HRs.out l hl
        · have := hR.out.2.2 lt (List.mem_of_getElem? hlt2)
          refine ⟨by simp; omega, fun p hp => ?_⟩
          rcases List.mem_append.1 hp with hp | hp
          · exact this.2 p hp
          · rw [List.mem_singleton] at hp; subst hp; exact HJ.out)
      have HLt := Lib.hid (show lt.length ≤ 1048576 * 2 by
        have h1 := (hR.out.2.2 lt (List.mem_of_getElem? hlt2)).1; have h2 := HJ.out; have h3 := HLn.out; have h5 := HB.out.1; have h6 := HB.out.2.1; have h8 := HQ.out
        have h9 : R * j ≤ 1024 * 1024 := Nat.mul_le_mul h6 (by omega)
        omega)
      obtain ⟨ua, uc, rfl⟩ := owns_form hrw
      have HU := Lib.hid hu
      have HLT2 := Lib.hid hlt2
      have HTN := Lib.hid htn
      have HPP := hP
      have hsz := hP.out.2
      obtain ⟨Lm, hLm⟩ : ∃ m, lt.length = m := ⟨_, rfl⟩
      have HLm := Lib.hid hLm
      cases Lm with
      | zero =>
        have HRq := Lib.hid (show fp1 n j (l.drop (q + 1)) (P.set t (lt ++ [j])) = P1 by
          have h := HRq.out
          rwa [if_pos ⟨hok, by rw [List.eq_nil_of_length_eq_zero hLm]; simp⟩] at h)
        rw [hLm] at cU hrw HU
        have HROWt := Lib.hid hrw
        clear h0 htn hok hlt2 hpg hu hrw hR hlt hq hP hLm
        go_wp2_with (first | (at_builtin; go_loud (refine wpList_append_near rfl (.tmp 52) (.tmp 54) 25 rfl (s + 1) 3 i2 (.int .i64 0) 1 8 Try.underlying25 hi2 hz2 hsize2 hby2 rfl (by omega) _ (0) _ rfl (owns_below HROWt.out ((Below.refl _ _).alloc (Nat.le_refl _) _)) ⟨wr.heap.size, 0, none⟩ 1 1 [.int .i64 (j : Int)] rfl rfl (new_cells _ _ _) (by intro u hu; simp at hu; rw [hu]; rfl) (by have := HLt.out; have := HLm.out; unfold maxLen; omega) (by have := HLt.out; have := HLm.out; omega) (by simp; omega) ?_; intro v6 w6 hO6 hG6 hN6; have HQ6 := Lib.hid (HPP.out.1.app hsz HU.out HLT2.out (by rw [HLm.out]; exact hO6) hG6 hN6); obtain ⟨av6, cv6, rfl⟩ := owns_form hO6; have c6 := HQ6.out.2.1.cellAt t (by have := HTN.out; omega); rw [HU.out] at c6; have f6 := HQ6.out.2.1.frozenAt t; have HS6 := Lib.hid HQ6.out.2.2; clear hO6 hG6 hN6)) | fail)
        go_roundw
        case rel => exact ⟨q + 1, U.set t (.slice av6 (0 + 1) cv6), P.set t (lt ++ [j]), by simp, by have := HQ.out; omega, Lib.hid ⟨HRq.out, HRs2.out.1, HRs2.out.2⟩, Lib.hid ⟨HQ6.out.1, by simpa using HS6.out⟩⟩
        case measure => have := HQ.out; first | (simp [intOf]; done) | (simp [intOf]; omega)
      | succ m =>
        obtain ⟨g, z, rfl, cz, hz, hc1, hc2⟩ := own_last hrw hLm
        rw [hLm] at cU hrw HU
        have HROWt := Lib.hid hrw
        by_cases hzj : z = j
        · have pz : ((z : Int) != (j : Int)) = false := by rw [hzj]; simp
          have HRq := Lib.hid (show fp1 n j (l.drop (q + 1)) P = P1 by
            have h := HRq.out
            rwa [if_neg (fun h => h.2 (by rw [hz, hzj]))] at h)
          clear h0 htn hok hlt2 hpg hu hrw hR hlt hq hP hLm hz hzj
          go_wp2_with fail
          go_roundw
          case rel => exact ⟨q + 1, U, P, by simp, by have := HQ.out; omega, Lib.hid ⟨HRq.out, HPl.out, HRs.out⟩, HPP⟩
          case measure => have := HQ.out; first | (simp [intOf]; done) | (simp [intOf]; omega)
        · have pz : ((z : Int) != (j : Int)) = true := by simp; omega
          have HRq := Lib.hid (show fp1 n j (l.drop (q + 1)) (P.set t (lt ++ [j])) = P1 by
            have h := HRq.out
            rwa [if_pos ⟨hok, by rw [hz]; intro h; injection h with h; exact hzj h⟩] at h)
          clear h0 htn hok hlt2 hpg hu hrw hR hlt hq hP hLm hz hzj
          go_wp2_with (first | (at_builtin; go_loud (refine wpList_append_near rfl (.tmp 52) (.tmp 54) 25 rfl (s + 1) 3 i2 (.int .i64 0) 1 8 Try.underlying25 hi2 hz2 hsize2 hby2 rfl (by omega) _ (m + 1) _ rfl (owns_below HROWt.out ((Below.refl _ _).alloc (Nat.le_refl _) _)) ⟨wr.heap.size, 0, none⟩ 1 1 [.int .i64 (j : Int)] rfl rfl (new_cells _ _ _) (by intro u hu; simp at hu; rw [hu]; rfl) (by have := HLt.out; have := HLm.out; unfold maxLen; omega) (by have := HLt.out; have := HLm.out; omega) (by simp; omega) ?_; intro v6 w6 hO6 hG6 hN6; have HQ6 := Lib.hid (HPP.out.1.app hsz HU.out HLT2.out (by rw [HLm.out]; exact hO6) hG6 hN6); obtain ⟨av6, cv6, rfl⟩ := owns_form hO6; have c6 := HQ6.out.2.1.cellAt t (by have := HTN.out; omega); rw [HU.out] at c6; have f6 := HQ6.out.2.1.frozenAt t; have HS6 := Lib.hid HQ6.out.2.2; clear hO6 hG6 hN6)) | fail)
          go_roundw
          case rel => exact ⟨q + 1, U.set t (.slice av6 (m + 1 + 1) cv6), P.set t (lt ++ [j]), by simp, by have := HQ.out; omega, Lib.hid ⟨HRq.out, HRs2.out.1, HRs2.out.2⟩, Lib.hid ⟨HQ6.out.1, by simpa using HS6.out⟩⟩
          case measure => have := HQ.out; first | (simp [intOf]; done) | (simp [intOf]; omega)
end Go.Proofs.Ytkjafkegkllbiaa
