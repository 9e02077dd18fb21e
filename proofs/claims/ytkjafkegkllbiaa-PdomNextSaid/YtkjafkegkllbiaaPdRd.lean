/- The document's graph with the end as a place more. -/
import Derived.Test.YtkjafkegkllbiaaPdT
import Derived.Test.YtkjafkegkllbiaaPdRe
namespace Go.Proofs.Ytkjafkegkllbiaa
open Go.RowKit
set_option linter.unusedSimpArgs false
set_option linter.unusedVariables false
open DM (okN rowN endRow endF)
/-- rows, one behind another, in a row of the call's own -/
structure ESt (B k : Nat) (w wr : World) (o : Value) (U : List Value) (L : List (List Int)) : Prop where
  hb : Below B w wr
  ho : wr.ownsRow B 25 1 o k U
  hrows : OwnRows B 3 wr U L
theorem ESt.next {B k : Nat} {w wk wr w6 : World} {o u v6 : Value} {U : List Value} {L : List (List Int)} {l : List Int} {ob : Obj} (h : ESt B k w wk o U L) (hB : B ≤ wk.heap.size) (hw : Below wk.heap.size wk wr) (hu : wr.ownsRow wk.heap.size 3 1 u l.length (iV l))
    (hO : w6.ownsRow B 25 1 v6 (k + 1) (U ++ [u])) (hG : (wr.alloc ob).grownBy w6 o.ownBlock) : ESt B (k + 1) w w6 v6 (U ++ [u]) (L ++ [l]) := by
  have hba := (Below.refl wr.heap.size wr).alloc (Nat.le_refl _) ob
  have hoo := owns_below (owns_below h.ho hw) hba
  have hBr : B ≤ wr.heap.size := Nat.le_trans hB hw.size
  refine ⟨grown3 ((h.hb.trans (hw.mono hB)).trans (hba.mono hBr)) (by simp; omega) hoo hG, hO, ?_⟩
  exact ((h.hrows.snoc hw hB hu).below hba).grown hoo (by decide) hG
theorem new_cellsE (w : World) (C : List Value) (t : TypeId) {b : Nat} (hb : w.heap.size = b) : ∀ (j : Nat) (u : Value), C[j]? = some u → (w.alloc (.cells C.toArray t)).cell? ((⟨b, 0, none⟩ : Addr).add j) = some u := by subst hb; exact new_cells w C t
set_option maxRecDepth 100000 in
set_option maxHeartbeats 8000000 in
theorem ref32_Ended (v : Value) (next : List (List Int)) (w : World) (hv : RowR 1 gridR w v next) (hn : next.length ≤ 1000) (hrl : ∀ l ∈ next, l.length ≤ 1024) :
    Calls Try.prog 11 #[v] w fun r w' => ∃ u, r = .returned u ∧ RowR 1 gridR w' u (endF next) ∧ Below w.heap.size w w' := by
  obtain ⟨i2, hi2, hz2, hsize2, hby2⟩ : ∃ i, Try.prog.info? 3 = some i ∧ i.zero = some (.int .i64 0) ∧ i.size = 1 ∧ i.bytes = 8 := ⟨(Try.prog.info? 3).get!, by kernel_rfl, by kernel_rfl, by kernel_rfl, by kernel_rfl⟩
  obtain ⟨i3, hi3, hz3, hsize3, hby3⟩ : ∃ i, Try.prog.info? 25 = some i ∧ i.zero = some (.slice none 0 0) ∧ i.size = 1 ∧ i.bytes = 24 := ⟨(Try.prog.info? 25).get!, by kernel_rfl, by kernel_rfl, by kernel_rfl, by kernel_rfl⟩
  have HV := Lib.hid hv
  obtain ⟨ad, cap, rfl⟩ := row_get hv
  obtain ⟨n, hN⟩ : ∃ n, next.length = n := ⟨_, rfl⟩
  have HN := Lib.hid hN
  have HEn := Lib.hid (show endF next = next.map (endRow n) ++ [[]] by unfold endF; rw [hN])
  have HLn := Lib.hid (show (next.map (endRow n)).length = n by rw [List.length_map]; exact hN)
  rw [hN] at hn HV ⊢
  generalize endF next = EF at *
  have HB := Lib.hid (And.intro hn hrl)
  have hn62 : n ≤ 9223372036854775806 := by omega
  obtain ⟨s, hs⟩ : ∃ s, w.heap.size = s := ⟨_, rfl⟩
  have HSz := Lib.hid hs
  have HP0 := Lib.hid (show ESt s 0 w w (.slice none 0 0) [] ((next.map (endRow n)).take 0) from ⟨Below.refl _ _, World.ownsRow_nil _ _ _ _, OwnRows.nil _ _ _⟩)
  clear hv hN hn hrl hs
  go_enter Try.func11, Try.ntmps11
  go_wp2_with fail
  go_loopw [5, 3] (fun jj oo wr => ∃ (k oc : Nat) (oa : Option Addr) (U : List Value), jj = .int .i64 k ∧ k ≤ n ∧ oo = .slice oa k oc ∧ Hid (ESt s k w wr (.slice oa k oc) U ((next.map (endRow n)).take k))) (fun jj _ _ => n - (intOf jj).toNat)
  case atStart => exact ⟨0, 0, none, [], rfl, Nat.zero_le _, rfl, HP0⟩
  case round =>
    obtain ⟨k, oc, oa, U, rfl, hk, rfl, hP⟩ := hrel
    have hsz : s ≤ wr.heap.size := by have := hP.out.hb.size; rw [← HSz.out]; exact this
    by_cases hlt : k < n
    case neg =>
      obtain rfl : n = k := by omega
      have q1 : ((n : Int) < (n : Int)) = False := eq_false (by omega)
      have q1' : (n < n) = False := eq_false (by omega)
      have HPP := hP
      have HU := Lib.hid (show U.length = n by have := hP.out.ho.1; omega)
      clear hP hlt hk
      go_wp2_with (first | (at_builtin; go_loud (refine wpList_append_near rfl (.tmp 62) (.tmp 63) 22 rfl s 25 i3 (.slice none 0 0) 1 24 Try.underlying22 hi3 hz3 hsize3 hby3 rfl (by omega) _ n _ rfl (owns_below HPP.out.ho ((Below.refl _ _).alloc (Nat.le_refl _) _)) ⟨wr.heap.size, 0, none⟩ 1 1 [.slice none 0 0] rfl rfl (new_cells _ _ _) (by intro u hu; simp at hu; rw [hu]; rfl) (by have := HB.out.1; unfold maxLen; omega) (by have := HB.out.1; omega) (by simp; omega) ?_; intro v6 w6 hO6 hG6 hN6; have HQ6 := Lib.hid (HPP.out.next (l := []) hsz (Below.refl _ _) (World.ownsRow_nil _ _ _ _) hO6 hG6); obtain ⟨av6, cv6, rfl⟩ := owns_form hO6; clear hO6 hG6 hN6)) | fail)
      go_ret
      refine ⟨_, rfl, ?_, by rw [HSz.out]; exact HQ6.out.hb⟩
      have ho := HQ6.out.ho
      have hlE : n + 1 = EF.length := by rw [HEn.out]; simp [HN.out]
      have ho' := own_eq2 ho hlE rfl
      rw [show (Value.slice av6 (n + 1) cv6) = .slice av6 EF.length cv6 by rw [hlE]] at ho'
      rw [hlE]
      refine grid_own ho' (fun i u l hu hl => ?_)
      have hrow := HQ6.out.hrows.row i u l hu (by rw [HEn.out] at hl; rw [List.take_of_length_le (by rw [HLn.out]; exact Nat.le_refl _)]; exact hl)
      refine row_of_owns hrow (fun z hz => ?_)
      have hm := List.mem_of_getElem? hl
      rw [HEn.out] at hm
      rcases List.mem_append.1 hm with hm | hm
      · obtain ⟨l', hl', rfl⟩ := List.mem_map.1 hm
        have hb := HB.out.1
        unfold endRow at hz
        split at hz
        · rw [List.mem_singleton] at hz; subst hz; unfold I64; omega
        · have := of_decide_eq_true (List.mem_filter.1 hz).2; unfold I64; omega
      · rw [List.mem_singleton] at hm; subst hm; cases hz
    have q1 : ((k : Int) < (n : Int)) = True := eq_true (by omega)
    have q1' : (k < n) = True := eq_true hlt
    have hk62 : k ≤ 9223372036854775806 := by omega
    have HK := Lib.hid hlt
    obtain ⟨l, hl⟩ := get_some (L := next) (n := k) (by rw [HN.out]; exact hlt)
    obtain ⟨bn, on, sl, sc, rfl, hbn, hnN, hcN, cn0, hL⟩ := grid_at HV.out hl
    have cn := (hP.out.hb.cell (p := ⟨bn, on + k, none⟩) (by rw [← HSz.out]; exact hbn)).trans cn0
    have HLr := Lib.hid (show ∀ W : World, Below s w W → RowR 1 intR W (.slice sl l.length sc) l from fun W h => hL.below intR_stable (by rw [HSz.out]; exact h))
    have HCn := Lib.hid (show ∀ W : World, Below s w W → W.cell? ⟨bn, on + k, none⟩ = some (.slice sl l.length sc) from fun W h => (h.cell (p := ⟨bn, on + k, none⟩) (by rw [← HSz.out]; exact hbn)).trans cn0)
    have HLl := Lib.hid (HB.out.2 l (List.mem_of_getElem? hl))
    have HTk := Lib.hid (show (next.map (endRow n)).take (k + 1) = (next.map (endRow n)).take k ++ [endRow n l] by rw [List.take_add_one, List.getElem?_map, hl]; rfl)
    obtain ⟨Lr, hLr⟩ : ∃ L, l.length = L := ⟨_, rfl⟩
    have HLr2 := Lib.hid hLr
    rw [hLr] at cn cn0 HLr HLl HCn
    have hLr63 : Lr ≤ 9223372036854775807 := by have := HLl.out; omega
    have HPP := hP
    have HZ := Lib.hid hsz
    obtain ⟨Bk, hBk⟩ : ∃ b, wr.heap.size = b := ⟨_, rfl⟩
    have HBk := Lib.hid hBk
    obtain ⟨Lk, hLk⟩ : ∃ X, (next.map (endRow n)).take k = X := ⟨_, rfl⟩
    rw [hLk] at HPP HTk
    clear hP hlt hk hl hLr hsz hBk hLk cn0 hL
    go_wp2_with fail
    go_loopw [7, 6] (fun jj oo wr2 => ∃ (q fl uc : Nat) (ua : Option Addr), jj = .int .i64 q ∧ q ≤ Lr ∧ oo = .slice ua fl uc ∧ Hid (wr2.ownsRow Bk 3 1 (.slice ua fl uc) fl (iV ((l.take q).filter (okN n))) ∧ Below Bk wr wr2) ∧ Hid (((l.take q).filter (okN n)).length = fl ∧ fl ≤ q)) (fun jj _ _ => Lr - (intOf jj).toNat)
    case atStart => exact ⟨0, 0, 0, none, rfl, Nat.zero_le _, rfl, Lib.hid ⟨World.ownsRow_nil _ _ _ _, Below.refl _ _⟩, Lib.hid ⟨rfl, Nat.zero_le _⟩⟩
    case round =>
      obtain ⟨q, fl, uc, ua, rfl, hq, rfl, hR, hF⟩ := hrel
      have hBs : Below s w wr := HPP.out.hb.trans (hR.out.2.mono (by rw [← HBk.out]; exact HZ.out))
      have cn := HCn.out _ hBs
      by_cases hlt : q < Lr
      case neg =>
        obtain rfl : Lr = q := by omega
        have q2 : ((Lr : Int) < (Lr : Int)) = False := eq_false (by omega)
        have q2' : (Lr < Lr) = False := eq_false (by omega)
        rw [List.take_of_length_le (by rw [HLr2.out]; exact Nat.le_refl _)] at hR hF
        have hER : endRow n l = if (l.filter (okN n)).isEmpty then [(n : Int)] else l.filter (okN n) := rfl
        cases fl with
        | zero =>
          have hfe : l.filter (okN n) = [] := List.eq_nil_of_length_eq_zero hF.out.1
          rw [hfe] at hER
          have HER := Lib.hid (show endRow n l = [(n : Int)] from hER)
          have HBW := Lib.hid (show Below Bk _ (wr.alloc (.cells #[.int .i64 (n : Int)] 3)) from hR.out.2.trans (((Below.refl _ _).alloc (Nat.le_refl _) _).mono (by rw [← HBk.out]; exact hR.out.2.size)))
          rw [← HBk.out] at HBW
          have HRW := Lib.hid (show (wr.alloc (.cells #[.int .i64 (n : Int)] 3)).ownsRow Bk 3 1 (.slice (some ⟨wr.heap.size, 0, none⟩) 1 1) [(n : Int)].length (iV [(n : Int)]) from own_low (owns_arr wr #[.int .i64 (n : Int)] 3 1 1 rfl (by unfold maxLen; omega)) (by rw [← HBk.out]; exact hR.out.2.size))
          rw [← HBk.out] at HRW
          clear hR hF hlt hq hER hfe
          go_wp2_with (first | (at_builtin; go_loud (refine wpList_append_near rfl (.tmp 58) (.tmp 60) 22 rfl s 25 i3 (.slice none 0 0) 1 24 Try.underlying22 hi3 hz3 hsize3 hby3 rfl (by omega) _ k _ rfl (owns_below (owns_below HPP.out.ho HBW.out) ((Below.refl _ _).alloc (Nat.le_refl _) _)) ⟨wr.heap.size + 1, 0, none⟩ 1 1 [.slice (some ⟨wr.heap.size, 0, none⟩) 1 1] rfl rfl (new_cellsE _ _ _ (by simp)) (by intro u hu; simp at hu; rw [hu]; rfl) (by have := HB.out.1; have := HK.out; unfold maxLen; omega) (by have := HB.out.1; have := HK.out; omega) (Nat.le_trans HZ.out (Nat.le_trans HBW.out.size (by simp))) ?_; intro v6 w6 hO6 hG6 hN6; have HQ6 := Lib.hid (HPP.out.next HZ.out HBW.out HRW.out hO6 hG6); obtain ⟨av6, cv6, rfl⟩ := owns_form hO6; clear hO6 hG6 hN6)) | fail)
          go_roundw
          case rel => exact ⟨k + 1, _, _, _, by simp, by have := HK.out; omega, rfl, Lib.hid (by rw [HTk.out, HER.out]; exact HQ6.out)⟩
          case measure => have := HK.out; first | (simp [intOf]; done) | (simp [intOf]; omega)
        | succ m =>
          have hne : (l.filter (okN n)).isEmpty = false := by
            cases hh : l.filter (okN n) with
            | nil => have := hF.out.1; rw [hh] at this; cases this
            | cons _ _ => rfl
          rw [hne] at hER
          have HER := Lib.hid (show endRow n l = l.filter (okN n) from hER)
          have HBW := Lib.hid hR.out.2
          have HRW := Lib.hid (show wr.ownsRow Bk 3 1 (.slice ua (m + 1) uc) (l.filter (okN n)).length (iV (l.filter (okN n))) by rw [hF.out.1]; exact hR.out.1)
          rw [← HBk.out] at HBW HRW
          clear hR hF hlt hq hER hne
          go_wp2_with (first | (at_builtin; go_loud (refine wpList_append_near rfl (.tmp 58) (.tmp 60) 22 rfl s 25 i3 (.slice none 0 0) 1 24 Try.underlying22 hi3 hz3 hsize3 hby3 rfl (by omega) _ k _ rfl (owns_below (owns_below HPP.out.ho HBW.out) ((Below.refl _ _).alloc (Nat.le_refl _) _)) ⟨wr.heap.size, 0, none⟩ 1 1 [.slice ua (m + 1) uc] rfl rfl (new_cells _ _ _) (by intro u hu; simp at hu; rw [hu]; rfl) (by have := HB.out.1; have := HK.out; unfold maxLen; omega) (by have := HB.out.1; have := HK.out; omega) (Nat.le_trans HZ.out (Nat.le_trans HBW.out.size (by simp))) ?_; intro v6 w6 hO6 hG6 hN6; have HQ6 := Lib.hid (HPP.out.next HZ.out HBW.out HRW.out hO6 hG6); obtain ⟨av6, cv6, rfl⟩ := owns_form hO6; clear hO6 hG6 hN6)) | fail)
          go_roundw
          case rel => exact ⟨k + 1, _, _, _, by simp, by have := HK.out; omega, rfl, Lib.hid (by rw [HTk.out, HER.out]; exact HQ6.out)⟩
          case measure => have := HK.out; first | (simp [intOf]; done) | (simp [intOf]; omega)
      have q2 : ((q : Int) < (Lr : Int)) = True := eq_true (by omega)
      have q2' : (q < Lr) = True := eq_true hlt
      have hq62 : q ≤ 9223372036854775806 := by omega
      have HQ := Lib.hid hlt
      obtain ⟨bl, ol, hse, hbl, hnl, hcl, cl1, _⟩ := int_at (HLr.out _ hBs) (k := q) (by rw [HLr2.out]; exact hlt)
      subst hse
      obtain ⟨T, hT⟩ : ∃ T, l.getD q 0 = T := ⟨_, rfl⟩
      have HTq := Lib.hid (show (l.take (q + 1)).filter (okN n) = (l.take q).filter (okN n) ++ if okN n T = true then [T] else [] by
        rw [List.take_add_one, List.filter_append]
        have : l[q]? = some T := by rw [← hT]; simp [List.getD, HLr2.out, hlt]
        rw [this]
        congr 1
        cases hkT : okN n T <;> simp [hkT])
      rw [hT] at cl1
      clear hT
      by_cases h0 : 0 ≤ T
      case neg =>
        have p0 : (0 ≤ T) = False := eq_false h0
        have hok : okN n T = false := decide_eq_false (by omega)
        have HTq := Lib.hid (show (l.take (q + 1)).filter (okN n) = (l.take q).filter (okN n) by rw [HTq.out, hok, if_neg (by simp), List.append_nil])
        have HRn := Lib.hid hR.out
        have HFn := Lib.hid hF.out
        clear h0 hok hR hF hlt hq
        go_wp2_with fail
        go_roundw
        case rel => exact ⟨q + 1, fl, uc, ua, by simp, by have := HQ.out; omega, rfl, Lib.hid (by rw [HTq.out]; exact HRn.out), Lib.hid (by rw [HTq.out]; exact ⟨HFn.out.1, by have := HFn.out.2; omega⟩)⟩
        case measure => have := HQ.out; first | (simp [intOf]; done) | (simp [intOf]; omega)
      obtain ⟨t, rfl⟩ : ∃ t : Nat, T = (t : Int) := ⟨T.toNat, by omega⟩
      by_cases htn : t < n
      case neg =>
        have p1 : ((t : Int) < (n : Int)) = False := eq_false (by omega)
        have p1' : (t < n) = False := eq_false htn
        have hok : okN n (t : Int) = false := decide_eq_false (by omega)
        have HTq := Lib.hid (show (l.take (q + 1)).filter (okN n) = (l.take q).filter (okN n) by rw [HTq.out, hok, if_neg (by simp), List.append_nil])
        have HRn := Lib.hid hR.out
        have HFn := Lib.hid hF.out
        clear h0 hok htn hR hF hlt hq
        go_wp2_with fail
        go_roundw
        case rel => exact ⟨q + 1, fl, uc, ua, by simp, by have := HQ.out; omega, rfl, Lib.hid (by rw [HTq.out]; exact HRn.out), Lib.hid (by rw [HTq.out]; exact ⟨HFn.out.1, by have := HFn.out.2; omega⟩)⟩
        case measure => have := HQ.out; first | (simp [intOf]; done) | (simp [intOf]; omega)
      have p1 : ((t : Int) < (n : Int)) = True := eq_true (by omega)
      have p1' : (t < n) = True := eq_true htn
      have hok : okN n (t : Int) = true := decide_eq_true (by omega)
      have HTq := Lib.hid (show (l.take (q + 1)).filter (okN n) = (l.take q).filter (okN n) ++ [(t : Int)] by rw [HTq.out, hok, if_pos rfl])
      have HRn := Lib.hid hR.out
      have HFn := Lib.hid hF.out
      have HBks := Lib.hid (show Bk ≤ wr.heap.size by rw [← HBk.out]; exact hR.out.2.size)
      clear h0 hok htn hR hF hlt hq
      go_wp2_with (first | (at_builtin; go_loud (refine wpList_append_near rfl (.tmp 43) (.tmp 51) 25 rfl Bk 3 i2 (.int .i64 0) 1 8 Try.underlying25 hi2 hz2 hsize2 hby2 rfl (by omega) _ fl _ rfl (owns_below HRn.out.1 ((Below.refl _ _).alloc (Nat.le_refl _) _)) ⟨wr.heap.size, 0, none⟩ 1 1 [.int .i64 (t : Int)] rfl rfl (new_cells _ _ _) (by intro u hu; simp at hu; rw [hu]; rfl) (by have := HFn.out; have := HQ.out; have := HLl.out; unfold maxLen; omega) (by have := HFn.out; have := HQ.out; have := HLl.out; omega) (by simp; have := HBks.out; omega) ?_; intro v6 w6 hO6 hG6 hN6; have HB6 := Lib.hid (grown3 (HRn.out.2.trans (((Below.refl _ _).alloc (Nat.le_refl _) _).mono HBks.out)) (by simp; have := HBks.out; omega) (owns_below HRn.out.1 ((Below.refl _ _).alloc (Nat.le_refl _) _)) hG6); obtain ⟨av6, cv6, rfl⟩ := owns_form hO6; have HO6 := Lib.hid hO6; clear hO6 hG6 hN6)) | fail)
      go_roundw
      case rel => exact ⟨q + 1, fl + 1, cv6, av6, by simp, by have := HQ.out; omega, rfl, Lib.hid ⟨by rw [HTq.out, iV_app]; exact HO6.out, HB6.out⟩, Lib.hid (by rw [HTq.out, List.length_append]; exact ⟨by rw [HFn.out.1]; rfl, by have := HFn.out.2; omega⟩)⟩
      case measure => have := HQ.out; first | (simp [intOf]; done) | (simp [intOf]; omega)
end Go.Proofs.Ytkjafkegkllbiaa
