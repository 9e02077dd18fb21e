/- expr.May; Size, Deep, May by fold. -/
import Derived.Test.YtpecpeedefeokaaDoorExA
namespace Go.Proofs.YtpecpeedefeokaaDoor
open Go.RowKit
set_option linter.unusedSimpArgs false
set_option linter.unusedVariables false
def mayF (e : Ex) (l : List Bool) : Bool := l.any id || mayO e
theorem mayB (e : Ex) : foldE mayF e = mayE e := rfl
set_option maxHeartbeats 1000000 in
theorem may_1 (e : Ex) (v u : Value) (L : List Bool) (w : World) (hv : ExV w v e) (hu : RowR 1 boolR w u L) : Calls Tryd.prog 36 #[v, u] w fun r w' => r = .returned (.bool (mayF e L)) ∧ Below w.heap.size w w' := by
  obtain ⟨s, rfl, _, _⟩ := hv
  have HU := Lib.hid (fun W (h : Below w.heap.size w W) => hu.below boolR_stable h)
  obtain ⟨sa, sc, rfl⟩ := row_get hu
  have hlen63 := hu.len
  obtain ⟨N, hN⟩ : ∃ N, L.length = N := ⟨_, rfl⟩
  have HN := Lib.hid hN
  rw [hN] at HU hlen63 ⊢
  have HY := Lib.hid (fun k (h : L[k]? = some true) => show mayF e L = true from by
    unfold mayF
    have : L.any id = true := List.any_eq_true.2 ⟨true, List.mem_of_getElem? h, rfl⟩
    rw [this]; rfl)
  have HNo := Lib.hid (fun (h : ∀ x ∈ L, x = false) => show mayF e L = mayO e from by
    unfold mayF
    have : L.any id = false := List.any_eq_false.2 (fun x hx => by simp [h x hx])
    rw [this]; rfl)
  obtain ⟨R, hR⟩ : ∃ R, mayF e L = R := ⟨_, rfl⟩
  rw [hR] at HY HNo ⊢
  have HO := Lib.hid (show mayO e = (e.op == 4 || (e.op == 7 && (e.m == 11 || e.m == 12))) from rfl)
  generalize mayO e = MO at *
  generalize e.op = o1 at *
  generalize e.t = o2 at *
  generalize e.n = o3 at *
  generalize e.m = o4 at *
  clear hu hN hR
  go_enter Tryd.func36, Tryd.ntmps36
  go_wp2_with fail
  go_loopw [9] (fun jj wr => ∃ k : Nat, k ≤ N ∧ jj = .int .i64 k ∧ Hid (∀ i, i < k → L.getD i true = false) ∧ wr = w.alloc (.cells #[.int .i64 o1, .int .i64 o2, .int .i64 o3, .int .i64 o4, s] 30)) (fun jj _ => N - (intOf jj).toNat)
  case atStart => exact ⟨0, by omega, rfl, Lib.hid (fun i h => by omega), rfl⟩
  case round =>
    obtain ⟨k, hk, rfl, hall, rfl⟩ := hrel
    by_cases hlt : k < N
    · have qk : ((k : Int) < (N : Int)) = True := eq_true (by omega)
      have qk' : (k < N) = True := eq_true hlt
      have hU := HU.out _ ((Below.refl _ _).alloc (Nat.le_refl _) (.cells #[.int .i64 o1, .int .i64 o2, .int .i64 o3, .int .i64 o4, s] 30))
      obtain ⟨x, hx⟩ := get_some (L := L) (n := k) (by rw [HN.out]; exact hlt)
      obtain ⟨b, off, rfl, hbw, l1, l2, hc⟩ := bools_at hU (k := k) (by rw [HN.out]; exact hlt)
      have hc := hc k (by rw [HN.out]; exact hlt)
      have hxd : L.getD k false = x := by simp [List.getD, hx]
      rw [hxd] at hc
      have HLT := Lib.hid hlt
      have hk63 : k ≤ 9223372036854775806 := by omega
      cases x
      · have hs := Lib.hid (show ∀ i, i < k + 1 → L.getD i true = false from fun i hi => by
          rcases (show i < k ∨ i = k by omega) with h | rfl
          · exact hall.out i h
          · simp [List.getD, hx])
        clear hx hU hlt hxd
        go_wp2_with fail
        go_roundw
        case rel => exact ⟨k + 1, by have := HLT.out; omega, by simp, hs, by first | rfl | trivial⟩
        case measure => have := HLT.out; first | (simp [intOf]; done) | (simp [intOf]; omega)
      · have hR := Lib.hid (HY.out k hx)
        clear hx hU hlt hxd
        go_wp2_with fail
        go_ret
        exact ⟨by rw [hR.out]; rfl, by (repeat' (first | (with_reducible exact Below.refl _ _) | (with_reducible assumption) | (with_reducible refine below_drewN ?_ _) | (with_reducible refine Below.alloc ?_ ?_ _) | (with_reducible refine Below.drew ?_) | (with_reducible refine Below.setCell ?_ ?_ _) | go_size))⟩
    · obtain rfl : k = N := by omega
      have qk : ((k : Int) < (k : Int)) = False := eq_false (by omega)
      have qk' : (k < k) = False := eq_false (by omega)
      have hR := HNo.out (fun x hx => by
        obtain ⟨i, hi, rfl⟩ := List.getElem_of_mem hx
        have := hall.out i (by rw [← HN.out]; exact hi)
        simpa [List.getD, hi] using this)
      have hRO := Lib.hid (hR.trans HO.out)
      clear hR hall HY HNo HO hlt
      by_cases h1 : o1 = 4
      · subst h1
        have hz := Lib.hid (show R = true by rw [hRO.out]; rfl)
        go_wp2_with fail
        go_ret
        exact ⟨by rw [hz.out]; rfl, by (repeat' (first | (with_reducible exact Below.refl _ _) | (with_reducible assumption) | (with_reducible refine below_drewN ?_ _) | (with_reducible refine Below.alloc ?_ ?_ _) | (with_reducible refine Below.drew ?_) | (with_reducible refine Below.setCell ?_ ?_ _) | go_size))⟩
      · have e1 : (o1 == 4) = false := by simpa using h1
        by_cases h2 : o1 = 7
        · subst h2
          by_cases h3 : o4 = 11
          · subst h3
            have hz := Lib.hid (show R = true by rw [hRO.out]; rfl)
            clear h1 e1
            go_wp2_with fail
            go_ret
            exact ⟨by rw [hz.out]; rfl, by (repeat' (first | (with_reducible exact Below.refl _ _) | (with_reducible assumption) | (with_reducible refine below_drewN ?_ _) | (with_reducible refine Below.alloc ?_ ?_ _) | (with_reducible refine Below.drew ?_) | (with_reducible refine Below.setCell ?_ ?_ _) | go_size))⟩
          · have e3 : (o4 == 11) = false := by simpa using h3
            have hz := Lib.hid (show R = (o4 == 12) by rw [hRO.out, e3]; rfl)
            clear h1 e1 h3
            go_wp2_with fail
            go_ret
            exact ⟨by rw [hz.out]; rfl, by (repeat' (first | (with_reducible exact Below.refl _ _) | (with_reducible assumption) | (with_reducible refine below_drewN ?_ _) | (with_reducible refine Below.alloc ?_ ?_ _) | (with_reducible refine Below.drew ?_) | (with_reducible refine Below.setCell ?_ ?_ _) | go_size))⟩
        · have e2 : (o1 == 7) = false := by simpa using h2
          have hz := Lib.hid (show R = false by rw [hRO.out, e1, e2]; rfl)
          clear h1 h2
          go_wp2_with fail
          go_ret
          exact ⟨by rw [hz.out]; rfl, by (repeat' (first | (with_reducible exact Below.refl _ _) | (with_reducible assumption) | (with_reducible refine below_drewN ?_ _) | (with_reducible refine Below.alloc ?_ ?_ _) | (with_reducible refine Below.drew ?_) | (with_reducible refine Below.setCell ?_ ?_ _) | go_size))⟩
def SmallE (n : Nat) (e : Ex) : Prop := sizeE e ≤ n
theorem SmallE.within {n : Nat} {e : Ex} (h : SmallE n e) : ∀ x ∈ e.l, SmallE n x := fun x hx => by have := sizeE_within hx; unfold SmallE at *; omega
theorem SmallE.len {n : Nat} {e : Ex} (h : SmallE n e) : e.l.length ≤ n := by have := sizeE_len e; unfold SmallE at h; omega
theorem expr_Size (e : Ex) (he : SmallE 300 e) (w : World) (v : Value) (hv : ExV w v e) : Calls Tryd.prog 12 #[v] w fun r w' => r = .returned (.int .i64 (sizeE e)) ∧ Below w.heap.size w w' := by
  have HF := Lib.hid (fold_int 33 #[] sizeF (SmallE 300) w (fun _ _ => rfl) (fun e h => h.within) (fun e h => by rw [sizeI]; unfold SmallE at h; unfold I64; omega) (fun e h => h.len)
    (fun W hb e v u hg hv hu => by
      rw [map_natI (fun x _ => sizeI x)] at hu ⊢
      have hsum : (e.l.map sizeE).sum ≤ 1000 := by have := sizeE_mk e; unfold SmallE at hg; omega
      refine (size_1 e v u (e.l.map sizeE) hsum W hv hu).mono ?_
      rintro r w' ⟨rfl, hb⟩
      refine ⟨?_, hb⟩
      unfold sizeF
      rw [natI_sum]
      congr 2) e he)
  obtain ⟨s, rfl, hi, hr⟩ := id hv
  have HV := Lib.hid (fun W (h : Below w.heap.size w W) => hv.below h)
  have HI := Lib.hid (sizeI e)
  clear hv hi hr
  generalize e.op = o1 at *
  generalize e.t = o2 at *
  generalize e.n = o3 at *
  generalize e.m = o4 at *
  go_enter Tryd.func12, Tryd.ntmps12
  go_wp2_with fail
  refine (HF.out _ _ (by (repeat' (first | (with_reducible exact Below.refl _ _) | (with_reducible assumption) | (with_reducible refine below_drewN ?_ _) | (with_reducible refine Below.alloc ?_ ?_ _) | (with_reducible refine Below.drew ?_) | (with_reducible refine Below.setCell ?_ ?_ _) | go_size))) (HV.out _ (by (repeat' (first | (with_reducible exact Below.refl _ _) | (with_reducible assumption) | (with_reducible refine below_drewN ?_ _) | (with_reducible refine Below.alloc ?_ ?_ _) | (with_reducible refine Below.drew ?_) | (with_reducible refine Below.setCell ?_ ?_ _) | go_size))))).mono ?_; rintro r w2 ⟨rfl, hb⟩
  rw [HI.out]
  go_wp2_with fail
  go_ret
  exact ⟨rfl, Below.trans (by (repeat' (first | (with_reducible exact Below.refl _ _) | (with_reducible assumption) | (with_reducible refine below_drewN ?_ _) | (with_reducible refine Below.alloc ?_ ?_ _) | (with_reducible refine Below.drew ?_) | (with_reducible refine Below.setCell ?_ ?_ _) | go_size))) (hb.mono (by simp))⟩
theorem expr_Deep (e : Ex) (he : SmallE 300 e) (w : World) (v : Value) (hv : ExV w v e) : Calls Tryd.prog 14 #[v] w fun r w' => r = .returned (.int .i64 (deepE e)) ∧ Below w.heap.size w w' := by
  have HF := Lib.hid (fold_int 34 #[] deepF (SmallE 300) w (fun _ _ => rfl) (fun e h => h.within) (fun e h => by rw [deepI]; have := deepE_le e; unfold SmallE at h; unfold I64; omega) (fun e h => h.len)
    (fun W hb e v u hg hv hu => by
      rw [map_natI (fun x _ => deepI x)] at hu ⊢
      have hsum : ∀ y ∈ e.l.map deepE, y ≤ 1000 := fun y hy => by
        obtain ⟨x, hx, rfl⟩ := List.mem_map.1 hy
        have h1 := deepE_le x
        have h2 := sizeE_within hx
        unfold SmallE at hg; omega
      refine (deep_1 e v u (e.l.map deepE) hsum W hv hu).mono ?_
      rintro r w' ⟨rfl, hb⟩
      refine ⟨?_, hb⟩
      unfold deepF
      have := natI_max (e.l.map deepE) 0
      rw [show ((0 : Nat) : Int) = 0 from rfl] at this
      rw [this]) e he)
  obtain ⟨s, rfl, hi, hr⟩ := id hv
  have HV := Lib.hid (fun W (h : Below w.heap.size w W) => hv.below h)
  have HI := Lib.hid (deepI e)
  clear hv hi hr
  generalize e.op = o1 at *
  generalize e.t = o2 at *
  generalize e.n = o3 at *
  generalize e.m = o4 at *
  go_enter Tryd.func14, Tryd.ntmps14
  go_wp2_with fail
  refine (HF.out _ _ (by (repeat' (first | (with_reducible exact Below.refl _ _) | (with_reducible assumption) | (with_reducible refine below_drewN ?_ _) | (with_reducible refine Below.alloc ?_ ?_ _) | (with_reducible refine Below.drew ?_) | (with_reducible refine Below.setCell ?_ ?_ _) | go_size))) (HV.out _ (by (repeat' (first | (with_reducible exact Below.refl _ _) | (with_reducible assumption) | (with_reducible refine below_drewN ?_ _) | (with_reducible refine Below.alloc ?_ ?_ _) | (with_reducible refine Below.drew ?_) | (with_reducible refine Below.setCell ?_ ?_ _) | go_size))))).mono ?_; rintro r w2 ⟨rfl, hb⟩
  rw [HI.out]
  go_wp2_with fail
  go_ret
  exact ⟨rfl, Below.trans (by (repeat' (first | (with_reducible exact Below.refl _ _) | (with_reducible assumption) | (with_reducible refine below_drewN ?_ _) | (with_reducible refine Below.alloc ?_ ?_ _) | (with_reducible refine Below.drew ?_) | (with_reducible refine Below.setCell ?_ ?_ _) | go_size))) (hb.mono (by simp))⟩
theorem expr_May (e : Ex) (he : SmallE 300 e) (w : World) (v : Value) (hv : ExV w v e) : Calls Tryd.prog 16 #[v] w fun r w' => r = .returned (.bool (mayE e)) ∧ Below w.heap.size w w' := by
  have HF := Lib.hid (fold_bool 36 #[] mayF (SmallE 300) w (fun _ _ => rfl) (fun e h => h.within) (fun e h => h.len)
    (fun W hb e v u hg hv hu => may_1 e v u _ W hv hu) e he)
  obtain ⟨s, rfl, hi, hr⟩ := id hv
  have HV := Lib.hid (fun W (h : Below w.heap.size w W) => hv.below h)
  have HI := Lib.hid (mayB e)
  clear hv hi hr
  generalize e.op = o1 at *
  generalize e.t = o2 at *
  generalize e.n = o3 at *
  generalize e.m = o4 at *
  go_enter Tryd.func16, Tryd.ntmps16
  go_wp2_with fail
  refine (HF.out _ _ (by (repeat' (first | (with_reducible exact Below.refl _ _) | (with_reducible assumption) | (with_reducible refine below_drewN ?_ _) | (with_reducible refine Below.alloc ?_ ?_ _) | (with_reducible refine Below.drew ?_) | (with_reducible refine Below.setCell ?_ ?_ _) | go_size))) (HV.out _ (by (repeat' (first | (with_reducible exact Below.refl _ _) | (with_reducible assumption) | (with_reducible refine below_drewN ?_ _) | (with_reducible refine Below.alloc ?_ ?_ _) | (with_reducible refine Below.drew ?_) | (with_reducible refine Below.setCell ?_ ?_ _) | go_size))))).mono ?_; rintro r w2 ⟨rfl, hb⟩
  rw [HI.out]
  go_wp2_with fail
  go_ret
  exact ⟨rfl, Below.trans (by (repeat' (first | (with_reducible exact Below.refl _ _) | (with_reducible assumption) | (with_reducible refine below_drewN ?_ _) | (with_reducible refine Below.alloc ?_ ?_ _) | (with_reducible refine Below.drew ?_) | (with_reducible refine Below.setCell ?_ ?_ _) | go_size))) (hb.mono (by simp))⟩
end Go.Proofs.YtpecpeedefeokaaDoor
