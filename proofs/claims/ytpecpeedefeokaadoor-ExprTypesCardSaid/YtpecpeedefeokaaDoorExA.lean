/- expr.Size, expr.Deep, expr.May. -/
import Derived.Test.YtpecpeedefeokaaDoorExFold
namespace Go.Proofs.YtpecpeedefeokaaDoor
open Go.RowKit
set_option linter.unusedSimpArgs false
set_option linter.unusedVariables false
noncomputable def deepE : Ex → Nat := foldE fun _ l => l.foldl max 0 + 1
theorem deepE_mk (e : Ex) : deepE e = (e.l.map deepE).foldl max 0 + 1 := foldE_eq _ e
def mayO (e : Ex) : Bool := e.op == 4 || (e.op == 7 && (e.m == 11 || e.m == 12))
noncomputable def mayE : Ex → Bool := foldE fun e l => l.any id || mayO e
theorem mayE_mk (e : Ex) : mayE e = ((e.l.map mayE).any id || mayO e) := foldE_eq _ e
theorem foldl_max_le {l : List Nat} {b : Nat} : ∀ a, a ≤ b → (∀ x ∈ l, x ≤ b) → l.foldl max a ≤ b := by
  induction l with
  | nil => intro a h _; exact h
  | cons x t ih => intro a h hx; exact ih (max a x) (by have := hx x (by simp); omega) fun y hy => hx y (by simp [hy])
theorem deepE_le (e : Ex) : deepE e ≤ sizeE e := by
  induction e using Ex.ind with
  | h op t n m l ih =>
    rw [deepE_mk, sizeE_mk]
    have h : (l.map deepE).foldl max 0 ≤ (l.map sizeE).sum := foldl_max_le 0 (by omega) fun x hx => by
      obtain ⟨y, hy, rfl⟩ := List.mem_map.1 hx
      exact Nat.le_trans (ih y hy) (sum_mem (List.mem_map_of_mem (f := sizeE) hy))
    show (l.map deepE).foldl max 0 + 1 ≤ 1 + (l.map sizeE).sum
    omega
def natI (L : List Nat) : List Int := L.map fun (n : Nat) => (n : Int)
theorem natI_take (L : List Nat) (k : Nat) : (natI L).take k = natI (L.take k) := by simp [natI]
def sizeF (_ : Ex) (ts : List Int) : Int := 1 + ts.sum
def deepF (_ : Ex) (ts : List Int) : Int := ts.foldl max 0 + 1
theorem natI_sum (L : List Nat) : (natI L).sum = (L.sum : Int) := by
  induction L with
  | nil => rfl
  | cons a t ih => show (a : Int) + (natI t).sum = _; rw [ih, List.sum_cons]; omega
theorem natI_max (L : List Nat) : ∀ a : Nat, (natI L).foldl max (a : Int) = ((L.foldl max a : Nat) : Int) := by
  induction L with
  | nil => intro a; rfl
  | cons x t ih =>
    intro a
    show (natI t).foldl max (max (a : Int) (x : Int)) = _
    rw [show (max (a : Int) (x : Int)) = ((max a x : Nat) : Int) by omega, ih]
    rfl
theorem map_natI {f : Ex → Int} {g : Ex → Nat} {l : List Ex} (h : ∀ x ∈ l, f x = (g x : Int)) : l.map f = natI (l.map g) := by
  unfold natI
  rw [List.map_map]
  exact List.map_congr_left h
theorem sizeI (e : Ex) : foldE sizeF e = (sizeE e : Int) := by
  induction e using Ex.ind with
  | h op t n m l ih =>
    rw [foldE_eq, sizeE_mk]
    show sizeF _ (l.map (foldE sizeF)) = _
    rw [map_natI ih]
    unfold sizeF
    rw [natI_sum]
    show (1 : Int) + ((l.map sizeE).sum : Nat) = ((1 + (l.map sizeE).sum : Nat) : Int)
    omega
theorem deepI (e : Ex) : foldE deepF e = (deepE e : Int) := by
  induction e using Ex.ind with
  | h op t n m l ih =>
    rw [foldE_eq, deepE_mk]
    show deepF _ (l.map (foldE deepF)) = _
    rw [map_natI ih]
    unfold deepF
    have := natI_max (l.map deepE) 0
    show (natI (l.map deepE)).foldl max ((0 : Nat) : Int) + 1 = _
    rw [this]
    rfl
theorem nat_sum_take (L : List Nat) (k : Nat) : (L.take k).sum ≤ L.sum := by
  induction L generalizing k with
  | nil => simp
  | cons a t ih =>
    cases k with
    | zero => simp
    | succ k => rw [List.take_succ_cons, List.sum_cons, List.sum_cons]; have := ih k; omega
set_option maxHeartbeats 1000000 in
theorem size_1 (e : Ex) (v u : Value) (L : List Nat) (hL : L.sum ≤ 1000) (w : World) (hv : ExV w v e) (hu : RowR 1 intR w u (natI L)) : Calls Tryd.prog 33 #[v, u] w fun r w' => r = .returned (.int .i64 ((1 + L.sum : Nat) : Int)) ∧ Below w.heap.size w w' := by
  obtain ⟨s, rfl, _, _⟩ := hv
  have HU := Lib.hid (fun W (h : Below w.heap.size w W) => hu.below intR_stable h)
  obtain ⟨sa, sc, rfl⟩ := row_get hu
  have hlen : (natI L).length = L.length := by simp [natI]
  have hlen63 := hu.len
  rw [hlen] at HU hlen63 ⊢
  obtain ⟨N, hN⟩ : ∃ N, L.length = N := ⟨_, rfl⟩
  have HN := Lib.hid hN
  have HT := Lib.hid (nat_sum_take L)
  obtain ⟨Z, hZ⟩ : ∃ Z, 1 + L.sum = Z := ⟨_, rfl⟩
  have HZ := Lib.hid hZ
  rw [hZ]
  clear hZ
  rw [hN] at HU hlen63 ⊢
  generalize e.op = o1 at *
  generalize e.t = o2 at *
  generalize e.n = o3 at *
  generalize e.m = o4 at *
  clear hu hN hlen
  go_enter Tryd.func33, Tryd.ntmps33
  go_wp2_with fail
  go_loopw [5, 10] (fun o jj wr => ∃ k : Nat, k ≤ N ∧ jj = .int .i64 k ∧ o = .int .i64 ((1 + (L.take k).sum : Nat) : Int) ∧ wr = w.alloc (.cells #[.int .i64 o1, .int .i64 o2, .int .i64 o3, .int .i64 o4, s] 30)) (fun _ jj _ => N - (intOf jj).toNat)
  case atStart => exact ⟨0, by omega, rfl, rfl, rfl⟩
  case round =>
    obtain ⟨k, hk, rfl, rfl, rfl⟩ := hrel
    by_cases hlt : k < N
    · have qk : ((k : Int) < (N : Int)) = True := eq_true (by omega)
      have qk' : (k < N) = True := eq_true hlt
      have hU := HU.out _ ((Below.refl _ _).alloc (Nat.le_refl _) (.cells #[.int .i64 o1, .int .i64 o2, .int .i64 o3, .int .i64 o4, s] 30))
      obtain ⟨x, hx⟩ := get_some (L := L) (n := k) (by rw [HN.out]; exact hlt)
      obtain ⟨b, off, rfl, hbw, hc⟩ := ints_at hU (k := k) (by simp [natI]; rw [HN.out]; exact hlt)
      have hc := (hc k (x : Int) (by simp [natI, hx])).1
      have hs : (L.take (k + 1)).sum = (L.take k).sum + x := by rw [take_snoc hx]; simp
      have hb := HT.out (k + 1)
      obtain ⟨S, hS⟩ : ∃ S, (L.take k).sum = S := ⟨_, rfl⟩
      rw [hS] at hs ⊢
      have HS := Lib.hid hs
      have hSx : S + x ≤ 1000 := by omega
      have hnx := Lib.hid (show ((1 + S : Nat) : Int) + (x : Int) = ((1 + (S + x) : Nat) : Int) by omega)
      have HLT := Lib.hid hlt
      have hk63 : k ≤ 9223372036854775806 := by omega
      obtain ⟨z, hz⟩ : ∃ z, 1 + S = z := ⟨_, rfl⟩
      rw [hz] at hnx ⊢
      have hzz : z ≤ 1001 := by omega
      clear hs hb hS hx hU hlt hz
      go_wp2_with fail
      go_roundw
      case rel => exact ⟨k + 1, by have := HLT.out; omega, by simp, by rw [HS.out, hnx.out], by first | rfl | trivial⟩
      case measure => have := HLT.out; first | (simp [intOf]; done) | (simp [intOf]; omega)
    · obtain rfl : k = N := by omega
      have qk : ((k : Int) < (k : Int)) = False := eq_false (by omega)
      have qk' : (k < k) = False := eq_false (by omega)
      rw [List.take_of_length_le (by rw [HN.out]; exact Nat.le_refl _), HZ.out]
      go_wp2_with fail
      go_ret
      exact ⟨rfl, by (repeat' (first | (with_reducible exact Below.refl _ _) | (with_reducible assumption) | (with_reducible refine below_drewN ?_ _) | (with_reducible refine Below.alloc ?_ ?_ _) | (with_reducible refine Below.drew ?_) | (with_reducible refine Below.setCell ?_ ?_ _) | go_size))⟩
set_option maxHeartbeats 1000000 in
theorem deep_1 (e : Ex) (v u : Value) (L : List Nat) (hL : ∀ x ∈ L, x ≤ 1000) (w : World) (hv : ExV w v e) (hu : RowR 1 intR w u (natI L)) : Calls Tryd.prog 34 #[v, u] w fun r w' => r = .returned (.int .i64 (((L.foldl max 0 : Nat) : Int) + 1)) ∧ Below w.heap.size w w' := by
  obtain ⟨s, rfl, _, _⟩ := hv
  have HU := Lib.hid (fun W (h : Below w.heap.size w W) => hu.below intR_stable h)
  obtain ⟨sa, sc, rfl⟩ := row_get hu
  have hlen : (natI L).length = L.length := by simp [natI]
  have hlen63 := hu.len
  rw [hlen] at HU hlen63 ⊢
  obtain ⟨N, hN⟩ : ∃ N, L.length = N := ⟨_, rfl⟩
  have HN := Lib.hid hN
  have HL := Lib.hid hL
  obtain ⟨Z, hZ⟩ : ∃ Z, L.foldl max 0 = Z := ⟨_, rfl⟩
  have HZ := Lib.hid hZ
  rw [hZ]
  clear hZ
  have HT := Lib.hid (fun k => show (L.take k).foldl max 0 ≤ 1000 from foldl_max_le 0 (by omega) fun x hx => hL x (List.mem_of_mem_take hx))
  rw [hN] at HU hlen63 ⊢
  generalize e.op = o1 at *
  generalize e.t = o2 at *
  generalize e.n = o3 at *
  generalize e.m = o4 at *
  clear hu hN hlen hL
  go_enter Tryd.func34, Tryd.ntmps34
  go_wp2_with fail
  go_loopw [5, 10] (fun o jj wr => ∃ k : Nat, k ≤ N ∧ jj = .int .i64 k ∧ o = .int .i64 (((L.take k).foldl max 0 : Nat) : Int) ∧ wr = w.alloc (.cells #[.int .i64 o1, .int .i64 o2, .int .i64 o3, .int .i64 o4, s] 30)) (fun _ jj _ => N - (intOf jj).toNat)
  case atStart => exact ⟨0, by omega, rfl, rfl, rfl⟩
  case round =>
    obtain ⟨k, hk, rfl, rfl, rfl⟩ := hrel
    by_cases hlt : k < N
    · have qk : ((k : Int) < (N : Int)) = True := eq_true (by omega)
      have qk' : (k < N) = True := eq_true hlt
      have hU := HU.out _ ((Below.refl _ _).alloc (Nat.le_refl _) (.cells #[.int .i64 o1, .int .i64 o2, .int .i64 o3, .int .i64 o4, s] 30))
      obtain ⟨x, hx⟩ := get_some (L := L) (n := k) (by rw [HN.out]; exact hlt)
      obtain ⟨b, off, rfl, hbw, hc⟩ := ints_at hU (k := k) (by simp [natI]; rw [HN.out]; exact hlt)
      have hc := (hc k (x : Int) (by simp [natI, hx])).1
      have hs : (L.take (k + 1)).foldl max 0 = max ((L.take k).foldl max 0) x := by rw [take_snoc hx, List.foldl_append]; rfl
      have hb := HT.out k
      obtain ⟨S, hS⟩ : ∃ S, (L.take k).foldl max 0 = S := ⟨_, rfl⟩
      rw [hS] at hs hb ⊢
      have HS := Lib.hid hs
      have HLT := Lib.hid hlt
      have hk63 : k ≤ 9223372036854775806 := by omega
      clear hs hS hx hU hlt
      by_cases hm : S < x
      · have m1 : ((S : Int) < (x : Int)) = True := eq_true (by omega)
        have m2 : ((x : Int) < (S : Int)) = False := eq_false (by omega)
        have m3 : (S < x) = True := eq_true hm
        have m4 : (x < S) = False := eq_false (by omega)
        have HMx := Lib.hid (show max S x = x by omega)
        clear hm
        go_wp2_with fail
        go_roundw
        case rel => exact ⟨k + 1, by have := HLT.out; omega, by simp, by rw [HS.out, HMx.out], by first | rfl | trivial⟩
        case measure => have := HLT.out; first | (simp [intOf]; done) | (simp [intOf]; omega)
      · have m1 : ((S : Int) < (x : Int)) = False := eq_false (by omega)
        have m3 : (S < x) = False := eq_false hm
        have HMx := Lib.hid (show max S x = S by omega)
        by_cases he : x = S
        · subst he
          clear hm
          go_wp2_with fail
          go_roundw
          case rel => exact ⟨k + 1, by have := HLT.out; omega, by simp, by rw [HS.out, HMx.out], by first | rfl | trivial⟩
          case measure => have := HLT.out; first | (simp [intOf]; done) | (simp [intOf]; omega)
        · have m2 : ((x : Int) < (S : Int)) = True := eq_true (by omega)
          have m4 : (x < S) = True := eq_true (by omega)
          clear hm he
          go_wp2_with fail
          go_roundw
          case rel => exact ⟨k + 1, by have := HLT.out; omega, by simp, by rw [HS.out, HMx.out], by first | rfl | trivial⟩
          case measure => have := HLT.out; first | (simp [intOf]; done) | (simp [intOf]; omega)
    · obtain rfl : k = N := by omega
      have qk : ((k : Int) < (k : Int)) = False := eq_false (by omega)
      have qk' : (k < k) = False := eq_false (by omega)
      have hb := HT.out k
      rw [List.take_of_length_le (by rw [HN.out]; exact Nat.le_refl _), HZ.out] at hb ⊢
      go_wp2_with fail
      go_ret
      exact ⟨rfl, by (repeat' (first | (with_reducible exact Below.refl _ _) | (with_reducible assumption) | (with_reducible refine below_drewN ?_ _) | (with_reducible refine Below.alloc ?_ ?_ _) | (with_reducible refine Below.drew ?_) | (with_reducible refine Below.setCell ?_ ?_ _) | go_size))⟩
end Go.Proofs.YtpecpeedefeokaaDoor
