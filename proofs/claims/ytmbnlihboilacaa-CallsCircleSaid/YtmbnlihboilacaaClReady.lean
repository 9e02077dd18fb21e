/- calls.ready: the least unit that may be put next. -/
import Derived.Test.YtmbnlihboilacaaPlMap
import Derived.Test.YtmbnlihboilacaaClOf
import Derived.Test.YtmbnlihboilacaaGridOwn
import Derived.Laws.EntriesVeiled
namespace Go.Proofs.Ytmbnlihboilacaa
open Go.RowKit
set_option linter.unusedSimpArgs false
set_option linter.unusedVariables false
open CL (rdy readyF)
def there (out : List Nat) (x : Int) : Bool := decide (∃ u ∈ out, x = ((u : Nat) : Int))
theorem there_nat (out : List Nat) (u : Nat) : there out (u : Int) = out.contains u := by
  unfold there
  rw [List.contains_eq_mem]
  apply decide_eq_decide.2
  constructor
  · rintro ⟨z, hz, h⟩
    have : u = z := by omega
    rw [this]; exact hz
  · intro h; exact ⟨u, h, rfl⟩
theorem put_at (g b n : Nat) (out : List Nat) (x : Int) (w : World) (hc : w.cell? ⟨g, 0, none⟩ = some (.map (some b))) (hm : PlMap Try.prog 3 3 w b n out) (hx : I64 x) :
    Calls Try.prog 18 #[.int .i64 x, .pointer (some ⟨g, 0, none⟩)] w fun r w' => r = .returned (.bool (there out x)) ∧ w' = w := by
  obtain ⟨v, hl⟩ := hm.look Try.underlying3 Try.underlying42 Try.underlying3 (Try.zeroValue3 w) hx
  replace hl : (Instr.lookup 42 (.map (some b)) (.int .i64 x) true).run Try.prog w = .ok (.tuple #[v, .bool (there out x)]) w := hl
  generalize there out x = z at *
  clear hm hx
  go_enter Try.func18, Try.ntmps18
  go_wp2_with fail
  go_ret
  exact ⟨rfl, rfl⟩
theorem unput_at (f g b n : Nat) (out : List Nat) (x : Int) (w : World) (hf : w.cell? ⟨f, 0, none⟩ = some (.func (.func 18) #[] #[.pointer (some ⟨g, 0, none⟩)])) (hc : w.cell? ⟨g, 0, none⟩ = some (.map (some b))) (hm : PlMap Try.prog 3 3 w b n out) (hx : I64 x) :
    Calls Try.prog 20 #[.int .i64 x, .pointer (some ⟨f, 0, none⟩)] w fun r w' => r = .returned (.bool (!there out x)) ∧ w' = w := by
  have HP := Lib.hid (put_at g b n out x w hc hm hx)
  clear hc hm
  go_enter Try.func20, Try.ntmps20
  go_wp2_with fail
  refine HP.out.mono ?_; rintro r w2 ⟨rfl, rfl⟩
  go_wp2_with fail
  go_ret
  exact ⟨rfl, rfl⟩
set_option maxHeartbeats 1000000 in
theorem index_at (v : Value) (l : List Int) (f g b n : Nat) (out : List Nat) (w : World) (hv : RowR 1 intR w v l) (hf : w.cell? ⟨f, 0, none⟩ = some (.func (.func 18) #[] #[.pointer (some ⟨g, 0, none⟩)])) (hc : w.cell? ⟨g, 0, none⟩ = some (.map (some b))) (hm : PlMap Try.prog 3 3 w b n out) :
    Calls Try.prog 23 #[v, .func (.func 20) #[] #[.pointer (some ⟨f, 0, none⟩)]] w fun r w' => ∃ z : Int, r = .returned (.int .i64 z) ∧ decide (0 ≤ z) = l.any (fun x => !there out x) ∧ w' = w := by
  have HX := Lib.hid (fun x (hx : I64 x) => unput_at f g b n out x w hf hc hm hx)
  have hlen := hv.len
  have HV := Lib.hid hv
  obtain ⟨ad, cap, rfl⟩ := row_get hv
  obtain ⟨N, hN⟩ : ∃ N, l.length = N := ⟨_, rfl⟩
  have HN := Lib.hid hN
  rw [hN] at HV hlen ⊢
  clear hN hv hf hc hm
  go_enter Try.func23, Try.ntmps23
  go_wp2_with fail
  go_loopw [8] (fun jj wr => ∃ k : Nat, k ≤ N ∧ jj = .int .i64 k ∧ Hid ((l.take k).any (fun x => !there out x) = false) ∧ wr = w) (fun jj _ => N - (intOf jj).toNat)
  case atStart => exact ⟨0, by omega, rfl, Lib.hid rfl, rfl⟩
  case round =>
    obtain ⟨k, hk, rfl, hT, hwr⟩ := hrel
    have hwr := hwr.symm
    subst hwr
    by_cases hlt : k < N
    case neg =>
      obtain rfl : k = N := by omega
      have qk : ((k : Int) < (k : Int)) = False := eq_false (by omega)
      have qk' : (k < k) = False := eq_false (by omega)
      have HT := Lib.hid (show l.any (fun x => !there out x) = false by have h := hT.out; rwa [List.take_of_length_le (by rw [HN.out]; exact Nat.le_refl _)] at h)
      clear hT hlt hk
      go_wp2_with fail
      go_ret
      exact ⟨-1, rfl, by rw [HT.out]; rfl, rfl⟩
    have qk : ((k : Int) < (N : Int)) = True := eq_true (by omega)
    have qk' : (k < N) = True := eq_true hlt
    have hk62 : k ≤ 9223372036854775806 := by omega
    have HK := Lib.hid hlt
    obtain ⟨b2, off, hse, hb, h1, h2, hcl, hzi⟩ := int_at HV.out (k := k) (by rw [HN.out]; exact hlt)
    subst hse
    have HC := Lib.hid (HX.out _ hzi)
    have HTk := Lib.hid (show (l.take (k + 1)).any (fun x => !there out x) = !there out (l.getD k 0) by
      rw [List.take_add_one, List.any_append, hT.out, List.getElem?_eq_getElem (by rw [HN.out]; exact hlt)]
      simp [List.getD, List.getElem?_eq_getElem (show k < l.length by rw [HN.out]; exact hlt)])
    have HTa := Lib.hid (show there out (l.getD k 0) = false → l.any (fun x => !there out x) = true by
      intro h
      rw [List.any_eq_true]
      refine ⟨l.getD k 0, ?_, by rw [h]; rfl⟩
      have : l.getD k 0 = l[k]'(by rw [HN.out]; exact hlt) := by simp [List.getD, List.getElem?_eq_getElem (show k < l.length by rw [HN.out]; exact hlt)]
      rw [this]; exact List.getElem_mem _)
    generalize l.getD k 0 = x at *
    clear hzi hT hlt hk
    go_wp2_with fail
    refine HC.out.mono ?_; rintro r w2 ⟨rfl, rfl⟩
    cases ht : there out x
    · have HA := Lib.hid (HTa.out ht)
      clear ht
      go_wp2_with fail
      go_ret
      exact ⟨(k : Int), rfl, by rw [HA.out]; exact decide_eq_true (by omega), rfl⟩
    · rw [ht] at HTk
      clear ht
      go_wp2_with fail
      go_roundw
      case rel => exact ⟨k + 1, by have := HK.out; omega, by simp, Lib.hid HTk.out, by simp⟩
      case measure => have := HK.out; first | (simp [intOf]; done) | (simp [intOf]; omega)
theorem contains_at (v : Value) (l : List Int) (f g b n : Nat) (out : List Nat) (w : World) (hv : RowR 1 intR w v l) (hf : w.cell? ⟨f, 0, none⟩ = some (.func (.func 18) #[] #[.pointer (some ⟨g, 0, none⟩)])) (hc : w.cell? ⟨g, 0, none⟩ = some (.map (some b))) (hm : PlMap Try.prog 3 3 w b n out) :
    Calls Try.prog 19 #[v, .func (.func 20) #[] #[.pointer (some ⟨f, 0, none⟩)]] w fun r w' => r = .returned (.bool (l.any (fun x => !there out x))) ∧ w' = w := by
  have HX := Lib.hid (index_at v l f g b n out w hv hf hc hm)
  obtain ⟨Z, hZ⟩ : ∃ Z, l.any (fun x => !there out x) = Z := ⟨_, rfl⟩
  rw [hZ] at HX ⊢
  clear hf hc hm hv hZ
  go_enter Try.func19, Try.ntmps19
  go_wp2_with fail
  refine HX.out.mono ?_; rintro r w2 ⟨z, rfl, hz, rfl⟩
  by_cases h0 : 0 ≤ z
  · have q0 : (0 ≤ z) = True := eq_true h0
    have HZ := Lib.hid (show Z = true by rw [← hz]; exact decide_eq_true h0)
    clear h0 hz
    go_wp2_with fail
    go_ret
    exact ⟨by rw [HZ.out]; rfl, rfl⟩
  · have q0 : (0 ≤ z) = False := eq_false h0
    have HZ := Lib.hid (show Z = false by rw [← hz]; exact decide_eq_false h0)
    clear h0 hz
    go_wp2_with fail
    go_ret
    exact ⟨by rw [HZ.out]; rfl, rfl⟩
def optI : Option Nat → Int
  | none => -1
  | some u => (u : Int)
set_option maxRecDepth 100000 in
set_option maxHeartbeats 4000000 in
theorem calls_ready (v : Value) (C : List (List Nat)) (b n : Nat) (out : List Nat) (w : World) (hv : RowR 1 gridR w v (C.map nI)) (hn : C.length ≤ 100) (hm : PlMap Try.prog 3 3 w b n out) :
    Calls Try.prog 15 #[v, .map (some b)] w fun r w' => r = .returned (.int .i64 (optI (readyF C out))) ∧ Below w.heap.size w w' := by
  have hmf : ∀ (fn : Fn) (first cap : Array Value) (w : World), (Instr.makeFunc fn first cap).run Try.prog w = .ok (.func fn first cap) w := fun _ _ _ _ => rfl
  obtain ⟨W0, hW0⟩ : ∃ W, W = (w.alloc (.cells #[.map (some b)] 42)).alloc (.cells #[.func (.func 18) #[] #[.pointer (some ⟨w.heap.size, 0, none⟩)]] 47) := ⟨_, rfl⟩
  have hb0 : Below w.heap.size w W0 := by rw [hW0]; exact by (repeat' (first | (with_reducible exact Below.refl _ _) | (with_reducible assumption) | (with_reducible refine below_drewN ?_ _) | (with_reducible refine Below.alloc ?_ ?_ _) | (with_reducible refine Below.drew ?_) | (with_reducible refine Below.setCell ?_ ?_ _) | go_size))
  have oA : W0.heap[w.heap.size]? = some (.cells #[.map (some b)] 42) := by rw [hW0]; rw [get_past (by simp)]; exact get_last rfl
  have oF : W0.heap[w.heap.size + 1]? = some (.cells #[.func (.func 18) #[] #[.pointer (some ⟨w.heap.size, 0, none⟩)]] 47) := by rw [hW0]; exact get_last (by simp)
  have cA : W0.cell? ⟨w.heap.size, 0, none⟩ = some (.map (some b)) := obj_cell oA (i := 0) rfl
  have cF : W0.cell? ⟨w.heap.size + 1, 0, none⟩ = some (.func (.func 18) #[] #[.pointer (some ⟨w.heap.size, 0, none⟩)]) := obj_cell oF (i := 0) rfl
  have hm0 := hm.below hb0
  have hv0 := hv.below gridR_stable hb0
  have HP := Lib.hid (fun x hx => put_at w.heap.size b n out x W0 cA hm0 hx)
  have HC := Lib.hid (fun u (l : List Int) hu => contains_at u l (w.heap.size + 1) w.heap.size b n out W0 hu cF cA hm0)
  have HV := Lib.hid hv0
  have HB := Lib.hid hb0
  have HW := Lib.hid hW0
  obtain ⟨ad, cap, rfl⟩ := row_get hv
  have hcl : (C.map nI).length = C.length := by simp
  rw [hcl] at HV ⊢
  obtain ⟨N, hN⟩ : ∃ N, C.length = N := ⟨_, rfl⟩
  have HN := Lib.hid hN
  rw [hN] at HV hn ⊢
  have HF0 := Lib.hid (show readyF C out = (List.range N).find? (rdy C out) by unfold readyF; rw [hN])
  generalize readyF C out = F at *
  obtain ⟨Z, hZ⟩ : ∃ Z, optI F = Z := ⟨_, rfl⟩
  rw [hZ]
  have HZ := Lib.hid hZ
  clear hZ
  clear hN hv hv0 hm hm0 hb0 oA oF cA hW0 hcl
  go_enter Try.func15, Try.ntmps15
  go_wp2_with fail
  rw [← HW.out]
  go_loopw [11] (fun jj wr => ∃ k : Nat, k ≤ N ∧ jj = .int .i64 k ∧ Hid (F = ((List.range N).drop k).find? (rdy C out)) ∧ wr = W0) (fun jj _ => N - (intOf jj).toNat)
  case atStart => exact ⟨0, by omega, rfl, Lib.hid (by rw [HF0.out]; rfl), rfl⟩
  case round =>
    obtain ⟨k, hk, rfl, hT, hwr⟩ := hrel
    have hwr := hwr.symm
    subst hwr
    by_cases hlt : k < N
    case neg =>
      obtain rfl : k = N := by omega
      have qk : ((k : Int) < (k : Int)) = False := eq_false (by omega)
      have qk' : (k < k) = False := eq_false (by omega)
      have HT := Lib.hid (show Z = -1 by rw [← HZ.out, hT.out, List.drop_of_length_le (by simp)]; rfl)
      clear hT hlt hk
      go_wp2_with fail
      go_ret
      exact ⟨by rw [HT.out]; rfl, HB.out⟩
    have qk : ((k : Int) < (N : Int)) = True := eq_true (by omega)
    have qk' : (k < N) = True := eq_true hlt
    have hk62 : k ≤ 9223372036854775806 := by omega
    have HK := Lib.hid hlt
    obtain ⟨l, hl⟩ := get_some (L := C) (n := k) (by rw [HN.out]; exact hlt)
    obtain ⟨bn, on, sl, sc, hse, hbn, hnN, hcN, cn, hL⟩ := grid_at HV.out (k := k) (l := nI l) (by rw [List.getElem?_map, hl]; rfl)
    cases hse
    have HTk := Lib.hid (show (rdy C out k = true → Z = (k : Int)) ∧ (rdy C out k = false → F = ((List.range N).drop (k + 1)).find? (rdy C out)) by
      have h := hT.out
      rw [List.drop_eq_getElem_cons (by simpa using hlt), List.find?_cons] at h
      have e : (List.range N)[k]'(by simpa using hlt) = k := by simp
      rw [e] at h
      constructor
      · intro hr; rw [hr] at h; rw [← HZ.out, h]; rfl
      · intro hr; rw [hr] at h; exact h)
    have HRd := Lib.hid (show rdy C out k = (!there out (k : Int) && !(nI l).any (fun x => !there out x)) by
      unfold rdy
      rw [there_nat]
      congr 1
      have : C.getD k [] = l := by simp [List.getD, hl]
      rw [this]
      unfold nI
      rw [List.any_map, List.all_eq_not_any_not]
      congr 2
      funext x
      show (!out.contains x) = !there out (Int.ofNat x)
      rw [show Int.ofNat x = (x : Int) from rfl, there_nat])
    have HC1 := Lib.hid (HC.out _ _ hL)
    have HP1 := Lib.hid (HP.out (k : Int) (by unfold I64; omega))
    obtain ⟨Lr, hLr⟩ : ∃ L, (nI l).length = L := ⟨_, rfl⟩
    rw [hLr] at cn HC1
    generalize (nI l).any (fun x => !there out x) = za at *
    generalize there out (k : Int) = zt at *
    clear hL hT hlt hk hl hLr
    go_wp2_with fail
    refine HP1.out.mono ?_; rintro r w2 ⟨rfl, rfl⟩
    cases zt
    case true =>
      have HTn := Lib.hid (HTk.out.2 HRd.out)
      go_wp2_with fail
      go_roundw
      case rel => exact ⟨k + 1, by have := HK.out; omega, by simp, HTn, by simp⟩
      case measure => have := HK.out; first | (simp [intOf]; done) | (simp [intOf]; omega)
    case false =>
      go_wp2_with fail
      refine HC1.out.mono ?_; rintro r w2 ⟨rfl, rfl⟩
      cases za
      case true =>
        have HTn := Lib.hid (HTk.out.2 HRd.out)
        go_wp2_with fail
        go_roundw
        case rel => exact ⟨k + 1, by have := HK.out; omega, by simp, HTn, by simp⟩
        case measure => have := HK.out; first | (simp [intOf]; done) | (simp [intOf]; omega)
      case false =>
        have HTn := Lib.hid (HTk.out.1 HRd.out)
        go_wp2_with fail
        go_ret
        exact ⟨by rw [HTn.out]; rfl, HB.out⟩
end Go.Proofs.Ytmbnlihboilacaa
