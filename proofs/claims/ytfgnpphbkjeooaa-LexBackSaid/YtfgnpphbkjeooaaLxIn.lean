/- Layer 47: is a byte one of some? By the library's search, and by the reference's loop. -/
import Derived.Test.YtfgnpphbkjeooaaLxIs
import Derived.Test.YtfgnpphbkjeooaaShelf
import Derived.Shelf.Small.Strs
import Derived.Shelf.Strings.Search3
namespace Go.Proofs.Ytfgnpphbkjeooaa
open Go.RowKit
set_option linter.unusedSimpArgs false
set_option linter.unusedVariables false
theorem idx_atI {P : Program} {t : TypeId} (ht : P.underlying t = some .string) {l : List UInt8} {k : Nat} (W : World) (h : k < l.length) : (Instr.index t (.string ⟨l.toArray⟩) (.int .i64 k)).run P W = .ok (.int .u8 ((l.getD k 0).toNat : Int)) W := by
  have h2 : 0 ≤ (k : Int) ∧ (k : Int) < ((⟨l.toArray⟩ : ByteArray).size : Int) := ⟨by omega, by rw [show (⟨l.toArray⟩ : ByteArray).size = l.length from List.size_toArray]; omega⟩
  rw [run_index_string W t _ _ _ ht, dif_pos h2]
  have h3 : (⟨l.toArray⟩ : ByteArray)[(k : Int).toNat]'(by have := h2.2; omega) = l.getD k 0 := by
    show l.toArray[(k : Int).toNat]'_ = _
    simp [List.getD, h]
  rw [h3]
theorem index_there : ∀ (l : List UInt8) (c : UInt8), decide (0 ≤ Lib.indexByte l c) = l.contains c
  | [], c => by simp [Lib.indexByte]
  | b :: l, c => by
    have ih := index_there l c
    have hg := Lib.indexByte_ge l c
    unfold Lib.indexByte
    rw [List.contains_cons]
    by_cases hb : b = c
    · subst hb; simp
    · have h1 : (b == c) = false := by simpa using hb
      have h2 : (c == b) = false := by simpa using fun h => hb h.symm
      rw [h1, h2, Bool.false_or, ← ih]
      simp only [Bool.false_eq_true, if_false]
      split
      · rename_i h; have h : Lib.indexByte l c = -1 := by simpa using h
        rw [h]
      · rename_i h; have h : Lib.indexByte l c ≠ -1 := by simpa using h
        apply decide_eq_decide.2
        omega
theorem lex_is (s : List UInt8) (c : UInt8) (w : World) : Calls Try.prog 10 #[.string ⟨s.toArray⟩, .int .u8 (c.toNat : Int)] w fun e w' => e = .returned (.bool (s.contains c)) ∧ w' = w := by
  have HI := Lib.hid (Any.strings_IndexByte Try.laysIndexByte ⟨s.toArray⟩ (c.toNat : Int) w)
  have HT := Lib.hid (index_there s c)
  have HC := Lib.hid (show ((c.toNat : Int)).toNat.toUInt8 = c by simp)
  obtain ⟨n, hn⟩ : ∃ n, (c.toNat : Int) = n := ⟨_, rfl⟩
  rw [hn] at HI HC ⊢
  rw [HC.out] at HI
  replace HI := Lib.hid (show Calls Try.prog 18 #[.string ⟨s.toArray⟩, .int .u8 n] w fun e w' => e = .returned (.int .i64 (Lib.indexByte s c)) ∧ w' = w from HI.out)
  obtain ⟨z, hz⟩ : ∃ z, Lib.indexByte s c = z := ⟨_, rfl⟩
  rw [hz] at HI HT
  clear hz hn
  by_cases h0 : 0 ≤ z
  · have q0 : (0 ≤ z) = True := eq_true h0
    have HZ := Lib.hid (show s.contains c = true by rw [← HT.out]; exact decide_eq_true h0)
    clear h0
    go_enter Try.func10, Try.ntmps10
    go_wp2_with fail
    refine HI.out.mono ?_; rintro e w1 ⟨rfl, rfl⟩
    go_wp2_with fail
    go_ret
    exact ⟨by rw [HZ.out]; rfl, rfl⟩
  · have q0 : (0 ≤ z) = False := eq_false h0
    have HZ := Lib.hid (show s.contains c = false by rw [← HT.out]; exact decide_eq_false h0)
    clear h0
    go_enter Try.func10, Try.ntmps10
    go_wp2_with fail
    refine HI.out.mono ?_; rintro e w1 ⟨rfl, rfl⟩
    go_wp2_with fail
    go_ret
    exact ⟨by rw [HZ.out]; rfl, rfl⟩
set_option maxHeartbeats 1000000 in
theorem ref47_in (s : List UInt8) (c : UInt8) (w : World) (hs : s.length ≤ 1000) : Calls Try.prog 14 #[.string ⟨s.toArray⟩, .int .u8 (c.toNat : Int)] w fun e w' => e = .returned (.bool (s.contains c)) ∧ ∃ m, w' = w.drewN m := by
  obtain ⟨N, hN⟩ : ∃ N, s.length = N := ⟨_, rfl⟩
  have HN := Lib.hid hN
  have hlen : (⟨s.toArray⟩ : ByteArray).size = N := by rw [← hN]; exact List.size_toArray
  have HIx := Lib.hid (fun (W : World) (k : Nat) (h : k < s.length) => idx_atI (P := Try.prog) (t := 9) Try.underlying9 W h)
  have HC := Lib.hid (show ∀ b : UInt8, (b.toNat : Int) = (c.toNat : Int) ↔ b = c from fun b => ⟨fun h => UInt8.toNat_inj.1 (by omega), fun h => by rw [h]⟩)
  obtain ⟨n, hn⟩ : ∃ n, (c.toNat : Int) = n := ⟨_, rfl⟩
  rw [hn] at HC ⊢
  obtain ⟨S, hS⟩ : ∃ S : ByteArray, (⟨s.toArray⟩ : ByteArray) = S := ⟨_, rfl⟩
  rw [hS] at hlen HIx ⊢
  rw [hN] at hs
  clear hN hn hS
  go_enter Try.func14, Try.ntmps14
  go_wp2_with fail
  go_loopw [5] (fun jj wr => ∃ k : Nat, k ≤ N ∧ jj = .int .i64 k ∧ Hid ((s.take k).contains c = false) ∧ ∃ m, wr = w.drewN m) (fun jj _ => N - (intOf jj).toNat)
  case atStart => exact ⟨0, by omega, rfl, Lib.hid (by simp), 0, rfl⟩
  case round =>
    obtain ⟨k, hk, rfl, hT, md, hwr⟩ := hrel
    by_cases hlt : k < N
    case neg =>
      obtain rfl : k = N := by omega
      have qk : ((k : Int) < (k : Int)) = False := eq_false (by omega)
      have qk' : (k < k) = False := eq_false (by omega)
      have HT := Lib.hid (show s.contains c = false by have h := hT.out; rwa [List.take_of_length_le (by rw [HN.out]; exact Nat.le_refl _)] at h)
      have HW := Lib.hid hwr
      clear hT hlt hk hwr
      go_wp2_with fail
      go_ret
      exact ⟨by rw [HT.out]; rfl, md, HW.out⟩
    have qk : ((k : Int) < (N : Int)) = True := eq_true (by omega)
    have qk' : (k < N) = True := eq_true hlt
    have hk62 : k ≤ 9223372036854775806 := by omega
    have HK := Lib.hid hlt
    have hi := fun W => HIx.out W k (by rw [HN.out]; exact hlt)
    obtain ⟨x, hx⟩ := get_some (L := s) (n := k) (by rw [HN.out]; exact hlt)
    have hxd : s.getD k 0 = x := by simp [List.getD, hx]
    have hcx := HC.out x
    rw [hxd] at hi
    have HTk := Lib.hid (show (s.take (k + 1)).contains c = (decide (x = c)) by
      rw [take_snoc hx]
      have h := hT.out
      simp only [List.contains_eq_mem, decide_eq_false_iff_not] at h ⊢
      apply decide_eq_decide.2
      rw [List.mem_append, List.mem_singleton]
      constructor
      · rintro (h1 | h1)
        · exact absurd h1 h
        · exact h1.symm
      · intro h1; exact Or.inr h1.symm)
    have HM := Lib.hid (List.mem_of_getElem? hx)
    have HW := Lib.hid hwr
    by_cases hxc : x = c
    · have q2 : ((x.toNat : Int) == n) = true := by simpa using hcx.2 hxc
      have HR := Lib.hid (show s.contains c = true by rw [List.contains_eq_mem, ← hxc]; exact decide_eq_true HM.out)
      clear hT hlt hk hwr hx hxd hcx hxc
      generalize (x.toNat : Int) = xn at *
      go_wp2_with fail
      go_ret
      exact ⟨by rw [HR.out]; rfl, md, HW.out⟩
    · have q2 : ((x.toNat : Int) == n) = false := by simpa using fun h => hxc (hcx.1 h)
      have HR := Lib.hid (show (s.take (k + 1)).contains c = false by rw [HTk.out]; exact decide_eq_false hxc)
      clear hT hlt hk hwr hx hxd hcx hxc
      generalize (x.toNat : Int) = xn at *
      go_wp2_with fail
      go_roundw
      case rel => exact ⟨k + 1, by have := HK.out; omega, by simp, HR, md, HW.out⟩
      case measure => have := HK.out; first | (simp [intOf]; done) | (simp [intOf]; omega)
end Go.Proofs.Ytfgnpphbkjeooaa
