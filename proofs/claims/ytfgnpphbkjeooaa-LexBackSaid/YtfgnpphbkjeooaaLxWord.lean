/- Layer 47: lex.word, lex.run, and the closure. -/
import Derived.Test.YtfgnpphbkjeooaaLxIn
import Derived.Laws.EntriesVeiled
namespace Go.Proofs.Ytfgnpphbkjeooaa
open Go.RowKit
set_option linter.unusedSimpArgs false
set_option linter.unusedVariables false
set_option maxHeartbeats 2000000 in
theorem word_at (l : List UInt8) (b k gs gf : Nat) (w : World) (hs : w.cell? ⟨gs, 0, none⟩ = some (.string ⟨l.toArray⟩)) (hf : w.cell? ⟨gf, 0, none⟩ = some (.int .i64 (b : Int))) (hk : k < l.length) (hl : l.length ≤ 3000) :
    Calls Try.prog 20 #[.int .i64 (k : Int), .pointer (some ⟨gs, 0, none⟩), .pointer (some ⟨gf, 0, none⟩)] w fun e w' => e = .returned (.bool (LX.goB l b k)) ∧ w' = w := by
  have hi1 := fun W => idx_atI (P := Try.prog) (t := 9) Try.underlying9 W hk
  have HW := Lib.hid (fun W => lex_isWord (l.getD k 0) W)
  have HG := Lib.hid (show LX.goB l b k = (LX.wordC (l.getD k 0) || (decide (l.getD k 0 = 45) && decide (b < k) && decide (l.getD (k - 1) 0 = 35))) from rfl)
  have hk62 : k ≤ 9223372036854775806 := by omega
  have HE := Lib.hid (fun (c d : UInt8) => (show (c.toNat : Int) = (d.toNat : Int) ↔ c = d from ⟨fun h => UInt8.toNat_inj.1 (by omega), fun h => by rw [h]⟩))
  have HX := Lib.hid (fun (hb : b < k) W => (show (Instr.index 9 (.string ⟨l.toArray⟩) (.int .i64 ((k : Int) - 1))).run Try.prog W = .ok (.int .u8 ((l.getD (k - 1) 0).toNat : Int)) W by
    have h1 := idx_atI (P := Try.prog) (t := 9) Try.underlying9 W (show k - 1 < l.length by omega)
    rwa [show ((k - 1 : Nat) : Int) = (k : Int) - 1 by omega] at h1))
  obtain ⟨Z, hZ⟩ : ∃ Z, LX.goB l b k = Z := ⟨_, rfl⟩
  rw [hZ] at HG ⊢
  obtain ⟨S, hS⟩ : ∃ S : ByteArray, (⟨l.toArray⟩ : ByteArray) = S := ⟨_, rfl⟩
  rw [hS] at hs hi1 HX
  obtain ⟨c, hc⟩ : ∃ c, l.getD k 0 = c := ⟨_, rfl⟩
  rw [hc] at hi1 HW HG
  obtain ⟨d, hd⟩ : ∃ d, l.getD (k - 1) 0 = d := ⟨_, rfl⟩
  rw [hd] at HX HG
  have H45 := Lib.hid (HE.out c 45)
  have H35 := Lib.hid (HE.out d 35)
  clear hZ hS hc hd hk hl HE
  cases hw : LX.wordC c
  case true =>
    have HZ := Lib.hid (show Z = true by rw [HG.out, hw]; rfl)
    rw [hw] at HW
    clear hw
    obtain ⟨cn, hcn⟩ : ∃ n : Int, (c.toNat : Int) = n := ⟨_, rfl⟩
    rw [hcn] at hi1 HW
    clear hcn
    go_enter Try.func20, Try.ntmps20
    go_wp2_with fail
    refine (HW.out _).mono ?_; rintro e w1 ⟨rfl, rfl⟩
    go_wp2_with fail
    go_ret
    exact ⟨by rw [HZ.out]; rfl, rfl⟩
  have HG := Lib.hid (show Z = (decide (c = 45) && decide (b < k) && decide (d = 35)) by rw [HG.out, hw]; rfl)
  rw [hw] at HW
  obtain ⟨cn, hcn⟩ : ∃ n : Int, (c.toNat : Int) = n := ⟨_, rfl⟩
  rw [hcn] at hi1 HW H45
  clear hcn hw
  by_cases h1 : c = 45
  case neg =>
    have q1 : (cn == 45) = false := by simpa using fun h => h1 (H45.out.1 (by rw [h]; rfl))
    have HZ := Lib.hid (show Z = false by rw [HG.out]; simp [h1])
    clear h1
    go_enter Try.func20, Try.ntmps20
    go_wp2_with fail
    refine (HW.out _).mono ?_; rintro e w1 ⟨rfl, rfl⟩
    go_wp2_with fail
    go_ret
    exact ⟨by rw [HZ.out]; rfl, rfl⟩
  have q1 : (cn == 45) = true := by simpa using H45.out.2 h1
  by_cases h2 : b < k
  case neg =>
    have q2 : ((b : Int) < (k : Int)) = False := eq_false (by omega)
    have q2' : (b < k) = False := eq_false h2
    have HZ := Lib.hid (show Z = false by rw [HG.out]; simp [h2])
    clear h1 h2
    go_enter Try.func20, Try.ntmps20
    go_wp2_with fail
    refine (HW.out _).mono ?_; rintro e w1 ⟨rfl, rfl⟩
    go_wp2_with fail
    go_ret
    exact ⟨by rw [HZ.out]; rfl, rfl⟩
  have q2 : ((b : Int) < (k : Int)) = True := eq_true (by omega)
  have q2' : (b < k) = True := eq_true h2
  have hi2 := HX.out h2
  have hwr : wrap64 ((k : Int) - 1) = (k : Int) - 1 := by unfold wrap64; omega
  obtain ⟨dn, hdn⟩ : ∃ n : Int, (d.toNat : Int) = n := ⟨_, rfl⟩
  rw [hdn] at hi2 H35
  clear hdn
  by_cases h3 : d = 35
  · have q3 : (dn == 35) = true := by simpa using H35.out.2 h3
    have HZ := Lib.hid (show Z = true by rw [HG.out]; simp [h1, h2, h3])
    clear h1 h2 h3
    go_enter Try.func20, Try.ntmps20
    go_wp2_with fail
    refine (HW.out _).mono ?_; rintro e w1 ⟨rfl, rfl⟩
    go_wp2_with fail
    go_ret
    exact ⟨by rw [HZ.out]; rfl, rfl⟩
  · have q3 : (dn == 35) = false := by simpa using fun h => h3 (H35.out.1 (by rw [h]; rfl))
    have HZ := Lib.hid (show Z = false by rw [HG.out]; simp [h3])
    clear h1 h2 h3
    go_enter Try.func20, Try.ntmps20
    go_wp2_with fail
    refine (HW.out _).mono ?_; rintro e w1 ⟨rfl, rfl⟩
    go_wp2_with fail
    go_ret
    exact ⟨by rw [HZ.out]; rfl, rfl⟩
set_option maxHeartbeats 1000000 in
theorem lex_run (l : List UInt8) (b gs gf : Nat) (w : World) (hs : w.cell? ⟨gs, 0, none⟩ = some (.string ⟨l.toArray⟩)) (hf : w.cell? ⟨gf, 0, none⟩ = some (.int .i64 (b : Int))) (hb : b ≤ l.length) (hl : l.length ≤ 3000) :
    Calls Try.prog 19 #[.string ⟨l.toArray⟩, .int .i64 (b : Int), .func (.func 20) #[] #[.pointer (some ⟨gs, 0, none⟩), .pointer (some ⟨gf, 0, none⟩)]] w fun e w' => e = .returned (.int .i64 (LX.wordE l b : Nat)) ∧ w' = w := by
  have HP := Lib.hid (fun (k : Nat) (hk : k < l.length) => word_at l b k gs gf w hs hf hk hl)
  obtain ⟨N, hN⟩ : ∃ N, l.length = N := ⟨_, rfl⟩
  have HN := Lib.hid hN
  have hlen : (⟨l.toArray⟩ : ByteArray).size = N := by rw [← hN]; exact List.size_toArray
  obtain ⟨S, hS⟩ : ∃ S : ByteArray, (⟨l.toArray⟩ : ByteArray) = S := ⟨_, rfl⟩
  rw [hS] at hlen ⊢
  rw [hN] at hb hl
  clear hN hS hs hf
  obtain ⟨Z, hZ⟩ : ∃ Z, LX.wordE l b = Z := ⟨_, rfl⟩
  have HZ := Lib.hid hZ
  rw [hZ]
  have HB := Lib.hid hb
  clear hZ
  go_enter Try.func19, Try.ntmps19
  go_wp2_with fail
  go_loopw [7] (fun jj wr => ∃ k : Nat, b ≤ k ∧ k ≤ N ∧ jj = .int .i64 k ∧ Hid (∀ i, b ≤ i → i < k → LX.goB l b i = true) ∧ wr = w) (fun jj _ => N - (intOf jj).toNat)
  case atStart => exact ⟨b, Nat.le_refl _, hb, rfl, Lib.hid (fun i h1 h2 => by omega), rfl⟩
  case round =>
    obtain ⟨k, hbk, hk, rfl, hT, hwr⟩ := hrel
    have hwr := hwr.symm
    subst hwr
    by_cases hlt : k < N
    case neg =>
      obtain rfl : k = N := by omega
      have qk : ((k : Int) < (k : Int)) = False := eq_false (by omega)
      have qk' : (k < k) = False := eq_false (by omega)
      have HE := Lib.hid (show Z = k by rw [← HZ.out]; exact LX.wordE_end hbk (by rw [HN.out]; exact Nat.le_refl _) (fun h => by have := h.1; rw [HN.out] at this; omega) hT.out)
      clear hT hlt hk hbk hb
      go_wp2_with fail
      go_ret
      exact ⟨by rw [HE.out]; rfl, rfl⟩
    have qk : ((k : Int) < (N : Int)) = True := eq_true (by omega)
    have qk' : (k < N) = True := eq_true hlt
    have hk62 : k ≤ 9223372036854775806 := by omega
    have HK := Lib.hid (And.intro hlt hbk)
    have HC := Lib.hid (HP.out k (by rw [HN.out]; exact hlt))
    cases hg : LX.goB l b k
    · have HE := Lib.hid (show Z = k by rw [← HZ.out]; exact LX.wordE_end hbk (by rw [HN.out]; exact hk) (fun h => by have := h.2; rw [hg] at this; cases this) hT.out)
      rw [hg] at HC
      clear hT hlt hk hbk hb hg
      go_wp2_with fail
      refine HC.out.mono ?_; rintro e w1 ⟨rfl, rfl⟩
      go_wp2_with fail
      go_ret
      exact ⟨by rw [HE.out]; rfl, rfl⟩
    · have HTk := Lib.hid (show ∀ i, b ≤ i → i < k + 1 → LX.goB l b i = true from fun i h1 h2 => by
        by_cases e : i = k
        · subst e; exact hg
        · exact hT.out i h1 (by omega))
      rw [hg] at HC
      clear hT hlt hk hbk hb hg
      go_wp2_with fail
      refine HC.out.mono ?_; rintro e w1 ⟨rfl, rfl⟩
      go_wp2_with fail
      go_roundw
      case rel => exact ⟨k + 1, by have := HK.out; omega, by have := HK.out; omega, by simp, HTk, trivial⟩
      case measure => have := HK.out; first | (simp [intOf]; done) | (simp [intOf]; omega)
theorem lex_word (l : List UInt8) (b : Nat) (w : World) (hb : b ≤ l.length) (hl : l.length ≤ 3000) :
    Calls Try.prog 11 #[.string ⟨l.toArray⟩, .int .i64 (b : Int)] w fun e w' => e = .returned (.int .i64 (LX.wordE l b : Nat)) ∧ Below w.heap.size w w' := by
  have hmf : ∀ (fn : Fn) (first cap : Array Value) (w : World), (Instr.makeFunc fn first cap).run Try.prog w = .ok (.func fn first cap) w := fun _ _ _ _ => rfl
  obtain ⟨W0, hW0⟩ : ∃ W, W = (w.alloc (.cells #[.string ⟨l.toArray⟩] 9)).alloc (.cells #[.int .i64 (b : Int)] 3) := ⟨_, rfl⟩
  have hb0 : Below w.heap.size w W0 := by rw [hW0]; exact by (repeat' (first | (with_reducible exact Below.refl _ _) | (with_reducible assumption) | (with_reducible refine below_drewN ?_ _) | (with_reducible refine Below.alloc ?_ ?_ _) | (with_reducible refine Below.drew ?_) | (with_reducible refine Below.setCell ?_ ?_ _) | go_size))
  have cA : W0.cell? ⟨w.heap.size, 0, none⟩ = some (.string ⟨l.toArray⟩) := by
    rw [hW0]
    exact (((Below.refl (w.alloc (.cells #[.string ⟨l.toArray⟩] 9)).heap.size _).alloc (Nat.le_refl _) _).cell (p := ⟨w.heap.size, 0, none⟩) (by simp)).trans (cell_new w _ _ _ 0 rfl)
  have cF : W0.cell? ⟨w.heap.size + 1, 0, none⟩ = some (.int .i64 (b : Int)) := by
    rw [hW0]
    simp
  have HR := Lib.hid (lex_run l b w.heap.size (w.heap.size + 1) W0 cA cF hb hl)
  have HB := Lib.hid hb0
  have HW := Lib.hid hW0
  obtain ⟨Z, hZ⟩ : ∃ Z, LX.wordE l b = Z := ⟨_, rfl⟩
  rw [hZ] at HR ⊢
  obtain ⟨S, hS⟩ : ∃ S : ByteArray, (⟨l.toArray⟩ : ByteArray) = S := ⟨_, rfl⟩
  rw [hS] at HR HW cA ⊢
  clear hb0 hW0 hZ hS hb hl
  go_enter Try.func11, Try.ntmps11
  go_wp2_with (first | (rw [← HW.out]; fail) | fail)
  rw [← HW.out]
  go_wp2_with fail
  refine HR.out.mono ?_; rintro e w1 ⟨rfl, rfl⟩
  go_wp2_with fail
  go_ret
  exact ⟨rfl, HB.out⟩
end Go.Proofs.Ytfgnpphbkjeooaa
