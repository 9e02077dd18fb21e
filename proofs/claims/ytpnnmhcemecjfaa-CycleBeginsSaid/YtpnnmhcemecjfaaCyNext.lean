/- Layer 24: the next input. -/
import Derived.Test.YtpnnmhcemecjfaaCyMid
namespace Go.Proofs.Ytpnnmhcemecjfaa
open Go.RowKit
set_option linter.unusedSimpArgs false
set_option linter.unusedVariables false
theorem cell_set_ne {w : World} {g q o p : Nat} {v : Value} (h : g ≠ q) : (w.setCell ⟨g, o, none⟩ v).cell? ⟨q, p, none⟩ = w.cell? ⟨q, p, none⟩ := by
  unfold World.cell? World.setCell
  simp only [Array.getElem?_modify]
  rw [if_neg h]
theorem frozen_set_ne {w : World} {g q o p : Nat} {v : Value} (h : g ≠ q) : (w.setCell ⟨g, o, none⟩ v).frozen? ⟨q, p, none⟩ = w.frozen? ⟨q, p, none⟩ := by
  unfold World.frozen? World.setCell
  simp only [Array.getElem?_modify]
  rw [if_neg h]
theorem grown_set (w : World) (g o : Nat) (v : Value) : w.grownBy (w.setCell ⟨g, o, none⟩ v) (some g) :=
  ⟨rfl, rfl, rfl, by rw [set_size]; exact Nat.le_refl _, fun k hk hne => Below.heap_setCell _ _ _ _ (by intro h; exact hne (by rw [h]))⟩
theorem inAt_min {ins : List Int} {n : Nat} : inAt ins (min n ins.length) = inAt ins n := by
  by_cases h : n ≤ ins.length
  · rw [Nat.min_eq_left h]
  · rw [Nat.min_eq_right (by omega), inAt_past (Nat.le_refl _), inAt_past (by omega)]
theorem begF_now (vs : List Vr) (ins : List Int) (s : St) : ∀ i, (begF vs ins s i).1.now = s.now ∧ (begF vs ins s i).1.fault = s.fault
  | 0 => ⟨rfl, rfl⟩
  | i + 1 => by
    have ih := begF_now vs ins s i
    have hf : ∀ (s : St) (i : Nat) (t : Int) (n k : Nat), (fillTo s i t ins n k).now = s.now ∧ (fillTo s i t ins n k).fault = s.fault := by
      intro s i t n k
      induction k with
      | zero => exact ⟨rfl, rfl⟩
      | succ k ih => exact ih
    rw [begF]
    split
    · split
      · exact ⟨(hf _ _ _ _ _).1.trans ih.1, (hf _ _ _ _ _).2.trans ih.2⟩
      · exact ih
    · exact ih
theorem begS_now (vs : List Vr) (ins : List Int) (s : St) (dt : Int) : (begS vs ins s dt).now = laterF s.now dt ∧ (begS vs ins s dt).fault = s.fault := begF_now vs ins { s with now := laterF s.now dt } vs.length
set_option maxHeartbeats 2000000 in
theorem cycle_next (g gi : Nat) (iv : Value) (ins : List Int) (pos : Nat) (w0 w : World) (hc : w.cell? ⟨g, 0, none⟩ = some (.int .i64 pos)) (hf : w.frozen? ⟨g, 0, none⟩ = false) (hi : w.cell? ⟨gi, 0, none⟩ = some iv)
    (hr : RowR 1 intR w0 iv ins) (hb : Below w0.heap.size w0 w) (hg : w0.heap.size ≤ g) (hne : gi ≠ g) (hp : pos ≤ ins.length) (hlen : ins.length ≤ 300) :
    Calls Try.prog 20 #[.pointer (some ⟨g, 0, none⟩), .pointer (some ⟨gi, 0, none⟩)] w fun e w' => e = .returned (.int .i64 (inAt ins pos)) ∧ w'.cell? ⟨g, 0, none⟩ = some (.int .i64 ((min (pos + 1) ins.length : Nat) : Int)) ∧ w'.frozen? ⟨g, 0, none⟩ = false ∧ w.grownBy w' (some g) := by
  obtain ⟨sa, ca, rfl⟩ := row_get hr
  obtain ⟨N, hN⟩ : ∃ N, ins.length = N := ⟨_, rfl⟩
  have HN := Lib.hid hN
  rw [hN] at hp hlen hi hr ⊢
  clear hN
  by_cases hlt : pos < N
  · have q0 : ((N : Int) ≤ (pos : Int)) = False := eq_false (by omega)
    have HM := Lib.hid (show min (pos + 1) N = pos + 1 by omega)
    obtain ⟨b, off, rfl, hbw, hcc⟩ := ints_at hr (k := pos) (by have := HN.out; omega)
    obtain ⟨z, hz⟩ := get_some (L := ins) (n := pos) (by have := HN.out; omega)
    obtain ⟨c0, _⟩ := hcc pos z hz
    have HZ := Lib.hid (inAt_lt hz)
    have c1 := (hb.cell (p := ⟨b, off + pos, none⟩) hbw).trans c0
    have hbg : ¬ g = b := by omega
    have hgg : ¬ g = gi := fun h => hne h.symm
    have c2 : (w.setCell ⟨g, 0, none⟩ (.int .i64 ((pos : Int) + 1))).cell? ⟨b, off + pos, none⟩ = some (.int .i64 z) := (cell_set_ne hbg).trans c1
    have c3 : (w.setCell ⟨g, 0, none⟩ (.int .i64 ((pos : Int) + 1))).cell? ⟨gi, 0, none⟩ = some (.slice (some ⟨b, off, none⟩) N ca) := (cell_set_ne hgg).trans hi
    have c4 : (w.setCell ⟨g, 0, none⟩ (.int .i64 ((pos : Int) + 1))).cell? ⟨g, 0, none⟩ = some (.int .i64 ((pos : Int) + 1)) := World.cell?_setCell_same' _ _ _ (by rw [hc]; rfl)
    have HF := Lib.hid (show (w.setCell ⟨g, 0, none⟩ (.int .i64 ((pos : Int) + 1))).frozen? ⟨g, 0, none⟩ = false by simpa using hf)
    clear hcc hz c0 c1 hr
    go_enter Try.func20, Try.ntmps20
    go_wp2_with fail
    go_ret
    exact ⟨by rw [HZ.out]; rfl, by rw [HM.out]; exact c4, HF.out, grown_set _ _ _ _⟩
  · obtain rfl : pos = N := by omega
    have HM := Lib.hid (show min (pos + 1) pos = pos by omega)
    have HZ := Lib.hid (inAt_past (ins := ins) (n := pos) (by have := HN.out; omega))
    have hgg : ¬ g = gi := fun h => hne h.symm
    clear hr
    go_enter Try.func20, Try.ntmps20
    go_wp2_with fail
    go_ret
    exact ⟨by rw [HZ.out]; rfl, by rw [HM.out]; exact hc, hf, World.grownBy.refl _ _⟩
end Go.Proofs.Ytpnnmhcemecjfaa
