/- Layer 3: the reference's reader: Take. -/
import Derived.Test.YtdpcfcflcfjmjaaRefReader
namespace Go.Proofs.Ytdpcfcflcfjmjaa
open Go.RowKit
set_option linter.unusedSimpArgs false
set_option linter.unusedVariables false
theorem set_two {w : World} {g : Nat} {C : Array Value} {t : TypeId} {fr : Nat × Nat} (h : w.heap[g]? = some (.cells C t fr)) (i j : Nat) (u v : Value) :
    ((w.setCell ⟨g, i, none⟩ u).setCell ⟨g, j, none⟩ v).heap[g]? = some (.cells ((C.setIfInBounds i u).setIfInBounds j v) t fr) ∧ w.grownBy ((w.setCell ⟨g, i, none⟩ u).setCell ⟨g, j, none⟩ v) (some g) := by
  obtain ⟨k1, k2⟩ := set_at h i u 0
  obtain ⟨l1, l2⟩ := set_at k1 j v 0
  exact ⟨l1, grown_grown k2 l2⟩
theorem byteV_drop (L : List UInt8) (n i : Nat) : byteV (L.drop n) i = byteV L (n + i) := by simp [byteV, List.getD]
theorem byteV_take {L : List UInt8} {m i : Nat} (h : i < m) : byteV (L.take m) i = byteV L i := by simp [byteV, List.getD, h]
theorem ref_Take_ok (g q : Nat) (L : List UInt8) (n m : Nat) (w : World) (h : RfAt w g q L n false) (hm : n + m ≤ L.length) :
    Calls Try.prog 54 #[.pointer (some ⟨g, 0, none⟩), .int .i64 (m : Int)] w fun e w' => ∃ r, e = .returned r ∧ RowAt w' r m (byteV ((L.drop n).take m)) ∧ inBlk r q ∧ RfAt w' g q L (n + m) false ∧ w.grownBy w' (some g) := by
  obtain ⟨rv, hg, hr, hi, hq, hn, hL⟩ := h
  have c0 := cell_of hg 0 rfl
  have c1 := cell_of hg 1 rfl
  have c2 := cell_of hg 2 rfl
  have f0 := free_of hg 0
  have f1 := free_of hg 1
  have HG := Lib.hid hg
  have e1 : decide ((m : Int) < 0) = false := by simp
  have HI := Lib.hid hi
  clear hg hi
  rcases hr with ⟨p, cap, rfl, h0, hcn⟩ | ⟨b, off, cap, rfl, h1, h2, h3, h4, hc⟩
  · obtain rfl : m = 0 := by omega
    have HC := Lib.hid hcn
    clear hcn
    go_enter Try.func54, Try.ntmps54
    go_wp2_with fail
    go_ret
    obtain ⟨k1, k2⟩ := set_two HG.out 0 1 (.slice p 0 cap) (.int .i64 n)
    exact ⟨_, rfl, Or.inl ⟨_, _, rfl, rfl, HC.out⟩, HI.out, ⟨_, k1, Or.inl ⟨_, _, rfl, by omega, HC.out⟩, HI.out, hq, hm, hL⟩, k2⟩
  · have e2 : decide (((L.length - n : Nat) : Int) < m) = false := by simp; omega
    have e3 : ¬ (L.length - n < m) := by omega
    have e4 : (L.length - n) - m = L.length - (n + m) := by omega
    have HQ := Lib.hid (show b = q from HI.out _ _ _ rfl h1)
    have hlt : b < w.heap.size := h4
    have HX := Lib.hid (fun w' (hb : w.grownBy w' (some g)) i (hi : i < L.length - n) => (hb.cell (hc i hi) (by have := HQ.out; simp; omega)))
    have hcap3 : cap ≤ 9223372036854775807 := by unfold maxLen at h3; omega
    clear hc
    have HI2 := Lib.hid (fun o n c => (show inBlk (.slice (some ⟨b, o, none⟩) n c) q by intro a n' c' h _; have := HQ.out; injection h with h1; injection h1 with h1; subst h1; exact this))
    have HM := Lib.hid (fun w' (hb : w.grownBy w' (some g)) c (hc : m ≤ c) (hcl : c ≤ maxLen) => (show RowAt w' (.slice (some ⟨b, off, none⟩) m c) m (byteV ((L.drop n).take m)) by
      by_cases h0 : m = 0
      · subst h0; exact Or.inl ⟨_, _, rfl, rfl, fun h => by cases h⟩
      · exact Or.inr ⟨b, off, c, rfl, by omega, hc, hcl, Nat.lt_of_lt_of_le hlt hb.size, fun i hi => by rw [byteV_take hi]; exact HX.out w' hb i (by omega)⟩))
    have hcap : cap = m ∨ m < cap := by omega
    rcases hcap with rfl | hcap
    · go_enter Try.func54, Try.ntmps54
      go_wp2_with fail
      go_ret
      obtain ⟨k1, k2⟩ := set_two HG.out 0 1 (.slice (some ⟨b, off, none⟩) (L.length - (n + cap)) 0) (.int .i64 (n + cap))
      have e5 : L.length - (n + cap) = 0 := by omega
      exact ⟨_, rfl, HM.out _ k2 _ (Nat.le_refl _) h3, HI2.out _ _ _, ⟨_, by rw [← Int.natCast_add] at k1; exact k1, Or.inl ⟨_, 0, by rw [e5], e5, fun h => by cases h⟩, HI2.out _ _ _, hq, hm, hL⟩, k2⟩
    · have hcap2 : ¬ cap = m := by omega
      go_enter Try.func54, Try.ntmps54
      go_wp2_with fail
      go_ret
      obtain ⟨k1, k2⟩ := set_two HG.out 0 1 (.slice (some ⟨b, off + m, none⟩) (L.length - (n + m)) (cap - m)) (.int .i64 (n + m))
      refine ⟨_, rfl, HM.out _ k2 _ (by omega) (by omega), HI2.out _ _ _, ⟨_, by rw [← Int.natCast_add] at k1; exact k1, ?_, HI2.out _ _ _, hq, hm, hL⟩, k2⟩
      by_cases h0 : L.length - (n + m) = 0
      · rw [h0]; exact Or.inl ⟨_, _, rfl, rfl, fun h => by cases h⟩
      · exact Or.inr ⟨b, off + m, cap - m, rfl, by omega, by omega, by omega, Nat.lt_of_lt_of_le hlt k2.size, fun i hi => by rw [byteV_drop, Nat.add_assoc, Nat.add_assoc, ← byteV_drop]; exact HX.out _ k2 (m + i) (by omega)⟩
end Go.Proofs.Ytdpcfcflcfjmjaa
