/- slices.Sort and slices.Compact at []int, over a row of the call's own: out of the library's contracts. -/
import Derived.Test.YtmbnlihboilacaaShelf
import Derived.Test.YtmbnlihboilacaaOwnLow
import Derived.Test.YtmbnlihboilacaaClA
import Derived.Lib.OwnBridge
import Derived.Sort.OwnSortedInts
namespace Go.Proofs.Ytmbnlihboilacaa
open Go.RowKit Go.Sort
set_option linter.unusedSimpArgs false
set_option linter.unusedVariables false
theorem slices_Sort (v : Value) (l : List Int) (B : Nat) (e : TypeId) (w : World) (h : w.ownsRow B e 1 v l.length (iV l)) (hn : l.length < 4611686018427387904) :
    Calls Try.prog 16 #[v] w fun r w' => r = .returned (.tuple #[]) ∧ w'.ownsRow B e 1 v l.length (iV (CL.srt l)) ∧ w.grownBy w' v.ownBlock := by
  by_cases h0 : v = .slice none 0 0
  · subst h0
    have hl : l = [] := by
      rcases h.2 with ⟨_, h1⟩ | ⟨g, cap, cur, h1, _⟩
      · exact List.length_eq_zero_iff.1 h1
      · cases h1
    subst hl
    refine (Any.slices_Sort_int_none Try.laysSort none 0 w).mono ?_
    rintro r w' ⟨rfl, rfl⟩
    exact ⟨rfl, by have := World.ownsRow_nil w' B e 1; simpa [CL.srt, iV] using this, World.grownBy.refl _ _⟩
  · obtain ⟨g, cap, rfl, hbg, hgl, hncap, hcm, hlen, hH⟩ := Lib.holds_of_ownsRow h h0
    refine (Any.slices_Sort_int Try.laysSort g 0 cap l w hH hgl hn).mono ?_
    rintro r w' ⟨rfl, n, os, rfl⟩
    refine ⟨rfl, ?_, grownBy_sortedI _⟩
    rcases h.2 with ⟨e0, _⟩ | ⟨g', cap', cur, hv, hbase, hb, h1, h2, h3, h4⟩
    · cases e0
    cases hv
    exact ownsRow_sortedI (n := n) (os := os) (ss := l) (ts := CL.srt l) (CL.srt_len l) hbase hb h1 h2 h3
theorem compact_le (l : List Int) : (Lib.compact l).length ≤ l.length := by
  unfold Lib.compact Lib.compactUpTo
  rw [List.length_map]
  have := List.length_filter_le (Lib.keeps l.toArray) (List.range l.length)
  rwa [List.length_range] at this
theorem slices_Compact (v : Value) (l : List Int) (B : Nat) (e : TypeId) (w : World) (h : w.ownsRow B e 1 v l.length (iV l)) (hn : l.length ≤ 9223372036854775807) :
    Calls Try.prog 17 #[v] w fun r w' => ∃ u, r = .returned u ∧ w'.ownsRow B e 1 u (Lib.compact l).length (iV (Lib.compact l)) ∧ w.grownBy w' v.ownBlock ∧ (u.ownBlock = v.ownBlock) := by
  by_cases h0 : v = .slice none 0 0
  · subst h0
    have hl : l = [] := by
      rcases h.2 with ⟨_, h1⟩ | ⟨g, cap, cur, h1, _⟩
      · exact List.length_eq_zero_iff.1 h1
      · cases h1
    subst hl
    refine (Any.slices_Compact_int_empty Try.laysCompact none 0 w).mono ?_
    rintro r w' ⟨rfl, rfl⟩
    exact ⟨_, rfl, by have := World.ownsRow_nil w' B e 1; simpa [Lib.compact, Lib.compactUpTo, iV] using this, World.grownBy.refl _ _, rfl⟩
  · obtain ⟨g, cap, rfl, hbg, hgl, hncap, hcm, hlen, hH⟩ := Lib.holds_of_ownsRow h h0
    refine (Any.slices_Compact_int Try.laysCompact g 0 cap l w hH hn hncap).mono ?_
    rintro r w' ⟨rfl, q, rfl⟩
    have hle : (Lib.compact l).length ≤ l.length := compact_le l
    have hc := Lib.ownsRow_putRow (q := q) (k := (Lib.compact l).length) (ys := Lib.compact l ++ List.replicate (l.length - (Lib.compact l).length) 0) h (by simp; omega) (by omega)
    rw [List.take_left] at hc
    refine ⟨_, rfl, hc, ?_, rfl⟩
    exact ⟨rfl, rfl, rfl, by simp [putRow, mapBlock, Sort.ahead], fun k hk hne => by
      have : g ≠ k := fun e => hne (by rw [← e]; rfl)
      simp [putRow, mapBlock, Sort.ahead, Array.getElem?_modify, this]⟩
end Go.Proofs.Ytmbnlihboilacaa
