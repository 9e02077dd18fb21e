/- Layer 5: names that are unlike, as plain functions of lists; a map that counts. -/
import Derived.Test.YthammifbpdoggaaDoorIdItoa
import Derived.Maps.OwnOps
import Derived.Maps.Views
import Derived.Carry
import Derived.StringKeys
namespace Go.Proofs.YthammifbpdoggaaDoor
open Go.RowKit Go.Maps
set_option linter.unusedSimpArgs false
set_option linter.unusedVariables false
def nameL (s : List UInt8) (n : Nat) : List UInt8 := (s.take 12 ++ [95]) ++ Lib.decDigits n
def busyB (C O : List (List UInt8)) (s : List UInt8) (n : Nat) : Bool := O.contains (nameL s n) || C.contains (nameL s n)
def freeN (C O : List (List UInt8)) (s : List UInt8) : Nat := ((List.range 98).find? (fun n => decide (2 ≤ n) && !busyB C O s n)).getD 0
def uniqS (C O : List (List UInt8)) (s : List UInt8) : List (List UInt8) := O ++ [if O.contains s then nameL s (freeN C O s) else s]
def uniqK (L : List (List UInt8)) (k : Nat) : List (List UInt8) := ((L.map cleanL).take k).foldl (uniqS (L.map cleanL)) []
def uniqL (L : List (List UInt8)) : List (List UInt8) := uniqK L L.length
theorem name_inj {s : List UInt8} {i j : Nat} (hi : i < 100) (hj : j < 100) (h : nameL s i = nameL s j) : i = j := dec_inj hi hj (List.append_cancel_left h)
theorem name_len (s : List UInt8) {n : Nat} (hn : n < 100) : (nameL s n).length ≤ 15 := by
  have := dec_len hn
  unfold nameL
  simp
  omega
theorem free_spec {C O : List (List UInt8)} (s : List UInt8) (h : C.length + O.length ≤ 80) : 2 ≤ freeN C O s ∧ freeN C O s < 98 ∧ busyB C O s (freeN C O s) = false ∧ ∀ j, 2 ≤ j → j < freeN C O s → busyB C O s j = true := by
  unfold freeN
  cases hf : (List.range 98).find? (fun n => decide (2 ≤ n) && !busyB C O s n) with
  | none =>
    exfalso
    have hall := List.find?_eq_none.1 hf
    have hb : ∀ n, 2 ≤ n → n < 98 → nameL s n ∈ O ++ C := by
      intro n h1 h2
      have := hall n (List.mem_range.2 h2)
      simp [h1, busyB] at this
      rw [List.mem_append]
      exact Classical.or_iff_not_imp_left.2 this
    have hn : ((List.range 96).map fun i => nameL s (i + 2)).Nodup := by
      rw [List.nodup_iff_pairwise_ne, List.pairwise_map]
      refine List.Pairwise.imp_of_mem ?_ (List.nodup_iff_pairwise_ne.1 List.nodup_range)
      intro i j hi hj hij e
      have h1 := List.mem_range.1 hi
      have h2 := List.mem_range.1 hj
      have := name_inj (by omega) (by omega) e
      omega
    have hle := List.Nodup.length_le_of_subset hn (l₂ := O ++ C) (by
      intro x hx
      obtain ⟨i, hi, rfl⟩ := List.mem_map.1 hx
      exact hb _ (by omega) (by have := List.mem_range.1 hi; omega))
    simp at hle
    omega
  | some m =>
    obtain ⟨h1, h2, h3⟩ := List.find?_range_eq_some.1 hf
    have h2 := List.mem_range.1 h2
    simp at h1
    refine ⟨h1.1, h2, h1.2, fun j hj hlt => ?_⟩
    have := h3 j hlt
    simp [hj] at this
    exact this
theorem uniqS_len (C O : List (List UInt8)) (s : List UInt8) : (uniqS C O s).length = O.length + 1 := by unfold uniqS; simp
theorem uniqK_zero (L : List (List UInt8)) : uniqK L 0 = [] := rfl
theorem uniqK_succ {L : List (List UInt8)} {k : Nat} (h : k < L.length) : uniqK L (k + 1) = uniqS (L.map cleanL) (uniqK L k) (cleanL (L.getD k [])) := by
  unfold uniqK
  have hg : (L.map cleanL)[k]? = some (cleanL (L.getD k [])) := by simp [List.getElem?_eq_getElem h]
  rw [take_snoc hg, List.foldl_append]
  rfl
theorem uniqK_len (L : List (List UInt8)) : ∀ k, k ≤ L.length → (uniqK L k).length = k
  | 0, _ => rfl
  | k + 1, h => by rw [uniqK_succ h, uniqS_len, uniqK_len L k (by omega)]
/-- a map that counts the texts of a list -/
def CntMap (P : Program) (K E : TypeId) (w : World) (b n : Nat) (L : List (List UInt8)) : Prop :=
  ∃ D : DataW Unit, w.ownsMap P K (plainElem P E) b n D ∧ IsMap D ∧ ∀ x, D.atKey (.string x) (.lit (.int .i64 0)) = .lit (.int .i64 (L.count x : Int))
theorem CntMap.made (P : Program) (K E : TypeId) (w : World) : CntMap P K E (w.alloc (.map #[] 0)) w.heap.size 0 [] :=
  ⟨.map [], World.ownsMap_made _ _ _ _, isMap_empty, fun x => rfl⟩
theorem CntMap.put {P : Program} {K E : TypeId} {w : World} {b n : Nat} {L : List (List UInt8)} {D : DataW Unit} {x : List UInt8} {c : Int} (hI : IsMap D) (hat : ∀ x, D.atKey (.string x) (.lit (.int .i64 0)) = .lit (.int .i64 (L.count x : Int)))
    (hx : c = (L.count x : Int) + 1) (h : w.ownsMap P K (plainElem P E) b n (D.put (.string x) (.lit (.int .i64 c)))) : CntMap P K E w b n (L ++ [x]) := by
  refine ⟨_, h, hI.put _ _, fun y => ?_⟩
  by_cases hy : y = x
  · subst hy
    rw [atKey_put_same hI (by trivial), List.count_append, hx]
    simp
  · rw [atKey_put_other (fun e => hy (by injection e)), hat y, List.count_append]
    have : List.count y [x] = 0 := List.count_eq_zero.2 (fun h => hy (by simpa using h))
    rw [this]
    simp
theorem CntMap.kept {P : Program} {K E : TypeId} {w w' : World} {b n : Nat} {L : List (List UInt8)} {row : Option Nat} (h : CntMap P K E w b n L) (hg : w.grownBy w' row) (hne : some b ≠ row) : CntMap P K E w' b n L := by
  obtain ⟨D, h1, h2, h3⟩ := h
  exact ⟨D, h1.kept hg hne, h2, h3⟩
theorem grown_of_below {w w' : World} (h : Below w.heap.size w w') : w.grownBy w' none := ⟨h.os, h.tape, h.output, h.size, fun k hk _ => h.block k hk⟩
theorem CntMap.below {P : Program} {K E : TypeId} {w w' : World} {b n : Nat} {L : List (List UInt8)} (h : CntMap P K E w b n L) (hg : Below w.heap.size w w') : CntMap P K E w' b n L := h.kept (grown_of_below hg) (by simp)
theorem CntMap.look {P : Program} {K E t : TypeId} {w : World} {b n : Nat} {L : List (List UInt8)} (h : CntMap P K E w b n L) (hk : P.underlying K = some .string) (ht : P.underlying t = some (.map K E)) (he : P.underlying E = some (.int .i64))
    (hz : (zeroValue E).run P w = .ok (.int .i64 0) w) {s : ByteArray} {x : List UInt8} (hs : s = ⟨x.toArray⟩) (hl : x.length ≤ 1000000) : (Instr.lookup t (.map (some b)) (.string s) false).run P w = .ok (.int .i64 (L.count x : Int)) w := by
  obtain ⟨D, h1, h2, h3⟩ := h
  subst hs
  have hkey : keyOf P K (.string ⟨x.toArray⟩) = some (.string x) := WideMaps.keyOf_string_mk hk (s := ⟨x.toArray⟩) (by show x.toArray.size ≤ _; unfold maxLen; simp; omega)
  obtain ⟨c, hrun, hat, _⟩ := h1.lookup_int (string_keyed hk) ht he hz hkey
  rw [h3 x] at hat
  obtain rfl : (L.count x : Int) = c := by injection hat with e; injection e
  exact hrun
end Go.Proofs.YthammifbpdoggaaDoor
