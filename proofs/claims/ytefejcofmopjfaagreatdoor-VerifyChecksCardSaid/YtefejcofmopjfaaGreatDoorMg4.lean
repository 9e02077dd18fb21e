/- Merged texts: RowOwn, ChunkC, DeclH, UnPl, DeclAw, LawDeclLe, RefHead, RefCheck, SortC, ClOf, PlMap, ClReady, ClOrder, VfAs, VfHit, VfChk, VfFind, VfAll, VfR, RowMore, VfLaw, VfS, VfAw, VfRight, VfFacts. -/
import Derived.Test.YtefejcofmopjfaaGreatDoorOwn
import Derived.Test.YtefejcofmopjfaaGreatDoorMg0
import Derived.Test.YtefejcofmopjfaaGreatDoorMg1
import Derived.Laws.OwnMore
import Derived.Test.YtefejcofmopjfaaGreatDoorPgm
import Derived.Test.YtefejcofmopjfaaGreatDoorFewP
import Derived.Test.YtefejcofmopjfaaGreatDoorShelf
import Derived.Test.YtefejcofmopjfaaGreatDoorMg3
import Derived.Lib.OwnBridge
import Derived.Sort.OwnSortedInts
import Derived.Maps.OwnOps
import Derived.Maps.OwnSet
import Derived.Maps.Views
import Derived.Carry
import Derived.Laws.EntriesVeiled
import Derived.Test.YtefejcofmopjfaaGreatDoorRow
import Derived.LaidEql
import Derived.Stop.Asserts
import Derived.RowKitTokens
import Derived.Laws.CopyRow
import Derived.Laws.Rows
import Derived.LaidHandle
import Derived.Test.YtefejcofmopjfaaGreatDoorKeep
import Derived.Laws.CopyOwn
import Derived.Laws.Cover3
import Derived.BigRegion
import Derived.BigQuiet
import Derived.Test.YtefejcofmopjfaaGreatDoorRefsOne
import Derived.Test.YtefejcofmopjfaaGreatDoorMg2
import Derived.LoopTactic
import Derived.Deep.Cut
import Derived.Test.YtefejcofmopjfaaGreatDoorTabRFacts
/- Rows of the call's own, as what they read as: elements of q cells each. -/
namespace Go.Proofs.YtefejcofmopjfaaGreatDoor
open Go.RowKit
set_option linter.unusedSimpArgs false
set_option linter.unusedVariables false
theorem flat_len {α : Type} {enc : α → List Value} {q : Nat} (h : ∀ x, (enc x).length = q) : ∀ L : List α, (L.flatMap enc).length = L.length * q
  | [] => by simp
  | x :: t => by
    rw [List.flatMap_cons, List.length_append, h x, flat_len h t, List.length_cons, Nat.succ_mul]; omega
theorem flat_get {α : Type} {enc : α → List Value} {q : Nat} (h : ∀ x, (enc x).length = q) : ∀ (L : List α) (i j : Nat) (x : α), L[i]? = some x → j < q → (L.flatMap enc)[i * q + j]? = (enc x)[j]?
  | [], i, j, x, hx, _ => by simp at hx
  | y :: t, i, j, x, hx, hj => by
    rw [List.flatMap_cons]
    cases i with
    | zero =>
      obtain rfl : y = x := by simpa using hx
      rw [Nat.zero_mul, Nat.zero_add, List.getElem?_append_left (by rw [h]; exact hj)]
    | succ i =>
      rw [List.getElem?_append_right (by rw [h, Nat.succ_mul]; omega), h, ← flat_get h t i j x (by simpa using hx) hj]
      congr 1
      rw [Nat.succ_mul]; omega
theorem row_owned {α : Type} {enc : α → List Value} {q : Nat} {R : Rep α} {w : World} {B : Nat} {e : TypeId} {v : Value} {L : List α} (h : ∀ x, (enc x).length = q) (hv : w.ownsRow B e q v L.length (L.flatMap enc)) (hR : ∀ x ∈ L, R w (enc x) x) : RowR q R w v L := by
  obtain ⟨hl, hv⟩ := hv
  rcases hv with ⟨rfl, h0⟩ | ⟨g, cap, cur, rfl, hb, hg, h1, h2, h3, h4⟩
  · exact Or.inl ⟨none, 0, rfl, List.length_eq_zero_iff.1 h0, fun _ => rfl⟩
  · by_cases h0 : L.length = 0
    · exact Or.inl ⟨_, cap, by rw [h0], List.length_eq_zero_iff.1 h0, fun h => by cases h⟩
    · have hlt : g < w.heap.size := by
        by_cases hgl : g < w.heap.size
        · exact hgl
        · rw [Array.getElem?_eq_none (Nat.le_of_not_lt hgl)] at hg; cases hg
      refine Or.inr ⟨g, 0, cap, rfl, by omega, h1, h2, hlt, fun i x hx => ?_⟩
      refine ⟨enc x, h x, fun j u hu => ?_, hR x (List.mem_of_getElem? hx)⟩
      have hj : j < q := by rw [← h x]; exact lt_of_get hu
      have hi := lt_of_get hx
      have h5 := flat_get h L i j x hx hj
      have hij : i * q + j < L.length * q := by
        have : (i + 1) * q ≤ L.length * q := Nat.mul_le_mul_right q hi
        rw [Nat.succ_mul] at this
        omega
      rw [hu, ← h4, List.getElem?_take, if_pos hij] at h5
      unfold World.cell?
      rw [hg]
      simp only [Nat.zero_add]
      simpa using h5
end Go.Proofs.YtefejcofmopjfaaGreatDoor

/- Rows as chunks of cells: what is appended to a row of the call's own, whatever its elements are. -/
namespace Go.Proofs.YtefejcofmopjfaaGreatDoor
open Go.RowKit
set_option linter.unusedSimpArgs false
set_option linter.unusedVariables false
abbrev Chunk (q : Nat) := {c : List Value // c.length = q}
def flatC {q : Nat} (CH : List (Chunk q)) : List Value := CH.flatMap Subtype.val
theorem flatC_len {q : Nat} (CH : List (Chunk q)) : (flatC CH).length = CH.length * q := flat_len (fun x => x.2) CH
theorem flatC_app {q : Nat} (A B : List (Chunk q)) : flatC (A ++ B) = flatC A ++ flatC B := by simp [flatC]
theorem flatC_one {q : Nat} (c : Chunk q) : flatC [c] = c.1 := by simp [flatC]
theorem flatC_at {q : Nat} (CH : List (Chunk q)) {k : Nat} {u : Value} (h : (flatC CH)[k]? = some u) : ∃ i j c, k = i * q + j ∧ j < q ∧ CH[i]? = some c ∧ c.1[j]? = some u := by
  have hk : k < CH.length * q := by rw [← flatC_len]; exact lt_of_get h
  have hq : 0 < q := by
    rcases Nat.eq_zero_or_pos q with rfl | h0
    · simp at hk
    · exact h0
  have hi : k / q < CH.length := Nat.div_lt_of_lt_mul (by rw [Nat.mul_comm]; exact hk)
  obtain ⟨c, hc⟩ := get_some hi
  have hkk : k = k / q * q + k % q := by rw [Nat.mul_comm]; exact (Nat.div_add_mod k q).symm
  have hr : k % q < q := Nat.mod_lt _ hq
  refine ⟨k / q, k % q, c, hkk, hr, hc, ?_⟩
  rw [← flat_get (enc := Subtype.val) (fun x => x.2) CH (k / q) (k % q) c hc hr, ← hkk]
  exact h
theorem row_chunks {α : Type} {q : Nat} {R : Rep α} {w : World} {v : Value} {L : List α} (h : RowR q R w v L) : ∃ CH : List (Chunk q), CH.length = L.length ∧ (∀ (i : Nat) (c : Chunk q) (x : α), CH[i]? = some c → L[i]? = some x → R w c.1 x) ∧ Src w v L.length (flatC CH) := by
  rcases h with ⟨a, cap, rfl, rfl, h⟩ | ⟨b, off, cap, h1, h2, h3, h4, h5, h6⟩
  · refine ⟨[], rfl, fun i c x hc => by simp at hc, ?_⟩
    cases a with
    | none => obtain rfl := h rfl; exact Or.inl ⟨rfl, rfl, rfl⟩
    | some ad => exact Or.inr ⟨ad, cap, rfl, fun j u hu => by simp [flatC] at hu⟩
  · obtain ⟨f, hf⟩ := Classical.axiomOfChoice (r := fun (i : Fin L.length) (C : List Value) => C.length = q ∧ (∀ j u, C[j]? = some u → w.cell? ⟨b, off + i.val * q + j, none⟩ = some u) ∧ R w C L[i]) (fun i => h6 i.val L[i] (by simp))
    refine ⟨List.ofFn (fun i => ⟨f i, (hf i).1⟩), by simp, fun i c x hc hx => ?_, Or.inr ⟨⟨b, off, none⟩, cap, h1, fun k u hu => ?_⟩⟩
    · have hi := lt_of_get hx
      have e1 : c = ⟨f ⟨i, hi⟩, (hf ⟨i, hi⟩).1⟩ := by simpa [hi] using hc.symm
      have e2 : L[(⟨i, hi⟩ : Fin L.length)] = x := by simpa [hi] using hx
      rw [e1, ← e2]
      exact (hf ⟨i, hi⟩).2.2
    · obtain ⟨i, j, c, rfl, hj, hc, hcu⟩ := flatC_at _ hu
      have hi : i < L.length := by have := lt_of_get hc; simpa using this
      have e1 : c = ⟨f ⟨i, hi⟩, (hf ⟨i, hi⟩).1⟩ := by simpa [hi] using hc.symm
      rw [e1] at hcu
      rw [add_at, ← Nat.add_assoc]
      exact (hf ⟨i, hi⟩).2.1 j u hcu
theorem row_conv {α β : Type} {q : Nat} {R : Rep α} {S : Rep β} {w : World} {v : Value} {L : List α} {M : List β} (h : RowR q R w v L) (hl : L.length = M.length) (hR : ∀ (i : Nat) (x : α) (y : β) (cs : List Value), L[i]? = some x → M[i]? = some y → R w cs x → S w cs y) : RowR q S w v M := by
  rcases h with ⟨a, cap, rfl, rfl, h⟩ | ⟨b, off, cap, h1, h2, h3, h4, h5, h6⟩
  · exact Or.inl ⟨a, cap, rfl, List.length_eq_zero_iff.1 hl.symm, h⟩
  · refine Or.inr ⟨b, off, cap, by rw [← hl]; exact h1, by omega, by omega, h4, h5, fun i y hy => ?_⟩
    obtain ⟨x, hx⟩ := get_some (L := L) (n := i) (by have := lt_of_get hy; omega)
    obtain ⟨C, g1, g2, g3⟩ := h6 i x hx
    exact ⟨C, g1, g2, hR i x y C hx hy g3⟩
theorem row_of_chunks {α : Type} {q : Nat} {R : Rep α} {w : World} {B : Nat} {e : TypeId} {v : Value} {n : Nat} {CH : List (Chunk q)} {L : List α} (hv : w.ownsRow B e q v n (flatC CH)) (hn : n = CH.length) (hl : CH.length = L.length) (hR : ∀ (i : Nat) (c : Chunk q) (x : α), CH[i]? = some c → L[i]? = some x → R w c.1 x) : RowR q R w v L := by
  subst hn
  exact row_conv (row_owned (enc := Subtype.val) (R := fun _ cs (c : Chunk q) => cs = c.1) (fun x => x.2) hv (fun _ _ => rfl)) hl (fun i x y cs hx hy e => by rw [e]; exact hR i x y hx hy)
theorem chunks_one {q : Nat} {CH : List (Chunk q)} (h : ∀ (i : Nat) (c : Chunk q), CH[i]? = some c → ∀ u ∈ c.1, u.oneCell' = true) : ∀ u ∈ flatC CH, u.oneCell' = true := by
  intro u hu
  obtain ⟨c, hc, hu⟩ := List.mem_flatMap.1 hu
  obtain ⟨i, hi, rfl⟩ := List.getElem_of_mem hc
  exact h i _ (by simp [hi]) u hu
theorem own_ne_type {w : World} {B : Nat} {e t : TypeId} {q n g : Nat} {u : Value} {xs : List Value} {C : Array Value} {fr : Nat × Nat} (h : w.ownsRow B e q u n xs) (hg : w.heap[g]? = some (.cells C t fr)) (hne : e ≠ t) : u.ownBlock ≠ some g := by
  intro hu
  rcases h.2 with ⟨h0, _⟩ | ⟨b, cap, cur, h0, _, h1, _⟩
  · rw [h0] at hu; simp [Value.ownBlock] at hu
  · rw [h0] at hu
    have : b = g := by simpa [Value.ownBlock] using hu
    subst this
    rw [hg] at h1
    simp at h1
    exact hne h1.2.1.symm
end Go.Proofs.YtefejcofmopjfaaGreatDoor

/- Layer 17: copies; what units take, and tell. -/
namespace Go.Proofs.YtefejcofmopjfaaGreatDoor
open Go.RowKit
set_option linter.unusedSimpArgs false
set_option linter.unusedVariables false
def sigR : Rep (List Int × Int) := fun w cs s => ∃ a, cs = [a, .int .i64 s.2] ∧ RowR 1 intR w a s.1
theorem sigR_stable : Stable sigR := fun _ _ _ _ ⟨a, h1, h2⟩ hb => ⟨a, h1, h2.below intR_stable hb⟩
def sigC (U : List Value) (us : List Un) : List (Chunk 2) := List.zipWith (fun u (x : Un) => ⟨[u, .int .i64 x.result], rfl⟩) U us
theorem sigC_snoc (U : List Value) (us : List Un) (u : Value) (x : Un) (h : U.length = us.length) : flatC (sigC (U ++ [u]) (us ++ [x])) = flatC (sigC U us) ++ [u, .int .i64 x.result] := by
  unfold sigC
  rw [List.zipWith_append h, flatC_app]
  simp [flatC]
end Go.Proofs.YtefejcofmopjfaaGreatDoor

/- Small programs, and how they lie in memory. -/
namespace Go.Proofs.YtefejcofmopjfaaGreatDoor
open Go.RowKit
set_option linter.unusedSimpArgs false
set_option linter.unusedVariables false
def un0 : Un := ⟨[], [], 0, [], []⟩
def un34 : Un := ⟨[], [], 0, [], [(34, 0, 0)]⟩
def pr34 : Pr := ⟨[], [], [], [un34]⟩
def prNo : Pr := ⟨[], [], [], []⟩
theorem row_un0 {w : World} {g : Nat} (h : w.heap[g]? = some (.cells #[.string ⟨#[]⟩, .slice none 0 0, .int .i64 0, .slice none 0 0, .slice none 0 0, .string ⟨#[]⟩, .slice none 0 0, .int .i64 0, .slice none 0 0, .slice none 0 0] 38)) : RowR 5 unitR w (.slice (some ⟨g, 0, none⟩) 2 2) [un0, un0] :=
  Or.inr ⟨g, 0, 2, rfl, by decide, by decide, by unfold maxLen; omega, heap_lt h, fun i x hx => by
    have hi : i < 2 := lt_of_get hx
    have hxe : x = un0 := by
      obtain rfl | rfl : i = 0 ∨ i = 1 := by omega
      all_goals exact (Option.some.inj hx).symm
    subst hxe
    refine ⟨[.string ⟨#[]⟩, .slice none 0 0, .int .i64 0, .slice none 0 0, .slice none 0 0], rfl, fun jj u hu => ?_, .slice none 0 0, .slice none 0 0, .slice none 0 0, rfl, ⟨row_none, row_none, row_none, by unfold sz un0; simp, by unfold I64 un0; simp⟩⟩
    have hjj : jj < 5 := lt_of_get hu
    obtain rfl | rfl : i = 0 ∨ i = 1 := by omega
    all_goals
      refine obj_cell h ?_
      obtain rfl | rfl | rfl | rfl | rfl : jj = 0 ∨ jj = 1 ∨ jj = 2 ∨ jj = 3 ∨ jj = 4 := by omega
      all_goals exact hu⟩
theorem row_un34 {w : World} {g c : Nat} (hc : w.heap[c]? = some (.cells #[.int .i64 34, .int .i64 0, .int .i64 0] 40)) (h : w.heap[g]? = some (.cells #[.string ⟨#[]⟩, .slice none 0 0, .int .i64 0, .slice none 0 0, .slice (some ⟨c, 0, none⟩) 1 1] 38)) : RowR 5 unitR w (.slice (some ⟨g, 0, none⟩) 1 1) [un34] :=
  Or.inr ⟨g, 0, 1, rfl, by decide, by decide, by unfold maxLen; omega, heap_lt h, fun i x hx => by
    have hi : i < 1 := lt_of_get hx
    obtain rfl : i = 0 := by omega
    have hxe : x = un34 := (Option.some.inj hx).symm
    subst hxe
    have hcode : RowR 3 insR w (.slice (some ⟨c, 0, none⟩) 1 1) [((34, 0, 0) : Ins)] := Or.inr ⟨c, 0, 1, rfl, by decide, by decide, by unfold maxLen; omega, heap_lt hc, fun i x hx => by
      have hi : i < 1 := lt_of_get hx
      obtain rfl : i = 0 := by omega
      have hxe : x = (34, 0, 0) := (Option.some.inj hx).symm
      subst hxe
      refine ⟨[.int .i64 34, .int .i64 0, .int .i64 0], rfl, fun jj u hu => ?_, rfl, show I64 (34 : Int) by unfold I64; omega, show I64 (0 : Int) by unfold I64; omega, show I64 (0 : Int) by unfold I64; omega⟩
      have hjj : jj < 3 := lt_of_get hu
      refine obj_cell hc ?_
      obtain rfl | rfl | rfl : jj = 0 ∨ jj = 1 ∨ jj = 2 := by omega
      all_goals exact hu⟩
    refine ⟨[.string ⟨#[]⟩, .slice none 0 0, .int .i64 0, .slice none 0 0, .slice (some ⟨c, 0, none⟩) 1 1], rfl, fun jj u hu => ?_, .slice none 0 0, .slice none 0 0, _, rfl, ⟨row_none, row_none, hcode, by unfold sz un34; simp, by unfold I64 un34; simp⟩⟩
    have hjj : jj < 5 := lt_of_get hu
    refine obj_cell h ?_
    obtain rfl | rfl | rfl | rfl | rfl : jj = 0 ∨ jj = 1 ∨ jj = 2 ∨ jj = 3 ∨ jj = 4 := by omega
    all_goals exact hu⟩
end Go.Proofs.YtefejcofmopjfaaGreatDoor

/- Layer 17: the program answers; shorter lists. -/
namespace Go.Proofs.YtefejcofmopjfaaGreatDoor
open Go.RowKit
set_option linter.unusedSimpArgs false
set_option linter.unusedVariables false
end Go.Proofs.YtefejcofmopjfaaGreatDoor

/- Layer 17: the walk of DeclLess. -/
namespace Go.Proofs.YtefejcofmopjfaaGreatDoor
open Go.RowKit
set_option linter.unusedSimpArgs false
set_option linter.unusedVariables false
end Go.Proofs.YtefejcofmopjfaaGreatDoor

/- Layer 17: a unit's head, by the answer. -/
namespace Go.Proofs.YtefejcofmopjfaaGreatDoor
open Go.RowKit
set_option linter.unusedSimpArgs false
set_option linter.unusedVariables false
theorem headS_len (P L : List Int) (r : Int) : (headS P L r).length = P.length + (if r = 0 then 0 else 1) + L.length := by
  unfold headS
  split <;> simp <;> omega
theorem headS_all (P L : List Int) (r : Int) : (headS P L r).all kRight = (P.all kRight && (r == 0 || kRight r) && L.all kRight) := by
  unfold headS
  by_cases h : r = 0
  · simp [h]
  · have h' : (r == 0) = false := by simpa using h
    rw [if_neg h, h']
    simp [Bool.and_assoc]
theorem headE_5 {P L : List Int} {r : Int} {m : Bool} (h : 8 < P.length ∨ 1024 < (headS P L r).length) : headE P L r m = 5 := by
  unfold headE
  have hu : (decide (P.length ≤ 8) && decide ((headS P L r).length ≤ 1024)) = false := by
    rcases h with h | h
    · rw [decide_eq_false (by omega)]; rfl
    · rw [decide_eq_false (p := (headS P L r).length ≤ 1024) (by omega)]; simp
  rw [first_cons1 _ _ (by rw [unless_no hu]; decide), unless_no hu]
theorem headE_10 {P L : List Int} {r : Int} {m : Bool} (h1 : P.length ≤ 8) (h2 : (headS P L r).length ≤ 1024) (h : P.all kRight = false ∨ (r == 0 || kRight r) = false ∨ L.all kRight = false) : headE P L r m = 10 := by
  unfold headE
  have hu : (decide (P.length ≤ 8) && decide ((headS P L r).length ≤ 1024)) = true := by rw [decide_eq_true h1, decide_eq_true h2]; rfl
  have ha : (headS P L r).all kRight = false := by
    rw [headS_all]
    rcases h with h | h | h <;> rw [h] <;> simp
  rw [first_cons0 _ _ (unless_yes hu), first_cons1 _ _ (by rw [all_no ha]; decide), all_no ha]
theorem headE_m {P L : List Int} {r : Int} {m : Bool} (h1 : P.length ≤ 8) (h2 : (headS P L r).length ≤ 1024) (h3 : P.all kRight = true) (h4 : (r == 0 || kRight r) = true) (h5 : L.all kRight = true) : headE P L r m = if m = true ∧ (0 < P.length ∨ r ≠ 0) then 10 else 0 := by
  unfold headE
  have hu : (decide (P.length ≤ 8) && decide ((headS P L r).length ≤ 1024)) = true := by rw [decide_eq_true h1, decide_eq_true h2]; rfl
  have ha : (headS P L r).all kRight = true := by rw [headS_all, h3, h4, h5]; rfl
  rw [first_cons0 _ _ (unless_yes hu), first_cons0 _ _ (all_yes ha)]
  unfold emptyN
  cases m
  · rfl
  · by_cases hp : P.length = 0
    · by_cases hr : r = 0
      · rw [if_neg (by omega), decide_eq_true hp, hr]; rfl
      · have hr' : (r == 0) = false := by simpa using hr
        rw [if_pos ⟨rfl, Or.inr hr⟩, hr']
        simp
        rfl
    · rw [if_pos ⟨rfl, Or.inl (by omega)⟩, decide_eq_false hp]
      rfl
theorem alls_no {α : Type} {f : α → Bool} {L : List α} {k : Nat} {x : α} (hx : L[k]? = some x) (h : f x = false) : L.all f = false := List.all_eq_false.2 ⟨x, List.mem_of_getElem? hx, by simp [h]⟩
set_option maxHeartbeats 8000000 in
theorem ref17_Head (pv lv : Value) (P L : List Int) (r : Int) (m : Bool) (w : World) (hp : RowR 1 intR w pv P) (hl : RowR 1 intR w lv L) (hp20 : P.length ≤ 20) (hl20 : L.length ≤ 1100) :
    Calls Tryz.prog 26 #[pv, .int .i64 r, lv, .bool m] w fun e w' => e = .returned (.int .i64 (headE P L r m)) ∧ w' = w := by
  have H5 := Lib.hid (@headE_5 P L r m)
  have H10 := Lib.hid (@headE_10 P L r m)
  have HM := Lib.hid (@headE_m P L r m)
  have hsl := headS_len P L r
  obtain ⟨sp, cp, rfl⟩ := row_get hp
  obtain ⟨sl, cl, rfl⟩ := row_get hl
  obtain ⟨N, hN⟩ : ∃ n, P.length = n := ⟨_, rfl⟩
  obtain ⟨M, hM⟩ : ∃ n, L.length = n := ⟨_, rfl⟩
  obtain ⟨S, hS⟩ : ∃ n, (headS P L r).length = n := ⟨_, rfl⟩
  have HN := Lib.hid hN
  have HL := Lib.hid hM
  rw [hN] at hp hp20 H5 H10 HM hsl ⊢
  rw [hM] at hl hl20 hsl ⊢
  rw [hS] at H5 H10 HM hsl
  clear hN hM hS
  by_cases h8 : 8 < N
  · by_cases h0 : r = 0
    · subst h0
      have q1 : (8 < (N : Int)) = True := eq_true (by omega)
      have hE := Lib.hid (H5.out (Or.inl h8))
      go_enter Tryz.func26, Tryz.ntmps26
      go_wp2_with fail
      go_ret
      exact ⟨by rw [hE.out]; rfl, rfl⟩
    · have qr : (r != 0) = true := by simpa using h0
      have q1 : (8 < (N : Int)) = True := eq_true (by omega)
      have hE := Lib.hid (H5.out (Or.inl h8))
      go_enter Tryz.func26, Tryz.ntmps26
      go_wp2_with fail
      go_ret
      exact ⟨by rw [hE.out]; rfl, rfl⟩
  have q1 : (8 < (N : Int)) = False := eq_false (by omega)
  have hN8 : N ≤ 8 := by omega
  clear h8
  by_cases h0 : r = 0
  · subst h0
    have hS : S = N + M := by rw [if_pos rfl] at hsl; omega
    clear hsl
    by_cases h9 : 1024 < S
    · have q2 : (1024 < (N : Int) + (M : Int)) = True := eq_true (by omega)
      have hE := Lib.hid (H5.out (Or.inr h9))
      clear h9 hS
      go_enter Tryz.func26, Tryz.ntmps26
      go_wp2_with fail
      go_ret
      exact ⟨by rw [hE.out]; rfl, rfl⟩
    have q2 : (1024 < (N : Int) + (M : Int)) = False := eq_false (by omega)
    have hS4 : S ≤ 1024 := by omega
    have H10b := Lib.hid (H10.out hN8 hS4)
    have HMb := Lib.hid (HM.out hN8 hS4)
    clear H10 HM
    clear h9 hS
    go_enter Tryz.func26, Tryz.ntmps26
    go_wp2_with fail
    go_loopw [10] (fun jj wr => ∃ (k : Nat), k ≤ N ∧ jj = .int .i64 k ∧ Hid ((P.take k).all kRight = true) ∧ wr = w) (fun jj _ => N - (intOf jj).toNat)
    case atStart => exact ⟨0, by omega, rfl, Lib.hid (by simp), rfl⟩
    case round =>
      obtain ⟨k, hk, rfl, hall, rfl⟩ := hrel
      by_cases hlt : k < N
      · have qk : ((k : Int) < (N : Int)) = True := eq_true (by omega)
        obtain ⟨x, hx⟩ := get_some (L := P) (n := k) (by rw [HN.out]; exact hlt)
        obtain ⟨b, off, rfl, hbw, hc⟩ := ints_at hp (k := k) (by rw [HN.out]; exact hlt)
        obtain ⟨d0, _⟩ := hc k x hx
        have HT := Lib.hid (take_snoc hx)
        have HR := fun W => ref01_Right x W
        have HX := Lib.hid hx
        clear hc hx
        cases ho : kRight x
        · rw [ho] at HR
          have hE := Lib.hid (H10b.out (Or.inl (alls_no HX.out ho)))
          go_wp2_with fail
          refine (HR _).mono ?_; rintro e w2 ⟨rfl, rfl⟩
          go_wp2_with fail
          go_ret
          exact ⟨by rw [hE.out]; rfl, rfl⟩
        · rw [ho] at HR
          have hgood := Lib.hid (show (P.take (k + 1)).all kRight = true by rw [HT.out, List.all_append, hall.out]; simp [ho])
          go_wp2_with fail
          refine (HR _).mono ?_; rintro e w2 ⟨rfl, rfl⟩
          go_wp2_with fail
          go_roundw
          case rel => exact ⟨k + 1, by omega, by simp, hgood, by first | rfl | trivial⟩
          case measure => first | (simp [intOf]; done) | (simp [intOf]; omega)
      · obtain rfl : k = N := by omega
        have qk : ((k : Int) < (k : Int)) = False := eq_false (by omega)
        have hP := Lib.hid (show P.all kRight = true by have := hall.out; rwa [List.take_of_length_le (by rw [HN.out]; exact Nat.le_refl _)] at this)
        clear hall
        go_wp2_with fail
        go_loopw [11] (fun jj wr2 => ∃ (q : Nat), q ≤ M ∧ jj = .int .i64 q ∧ Hid ((L.take q).all kRight = true) ∧ wr2 = wr) (fun jj _ => M - (intOf jj).toNat)
        case atStart => exact ⟨0, by omega, rfl, Lib.hid (by simp), rfl⟩
        case round =>
          obtain ⟨q, hq, rfl, hal, rfl⟩ := hrel
          by_cases hqm : q < M
          · have qq : ((q : Int) < (M : Int)) = True := eq_true (by omega)
            obtain ⟨x, hx⟩ := get_some (L := L) (n := q) (by rw [HL.out]; exact hqm)
            obtain ⟨b, off, rfl, hbw, hc⟩ := ints_at hl (k := q) (by rw [HL.out]; exact hqm)
            obtain ⟨d0, _⟩ := hc q x hx
            have HT := Lib.hid (take_snoc hx)
            have HR := fun W => ref01_Right x W
            have HX := Lib.hid hx
            clear hc hx
            cases ho : kRight x
            · rw [ho] at HR
              have hE := Lib.hid (H10b.out (Or.inr (Or.inr (alls_no HX.out ho))))
              go_wp2_with fail
              refine (HR _).mono ?_; rintro e w2 ⟨rfl, rfl⟩
              go_wp2_with fail
              go_ret
              exact ⟨by rw [hE.out]; rfl, rfl⟩
            · rw [ho] at HR
              have hgood := Lib.hid (show (L.take (q + 1)).all kRight = true by rw [HT.out, List.all_append, hal.out]; simp [ho])
              go_wp2_with fail
              refine (HR _).mono ?_; rintro e w2 ⟨rfl, rfl⟩
              go_wp2_with fail
              go_roundw
              case rel => exact ⟨q + 1, by omega, by simp, hgood, by first | rfl | trivial⟩
              case measure => first | (simp [intOf]; done) | (simp [intOf]; omega)
          · obtain rfl : q = M := by omega
            have qq : ((q : Int) < (q : Int)) = False := eq_false (by omega)
            have hL := Lib.hid (show L.all kRight = true by have := hal.out; rwa [List.take_of_length_le (by rw [HL.out]; exact Nat.le_refl _)] at this)
            clear hal
            cases m
            · have hE := Lib.hid ((HMb.out hP.out rfl hL.out).trans (if_neg (fun h => by cases h.1)))
              go_wp2_with fail
              go_ret
              exact ⟨by rw [hE.out]; rfl, rfl⟩
            · by_cases h00 : 0 < k
              · have q3 : (0 < (k : Int)) = True := eq_true (by omega)
                have q3' : (0 < k) = True := eq_true h00
                have hE := Lib.hid ((HMb.out hP.out rfl hL.out).trans (if_pos ⟨rfl, Or.inl h00⟩))
                clear h00
                go_wp2_with fail
                go_ret
                exact ⟨by rw [hE.out]; rfl, rfl⟩
              · have q3 : (0 < (k : Int)) = False := eq_false (by omega)
                have q3' : (0 < k) = False := eq_false h00
                have hE := Lib.hid ((HMb.out hP.out rfl hL.out).trans (if_neg (fun h => h.2.elim h00 (fun g => g rfl))))
                clear h00
                go_wp2_with fail
                go_ret
                exact ⟨by rw [hE.out]; rfl, rfl⟩
  · have qr : (r != 0) = true := by simpa using h0
    have hS : S = N + M + 1 := by rw [if_neg h0] at hsl; omega
    clear hsl
    by_cases h9 : 1024 < S
    · have q2 : (1024 < (N : Int) + (M : Int) + 1) = True := eq_true (by omega)
      have hE := Lib.hid (H5.out (Or.inr h9))
      clear h9 hS
      go_enter Tryz.func26, Tryz.ntmps26
      go_wp2_with fail
      go_ret
      exact ⟨by rw [hE.out]; rfl, rfl⟩
    have q2 : (1024 < (N : Int) + (M : Int) + 1) = False := eq_false (by omega)
    have hS4 : S ≤ 1024 := by omega
    have H10b := Lib.hid (H10.out hN8 hS4)
    have HMb := Lib.hid (HM.out hN8 hS4)
    clear H10 HM
    clear h9 hS
    go_enter Tryz.func26, Tryz.ntmps26
    go_wp2_with fail
    go_loopw [10] (fun jj wr => ∃ (k : Nat), k ≤ N ∧ jj = .int .i64 k ∧ Hid ((P.take k).all kRight = true) ∧ wr = w) (fun jj _ => N - (intOf jj).toNat)
    case atStart => exact ⟨0, by omega, rfl, Lib.hid (by simp), rfl⟩
    case round =>
      obtain ⟨k, hk, rfl, hall, rfl⟩ := hrel
      by_cases hlt : k < N
      · have qk : ((k : Int) < (N : Int)) = True := eq_true (by omega)
        obtain ⟨x, hx⟩ := get_some (L := P) (n := k) (by rw [HN.out]; exact hlt)
        obtain ⟨b, off, rfl, hbw, hc⟩ := ints_at hp (k := k) (by rw [HN.out]; exact hlt)
        obtain ⟨d0, _⟩ := hc k x hx
        have HT := Lib.hid (take_snoc hx)
        have HR := fun W => ref01_Right x W
        have HX := Lib.hid hx
        clear hc hx
        cases ho : kRight x
        · rw [ho] at HR
          have hE := Lib.hid (H10b.out (Or.inl (alls_no HX.out ho)))
          go_wp2_with fail
          refine (HR _).mono ?_; rintro e w2 ⟨rfl, rfl⟩
          go_wp2_with fail
          go_ret
          exact ⟨by rw [hE.out]; rfl, rfl⟩
        · rw [ho] at HR
          have hgood := Lib.hid (show (P.take (k + 1)).all kRight = true by rw [HT.out, List.all_append, hall.out]; simp [ho])
          go_wp2_with fail
          refine (HR _).mono ?_; rintro e w2 ⟨rfl, rfl⟩
          go_wp2_with fail
          go_roundw
          case rel => exact ⟨k + 1, by omega, by simp, hgood, by first | rfl | trivial⟩
          case measure => first | (simp [intOf]; done) | (simp [intOf]; omega)
      · obtain rfl : k = N := by omega
        have qk : ((k : Int) < (k : Int)) = False := eq_false (by omega)
        have hP := Lib.hid (show P.all kRight = true by have := hall.out; rwa [List.take_of_length_le (by rw [HN.out]; exact Nat.le_refl _)] at this)
        clear hall
        go_wp2_with fail
        go_loopw [11] (fun jj wr2 => ∃ (q : Nat), q ≤ M ∧ jj = .int .i64 q ∧ Hid ((L.take q).all kRight = true) ∧ wr2 = wr) (fun jj _ => M - (intOf jj).toNat)
        case atStart => exact ⟨0, by omega, rfl, Lib.hid (by simp), rfl⟩
        case round =>
          obtain ⟨q, hq, rfl, hal, rfl⟩ := hrel
          by_cases hqm : q < M
          · have qq : ((q : Int) < (M : Int)) = True := eq_true (by omega)
            obtain ⟨x, hx⟩ := get_some (L := L) (n := q) (by rw [HL.out]; exact hqm)
            obtain ⟨b, off, rfl, hbw, hc⟩ := ints_at hl (k := q) (by rw [HL.out]; exact hqm)
            obtain ⟨d0, _⟩ := hc q x hx
            have HT := Lib.hid (take_snoc hx)
            have HR := fun W => ref01_Right x W
            have HX := Lib.hid hx
            clear hc hx
            cases ho : kRight x
            · rw [ho] at HR
              have hE := Lib.hid (H10b.out (Or.inr (Or.inr (alls_no HX.out ho))))
              go_wp2_with fail
              refine (HR _).mono ?_; rintro e w2 ⟨rfl, rfl⟩
              go_wp2_with fail
              go_ret
              exact ⟨by rw [hE.out]; rfl, rfl⟩
            · rw [ho] at HR
              have hgood := Lib.hid (show (L.take (q + 1)).all kRight = true by rw [HT.out, List.all_append, hal.out]; simp [ho])
              go_wp2_with fail
              refine (HR _).mono ?_; rintro e w2 ⟨rfl, rfl⟩
              go_wp2_with fail
              go_roundw
              case rel => exact ⟨q + 1, by omega, by simp, hgood, by first | rfl | trivial⟩
              case measure => first | (simp [intOf]; done) | (simp [intOf]; omega)
          · obtain rfl : q = M := by omega
            have qq : ((q : Int) < (q : Int)) = False := eq_false (by omega)
            have hL := Lib.hid (show L.all kRight = true by have := hal.out; rwa [List.take_of_length_le (by rw [HL.out]; exact Nat.le_refl _)] at this)
            clear hal
            have HR := fun W => ref01_Right r W
            have h0' : (r == 0) = false := by simpa using h0
            cases ho : kRight r
            · rw [ho] at HR
              have hE := Lib.hid (H10b.out (Or.inr (Or.inl (by rw [h0', ho]; rfl))))
              go_wp2_with fail
              refine (HR _).mono ?_; rintro e w2 ⟨rfl, rfl⟩
              go_wp2_with fail
              go_ret
              exact ⟨by rw [hE.out]; rfl, rfl⟩
            rw [ho] at HR
            have hok : (r == 0 || kRight r) = true := by rw [ho]; simp
            have HOK := Lib.hid hok
            clear hok
            cases m
            · have hE := Lib.hid ((HMb.out hP.out HOK.out hL.out).trans (if_neg (fun h => by cases h.1)))
              go_wp2_with fail
              refine (HR _).mono ?_; rintro e w2 ⟨rfl, rfl⟩
              go_wp2_with fail
              go_ret
              exact ⟨by rw [hE.out]; rfl, rfl⟩
            · have hE := Lib.hid ((HMb.out hP.out HOK.out hL.out).trans (if_pos ⟨rfl, Or.inr h0⟩))
              by_cases h00 : 0 < k
              · have q3 : (0 < (k : Int)) = True := eq_true (by omega)
                have q3' : (0 < k) = True := eq_true h00
                clear h00
                go_wp2_with fail
                refine (HR _).mono ?_; rintro e w2 ⟨rfl, rfl⟩
                go_wp2_with fail
                go_ret
                exact ⟨by rw [hE.out]; rfl, rfl⟩
              · have q3 : (0 < (k : Int)) = False := eq_false (by omega)
                have q3' : (0 < k) = False := eq_false h00
                clear h00
                go_wp2_with fail
                refine (HR _).mono ?_; rintro e w2 ⟨rfl, rfl⟩
                go_wp2_with fail
                go_ret
                exact ⟨by rw [hE.out]; rfl, rfl⟩
end Go.Proofs.YtefejcofmopjfaaGreatDoor

/- Layer 17: a program's declarations, by the answer. -/
namespace Go.Proofs.YtefejcofmopjfaaGreatDoor
open Go.RowKit
set_option linter.unusedSimpArgs false
set_option linter.unusedVariables false
theorem checkE_5 {p : Pr} (h : p.units.length < 1 ∨ 8 < p.units.length ∨ 64 < p.vars.length ∨ 32 < p.blocks.length) : checkE p = 5 := by
  unfold checkE
  by_cases h1 : p.units.length < 1 ∨ 8 < p.units.length
  · have hu : (decide (0 < p.units.length) && decide (p.units.length ≤ 8)) = false := by
      simp only [Bool.and_eq_false_iff, decide_eq_false_iff_not]; omega
    rw [first_cons1 _ _ (by rw [unless_no hu]; decide), unless_no hu]
  · have hu : (decide (0 < p.units.length) && decide (p.units.length ≤ 8)) = true := by
      simp only [Bool.and_eq_true, decide_eq_true_eq]; omega
    have hv : (decide (p.consts.length ≤ 1024) && (decide (p.vars.length ≤ 64) && decide (p.blocks.length ≤ 32))) = false := by
      simp only [Bool.and_eq_false_iff, decide_eq_false_iff_not]; omega
    rw [first_cons0 _ _ (unless_yes hu), first_cons1 _ _ (by rw [unless_no hv]; decide), unless_no hv]
theorem checkE_rest {p : Pr} (h : ¬ (p.units.length < 1 ∨ 8 < p.units.length ∨ 64 < p.vars.length ∨ 32 < p.blocks.length)) (hc : p.consts.length ≤ 1024) : checkE p = firstE [allE (p.consts.all fun x => kIn x.1 x.2), tablesE p.vars p.blocks, firstE (unitsL p.units)] := by
  unfold checkE
  have hu : (decide (0 < p.units.length) && decide (p.units.length ≤ 8)) = true := by
    simp only [Bool.and_eq_true, decide_eq_true_eq]; omega
  have hv : (decide (p.consts.length ≤ 1024) && (decide (p.vars.length ≤ 64) && decide (p.blocks.length ≤ 32))) = true := by
    simp only [Bool.and_eq_true, decide_eq_true_eq]; omega
  rw [first_cons0 _ _ (unless_yes hu), first_cons0 _ _ (unless_yes hv)]
theorem rest_10 {b : Bool} {t u : Int} (h : b = false) : firstE [allE b, t, u] = 10 := by rw [first_cons1 _ _ (by rw [all_no h]; decide), all_no h]
theorem rest_t {b : Bool} {t u : Int} (h : b = true) (ht : t ≠ 0) : firstE [allE b, t, u] = t := by rw [first_cons0 _ _ (all_yes h), first_cons1 _ _ ht]
theorem rest_u {b : Bool} {t u : Int} (h : b = true) (ht : t = 0) : firstE [allE b, t, u] = u := by
  rw [first_cons0 _ _ (all_yes h), first_cons0 _ _ ht]
  by_cases hu : u = 0
  · subst hu; rfl
  · rw [first_cons1 _ _ hu]
theorem kIn_right {t v : Int} (h : kRight t = false) : kIn t v = false := by unfold kIn; rw [h]; rfl
set_option maxHeartbeats 8000000 in
theorem ref17_Check (pa pb pc pd : Value) (p : Pr) (w : World) (hp : PrAt w pa pb pc pd p) (hf : fewP p = true) :
    Calls Tryz.prog 13 #[.agg #[pa, pb, pc, pd]] w fun e w' => e = .returned (.int .i64 (checkE p)) ∧ Below w.heap.size w w' := by
  have hf' := of_decide_eq_true hf
  have hfu := hf'.2.2.2
  obtain ⟨f1, f2, f3, f4⟩ := hf'.1
  clear hf hf'
  have HC5 := Lib.hid (@checkE_5 p)
  have HCr := Lib.hid (@checkE_rest p)
  obtain ⟨sa, ca, rfl⟩ := row_get hp.cs
  obtain ⟨sb, cb, rfl⟩ := row_get hp.vs
  obtain ⟨sc, cc, rfl⟩ := row_get hp.bs
  obtain ⟨sd, cd, rfl⟩ := row_get hp.us
  obtain ⟨hcs, hvs, hbs, hus⟩ := hp
  obtain ⟨n0, e0⟩ : ∃ n, p.consts.length = n := ⟨_, rfl⟩
  obtain ⟨n1, e1⟩ : ∃ n, p.vars.length = n := ⟨_, rfl⟩
  obtain ⟨n2, e2⟩ : ∃ n, p.blocks.length = n := ⟨_, rfl⟩
  obtain ⟨n3, e3⟩ : ∃ n, p.units.length = n := ⟨_, rfl⟩
  have HL0 := Lib.hid e0
  have HL3 := Lib.hid e3
  rw [e0] at f1 hcs HCr ⊢
  rw [e1] at f2 hvs HC5 HCr ⊢
  rw [e2] at f3 hbs HC5 HCr ⊢
  rw [e3] at f4 hus HC5 HCr ⊢
  clear e0 e1 e2 e3
  obtain ⟨W1, hW1⟩ : ∃ W1, W1 = w.alloc (.cells #[.slice sa n0 ca, .slice sb n1 cb, .slice sc n2 cc, .slice sd n3 cd] 27) := ⟨_, rfl⟩
  have hb : Below w.heap.size w W1 := by rw [hW1]; exact by (repeat' (first | (with_reducible exact Below.refl _ _) | (with_reducible assumption) | (with_reducible refine below_drewN ?_ _) | (with_reducible refine Below.alloc ?_ ?_ _) | (with_reducible refine Below.drew ?_) | (with_reducible refine Below.setCell ?_ ?_ _) | go_size))
  have hz : W1.heap.size = w.heap.size + 1 := by rw [hW1]; simp
  have hj : W1.heap[w.heap.size]? = some (.cells #[.slice sa n0 ca, .slice sb n1 cb, .slice sc n2 cc, .slice sd n3 cd] 27) := by rw [hW1]; exact get_last rfl
  have zp := heap_lt hj
  have c0 := obj_cell hj (i := 0) rfl
  have c1 := obj_cell hj (i := 1) rfl
  have c2 := obj_cell hj (i := 2) rfl
  have c3 := obj_cell hj (i := 3) rfl
  have HB := Lib.hid hb
  have HJ := Lib.hid (fun W (h : Below W1.heap.size W1 W) => obj_below hj h zp)
  have HW1 := Lib.hid hW1
  clear hW1 hb hj
  have q0 : (1024 < (n0 : Int)) = False := eq_false (by omega)
  by_cases hx : n3 < 1
  · have p0 : ((n3 : Int) < 1) = True := eq_true (by omega)
    have p0' : (n3 < 1) = True := eq_true hx
    have hE := Lib.hid (HC5.out (Or.inl hx))
    clear hx
    go_enter Tryz.func13, Tryz.ntmps13
    go_upto_region 1 with fail
    rw [← HW1.out]
    go_wp2_with fail
    go_ret
    exact ⟨by rw [hE.out]; rfl, HB.out⟩
  have p0 : ((n3 : Int) < 1) = False := eq_false (by omega)
  have p0' : (n3 < 1) = False := eq_false hx
  have hx0 := hx
  clear hx
  by_cases hx : 8 < n3
  · have p1 : (8 < (n3 : Int)) = True := eq_true (by omega)
    have p1' : (8 < n3) = True := eq_true hx
    have hE := Lib.hid (HC5.out (Or.inr (Or.inl hx)))
    clear hx
    go_enter Tryz.func13, Tryz.ntmps13
    go_upto_region 1 with fail
    rw [← HW1.out]
    go_wp2_with fail
    go_ret
    exact ⟨by rw [hE.out]; rfl, HB.out⟩
  have p1 : (8 < (n3 : Int)) = False := eq_false (by omega)
  have p1' : (8 < n3) = False := eq_false hx
  have hx1 := hx
  clear hx
  by_cases hx : 64 < n1
  · have p2 : (64 < (n1 : Int)) = True := eq_true (by omega)
    have p2' : (64 < n1) = True := eq_true hx
    have hE := Lib.hid (HC5.out (Or.inr (Or.inr (Or.inl hx))))
    clear hx
    go_enter Tryz.func13, Tryz.ntmps13
    go_upto_region 1 with fail
    rw [← HW1.out]
    go_wp2_with fail
    go_ret
    exact ⟨by rw [hE.out]; rfl, HB.out⟩
  have p2 : (64 < (n1 : Int)) = False := eq_false (by omega)
  have p2' : (64 < n1) = False := eq_false hx
  have hx2 := hx
  clear hx
  by_cases hx : 32 < n2
  · have p3 : (32 < (n2 : Int)) = True := eq_true (by omega)
    have p3' : (32 < n2) = True := eq_true hx
    have hE := Lib.hid (HC5.out (Or.inr (Or.inr (Or.inr hx))))
    clear hx
    go_enter Tryz.func13, Tryz.ntmps13
    go_upto_region 1 with fail
    rw [← HW1.out]
    go_wp2_with fail
    go_ret
    exact ⟨by rw [hE.out]; rfl, HB.out⟩
  have p3 : (32 < (n2 : Int)) = False := eq_false (by omega)
  have p3' : (32 < n2) = False := eq_false hx
  have hx3 := hx
  clear hx
  have HR := Lib.hid (HCr.out (by omega) (by omega))
  clear HC5 HCr
  go_enter Tryz.func13, Tryz.ntmps13
  go_upto_region 1 with fail
  rw [← HW1.out]
  go_wp2_with fail
  go_loopw [3] (fun jj wr => ∃ (k : Nat), k ≤ n0 ∧ jj = .int .i64 k ∧ Hid ((p.consts.take k).all (fun x => kIn x.1 x.2) = true) ∧ Hid (Below W1.heap.size W1 wr)) (fun jj _ => n0 - (intOf jj).toNat)
  case atStart => exact ⟨0, by omega, rfl, Lib.hid (by simp), Lib.hid (Below.refl _ _)⟩
  case round =>
    obtain ⟨k, hk, rfl, hall, hB⟩ := hrel
    have hjr := HJ.out wr hB.out
    have c0 := obj_cell hjr (i := 0) rfl
    have c1 := obj_cell hjr (i := 1) rfl
    have c2 := obj_cell hjr (i := 2) rfl
    have c3 := obj_cell hjr (i := 3) rfl
    have zr := heap_lt hjr
    have HBw := Lib.hid (HB.out.trans (hB.out.mono HB.out.size))
    clear hjr
    by_cases hlt : k < n0
    · have qk : ((k : Int) < (n0 : Int)) = True := eq_true (by omega)
      obtain ⟨x, hx⟩ := get_some (L := p.consts) (n := k) (by have := HL0.out; omega)
      obtain ⟨bb, off, rfl, hbw, hc⟩ := const_at hcs (k := k) (lt_of_get hx)
      obtain ⟨d0, d1, _⟩ := hc k x hx
      have d0 := (HBw.out.cell (p := ⟨bb, off + k * 2, none⟩) hbw).trans d0
      have d1 := (HBw.out.cell (p := ⟨bb, off + k * 2 + 1, none⟩) hbw).trans d1
      have zd : bb < wr.heap.size := World.block_lt_of_cell? _ _ d1
      have HX := Lib.hid hx
      have HTs := Lib.hid (take_snoc hx)
      have HI := Lib.hid (fun W => ref01_In x.1 x.2 W)
      clear hc hx
      cases hr : kRight x.1
      · have hno := Lib.hid (HR.out.trans (rest_10 (alls_no HX.out (kIn_right hr))))
        go_wp2_with fail
        refine wp_region_held_drew (S := (fun w' => Below wr.heap.size wr w')) (by kernel_rfl) ?_ (fun hHeld => ?_)
        · (try dsimp only); first | assumption | exact Below.alloc hHeld hHeld.size _ | exact (Below.refl _ _).drew | exact Below.drew (Below.refl _ _) | exact Below_drewN _ _ _ | exact Below.refl _ _ | (trace_state; fail)
        refine wpAnyH_take (i := 0) (oi := { dst := some 42, op := Op.fieldAddr 27 (Operand.tmp 1) 0, type := 0, pos := _, after := #[], guard := none }) (v := ?_) rfl (by kernel_rfl) (by kernel_rfl) (by kernel_rfl) (fun _ _ _ h => h) (Or.inl ⟨by rfl, ?_⟩) (by assumption) ?_
        rotate_left
        · intro wt hSw; (try dsimp only at hSw); have c0 := cellB hSw c0 zr; have d0 := cellB hSw d0 zd; have d1 := cellB hSw d1 zd; first | (go_simp; done) | (go_simp; with_reducible rfl) | (trace_state; fail)
        try simp only [Act.put, List.setIfInBounds_toArray, List.set_cons_zero, List.set_cons_succ]
        refine wpAnyH_take (i := 1) (oi := { dst := some 43, op := Op.load 22 (Operand.tmp 42), type := 22, pos := _, after := #[{ on := 0, ground := Ground.data }], guard := none }) (v := ?_) rfl (by kernel_rfl) (by kernel_rfl) (by kernel_rfl) (fun _ _ _ h => h) (Or.inl ⟨by rfl, ?_⟩) (by assumption) ?_
        rotate_left
        · intro wt hSw; (try dsimp only at hSw); have c0 := cellB hSw c0 zr; have d0 := cellB hSw d0 zd; have d1 := cellB hSw d1 zd; first | (go_simp; done) | (go_simp; with_reducible rfl) | (trace_state; fail)
        try simp only [Act.put, List.setIfInBounds_toArray, List.set_cons_zero, List.set_cons_succ]
        refine wpAnyH_take (i := 2) (oi := { dst := some 44, op := Op.move (Operand.tmp 3), type := 3, pos := _, after := #[], guard := none }) (v := ?_) rfl (by kernel_rfl) (by kernel_rfl) (by kernel_rfl) (fun _ _ _ h => h) (Or.inl ⟨by rfl, ?_⟩) (by assumption) ?_
        rotate_left
        · intro wt hSw; (try dsimp only at hSw); have c0 := cellB hSw c0 zr; have d0 := cellB hSw d0 zd; have d1 := cellB hSw d1 zd; first | (go_simp; done) | (go_simp; with_reducible rfl) | (trace_state; fail)
        try simp only [Act.put, List.setIfInBounds_toArray, List.set_cons_zero, List.set_cons_succ]
        refine wpAnyH_take (i := 3) (oi := { dst := some 45, op := Op.indexAddr 22 (Operand.tmp 43) (Operand.tmp 44), type := 0, pos := _, after := #[{ on := 1, ground := Ground.data }, { on := 2, ground := Ground.data }], guard := none }) (v := ?_) rfl (by kernel_rfl) (by kernel_rfl) (by kernel_rfl) (fun _ _ _ h => h) (Or.inl ⟨by rfl, ?_⟩) (by assumption) ?_
        rotate_left
        · intro wt hSw; (try dsimp only at hSw); have c0 := cellB hSw c0 zr; have d0 := cellB hSw d0 zd; have d1 := cellB hSw d1 zd; first | (go_simp; done) | (go_simp; with_reducible rfl) | (trace_state; fail)
        try simp only [Act.put, List.setIfInBounds_toArray, List.set_cons_zero, List.set_cons_succ]
        refine wpAnyH_take (i := 4) (oi := { dst := some 46, op := Op.fieldAddr 34 (Operand.tmp 45) 0, type := 0, pos := _, after := #[{ on := 3, ground := Ground.data }], guard := none }) (v := ?_) rfl (by kernel_rfl) (by kernel_rfl) (by kernel_rfl) (fun _ _ _ h => h) (Or.inl ⟨by rfl, ?_⟩) (by assumption) ?_
        rotate_left
        · intro wt hSw; (try dsimp only at hSw); have c0 := cellB hSw c0 zr; have d0 := cellB hSw d0 zd; have d1 := cellB hSw d1 zd; first | (go_simp; done) | (go_simp; with_reducible rfl) | (trace_state; fail)
        try simp only [Act.put, List.setIfInBounds_toArray, List.set_cons_zero, List.set_cons_succ]
        refine wpAnyH_take (i := 5) (oi := { dst := some 47, op := Op.load 3 (Operand.tmp 46), type := 3, pos := _, after := #[{ on := 4, ground := Ground.data }], guard := none }) (v := ?_) rfl (by kernel_rfl) (by kernel_rfl) (by kernel_rfl) (fun _ _ _ h => h) (Or.inl ⟨by rfl, ?_⟩) (by assumption) ?_
        rotate_left
        · intro wt hSw; (try dsimp only at hSw); have c0 := cellB hSw c0 zr; have d0 := cellB hSw d0 zd; have d1 := cellB hSw d1 zd; first | (go_simp; done) | (go_simp; with_reducible rfl) | (trace_state; fail)
        try simp only [Act.put, List.setIfInBounds_toArray, List.set_cons_zero, List.set_cons_succ]
        refine wpAnyH_ready (rs := [6]) (by kernel_rfl) (by simp) ?_
        refine AllReadyH.cons (o := { dst := some 48, op := Op.call { callee := Callee.value (Operand.func 23), args := #[Operand.tmp 47], argTypes := #[3] }, type := 4, pos := _, after := #[{ on := 5, ground := Ground.data }], guard := none }) rfl (fun K hK => ?_) AllReadyH.nil
        go_simp
        refine (ref01_Right _ _).mono ?_; rintro e w1 ⟨rfl, rfl⟩; rw [hr]
        go_wp2_with fail
        refine hK.out _ _ ?_ (fun hHeld => ?_)
        · (try dsimp only); first | assumption | exact Below.alloc hHeld hHeld.size _ | exact (Below.refl _ _).drew | exact Below.drew (Below.refl _ _) | exact Below_drewN _ _ _ | exact Below.refl _ _ | (trace_state; fail)
        clear hK K
        try simp only [Act.put, List.setIfInBounds_toArray, List.set_cons_zero, List.set_cons_succ]
        refine wpAnyH_take (i := 7) (oi := { dst := some 49, op := Op.unOp UnOp.not 4 (Operand.tmp 48), type := 4, pos := _, after := #[{ on := 6, ground := Ground.data }], guard := none }) (v := ?_) rfl (by kernel_rfl) (by kernel_rfl) (by kernel_rfl) (fun _ _ _ h => h) (Or.inl ⟨by rfl, ?_⟩) (by assumption) ?_
        rotate_left
        · intro wt hSw; (try dsimp only at hSw); have c0 := cellB hSw c0 zr; have d0 := cellB hSw d0 zd; have d1 := cellB hSw d1 zd; first | (go_simp; done) | (go_simp; with_reducible rfl) | (trace_state; fail)
        try simp only [Act.put, List.setIfInBounds_toArray, List.set_cons_zero, List.set_cons_succ]
        refine wpAnyH_take (i := 8) (oi := { dst := some 50, op := Op.move (Operand.tmp 49), type := 4, pos := _, after := #[{ on := 7, ground := Ground.data }, { on := 6, ground := Ground.chain }], guard := none }) (v := ?_) rfl (by kernel_rfl) (by kernel_rfl) (by kernel_rfl) (fun _ _ _ h => h) (Or.inl ⟨by rfl, ?_⟩) (by assumption) ?_
        rotate_left
        · intro wt hSw; (try dsimp only at hSw); have c0 := cellB hSw c0 zr; have d0 := cellB hSw d0 zd; have d1 := cellB hSw d1 zd; first | (go_simp; done) | (go_simp; with_reducible rfl) | (trace_state; fail)
        try simp only [Act.put, List.setIfInBounds_toArray, List.set_cons_zero, List.set_cons_succ]
        refine wpAnyH_take (i := 9) (oi := { dst := some 51, op := Op.fieldAddr 27 (Operand.tmp 1) 0, type := 0, pos := _, after := #[{ on := 8, ground := Ground.guard }], guard := some (8, false) }) (v := undef) rfl (by kernel_rfl) (by kernel_rfl) (by kernel_rfl) (fun _ _ _ h => h) (Or.inr ⟨by rfl, rfl⟩) (by assumption) ?_
        try simp only [Act.put, List.setIfInBounds_toArray, List.set_cons_zero, List.set_cons_succ]
        refine wpAnyH_take (i := 10) (oi := { dst := some 52, op := Op.load 22 (Operand.tmp 51), type := 22, pos := _, after := #[{ on := 9, ground := Ground.data }, { on := 8, ground := Ground.guard }], guard := some (8, false) }) (v := undef) rfl (by kernel_rfl) (by kernel_rfl) (by kernel_rfl) (fun _ _ _ h => h) (Or.inr ⟨by rfl, rfl⟩) (by assumption) ?_
        try simp only [Act.put, List.setIfInBounds_toArray, List.set_cons_zero, List.set_cons_succ]
        refine wpAnyH_take (i := 11) (oi := { dst := some 53, op := Op.move (Operand.tmp 3), type := 3, pos := _, after := #[{ on := 8, ground := Ground.guard }], guard := some (8, false) }) (v := undef) rfl (by kernel_rfl) (by kernel_rfl) (by kernel_rfl) (fun _ _ _ h => h) (Or.inr ⟨by rfl, rfl⟩) (by assumption) ?_
        try simp only [Act.put, List.setIfInBounds_toArray, List.set_cons_zero, List.set_cons_succ]
        refine wpAnyH_take (i := 12) (oi := { dst := some 54, op := Op.indexAddr 22 (Operand.tmp 52) (Operand.tmp 53), type := 0, pos := _, after := #[{ on := 10, ground := Ground.data }, { on := 11, ground := Ground.data }, { on := 8, ground := Ground.guard }], guard := some (8, false) }) (v := undef) rfl (by kernel_rfl) (by kernel_rfl) (by kernel_rfl) (fun _ _ _ h => h) (Or.inr ⟨by rfl, rfl⟩) (by assumption) ?_
        try simp only [Act.put, List.setIfInBounds_toArray, List.set_cons_zero, List.set_cons_succ]
        refine wpAnyH_take (i := 13) (oi := { dst := some 55, op := Op.fieldAddr 34 (Operand.tmp 54) 0, type := 0, pos := _, after := #[{ on := 12, ground := Ground.data }, { on := 8, ground := Ground.guard }], guard := some (8, false) }) (v := undef) rfl (by kernel_rfl) (by kernel_rfl) (by kernel_rfl) (fun _ _ _ h => h) (Or.inr ⟨by rfl, rfl⟩) (by assumption) ?_
        try simp only [Act.put, List.setIfInBounds_toArray, List.set_cons_zero, List.set_cons_succ]
        refine wpAnyH_take (i := 14) (oi := { dst := some 56, op := Op.load 3 (Operand.tmp 55), type := 3, pos := _, after := #[{ on := 13, ground := Ground.data }, { on := 8, ground := Ground.guard }], guard := some (8, false) }) (v := undef) rfl (by kernel_rfl) (by kernel_rfl) (by kernel_rfl) (fun _ _ _ h => h) (Or.inr ⟨by rfl, rfl⟩) (by assumption) ?_
        try simp only [Act.put, List.setIfInBounds_toArray, List.set_cons_zero, List.set_cons_succ]
        refine wpAnyH_take (i := 15) (oi := { dst := some 57, op := Op.fieldAddr 27 (Operand.tmp 1) 0, type := 0, pos := _, after := #[{ on := 8, ground := Ground.guard }], guard := some (8, false) }) (v := undef) rfl (by kernel_rfl) (by kernel_rfl) (by kernel_rfl) (fun _ _ _ h => h) (Or.inr ⟨by rfl, rfl⟩) (by assumption) ?_
        try simp only [Act.put, List.setIfInBounds_toArray, List.set_cons_zero, List.set_cons_succ]
        refine wpAnyH_take (i := 16) (oi := { dst := some 58, op := Op.load 22 (Operand.tmp 57), type := 22, pos := _, after := #[{ on := 15, ground := Ground.data }, { on := 8, ground := Ground.guard }], guard := some (8, false) }) (v := undef) rfl (by kernel_rfl) (by kernel_rfl) (by kernel_rfl) (fun _ _ _ h => h) (Or.inr ⟨by rfl, rfl⟩) (by assumption) ?_
        try simp only [Act.put, List.setIfInBounds_toArray, List.set_cons_zero, List.set_cons_succ]
        refine wpAnyH_take (i := 17) (oi := { dst := some 59, op := Op.move (Operand.tmp 3), type := 3, pos := _, after := #[{ on := 8, ground := Ground.guard }], guard := some (8, false) }) (v := undef) rfl (by kernel_rfl) (by kernel_rfl) (by kernel_rfl) (fun _ _ _ h => h) (Or.inr ⟨by rfl, rfl⟩) (by assumption) ?_
        try simp only [Act.put, List.setIfInBounds_toArray, List.set_cons_zero, List.set_cons_succ]
        refine wpAnyH_take (i := 18) (oi := { dst := some 60, op := Op.indexAddr 22 (Operand.tmp 58) (Operand.tmp 59), type := 0, pos := _, after := #[{ on := 16, ground := Ground.data }, { on := 17, ground := Ground.data }, { on := 8, ground := Ground.guard }], guard := some (8, false) }) (v := undef) rfl (by kernel_rfl) (by kernel_rfl) (by kernel_rfl) (fun _ _ _ h => h) (Or.inr ⟨by rfl, rfl⟩) (by assumption) ?_
        try simp only [Act.put, List.setIfInBounds_toArray, List.set_cons_zero, List.set_cons_succ]
        refine wpAnyH_take (i := 19) (oi := { dst := some 61, op := Op.fieldAddr 34 (Operand.tmp 60) 1, type := 0, pos := _, after := #[{ on := 18, ground := Ground.data }, { on := 8, ground := Ground.guard }], guard := some (8, false) }) (v := undef) rfl (by kernel_rfl) (by kernel_rfl) (by kernel_rfl) (fun _ _ _ h => h) (Or.inr ⟨by rfl, rfl⟩) (by assumption) ?_
        try simp only [Act.put, List.setIfInBounds_toArray, List.set_cons_zero, List.set_cons_succ]
        refine wpAnyH_take (i := 20) (oi := { dst := some 62, op := Op.load 3 (Operand.tmp 61), type := 3, pos := _, after := #[{ on := 19, ground := Ground.data }, { on := 8, ground := Ground.guard }], guard := some (8, false) }) (v := undef) rfl (by kernel_rfl) (by kernel_rfl) (by kernel_rfl) (fun _ _ _ h => h) (Or.inr ⟨by rfl, rfl⟩) (by assumption) ?_
        try simp only [Act.put, List.setIfInBounds_toArray, List.set_cons_zero, List.set_cons_succ]
        refine wpAnyH_take (i := 21) (oi := { dst := some 63, op := Op.call { callee := Callee.value (Operand.func 24), args := #[Operand.tmp 56, Operand.tmp 62], argTypes := #[3, 3] }, type := 4, pos := _, after := #[{ on := 14, ground := Ground.data }, { on := 20, ground := Ground.data }, { on := 8, ground := Ground.chain }, { on := 8, ground := Ground.guard }], guard := some (8, false) }) (v := undef) rfl (by kernel_rfl) (by kernel_rfl) (by kernel_rfl) (fun _ _ _ h => h) (Or.inr ⟨by rfl, rfl⟩) (by assumption) ?_
        try simp only [Act.put, List.setIfInBounds_toArray, List.set_cons_zero, List.set_cons_succ]
        refine wpAnyH_take (i := 22) (oi := { dst := some 64, op := Op.unOp UnOp.not 4 (Operand.tmp 63), type := 4, pos := _, after := #[{ on := 21, ground := Ground.data }, { on := 8, ground := Ground.guard }], guard := some (8, false) }) (v := undef) rfl (by kernel_rfl) (by kernel_rfl) (by kernel_rfl) (fun _ _ _ h => h) (Or.inr ⟨by rfl, rfl⟩) (by assumption) ?_
        try simp only [Act.put, List.setIfInBounds_toArray, List.set_cons_zero, List.set_cons_succ]
        refine wpAnyH_take (i := 23) (oi := { dst := some 65, op := Op.pick (Operand.tmp 50) (Operand.const (Value.bool true)) (Operand.tmp 64), type := 4, pos := _, after := #[{ on := 8, ground := Ground.data }, { on := 22, ground := Ground.data }], guard := none }) (v := ?_) rfl (by kernel_rfl) (by kernel_rfl) (by kernel_rfl) (fun _ _ _ h => h) (Or.inl ⟨by rfl, ?_⟩) (by assumption) ?_
        rotate_left
        · intro wt hSw; (try dsimp only at hSw); have c0 := cellB hSw c0 zr; have d0 := cellB hSw d0 zd; have d1 := cellB hSw d1 zd; first | (go_simp; done) | (go_simp; with_reducible rfl) | (trace_state; fail)
        try simp only [Act.put, List.setIfInBounds_toArray, List.set_cons_zero, List.set_cons_succ]
        refine wpAnyH_done (by kernel_rfl) ?_ _
        go_wp2_with fail
        go_ret
        exact ⟨by rw [hno.out]; rfl, HBw.out.trans (hHeld.mono HBw.out.size)⟩
      cases hi : kIn x.1 x.2
      · rw [hi] at HI
        have hno := Lib.hid (HR.out.trans (rest_10 (alls_no HX.out hi)))
        go_wp2_with fail
        refine wp_region_held_drew (S := (fun w' => Below wr.heap.size wr w')) (by kernel_rfl) ?_ (fun hHeld => ?_)
        · (try dsimp only); first | assumption | exact Below.alloc hHeld hHeld.size _ | exact (Below.refl _ _).drew | exact Below.drew (Below.refl _ _) | exact Below_drewN _ _ _ | exact Below.refl _ _ | (trace_state; fail)
        refine wpAnyH_take (i := 0) (oi := { dst := some 42, op := Op.fieldAddr 27 (Operand.tmp 1) 0, type := 0, pos := _, after := #[], guard := none }) (v := ?_) rfl (by kernel_rfl) (by kernel_rfl) (by kernel_rfl) (fun _ _ _ h => h) (Or.inl ⟨by rfl, ?_⟩) (by assumption) ?_
        rotate_left
        · intro wt hSw; (try dsimp only at hSw); have c0 := cellB hSw c0 zr; have d0 := cellB hSw d0 zd; have d1 := cellB hSw d1 zd; first | (go_simp; done) | (go_simp; with_reducible rfl) | (trace_state; fail)
        try simp only [Act.put, List.setIfInBounds_toArray, List.set_cons_zero, List.set_cons_succ]
        refine wpAnyH_take (i := 1) (oi := { dst := some 43, op := Op.load 22 (Operand.tmp 42), type := 22, pos := _, after := #[{ on := 0, ground := Ground.data }], guard := none }) (v := ?_) rfl (by kernel_rfl) (by kernel_rfl) (by kernel_rfl) (fun _ _ _ h => h) (Or.inl ⟨by rfl, ?_⟩) (by assumption) ?_
        rotate_left
        · intro wt hSw; (try dsimp only at hSw); have c0 := cellB hSw c0 zr; have d0 := cellB hSw d0 zd; have d1 := cellB hSw d1 zd; first | (go_simp; done) | (go_simp; with_reducible rfl) | (trace_state; fail)
        try simp only [Act.put, List.setIfInBounds_toArray, List.set_cons_zero, List.set_cons_succ]
        refine wpAnyH_take (i := 2) (oi := { dst := some 44, op := Op.move (Operand.tmp 3), type := 3, pos := _, after := #[], guard := none }) (v := ?_) rfl (by kernel_rfl) (by kernel_rfl) (by kernel_rfl) (fun _ _ _ h => h) (Or.inl ⟨by rfl, ?_⟩) (by assumption) ?_
        rotate_left
        · intro wt hSw; (try dsimp only at hSw); have c0 := cellB hSw c0 zr; have d0 := cellB hSw d0 zd; have d1 := cellB hSw d1 zd; first | (go_simp; done) | (go_simp; with_reducible rfl) | (trace_state; fail)
        try simp only [Act.put, List.setIfInBounds_toArray, List.set_cons_zero, List.set_cons_succ]
        refine wpAnyH_take (i := 3) (oi := { dst := some 45, op := Op.indexAddr 22 (Operand.tmp 43) (Operand.tmp 44), type := 0, pos := _, after := #[{ on := 1, ground := Ground.data }, { on := 2, ground := Ground.data }], guard := none }) (v := ?_) rfl (by kernel_rfl) (by kernel_rfl) (by kernel_rfl) (fun _ _ _ h => h) (Or.inl ⟨by rfl, ?_⟩) (by assumption) ?_
        rotate_left
        · intro wt hSw; (try dsimp only at hSw); have c0 := cellB hSw c0 zr; have d0 := cellB hSw d0 zd; have d1 := cellB hSw d1 zd; first | (go_simp; done) | (go_simp; with_reducible rfl) | (trace_state; fail)
        try simp only [Act.put, List.setIfInBounds_toArray, List.set_cons_zero, List.set_cons_succ]
        refine wpAnyH_take (i := 4) (oi := { dst := some 46, op := Op.fieldAddr 34 (Operand.tmp 45) 0, type := 0, pos := _, after := #[{ on := 3, ground := Ground.data }], guard := none }) (v := ?_) rfl (by kernel_rfl) (by kernel_rfl) (by kernel_rfl) (fun _ _ _ h => h) (Or.inl ⟨by rfl, ?_⟩) (by assumption) ?_
        rotate_left
        · intro wt hSw; (try dsimp only at hSw); have c0 := cellB hSw c0 zr; have d0 := cellB hSw d0 zd; have d1 := cellB hSw d1 zd; first | (go_simp; done) | (go_simp; with_reducible rfl) | (trace_state; fail)
        try simp only [Act.put, List.setIfInBounds_toArray, List.set_cons_zero, List.set_cons_succ]
        refine wpAnyH_take (i := 5) (oi := { dst := some 47, op := Op.load 3 (Operand.tmp 46), type := 3, pos := _, after := #[{ on := 4, ground := Ground.data }], guard := none }) (v := ?_) rfl (by kernel_rfl) (by kernel_rfl) (by kernel_rfl) (fun _ _ _ h => h) (Or.inl ⟨by rfl, ?_⟩) (by assumption) ?_
        rotate_left
        · intro wt hSw; (try dsimp only at hSw); have c0 := cellB hSw c0 zr; have d0 := cellB hSw d0 zd; have d1 := cellB hSw d1 zd; first | (go_simp; done) | (go_simp; with_reducible rfl) | (trace_state; fail)
        try simp only [Act.put, List.setIfInBounds_toArray, List.set_cons_zero, List.set_cons_succ]
        refine wpAnyH_ready (rs := [6]) (by kernel_rfl) (by simp) ?_
        refine AllReadyH.cons (o := { dst := some 48, op := Op.call { callee := Callee.value (Operand.func 23), args := #[Operand.tmp 47], argTypes := #[3] }, type := 4, pos := _, after := #[{ on := 5, ground := Ground.data }], guard := none }) rfl (fun K hK => ?_) AllReadyH.nil
        go_simp
        refine (ref01_Right _ _).mono ?_; rintro e w1 ⟨rfl, rfl⟩; rw [hr]
        go_wp2_with fail
        refine hK.out _ _ ?_ (fun hHeld => ?_)
        · (try dsimp only); first | assumption | exact Below.alloc hHeld hHeld.size _ | exact (Below.refl _ _).drew | exact Below.drew (Below.refl _ _) | exact Below_drewN _ _ _ | exact Below.refl _ _ | (trace_state; fail)
        clear hK K
        try simp only [Act.put, List.setIfInBounds_toArray, List.set_cons_zero, List.set_cons_succ]
        refine wpAnyH_take (i := 7) (oi := { dst := some 49, op := Op.unOp UnOp.not 4 (Operand.tmp 48), type := 4, pos := _, after := #[{ on := 6, ground := Ground.data }], guard := none }) (v := ?_) rfl (by kernel_rfl) (by kernel_rfl) (by kernel_rfl) (fun _ _ _ h => h) (Or.inl ⟨by rfl, ?_⟩) (by assumption) ?_
        rotate_left
        · intro wt hSw; (try dsimp only at hSw); have c0 := cellB hSw c0 zr; have d0 := cellB hSw d0 zd; have d1 := cellB hSw d1 zd; first | (go_simp; done) | (go_simp; with_reducible rfl) | (trace_state; fail)
        try simp only [Act.put, List.setIfInBounds_toArray, List.set_cons_zero, List.set_cons_succ]
        refine wpAnyH_take (i := 8) (oi := { dst := some 50, op := Op.move (Operand.tmp 49), type := 4, pos := _, after := #[{ on := 7, ground := Ground.data }, { on := 6, ground := Ground.chain }], guard := none }) (v := ?_) rfl (by kernel_rfl) (by kernel_rfl) (by kernel_rfl) (fun _ _ _ h => h) (Or.inl ⟨by rfl, ?_⟩) (by assumption) ?_
        rotate_left
        · intro wt hSw; (try dsimp only at hSw); have c0 := cellB hSw c0 zr; have d0 := cellB hSw d0 zd; have d1 := cellB hSw d1 zd; first | (go_simp; done) | (go_simp; with_reducible rfl) | (trace_state; fail)
        try simp only [Act.put, List.setIfInBounds_toArray, List.set_cons_zero, List.set_cons_succ]
        refine wpAnyH_take (i := 9) (oi := { dst := some 51, op := Op.fieldAddr 27 (Operand.tmp 1) 0, type := 0, pos := _, after := #[{ on := 8, ground := Ground.guard }], guard := some (8, false) }) (v := ?_) rfl (by kernel_rfl) (by kernel_rfl) (by kernel_rfl) (fun _ _ _ h => h) (Or.inl ⟨by rfl, ?_⟩) (by assumption) ?_
        rotate_left
        · intro wt hSw; (try dsimp only at hSw); have c0 := cellB hSw c0 zr; have d0 := cellB hSw d0 zd; have d1 := cellB hSw d1 zd; first | (go_simp; done) | (go_simp; with_reducible rfl) | (trace_state; fail)
        try simp only [Act.put, List.setIfInBounds_toArray, List.set_cons_zero, List.set_cons_succ]
        refine wpAnyH_take (i := 10) (oi := { dst := some 52, op := Op.load 22 (Operand.tmp 51), type := 22, pos := _, after := #[{ on := 9, ground := Ground.data }, { on := 8, ground := Ground.guard }], guard := some (8, false) }) (v := ?_) rfl (by kernel_rfl) (by kernel_rfl) (by kernel_rfl) (fun _ _ _ h => h) (Or.inl ⟨by rfl, ?_⟩) (by assumption) ?_
        rotate_left
        · intro wt hSw; (try dsimp only at hSw); have c0 := cellB hSw c0 zr; have d0 := cellB hSw d0 zd; have d1 := cellB hSw d1 zd; first | (go_simp; done) | (go_simp; with_reducible rfl) | (trace_state; fail)
        try simp only [Act.put, List.setIfInBounds_toArray, List.set_cons_zero, List.set_cons_succ]
        refine wpAnyH_take (i := 11) (oi := { dst := some 53, op := Op.move (Operand.tmp 3), type := 3, pos := _, after := #[{ on := 8, ground := Ground.guard }], guard := some (8, false) }) (v := ?_) rfl (by kernel_rfl) (by kernel_rfl) (by kernel_rfl) (fun _ _ _ h => h) (Or.inl ⟨by rfl, ?_⟩) (by assumption) ?_
        rotate_left
        · intro wt hSw; (try dsimp only at hSw); have c0 := cellB hSw c0 zr; have d0 := cellB hSw d0 zd; have d1 := cellB hSw d1 zd; first | (go_simp; done) | (go_simp; with_reducible rfl) | (trace_state; fail)
        try simp only [Act.put, List.setIfInBounds_toArray, List.set_cons_zero, List.set_cons_succ]
        refine wpAnyH_take (i := 12) (oi := { dst := some 54, op := Op.indexAddr 22 (Operand.tmp 52) (Operand.tmp 53), type := 0, pos := _, after := #[{ on := 10, ground := Ground.data }, { on := 11, ground := Ground.data }, { on := 8, ground := Ground.guard }], guard := some (8, false) }) (v := ?_) rfl (by kernel_rfl) (by kernel_rfl) (by kernel_rfl) (fun _ _ _ h => h) (Or.inl ⟨by rfl, ?_⟩) (by assumption) ?_
        rotate_left
        · intro wt hSw; (try dsimp only at hSw); have c0 := cellB hSw c0 zr; have d0 := cellB hSw d0 zd; have d1 := cellB hSw d1 zd; first | (go_simp; done) | (go_simp; with_reducible rfl) | (trace_state; fail)
        try simp only [Act.put, List.setIfInBounds_toArray, List.set_cons_zero, List.set_cons_succ]
        refine wpAnyH_take (i := 13) (oi := { dst := some 55, op := Op.fieldAddr 34 (Operand.tmp 54) 0, type := 0, pos := _, after := #[{ on := 12, ground := Ground.data }, { on := 8, ground := Ground.guard }], guard := some (8, false) }) (v := ?_) rfl (by kernel_rfl) (by kernel_rfl) (by kernel_rfl) (fun _ _ _ h => h) (Or.inl ⟨by rfl, ?_⟩) (by assumption) ?_
        rotate_left
        · intro wt hSw; (try dsimp only at hSw); have c0 := cellB hSw c0 zr; have d0 := cellB hSw d0 zd; have d1 := cellB hSw d1 zd; first | (go_simp; done) | (go_simp; with_reducible rfl) | (trace_state; fail)
        try simp only [Act.put, List.setIfInBounds_toArray, List.set_cons_zero, List.set_cons_succ]
        refine wpAnyH_take (i := 14) (oi := { dst := some 56, op := Op.load 3 (Operand.tmp 55), type := 3, pos := _, after := #[{ on := 13, ground := Ground.data }, { on := 8, ground := Ground.guard }], guard := some (8, false) }) (v := ?_) rfl (by kernel_rfl) (by kernel_rfl) (by kernel_rfl) (fun _ _ _ h => h) (Or.inl ⟨by rfl, ?_⟩) (by assumption) ?_
        rotate_left
        · intro wt hSw; (try dsimp only at hSw); have c0 := cellB hSw c0 zr; have d0 := cellB hSw d0 zd; have d1 := cellB hSw d1 zd; first | (go_simp; done) | (go_simp; with_reducible rfl) | (trace_state; fail)
        try simp only [Act.put, List.setIfInBounds_toArray, List.set_cons_zero, List.set_cons_succ]
        refine wpAnyH_take (i := 15) (oi := { dst := some 57, op := Op.fieldAddr 27 (Operand.tmp 1) 0, type := 0, pos := _, after := #[{ on := 8, ground := Ground.guard }], guard := some (8, false) }) (v := ?_) rfl (by kernel_rfl) (by kernel_rfl) (by kernel_rfl) (fun _ _ _ h => h) (Or.inl ⟨by rfl, ?_⟩) (by assumption) ?_
        rotate_left
        · intro wt hSw; (try dsimp only at hSw); have c0 := cellB hSw c0 zr; have d0 := cellB hSw d0 zd; have d1 := cellB hSw d1 zd; first | (go_simp; done) | (go_simp; with_reducible rfl) | (trace_state; fail)
        try simp only [Act.put, List.setIfInBounds_toArray, List.set_cons_zero, List.set_cons_succ]
        refine wpAnyH_take (i := 16) (oi := { dst := some 58, op := Op.load 22 (Operand.tmp 57), type := 22, pos := _, after := #[{ on := 15, ground := Ground.data }, { on := 8, ground := Ground.guard }], guard := some (8, false) }) (v := ?_) rfl (by kernel_rfl) (by kernel_rfl) (by kernel_rfl) (fun _ _ _ h => h) (Or.inl ⟨by rfl, ?_⟩) (by assumption) ?_
        rotate_left
        · intro wt hSw; (try dsimp only at hSw); have c0 := cellB hSw c0 zr; have d0 := cellB hSw d0 zd; have d1 := cellB hSw d1 zd; first | (go_simp; done) | (go_simp; with_reducible rfl) | (trace_state; fail)
        try simp only [Act.put, List.setIfInBounds_toArray, List.set_cons_zero, List.set_cons_succ]
        refine wpAnyH_take (i := 17) (oi := { dst := some 59, op := Op.move (Operand.tmp 3), type := 3, pos := _, after := #[{ on := 8, ground := Ground.guard }], guard := some (8, false) }) (v := ?_) rfl (by kernel_rfl) (by kernel_rfl) (by kernel_rfl) (fun _ _ _ h => h) (Or.inl ⟨by rfl, ?_⟩) (by assumption) ?_
        rotate_left
        · intro wt hSw; (try dsimp only at hSw); have c0 := cellB hSw c0 zr; have d0 := cellB hSw d0 zd; have d1 := cellB hSw d1 zd; first | (go_simp; done) | (go_simp; with_reducible rfl) | (trace_state; fail)
        try simp only [Act.put, List.setIfInBounds_toArray, List.set_cons_zero, List.set_cons_succ]
        refine wpAnyH_take (i := 18) (oi := { dst := some 60, op := Op.indexAddr 22 (Operand.tmp 58) (Operand.tmp 59), type := 0, pos := _, after := #[{ on := 16, ground := Ground.data }, { on := 17, ground := Ground.data }, { on := 8, ground := Ground.guard }], guard := some (8, false) }) (v := ?_) rfl (by kernel_rfl) (by kernel_rfl) (by kernel_rfl) (fun _ _ _ h => h) (Or.inl ⟨by rfl, ?_⟩) (by assumption) ?_
        rotate_left
        · intro wt hSw; (try dsimp only at hSw); have c0 := cellB hSw c0 zr; have d0 := cellB hSw d0 zd; have d1 := cellB hSw d1 zd; first | (go_simp; done) | (go_simp; with_reducible rfl) | (trace_state; fail)
        try simp only [Act.put, List.setIfInBounds_toArray, List.set_cons_zero, List.set_cons_succ]
        refine wpAnyH_take (i := 19) (oi := { dst := some 61, op := Op.fieldAddr 34 (Operand.tmp 60) 1, type := 0, pos := _, after := #[{ on := 18, ground := Ground.data }, { on := 8, ground := Ground.guard }], guard := some (8, false) }) (v := ?_) rfl (by kernel_rfl) (by kernel_rfl) (by kernel_rfl) (fun _ _ _ h => h) (Or.inl ⟨by rfl, ?_⟩) (by assumption) ?_
        rotate_left
        · intro wt hSw; (try dsimp only at hSw); have c0 := cellB hSw c0 zr; have d0 := cellB hSw d0 zd; have d1 := cellB hSw d1 zd; first | (go_simp; done) | (go_simp; with_reducible rfl) | (trace_state; fail)
        try simp only [Act.put, List.setIfInBounds_toArray, List.set_cons_zero, List.set_cons_succ]
        refine wpAnyH_take (i := 20) (oi := { dst := some 62, op := Op.load 3 (Operand.tmp 61), type := 3, pos := _, after := #[{ on := 19, ground := Ground.data }, { on := 8, ground := Ground.guard }], guard := some (8, false) }) (v := ?_) rfl (by kernel_rfl) (by kernel_rfl) (by kernel_rfl) (fun _ _ _ h => h) (Or.inl ⟨by rfl, ?_⟩) (by assumption) ?_
        rotate_left
        · intro wt hSw; (try dsimp only at hSw); have c0 := cellB hSw c0 zr; have d0 := cellB hSw d0 zd; have d1 := cellB hSw d1 zd; first | (go_simp; done) | (go_simp; with_reducible rfl) | (trace_state; fail)
        try simp only [Act.put, List.setIfInBounds_toArray, List.set_cons_zero, List.set_cons_succ]
        refine wpAnyH_ready (rs := [21]) (by kernel_rfl) (by simp) ?_
        refine AllReadyH.cons (o := { dst := some 63, op := Op.call { callee := Callee.value (Operand.func 24), args := #[Operand.tmp 56, Operand.tmp 62], argTypes := #[3, 3] }, type := 4, pos := _, after := #[{ on := 14, ground := Ground.data }, { on := 20, ground := Ground.data }, { on := 8, ground := Ground.chain }, { on := 8, ground := Ground.guard }], guard := some (8, false) }) rfl (fun K hK => ?_) AllReadyH.nil
        go_simp
        refine (HI.out _).mono ?_; rintro e w2 ⟨rfl, rfl⟩
        go_wp2_with fail
        refine hK.out _ _ ?_ (fun hHeld => ?_)
        · (try dsimp only); first | assumption | exact Below.alloc hHeld hHeld.size _ | exact (Below.refl _ _).drew | exact Below.drew (Below.refl _ _) | exact Below_drewN _ _ _ | exact Below.refl _ _ | (trace_state; fail)
        clear hK K
        try simp only [Act.put, List.setIfInBounds_toArray, List.set_cons_zero, List.set_cons_succ]
        refine wpAnyH_take (i := 22) (oi := { dst := some 64, op := Op.unOp UnOp.not 4 (Operand.tmp 63), type := 4, pos := _, after := #[{ on := 21, ground := Ground.data }, { on := 8, ground := Ground.guard }], guard := some (8, false) }) (v := ?_) rfl (by kernel_rfl) (by kernel_rfl) (by kernel_rfl) (fun _ _ _ h => h) (Or.inl ⟨by rfl, ?_⟩) (by assumption) ?_
        rotate_left
        · intro wt hSw; (try dsimp only at hSw); have c0 := cellB hSw c0 zr; have d0 := cellB hSw d0 zd; have d1 := cellB hSw d1 zd; first | (go_simp; done) | (go_simp; with_reducible rfl) | (trace_state; fail)
        try simp only [Act.put, List.setIfInBounds_toArray, List.set_cons_zero, List.set_cons_succ]
        refine wpAnyH_take (i := 23) (oi := { dst := some 65, op := Op.pick (Operand.tmp 50) (Operand.const (Value.bool true)) (Operand.tmp 64), type := 4, pos := _, after := #[{ on := 8, ground := Ground.data }, { on := 22, ground := Ground.data }], guard := none }) (v := ?_) rfl (by kernel_rfl) (by kernel_rfl) (by kernel_rfl) (fun _ _ _ h => h) (Or.inl ⟨by rfl, ?_⟩) (by assumption) ?_
        rotate_left
        · intro wt hSw; (try dsimp only at hSw); have c0 := cellB hSw c0 zr; have d0 := cellB hSw d0 zd; have d1 := cellB hSw d1 zd; first | (go_simp; done) | (go_simp; with_reducible rfl) | (trace_state; fail)
        try simp only [Act.put, List.setIfInBounds_toArray, List.set_cons_zero, List.set_cons_succ]
        refine wpAnyH_done (by kernel_rfl) ?_ _
        go_wp2_with fail
        go_ret
        exact ⟨by rw [hno.out]; rfl, HBw.out.trans (hHeld.mono HBw.out.size)⟩
      rw [hi] at HI
      have hgood := Lib.hid (show (p.consts.take (k + 1)).all (fun x => kIn x.1 x.2) = true by rw [HTs.out, List.all_append, hall.out]; simp [hi])
      go_wp2_with fail
      refine wp_region_held_drew (S := (fun w' => Below wr.heap.size wr w')) (by kernel_rfl) ?_ (fun hHeld => ?_)
      · (try dsimp only); first | assumption | exact Below.alloc hHeld hHeld.size _ | exact (Below.refl _ _).drew | exact Below.drew (Below.refl _ _) | exact Below_drewN _ _ _ | exact Below.refl _ _ | (trace_state; fail)
      refine wpAnyH_take (i := 0) (oi := { dst := some 42, op := Op.fieldAddr 27 (Operand.tmp 1) 0, type := 0, pos := _, after := #[], guard := none }) (v := ?_) rfl (by kernel_rfl) (by kernel_rfl) (by kernel_rfl) (fun _ _ _ h => h) (Or.inl ⟨by rfl, ?_⟩) (by assumption) ?_
      rotate_left
      · intro wt hSw; (try dsimp only at hSw); have c0 := cellB hSw c0 zr; have d0 := cellB hSw d0 zd; have d1 := cellB hSw d1 zd; first | (go_simp; done) | (go_simp; with_reducible rfl) | (trace_state; fail)
      try simp only [Act.put, List.setIfInBounds_toArray, List.set_cons_zero, List.set_cons_succ]
      refine wpAnyH_take (i := 1) (oi := { dst := some 43, op := Op.load 22 (Operand.tmp 42), type := 22, pos := _, after := #[{ on := 0, ground := Ground.data }], guard := none }) (v := ?_) rfl (by kernel_rfl) (by kernel_rfl) (by kernel_rfl) (fun _ _ _ h => h) (Or.inl ⟨by rfl, ?_⟩) (by assumption) ?_
      rotate_left
      · intro wt hSw; (try dsimp only at hSw); have c0 := cellB hSw c0 zr; have d0 := cellB hSw d0 zd; have d1 := cellB hSw d1 zd; first | (go_simp; done) | (go_simp; with_reducible rfl) | (trace_state; fail)
      try simp only [Act.put, List.setIfInBounds_toArray, List.set_cons_zero, List.set_cons_succ]
      refine wpAnyH_take (i := 2) (oi := { dst := some 44, op := Op.move (Operand.tmp 3), type := 3, pos := _, after := #[], guard := none }) (v := ?_) rfl (by kernel_rfl) (by kernel_rfl) (by kernel_rfl) (fun _ _ _ h => h) (Or.inl ⟨by rfl, ?_⟩) (by assumption) ?_
      rotate_left
      · intro wt hSw; (try dsimp only at hSw); have c0 := cellB hSw c0 zr; have d0 := cellB hSw d0 zd; have d1 := cellB hSw d1 zd; first | (go_simp; done) | (go_simp; with_reducible rfl) | (trace_state; fail)
      try simp only [Act.put, List.setIfInBounds_toArray, List.set_cons_zero, List.set_cons_succ]
      refine wpAnyH_take (i := 3) (oi := { dst := some 45, op := Op.indexAddr 22 (Operand.tmp 43) (Operand.tmp 44), type := 0, pos := _, after := #[{ on := 1, ground := Ground.data }, { on := 2, ground := Ground.data }], guard := none }) (v := ?_) rfl (by kernel_rfl) (by kernel_rfl) (by kernel_rfl) (fun _ _ _ h => h) (Or.inl ⟨by rfl, ?_⟩) (by assumption) ?_
      rotate_left
      · intro wt hSw; (try dsimp only at hSw); have c0 := cellB hSw c0 zr; have d0 := cellB hSw d0 zd; have d1 := cellB hSw d1 zd; first | (go_simp; done) | (go_simp; with_reducible rfl) | (trace_state; fail)
      try simp only [Act.put, List.setIfInBounds_toArray, List.set_cons_zero, List.set_cons_succ]
      refine wpAnyH_take (i := 4) (oi := { dst := some 46, op := Op.fieldAddr 34 (Operand.tmp 45) 0, type := 0, pos := _, after := #[{ on := 3, ground := Ground.data }], guard := none }) (v := ?_) rfl (by kernel_rfl) (by kernel_rfl) (by kernel_rfl) (fun _ _ _ h => h) (Or.inl ⟨by rfl, ?_⟩) (by assumption) ?_
      rotate_left
      · intro wt hSw; (try dsimp only at hSw); have c0 := cellB hSw c0 zr; have d0 := cellB hSw d0 zd; have d1 := cellB hSw d1 zd; first | (go_simp; done) | (go_simp; with_reducible rfl) | (trace_state; fail)
      try simp only [Act.put, List.setIfInBounds_toArray, List.set_cons_zero, List.set_cons_succ]
      refine wpAnyH_take (i := 5) (oi := { dst := some 47, op := Op.load 3 (Operand.tmp 46), type := 3, pos := _, after := #[{ on := 4, ground := Ground.data }], guard := none }) (v := ?_) rfl (by kernel_rfl) (by kernel_rfl) (by kernel_rfl) (fun _ _ _ h => h) (Or.inl ⟨by rfl, ?_⟩) (by assumption) ?_
      rotate_left
      · intro wt hSw; (try dsimp only at hSw); have c0 := cellB hSw c0 zr; have d0 := cellB hSw d0 zd; have d1 := cellB hSw d1 zd; first | (go_simp; done) | (go_simp; with_reducible rfl) | (trace_state; fail)
      try simp only [Act.put, List.setIfInBounds_toArray, List.set_cons_zero, List.set_cons_succ]
      refine wpAnyH_ready (rs := [6]) (by kernel_rfl) (by simp) ?_
      refine AllReadyH.cons (o := { dst := some 48, op := Op.call { callee := Callee.value (Operand.func 23), args := #[Operand.tmp 47], argTypes := #[3] }, type := 4, pos := _, after := #[{ on := 5, ground := Ground.data }], guard := none }) rfl (fun K hK => ?_) AllReadyH.nil
      go_simp
      refine (ref01_Right _ _).mono ?_; rintro e w1 ⟨rfl, rfl⟩; rw [hr]
      go_wp2_with fail
      refine hK.out _ _ ?_ (fun hHeld => ?_)
      · (try dsimp only); first | assumption | exact Below.alloc hHeld hHeld.size _ | exact (Below.refl _ _).drew | exact Below.drew (Below.refl _ _) | exact Below_drewN _ _ _ | exact Below.refl _ _ | (trace_state; fail)
      clear hK K
      try simp only [Act.put, List.setIfInBounds_toArray, List.set_cons_zero, List.set_cons_succ]
      refine wpAnyH_take (i := 7) (oi := { dst := some 49, op := Op.unOp UnOp.not 4 (Operand.tmp 48), type := 4, pos := _, after := #[{ on := 6, ground := Ground.data }], guard := none }) (v := ?_) rfl (by kernel_rfl) (by kernel_rfl) (by kernel_rfl) (fun _ _ _ h => h) (Or.inl ⟨by rfl, ?_⟩) (by assumption) ?_
      rotate_left
      · intro wt hSw; (try dsimp only at hSw); have c0 := cellB hSw c0 zr; have d0 := cellB hSw d0 zd; have d1 := cellB hSw d1 zd; first | (go_simp; done) | (go_simp; with_reducible rfl) | (trace_state; fail)
      try simp only [Act.put, List.setIfInBounds_toArray, List.set_cons_zero, List.set_cons_succ]
      refine wpAnyH_take (i := 8) (oi := { dst := some 50, op := Op.move (Operand.tmp 49), type := 4, pos := _, after := #[{ on := 7, ground := Ground.data }, { on := 6, ground := Ground.chain }], guard := none }) (v := ?_) rfl (by kernel_rfl) (by kernel_rfl) (by kernel_rfl) (fun _ _ _ h => h) (Or.inl ⟨by rfl, ?_⟩) (by assumption) ?_
      rotate_left
      · intro wt hSw; (try dsimp only at hSw); have c0 := cellB hSw c0 zr; have d0 := cellB hSw d0 zd; have d1 := cellB hSw d1 zd; first | (go_simp; done) | (go_simp; with_reducible rfl) | (trace_state; fail)
      try simp only [Act.put, List.setIfInBounds_toArray, List.set_cons_zero, List.set_cons_succ]
      refine wpAnyH_take (i := 9) (oi := { dst := some 51, op := Op.fieldAddr 27 (Operand.tmp 1) 0, type := 0, pos := _, after := #[{ on := 8, ground := Ground.guard }], guard := some (8, false) }) (v := ?_) rfl (by kernel_rfl) (by kernel_rfl) (by kernel_rfl) (fun _ _ _ h => h) (Or.inl ⟨by rfl, ?_⟩) (by assumption) ?_
      rotate_left
      · intro wt hSw; (try dsimp only at hSw); have c0 := cellB hSw c0 zr; have d0 := cellB hSw d0 zd; have d1 := cellB hSw d1 zd; first | (go_simp; done) | (go_simp; with_reducible rfl) | (trace_state; fail)
      try simp only [Act.put, List.setIfInBounds_toArray, List.set_cons_zero, List.set_cons_succ]
      refine wpAnyH_take (i := 10) (oi := { dst := some 52, op := Op.load 22 (Operand.tmp 51), type := 22, pos := _, after := #[{ on := 9, ground := Ground.data }, { on := 8, ground := Ground.guard }], guard := some (8, false) }) (v := ?_) rfl (by kernel_rfl) (by kernel_rfl) (by kernel_rfl) (fun _ _ _ h => h) (Or.inl ⟨by rfl, ?_⟩) (by assumption) ?_
      rotate_left
      · intro wt hSw; (try dsimp only at hSw); have c0 := cellB hSw c0 zr; have d0 := cellB hSw d0 zd; have d1 := cellB hSw d1 zd; first | (go_simp; done) | (go_simp; with_reducible rfl) | (trace_state; fail)
      try simp only [Act.put, List.setIfInBounds_toArray, List.set_cons_zero, List.set_cons_succ]
      refine wpAnyH_take (i := 11) (oi := { dst := some 53, op := Op.move (Operand.tmp 3), type := 3, pos := _, after := #[{ on := 8, ground := Ground.guard }], guard := some (8, false) }) (v := ?_) rfl (by kernel_rfl) (by kernel_rfl) (by kernel_rfl) (fun _ _ _ h => h) (Or.inl ⟨by rfl, ?_⟩) (by assumption) ?_
      rotate_left
      · intro wt hSw; (try dsimp only at hSw); have c0 := cellB hSw c0 zr; have d0 := cellB hSw d0 zd; have d1 := cellB hSw d1 zd; first | (go_simp; done) | (go_simp; with_reducible rfl) | (trace_state; fail)
      try simp only [Act.put, List.setIfInBounds_toArray, List.set_cons_zero, List.set_cons_succ]
      refine wpAnyH_take (i := 12) (oi := { dst := some 54, op := Op.indexAddr 22 (Operand.tmp 52) (Operand.tmp 53), type := 0, pos := _, after := #[{ on := 10, ground := Ground.data }, { on := 11, ground := Ground.data }, { on := 8, ground := Ground.guard }], guard := some (8, false) }) (v := ?_) rfl (by kernel_rfl) (by kernel_rfl) (by kernel_rfl) (fun _ _ _ h => h) (Or.inl ⟨by rfl, ?_⟩) (by assumption) ?_
      rotate_left
      · intro wt hSw; (try dsimp only at hSw); have c0 := cellB hSw c0 zr; have d0 := cellB hSw d0 zd; have d1 := cellB hSw d1 zd; first | (go_simp; done) | (go_simp; with_reducible rfl) | (trace_state; fail)
      try simp only [Act.put, List.setIfInBounds_toArray, List.set_cons_zero, List.set_cons_succ]
      refine wpAnyH_take (i := 13) (oi := { dst := some 55, op := Op.fieldAddr 34 (Operand.tmp 54) 0, type := 0, pos := _, after := #[{ on := 12, ground := Ground.data }, { on := 8, ground := Ground.guard }], guard := some (8, false) }) (v := ?_) rfl (by kernel_rfl) (by kernel_rfl) (by kernel_rfl) (fun _ _ _ h => h) (Or.inl ⟨by rfl, ?_⟩) (by assumption) ?_
      rotate_left
      · intro wt hSw; (try dsimp only at hSw); have c0 := cellB hSw c0 zr; have d0 := cellB hSw d0 zd; have d1 := cellB hSw d1 zd; first | (go_simp; done) | (go_simp; with_reducible rfl) | (trace_state; fail)
      try simp only [Act.put, List.setIfInBounds_toArray, List.set_cons_zero, List.set_cons_succ]
      refine wpAnyH_take (i := 14) (oi := { dst := some 56, op := Op.load 3 (Operand.tmp 55), type := 3, pos := _, after := #[{ on := 13, ground := Ground.data }, { on := 8, ground := Ground.guard }], guard := some (8, false) }) (v := ?_) rfl (by kernel_rfl) (by kernel_rfl) (by kernel_rfl) (fun _ _ _ h => h) (Or.inl ⟨by rfl, ?_⟩) (by assumption) ?_
      rotate_left
      · intro wt hSw; (try dsimp only at hSw); have c0 := cellB hSw c0 zr; have d0 := cellB hSw d0 zd; have d1 := cellB hSw d1 zd; first | (go_simp; done) | (go_simp; with_reducible rfl) | (trace_state; fail)
      try simp only [Act.put, List.setIfInBounds_toArray, List.set_cons_zero, List.set_cons_succ]
      refine wpAnyH_take (i := 15) (oi := { dst := some 57, op := Op.fieldAddr 27 (Operand.tmp 1) 0, type := 0, pos := _, after := #[{ on := 8, ground := Ground.guard }], guard := some (8, false) }) (v := ?_) rfl (by kernel_rfl) (by kernel_rfl) (by kernel_rfl) (fun _ _ _ h => h) (Or.inl ⟨by rfl, ?_⟩) (by assumption) ?_
      rotate_left
      · intro wt hSw; (try dsimp only at hSw); have c0 := cellB hSw c0 zr; have d0 := cellB hSw d0 zd; have d1 := cellB hSw d1 zd; first | (go_simp; done) | (go_simp; with_reducible rfl) | (trace_state; fail)
      try simp only [Act.put, List.setIfInBounds_toArray, List.set_cons_zero, List.set_cons_succ]
      refine wpAnyH_take (i := 16) (oi := { dst := some 58, op := Op.load 22 (Operand.tmp 57), type := 22, pos := _, after := #[{ on := 15, ground := Ground.data }, { on := 8, ground := Ground.guard }], guard := some (8, false) }) (v := ?_) rfl (by kernel_rfl) (by kernel_rfl) (by kernel_rfl) (fun _ _ _ h => h) (Or.inl ⟨by rfl, ?_⟩) (by assumption) ?_
      rotate_left
      · intro wt hSw; (try dsimp only at hSw); have c0 := cellB hSw c0 zr; have d0 := cellB hSw d0 zd; have d1 := cellB hSw d1 zd; first | (go_simp; done) | (go_simp; with_reducible rfl) | (trace_state; fail)
      try simp only [Act.put, List.setIfInBounds_toArray, List.set_cons_zero, List.set_cons_succ]
      refine wpAnyH_take (i := 17) (oi := { dst := some 59, op := Op.move (Operand.tmp 3), type := 3, pos := _, after := #[{ on := 8, ground := Ground.guard }], guard := some (8, false) }) (v := ?_) rfl (by kernel_rfl) (by kernel_rfl) (by kernel_rfl) (fun _ _ _ h => h) (Or.inl ⟨by rfl, ?_⟩) (by assumption) ?_
      rotate_left
      · intro wt hSw; (try dsimp only at hSw); have c0 := cellB hSw c0 zr; have d0 := cellB hSw d0 zd; have d1 := cellB hSw d1 zd; first | (go_simp; done) | (go_simp; with_reducible rfl) | (trace_state; fail)
      try simp only [Act.put, List.setIfInBounds_toArray, List.set_cons_zero, List.set_cons_succ]
      refine wpAnyH_take (i := 18) (oi := { dst := some 60, op := Op.indexAddr 22 (Operand.tmp 58) (Operand.tmp 59), type := 0, pos := _, after := #[{ on := 16, ground := Ground.data }, { on := 17, ground := Ground.data }, { on := 8, ground := Ground.guard }], guard := some (8, false) }) (v := ?_) rfl (by kernel_rfl) (by kernel_rfl) (by kernel_rfl) (fun _ _ _ h => h) (Or.inl ⟨by rfl, ?_⟩) (by assumption) ?_
      rotate_left
      · intro wt hSw; (try dsimp only at hSw); have c0 := cellB hSw c0 zr; have d0 := cellB hSw d0 zd; have d1 := cellB hSw d1 zd; first | (go_simp; done) | (go_simp; with_reducible rfl) | (trace_state; fail)
      try simp only [Act.put, List.setIfInBounds_toArray, List.set_cons_zero, List.set_cons_succ]
      refine wpAnyH_take (i := 19) (oi := { dst := some 61, op := Op.fieldAddr 34 (Operand.tmp 60) 1, type := 0, pos := _, after := #[{ on := 18, ground := Ground.data }, { on := 8, ground := Ground.guard }], guard := some (8, false) }) (v := ?_) rfl (by kernel_rfl) (by kernel_rfl) (by kernel_rfl) (fun _ _ _ h => h) (Or.inl ⟨by rfl, ?_⟩) (by assumption) ?_
      rotate_left
      · intro wt hSw; (try dsimp only at hSw); have c0 := cellB hSw c0 zr; have d0 := cellB hSw d0 zd; have d1 := cellB hSw d1 zd; first | (go_simp; done) | (go_simp; with_reducible rfl) | (trace_state; fail)
      try simp only [Act.put, List.setIfInBounds_toArray, List.set_cons_zero, List.set_cons_succ]
      refine wpAnyH_take (i := 20) (oi := { dst := some 62, op := Op.load 3 (Operand.tmp 61), type := 3, pos := _, after := #[{ on := 19, ground := Ground.data }, { on := 8, ground := Ground.guard }], guard := some (8, false) }) (v := ?_) rfl (by kernel_rfl) (by kernel_rfl) (by kernel_rfl) (fun _ _ _ h => h) (Or.inl ⟨by rfl, ?_⟩) (by assumption) ?_
      rotate_left
      · intro wt hSw; (try dsimp only at hSw); have c0 := cellB hSw c0 zr; have d0 := cellB hSw d0 zd; have d1 := cellB hSw d1 zd; first | (go_simp; done) | (go_simp; with_reducible rfl) | (trace_state; fail)
      try simp only [Act.put, List.setIfInBounds_toArray, List.set_cons_zero, List.set_cons_succ]
      refine wpAnyH_ready (rs := [21]) (by kernel_rfl) (by simp) ?_
      refine AllReadyH.cons (o := { dst := some 63, op := Op.call { callee := Callee.value (Operand.func 24), args := #[Operand.tmp 56, Operand.tmp 62], argTypes := #[3, 3] }, type := 4, pos := _, after := #[{ on := 14, ground := Ground.data }, { on := 20, ground := Ground.data }, { on := 8, ground := Ground.chain }, { on := 8, ground := Ground.guard }], guard := some (8, false) }) rfl (fun K hK => ?_) AllReadyH.nil
      go_simp
      refine (HI.out _).mono ?_; rintro e w2 ⟨rfl, rfl⟩
      go_wp2_with fail
      refine hK.out _ _ ?_ (fun hHeld => ?_)
      · (try dsimp only); first | assumption | exact Below.alloc hHeld hHeld.size _ | exact (Below.refl _ _).drew | exact Below.drew (Below.refl _ _) | exact Below_drewN _ _ _ | exact Below.refl _ _ | (trace_state; fail)
      clear hK K
      try simp only [Act.put, List.setIfInBounds_toArray, List.set_cons_zero, List.set_cons_succ]
      refine wpAnyH_take (i := 22) (oi := { dst := some 64, op := Op.unOp UnOp.not 4 (Operand.tmp 63), type := 4, pos := _, after := #[{ on := 21, ground := Ground.data }, { on := 8, ground := Ground.guard }], guard := some (8, false) }) (v := ?_) rfl (by kernel_rfl) (by kernel_rfl) (by kernel_rfl) (fun _ _ _ h => h) (Or.inl ⟨by rfl, ?_⟩) (by assumption) ?_
      rotate_left
      · intro wt hSw; (try dsimp only at hSw); have c0 := cellB hSw c0 zr; have d0 := cellB hSw d0 zd; have d1 := cellB hSw d1 zd; first | (go_simp; done) | (go_simp; with_reducible rfl) | (trace_state; fail)
      try simp only [Act.put, List.setIfInBounds_toArray, List.set_cons_zero, List.set_cons_succ]
      refine wpAnyH_take (i := 23) (oi := { dst := some 65, op := Op.pick (Operand.tmp 50) (Operand.const (Value.bool true)) (Operand.tmp 64), type := 4, pos := _, after := #[{ on := 8, ground := Ground.data }, { on := 22, ground := Ground.data }], guard := none }) (v := ?_) rfl (by kernel_rfl) (by kernel_rfl) (by kernel_rfl) (fun _ _ _ h => h) (Or.inl ⟨by rfl, ?_⟩) (by assumption) ?_
      rotate_left
      · intro wt hSw; (try dsimp only at hSw); have c0 := cellB hSw c0 zr; have d0 := cellB hSw d0 zd; have d1 := cellB hSw d1 zd; first | (go_simp; done) | (go_simp; with_reducible rfl) | (trace_state; fail)
      try simp only [Act.put, List.setIfInBounds_toArray, List.set_cons_zero, List.set_cons_succ]
      refine wpAnyH_done (by kernel_rfl) ?_ _
      have hBn := Lib.hid (hB.out.trans (hHeld.mono hB.out.size))
      clear hHeld
      go_wp2_with fail
      go_roundw
      case rel => exact ⟨k + 1, by omega, by simp, hgood, hBn⟩
      case measure => first | (simp [intOf]; done) | (simp [intOf]; omega)
    · obtain rfl : k = n0 := by omega
      have qk : ((k : Int) < (k : Int)) = False := eq_false (by omega)
      have hC := Lib.hid (show p.consts.all (fun x => kIn x.1 x.2) = true by have := hall.out; rwa [List.take_of_length_le (by have := HL0.out; omega)] at this)
      have HTb := fun W (h : Below w.heap.size w W) => ref17_Tables _ _ p.vars p.blocks W (hvs.below varR_stable h) (hbs.below blkR_stable h)
      clear hall
      by_cases ht : tablesE p.vars p.blocks = 0
      · have HT0 := Lib.hid ht
        rw [ht] at HTb
        have HRu := Lib.hid (HR.out.trans (rest_u hC.out ht))
        clear ht
        go_wp2_with fail
        refine (HTb _ HBw.out).mono ?_; rintro e wt ⟨rfl, hbt⟩
        have HBt := Lib.hid (hB.out.trans (hbt.mono hB.out.size))
        have HLu := Lib.hid (unitsL_len p.units)
        clear hbt HTb
        go_wp2_with fail
        go_loopw [5] (fun jj wr2 => ∃ (q : Nat), q ≤ n3 ∧ jj = .int .i64 q ∧ Hid (∀ z ∈ (unitsL p.units).take q, z = 0) ∧ Hid (Below W1.heap.size W1 wr2)) (fun jj _ => n3 - (intOf jj).toNat)
        case atStart => exact ⟨0, by omega, rfl, Lib.hid (by simp), HBt⟩
        case round =>
          obtain ⟨q, hq, rfl, hal, hBq⟩ := hrel
          have hjr := HJ.out _ hBq.out
          clear c0 c1 c2 c3
          have c3 := obj_cell hjr (i := 3) rfl
          have HBq := Lib.hid (HB.out.trans (hBq.out.mono HB.out.size))
          clear hjr
          by_cases hqm : q < n3
          · have qq : ((q : Int) < (n3 : Int)) = True := eq_true (by omega)
            obtain ⟨x, hx⟩ := get_some (L := p.units) (n := q) (by have := HL3.out; omega)
            obtain ⟨b, off, rfl, hbw, hc⟩ := unit_at hus (k := q) (lt_of_get hx)
            obtain ⟨u1, u3, u4, d0, d1, d2, d3, d4, hU⟩ := hc q x hx
            have d0 := (HBq.out.cell (p := ⟨b, off + q * 5, none⟩) hbw).trans d0
            have d1 := (HBq.out.cell (p := ⟨b, off + q * 5 + 1, none⟩) hbw).trans d1
            have d2 := (HBq.out.cell (p := ⟨b, off + q * 5 + 2, none⟩) hbw).trans d2
            have d3 := (HBq.out.cell (p := ⟨b, off + q * 5 + 3, none⟩) hbw).trans d3
            have d4 := (HBq.out.cell (p := ⟨b, off + q * 5 + 4, none⟩) hbw).trans d4
            have hfx' : x.name.length ≤ 300 ∧ x.params.length ≤ 20 ∧ x.locals.length ≤ 1100 ∧ x.code.length ≤ 300 := of_decide_eq_true (hfu x (List.mem_of_getElem? hx))
            obtain ⟨a1, b1, rfl⟩ := row_get hU.ps
            obtain ⟨a3, b3, rfl⟩ := row_get hU.ls
            obtain ⟨a4, b4, rfl⟩ := row_get hU.cs
            have hU' := hU.below HBq.out
            have HZ := Lib.hid (unitsL_at hx)
            obtain ⟨mm, hmm⟩ : ∃ m, ((q : Int) == 0) = m := ⟨_, rfl⟩
            rw [hmm] at HZ
            have HT := Lib.hid (take_snoc HZ.out)
            obtain ⟨gx, hgx⟩ : ∃ g, g = wr.heap.size := ⟨_, rfl⟩
            obtain ⟨Wu, hWu⟩ : ∃ Wu, Wu = wr.alloc (.cells #[.string ⟨x.name.toArray⟩, .slice a1 x.params.length b1, .int .i64 x.result, .slice a3 x.locals.length b3, .slice a4 x.code.length b4] 38) := ⟨_, rfl⟩
            have hb1 : Below wr.heap.size wr Wu := by rw [hWu]; exact by (repeat' (first | (with_reducible exact Below.refl _ _) | (with_reducible assumption) | (with_reducible refine below_drewN ?_ _) | (with_reducible refine Below.alloc ?_ ?_ _) | (with_reducible refine Below.drew ?_) | (with_reducible refine Below.setCell ?_ ?_ _) | go_size))
            have hj1 : Wu.heap[wr.heap.size]? = some (.cells #[.string ⟨x.name.toArray⟩, .slice a1 x.params.length b1, .int .i64 x.result, .slice a3 x.locals.length b3, .slice a4 x.code.length b4] 38) := by rw [hWu]; exact get_last rfl
            have e1 := obj_cell hj1 (i := 1) rfl
            have e2 := obj_cell hj1 (i := 2) rfl
            have e3 := obj_cell hj1 (i := 3) rfl
            have e4 := obj_cell hj1 (i := 4) rfl
            have HHd := ref17_Head (.slice a1 x.params.length b1) (.slice a3 x.locals.length b3) x.params x.locals x.result mm Wu (hU'.ps.below intR_stable hb1) (hU'.ls.below intR_stable hb1) hfx'.2.1 hfx'.2.2.1
            have HBu := Lib.hid (hBq.out.trans (hb1.mono hBq.out.size))
            have HWu := Lib.hid hWu
            clear hc hx hU hU' hWu hb1 hj1 hgx
            go_upto_region 15 with fail
            rw [← HWu.out]
            by_cases h0 : headE x.params x.locals x.result mm = 0
            · rw [h0] at HHd
              have HC := Lib.hid (show unitE x mm = codeE x.code.length from if_pos h0)
              clear h0
              by_cases hp0 : x.code.length < 1
              · have r1 : ((x.code.length : Int) < 1) = True := eq_true (by omega)
                have HC5 := Lib.hid (show unitE x mm = 5 by rw [HC.out]; exact unless_no (by rw [decide_eq_false (by omega)]; rfl))
                have hfe := Lib.hid (HRu.out.trans (firstE_at hal.out HZ.out (by rw [HC5.out]; decide)))
                have r2 : (x.code.length < 1) = True := eq_true hp0
                clear hp0
                go_wp2_with fail
                refine HHd.mono ?_; rintro e w2 ⟨rfl, rfl⟩
                go_wp2_with fail
                go_ret
                exact ⟨by rw [hfe.out, HC5.out]; rfl, HB.out.trans (HBu.out.mono HB.out.size)⟩
              · have r1 : ((x.code.length : Int) < 1) = False := eq_false (by omega)
                have r3 : (16384 < (x.code.length : Int)) = False := eq_false (by omega)
                have HC0 := Lib.hid (show unitE x mm = 0 by rw [HC.out]; exact unless_yes (by rw [decide_eq_true (by omega), decide_eq_true (by omega)]; rfl))
                have r2 : (x.code.length < 1) = False := eq_false hp0
                clear hp0
                go_wp2_with fail
                refine HHd.mono ?_; rintro e w2 ⟨rfl, rfl⟩
                go_wp2_with fail
                go_roundw
                case rel => exact ⟨q + 1, by omega, by simp, Lib.hid (by rw [HT.out]; intro z hz; rcases List.mem_append.1 hz with h | h; exact hal.out z h; rw [List.mem_singleton.1 h]; exact HC0.out), HBu⟩
                case measure => first | (simp [intOf]; done) | (simp [intOf]; omega)
            · obtain ⟨z, hz⟩ : ∃ z, headE x.params x.locals x.result mm = z := ⟨_, rfl⟩
              rw [hz] at HHd h0
              have HC := Lib.hid (show unitE x mm = z by unfold unitE; rw [hz, if_neg h0])
              have hfe := Lib.hid (HRu.out.trans (firstE_at hal.out HZ.out (by rw [HC.out]; exact h0)))
              have q0 : (z != 0) = true := by simpa using h0
              clear hz
              go_wp2_with fail
              refine HHd.mono ?_; rintro e w2 ⟨rfl, rfl⟩
              go_wp2_with fail
              go_ret
              exact ⟨by rw [hfe.out, HC.out]; rfl, HB.out.trans (HBu.out.mono HB.out.size)⟩
          · obtain rfl : q = n3 := by omega
            have qq : ((q : Int) < (q : Int)) = False := eq_false (by omega)
            have hfe := Lib.hid (HRu.out.trans (firstE_none (es := unitsL p.units) (by have := hal.out; rwa [List.take_of_length_le (by rw [HLu.out, HL3.out]; exact Nat.le_refl _)] at this)))
            go_wp2_with fail
            go_ret
            exact ⟨by rw [hfe.out]; rfl, HBq.out⟩
      · obtain ⟨z, hz⟩ : ∃ z, tablesE p.vars p.blocks = z := ⟨_, rfl⟩
        have hE := Lib.hid (HR.out.trans (rest_t hC.out ht))
        rw [hz] at HTb ht hE
        have q0 : (z != 0) = true := by simpa using ht
        clear hz ht
        go_wp2_with fail
        refine (HTb _ HBw.out).mono ?_; rintro e wt ⟨rfl, hbt⟩
        go_wp2_with fail
        go_ret
        exact ⟨by rw [hE.out]; rfl, HBw.out.trans (hbt.mono HBw.out.size)⟩
end Go.Proofs.YtefejcofmopjfaaGreatDoor

/- slices.Sort and slices.Compact at []int, over a row of the call's own: out of the library's contracts. -/
namespace Go.Proofs.YtefejcofmopjfaaGreatDoor
open Go.RowKit Go.Sort
set_option linter.unusedSimpArgs false
set_option linter.unusedVariables false
theorem slices_Sort (v : Value) (l : List Int) (B : Nat) (e : TypeId) (w : World) (h : w.ownsRow B e 1 v l.length (iV l)) (hn : l.length < 4611686018427387904) :
    Calls Tryz.prog 82 #[v] w fun r w' => r = .returned (.tuple #[]) ∧ w'.ownsRow B e 1 v l.length (iV (CL.srt l)) ∧ w.grownBy w' v.ownBlock := by
  by_cases h0 : v = .slice none 0 0
  · subst h0
    have hl : l = [] := by
      rcases h.2 with ⟨_, h1⟩ | ⟨g, cap, cur, h1, _⟩
      · exact List.length_eq_zero_iff.1 h1
      · cases h1
    subst hl
    refine (Any.slices_Sort_int_none Tryz.laysSort none 0 w).mono ?_
    rintro r w' ⟨rfl, rfl⟩
    exact ⟨rfl, by have := World.ownsRow_nil w' B e 1; simpa [CL.srt, iV] using this, World.grownBy.refl _ _⟩
  · obtain ⟨g, cap, rfl, hbg, hgl, hncap, hcm, hlen, hH⟩ := Lib.holds_of_ownsRow h h0
    refine (Any.slices_Sort_int Tryz.laysSort g 0 cap l w hH hgl hn).mono ?_
    rintro r w' ⟨rfl, n, os, rfl⟩
    refine ⟨rfl, ?_, grownBy_sortedI _⟩
    rcases h.2 with ⟨e0, _⟩ | ⟨g', cap', cur, hv, hbase, hb, h1, h2, h3, h4⟩
    · cases e0
    cases hv
    exact ownsRow_sortedI (n := n) (os := os) (ss := l) (ts := CL.srt l) (CL.srt_len l) hbase hb h1 h2 h3
theorem compact_le (l : List Int) : (Lib.compact l).length ≤ l.length := by
  unfold Lib.compact Lib.compactUpTo
  rw [List.length_map]
  have := List.length_filter_le (Lib.keeps l.toArray) (List.range l.length)
  rwa [List.length_range] at this
theorem slices_Compact (v : Value) (l : List Int) (B : Nat) (e : TypeId) (w : World) (h : w.ownsRow B e 1 v l.length (iV l)) (hn : l.length ≤ 9223372036854775807) :
    Calls Tryz.prog 83 #[v] w fun r w' => ∃ u, r = .returned u ∧ w'.ownsRow B e 1 u (Lib.compact l).length (iV (Lib.compact l)) ∧ w.grownBy w' v.ownBlock ∧ (u.ownBlock = v.ownBlock) := by
  by_cases h0 : v = .slice none 0 0
  · subst h0
    have hl : l = [] := by
      rcases h.2 with ⟨_, h1⟩ | ⟨g, cap, cur, h1, _⟩
      · exact List.length_eq_zero_iff.1 h1
      · cases h1
    subst hl
    refine (Any.slices_Compact_int_empty Tryz.laysCompact none 0 w).mono ?_
    rintro r w' ⟨rfl, rfl⟩
    exact ⟨_, rfl, by have := World.ownsRow_nil w' B e 1; simpa [Lib.compact, Lib.compactUpTo, iV] using this, World.grownBy.refl _ _, rfl⟩
  · obtain ⟨g, cap, rfl, hbg, hgl, hncap, hcm, hlen, hH⟩ := Lib.holds_of_ownsRow h h0
    refine (Any.slices_Compact_int Tryz.laysCompact g 0 cap l w hH hn hncap).mono ?_
    rintro r w' ⟨rfl, q, rfl⟩
    have hle : (Lib.compact l).length ≤ l.length := compact_le l
    have hc := Lib.ownsRow_putRow (q := q) (k := (Lib.compact l).length) (ys := Lib.compact l ++ List.replicate (l.length - (Lib.compact l).length) 0) h (by simp; omega) (by omega)
    rw [List.take_left] at hc
    refine ⟨_, rfl, hc, ?_, rfl⟩
    exact ⟨rfl, rfl, rfl, by simp [putRow, mapBlock, Sort.ahead], fun k hk hne => by
      have : g ≠ k := fun e => hne (by rw [← e]; rfl)
      simp [putRow, mapBlock, Sort.ahead, Array.getElem?_modify, this]⟩
end Go.Proofs.YtefejcofmopjfaaGreatDoor

/- calls.Of: whom a unit calls. -/
namespace Go.Proofs.YtefejcofmopjfaaGreatDoor
open Go.RowKit
set_option linter.unusedSimpArgs false
set_option linter.unusedVariables false
open CL (tg ofN srt)
def ofC (C : List (List Ins)) (z : Int) : List Nat := if 0 ≤ z ∧ z < (C.length : Int) then ofN C.length (C.getD z.toNat []) else []
theorem src_newE (w : World) (C : List Value) (t : TypeId) {b : Nat} (hb : w.heap.size = b) : Src (w.alloc (.cells C.toArray t)) (.slice (some ⟨b, 0, none⟩) 1 1) 1 C := by subst hb; exact src_new w C t
set_option maxRecDepth 100000 in
set_option maxHeartbeats 4000000 in
theorem calls_Of (v : Value) (L : List Un) (z : Int) (w : World) (hv : RowR 5 unitR w v L) (hn : L.length ≤ 100) (hc : ∀ x ∈ L, x.code.length ≤ 300) :
    Calls Tryz.prog 59 #[v, .int .i64 z] w fun r w' => ∃ u, r = .returned u ∧ w'.ownsRow w.heap.size 3 1 u (ofC (L.map Un.code) z).length (iV (nI (ofC (L.map Un.code) z))) ∧ Below w.heap.size w w' := by
  obtain ⟨i, hi, hz, hsize, hby⟩ : ∃ i, Tryz.prog.info? 3 = some i ∧ i.zero = some (.int .i64 0) ∧ i.size = 1 ∧ i.bytes = 8 := ⟨(Tryz.prog.info? 3).get!, by kernel_rfl, by kernel_rfl, by kernel_rfl, by kernel_rfl⟩
  have HV := Lib.hid hv
  have HC := Lib.hid hc
  obtain ⟨ad, cap, rfl⟩ := row_get hv
  have HOf := Lib.hid (show ofC (L.map Un.code) z = if 0 ≤ z ∧ z < (L.length : Int) then ofN L.length ((L.map Un.code).getD z.toNat []) else [] by unfold ofC; rw [List.length_map])
  generalize ofC (L.map Un.code) z = R at *
  obtain ⟨n, hN⟩ : ∃ n, L.length = n := ⟨_, rfl⟩
  have HN := Lib.hid hN
  rw [hN] at hn HV HOf ⊢
  clear hv hN hc
  by_cases h0 : z < 0
  · have q0 : (z < 0) = True := eq_true h0
    have HR := Lib.hid (show R = [] by rw [HOf.out, if_neg (fun h => by omega)])
    clear h0
    go_enter Tryz.func59, Tryz.ntmps59
    go_wp2_with fail
    go_ret
    exact ⟨_, rfl, by rw [HR.out]; exact World.ownsRow_nil _ _ _ _, Below.refl _ _⟩
  have q0 : (z < 0) = False := eq_false h0
  by_cases h1 : (n : Int) ≤ z
  · have q1 : ((n : Int) ≤ z) = True := eq_true h1
    have HR := Lib.hid (show R = [] by rw [HOf.out, if_neg (fun h => by omega)])
    clear h0 h1
    go_enter Tryz.func59, Tryz.ntmps59
    go_wp2_with fail
    go_ret
    exact ⟨_, rfl, by rw [HR.out]; exact World.ownsRow_nil _ _ _ _, Below.refl _ _⟩
  obtain ⟨u, rfl⟩ : ∃ u : Nat, z = (u : Int) := ⟨z.toNat, by omega⟩
  have hu : u < n := by omega
  have q1 : ((n : Int) ≤ (u : Int)) = False := eq_false h1
  have q1' : (n ≤ u) = False := eq_false (by omega)
  have q2 : ((u : Int) < (n : Int)) = True := eq_true (by omega)
  have q2' : (u < n) = True := eq_true hu
  obtain ⟨x, hx⟩ := get_some (L := L) (n := u) (by rw [HN.out]; exact hu)
  obtain ⟨b, off, rfl, hb, hcell⟩ := unit_at HV.out (k := u) (by rw [HN.out]; exact hu)
  obtain ⟨u1, u3, u4, _, _, _, _, c4, hun⟩ := hcell u x hx
  have HX := Lib.hid hun.cs
  obtain ⟨ca, cc, rfl⟩ := row_get hun.cs
  have HRR := Lib.hid (show R = ofN n x.code by
    rw [HOf.out, if_pos (by omega)]
    congr 1
    rw [Int.toNat_natCast]
    simp [List.getD, hx])
  have hcl := HC.out x (List.mem_of_getElem? hx)
  generalize hcs : x.code = cs at *
  obtain ⟨C, hC⟩ : ∃ C, cs.length = C := ⟨_, rfl⟩
  have HCl := Lib.hid hC
  rw [hC] at c4 HX hcl
  clear hcs hC HOf hcell hun hx h0 h1 HC HV
  go_enter Tryz.func59, Tryz.ntmps59
  go_wp2_with fail
  go_loopw [5, 22] (fun o jj wr => ∃ k t : Nat, k ≤ C ∧ jj = .int .i64 k ∧ Hid ((tg n (cs.take k)).length = t ∧ t ≤ k) ∧ Hid (wr.ownsRow w.heap.size 3 1 o t (iV (tg n (cs.take k)))) ∧ Hid (Below w.heap.size w wr)) (fun _ jj _ => C - (intOf jj).toNat)
  case atStart => exact ⟨0, 0, by omega, rfl, Lib.hid ⟨rfl, Nat.le_refl _⟩, Lib.hid (World.ownsRow_nil _ _ _ _), Lib.hid (Below.refl _ _)⟩
  case round =>
    obtain ⟨k, t, hk, rfl, hT, hO, hB⟩ := hrel
    by_cases hlt : k < C
    case neg =>
      obtain rfl : k = C := by omega
      have qk : ((k : Int) < (k : Int)) = False := eq_false (by omega)
      have qk' : (k < k) = False := eq_false (by omega)
      rw [List.take_of_length_le (by rw [HCl.out]; exact Nat.le_refl _)] at hT hO
      have HS := Lib.hid (slices_Sort u5 (tg n cs) w.heap.size 3 wr (by rw [hT.out.1]; exact hO.out) (by rw [hT.out.1]; have := hT.out.2; omega))
      have HOO := hO
      have HBB := hB
      have HTT := hT
      clear hT hO hB hlt hk
      go_wp2_with fail
      refine HS.out.mono ?_; rintro r w2 ⟨rfl, hO2, hG2⟩
      have HB2 := Lib.hid (grown3 HBB.out HBB.out.size HOO.out hG2)
      have HO2 := Lib.hid (show w2.ownsRow w.heap.size 3 1 u5 (srt (tg n cs)).length (iV (srt (tg n cs))) by rw [CL.srt_len]; exact hO2)
      have HK := Lib.hid (slices_Compact u5 (srt (tg n cs)) w.heap.size 3 w2 HO2.out (by rw [CL.srt_len, HTT.out.1]; have := HTT.out.2; omega))
      clear hO2 hG2 HOO HBB
      go_wp2_with fail
      refine HK.out.mono ?_; rintro r w3 ⟨u6, rfl, hO3, hG3, _⟩
      have HB3 := Lib.hid (grown3 HB2.out HB2.out.size HO2.out hG3)
      have HO3 := Lib.hid hO3
      clear hO3 hG3 HO2 HB2
      go_wp2_with fail
      go_ret
      refine ⟨u6, rfl, ?_, HB3.out⟩
      have h := HO3.out
      rw [CL.of_eq] at h
      rw [HRR.out]
      exact own_eq2 h (by simp) rfl
    have qk : ((k : Int) < (C : Int)) = True := eq_true (by omega)
    have qk' : (k < C) = True := eq_true hlt
    have hk62 : k ≤ 9223372036854775806 := by omega
    have HK := Lib.hid hlt
    obtain ⟨y, hy⟩ := get_some (L := cs) (n := k) (by rw [HCl.out]; exact hlt)
    obtain ⟨b2, off2, hse, hb2, hcell⟩ := row_at HX.out (k := k) (by rw [HCl.out]; exact hlt)
    cases hse
    obtain ⟨d0, d1, d2, g0, g1, g2⟩ := ins_cells hcell hy
    have d0 := (hB.out.cell (p := ⟨b2, off2 + k * 3, none⟩) hb2).trans d0
    have d1 := (hB.out.cell (p := ⟨b2, off2 + k * 3 + 1, none⟩) hb2).trans d1
    have d2 := (hB.out.cell (p := ⟨b2, off2 + k * 3 + 2, none⟩) hb2).trans d2
    have HTk := Lib.hid (show tg n (cs.take (k + 1)) = if y.1 = 33 ∧ 0 ≤ y.2.1 ∧ y.2.1 < (n : Int) then tg n (cs.take k) ++ [y.2.1] else tg n (cs.take k) by rw [take_snoc hy]; exact CL.tg_snoc n _ y)
    have hsz := hB.out.size
    have HOO := hO
    have HBB := hB
    have HTT := hT
    obtain ⟨y0, y1, y2⟩ := y
    simp only at d0 d1 d2 HTk
    have HBA := Lib.hid (fun o => hB.out.alloc hsz o)
    have HOA := Lib.hid (fun o => owns_below hO.out ((Below.refl wr.heap.size wr).alloc (Nat.le_refl _) o))
    clear hcell hy hT hO hB hlt hk g0 g1 g2
    by_cases e1 : y0 = 33
    case neg =>
      have q3 : (y0 == 33) = false := by simpa using e1
      have HTk := Lib.hid (show tg n (cs.take (k + 1)) = tg n (cs.take k) by rw [HTk.out, if_neg (fun h => e1 h.1)])
      clear e1
      go_wp2_with fail
      go_roundw
      case rel => exact ⟨k + 1, t, by have := HK.out; omega, by simp, Lib.hid (by rw [HTk.out]; exact ⟨HTT.out.1, by have := HTT.out.2; omega⟩), Lib.hid (by rw [HTk.out]; exact HOA.out _), Lib.hid (HBA.out _)⟩
      case measure => have := HK.out; first | (simp [intOf]; done) | (simp [intOf]; omega)
    have q3 : (y0 == 33) = true := by simpa using e1
    by_cases e2 : 0 ≤ y1
    case neg =>
      have q4 : (0 ≤ y1) = False := eq_false e2
      have HTk := Lib.hid (show tg n (cs.take (k + 1)) = tg n (cs.take k) by rw [HTk.out, if_neg (fun h => e2 h.2.1)])
      clear e1 e2
      go_wp2_with fail
      go_roundw
      case rel => exact ⟨k + 1, t, by have := HK.out; omega, by simp, Lib.hid (by rw [HTk.out]; exact ⟨HTT.out.1, by have := HTT.out.2; omega⟩), Lib.hid (by rw [HTk.out]; exact HOA.out _), Lib.hid (HBA.out _)⟩
      case measure => have := HK.out; first | (simp [intOf]; done) | (simp [intOf]; omega)
    have q4 : (0 ≤ y1) = True := eq_true e2
    by_cases e3 : y1 < (n : Int)
    case neg =>
      have q5 : (y1 < (n : Int)) = False := eq_false e3
      have HTk := Lib.hid (show tg n (cs.take (k + 1)) = tg n (cs.take k) by rw [HTk.out, if_neg (fun h => e3 h.2.2)])
      clear e1 e2 e3
      go_wp2_with fail
      go_roundw
      case rel => exact ⟨k + 1, t, by have := HK.out; omega, by simp, Lib.hid (by rw [HTk.out]; exact ⟨HTT.out.1, by have := HTT.out.2; omega⟩), Lib.hid (by rw [HTk.out]; exact HOA.out _), Lib.hid (HBA.out _)⟩
      case measure => have := HK.out; first | (simp [intOf]; done) | (simp [intOf]; omega)
    have q5 : (y1 < (n : Int)) = True := eq_true e3
    have HTk := Lib.hid (show tg n (cs.take (k + 1)) = tg n (cs.take k) ++ [y1] by rw [HTk.out, if_pos ⟨e1, e2, e3⟩])
    clear e1 e2 e3
    go_wp2_with (first | (at_builtin; go_loud (refine wpList_append_src rfl (.tmp 41) (.tmp 44) 35 rfl w.heap.size 3 i (.int .i64 0) 1 8 Tryz.underlying35 hi hz hsize hby rfl (by omega) _ t _ rfl (owns_below (HOA.out _) ((Below.refl _ _).alloc (Nat.le_refl _) _)) _ 1 [.int .i64 y1] rfl (src_newE _ _ _ (by simp)) rfl (by intro u hu; simp at hu; rw [hu]; rfl) (by have := HTT.out.2; have := HK.out; unfold maxLen; omega) (by have := HTT.out.2; have := HK.out; omega) (by simp; omega) ?_; intro v3 w3 hO3 hG3; have hB3 := Lib.hid (grown3 ((HBA.out _).alloc (by simp; omega) _) (by simp; omega) (owns_below (HOA.out _) ((Below.refl _ _).alloc (Nat.le_refl _) _)) hG3); have HO3 := Lib.hid hO3; clear hO3 hG3)) | fail)
    go_roundw
    case rel => exact ⟨k + 1, t + 1, by have := HK.out; omega, by simp, Lib.hid (by rw [HTk.out, List.length_append, HTT.out.1]; exact ⟨rfl, by have := HTT.out.2; omega⟩), Lib.hid (by rw [HTk.out]; exact own_eq2 HO3.out rfl (by simp [iV])), hB3⟩
    case measure => have := HK.out; first | (simp [intOf]; done) | (simp [intOf]; omega)
end Go.Proofs.YtefejcofmopjfaaGreatDoor

/- A map from numbers to numbers, as the numbers that it has. -/
namespace Go.Proofs.YtefejcofmopjfaaGreatDoor
open Go.RowKit Go.Maps
set_option linter.unusedSimpArgs false
set_option linter.unusedVariables false
def PlMap (P : Program) (K E : TypeId) (w : World) (b n : Nat) (L : List Nat) : Prop :=
  ∃ D : DataW Unit, w.ownsMap P K (plainElem P E) b n D ∧ IsMap D ∧ ∀ x : Int, Maps.has D (.int .i64 x) = decide (∃ u ∈ L, x = ((u : Nat) : Int))
theorem PlMap.made (P : Program) (K E : TypeId) (w : World) : PlMap P K E (w.alloc (.map #[] 0)) w.heap.size 0 [] :=
  ⟨.map [], World.ownsMap_made _ _ _ _, isMap_empty, fun x => by simp [Maps.has]⟩
theorem PlMap.kept {P : Program} {K E : TypeId} {w w' : World} {b n : Nat} {L : List Nat} {row : Option Nat} (h : PlMap P K E w b n L) (hg : w.grownBy w' row) (hne : some b ≠ row) : PlMap P K E w' b n L := by
  obtain ⟨D, h1, h2, h3⟩ := h
  exact ⟨D, h1.kept hg hne, h2, h3⟩
theorem grown_none {w w' : World} (h : Below w.heap.size w w') : w.grownBy w' none := ⟨h.os, h.tape, h.output, h.size, fun k hk _ => h.block k hk⟩
theorem PlMap.below {P : Program} {K E : TypeId} {w w' : World} {b n : Nat} {L : List Nat} (h : PlMap P K E w b n L) (hg : Below w.heap.size w w') : PlMap P K E w' b n L := h.kept (grown_none hg) (by simp)
theorem key_int {P : Program} {K : TypeId} (hk : P.underlying K = some (.int .i64)) {x : Int} (hx : I64 x) : keyOf P K (.int .i64 x) = some (.int .i64 x) := by
  unfold I64 at hx
  exact keyOf_int_mk hk (by have h1 : IntKind.i64.min = -9223372036854775808 := by decide
                            have h2 : IntKind.i64.max = 9223372036854775807 := by decide
                            simp only [Lit.wf, h1, h2, Bool.and_eq_true, decide_eq_true_eq]; omega)
theorem PlMap.look {P : Program} {K E t : TypeId} {w : World} {b n : Nat} {L : List Nat} (h : PlMap P K E w b n L) (hk : P.underlying K = some (.int .i64)) (ht : P.underlying t = some (.map K E)) (he : P.underlying E = some (.int .i64))
    (hz : (zeroValue E).run P w = .ok (.int .i64 0) w) {x : Int} (hx : I64 x) : ∃ v, (Instr.lookup t (.map (some b)) (.int .i64 x) true).run P w = .ok (.tuple #[v, .bool (decide (∃ u ∈ L, x = ((u : Nat) : Int)))]) w := by
  obtain ⟨D, h1, h2, h3⟩ := h
  obtain ⟨v, ps, hrun, _⟩ := h1.look_ok (int_keyed hk) ht hz (plainElem_int he (by decide)) (key_int hk hx)
  rw [h3 x] at hrun
  exact ⟨v, hrun⟩
theorem PlMap.put {P : Program} {K E : TypeId} {w : World} {b n : Nat} {L : List Nat} {D : DataW Unit} {u : Nat} {c : Int} (hI : IsMap D) (hat : ∀ x : Int, Maps.has D (.int .i64 x) = decide (∃ u ∈ L, x = ((u : Nat) : Int)))
    (h : w.ownsMap P K (plainElem P E) b n (D.put (.int .i64 (u : Int)) (.lit (.int .i64 c)))) : PlMap P K E w b n (L ++ [u]) := by
  refine ⟨_, h, hI.put _ _, fun y => ?_⟩
  by_cases hy : y = (u : Int)
  · subst hy
    rw [has_put_same hI (by trivial)]
    exact (decide_eq_true ⟨u, by simp, rfl⟩).symm
  · rw [has_put_other (fun e => hy (by injection e)), hat y]
    apply decide_eq_decide.2
    constructor
    · rintro ⟨z, hz, rfl⟩; exact ⟨z, by simp [hz], rfl⟩
    · rintro ⟨z, hz, rfl⟩
      rw [List.mem_append, List.mem_singleton] at hz
      rcases hz with hz | rfl
      · exact ⟨z, hz, rfl⟩
      · exact absurd rfl hy
end Go.Proofs.YtefejcofmopjfaaGreatDoor

/- calls.ready: the least unit that may be put next. -/
namespace Go.Proofs.YtefejcofmopjfaaGreatDoor
open Go.RowKit
set_option linter.unusedSimpArgs false
set_option linter.unusedVariables false
open CL (rdy readyF)
def there (out : List Nat) (x : Int) : Bool := decide (∃ u ∈ out, x = ((u : Nat) : Int))
theorem there_nat (out : List Nat) (u : Nat) : there out (u : Int) = out.contains u := by
  unfold there
  rw [List.contains_eq_mem]
  apply decide_eq_decide.2
  constructor
  · rintro ⟨z, hz, h⟩
    have : u = z := by omega
    rw [this]; exact hz
  · intro h; exact ⟨u, h, rfl⟩
theorem put_at (g b n : Nat) (out : List Nat) (x : Int) (w : World) (hc : w.cell? ⟨g, 0, none⟩ = some (.map (some b))) (hm : PlMap Tryz.prog 3 3 w b n out) (hx : I64 x) :
    Calls Tryz.prog 84 #[.int .i64 x, .pointer (some ⟨g, 0, none⟩)] w fun r w' => r = .returned (.bool (there out x)) ∧ w' = w := by
  obtain ⟨v, hl⟩ := hm.look Tryz.underlying3 Tryz.underlying117 Tryz.underlying3 (Tryz.zeroValue3 w) hx
  replace hl : (Instr.lookup 117 (.map (some b)) (.int .i64 x) true).run Tryz.prog w = .ok (.tuple #[v, .bool (there out x)]) w := hl
  generalize there out x = z at *
  clear hm hx
  go_enter Tryz.func84, Tryz.ntmps84
  go_wp2_with fail
  go_ret
  exact ⟨rfl, rfl⟩
theorem unput_at (f g b n : Nat) (out : List Nat) (x : Int) (w : World) (hf : w.cell? ⟨f, 0, none⟩ = some (.func (.func 84) #[] #[.pointer (some ⟨g, 0, none⟩)])) (hc : w.cell? ⟨g, 0, none⟩ = some (.map (some b))) (hm : PlMap Tryz.prog 3 3 w b n out) (hx : I64 x) :
    Calls Tryz.prog 86 #[.int .i64 x, .pointer (some ⟨f, 0, none⟩)] w fun r w' => r = .returned (.bool (!there out x)) ∧ w' = w := by
  have HP := Lib.hid (put_at g b n out x w hc hm hx)
  clear hc hm
  go_enter Tryz.func86, Tryz.ntmps86
  go_wp2_with fail
  refine HP.out.mono ?_; rintro r w2 ⟨rfl, rfl⟩
  go_wp2_with fail
  go_ret
  exact ⟨rfl, rfl⟩
set_option maxHeartbeats 1000000 in
theorem index_at (v : Value) (l : List Int) (f g b n : Nat) (out : List Nat) (w : World) (hv : RowR 1 intR w v l) (hf : w.cell? ⟨f, 0, none⟩ = some (.func (.func 84) #[] #[.pointer (some ⟨g, 0, none⟩)])) (hc : w.cell? ⟨g, 0, none⟩ = some (.map (some b))) (hm : PlMap Tryz.prog 3 3 w b n out) :
    Calls Tryz.prog 108 #[v, .func (.func 86) #[] #[.pointer (some ⟨f, 0, none⟩)]] w fun r w' => ∃ z : Int, r = .returned (.int .i64 z) ∧ decide (0 ≤ z) = l.any (fun x => !there out x) ∧ w' = w := by
  have HX := Lib.hid (fun x (hx : I64 x) => unput_at f g b n out x w hf hc hm hx)
  have hlen := hv.len
  have HV := Lib.hid hv
  obtain ⟨ad, cap, rfl⟩ := row_get hv
  obtain ⟨N, hN⟩ : ∃ N, l.length = N := ⟨_, rfl⟩
  have HN := Lib.hid hN
  rw [hN] at HV hlen ⊢
  clear hN hv hf hc hm
  go_enter Tryz.func108, Tryz.ntmps108
  go_wp2_with fail
  go_loopw [8] (fun jj wr => ∃ k : Nat, k ≤ N ∧ jj = .int .i64 k ∧ Hid ((l.take k).any (fun x => !there out x) = false) ∧ wr = w) (fun jj _ => N - (intOf jj).toNat)
  case atStart => exact ⟨0, by omega, rfl, Lib.hid rfl, rfl⟩
  case round =>
    obtain ⟨k, hk, rfl, hT, hwr⟩ := hrel
    have hwr := hwr.symm
    subst hwr
    by_cases hlt : k < N
    case neg =>
      obtain rfl : k = N := by omega
      have qk : ((k : Int) < (k : Int)) = False := eq_false (by omega)
      have qk' : (k < k) = False := eq_false (by omega)
      have HT := Lib.hid (show l.any (fun x => !there out x) = false by have h := hT.out; rwa [List.take_of_length_le (by rw [HN.out]; exact Nat.le_refl _)] at h)
      clear hT hlt hk
      go_wp2_with fail
      go_ret
      exact ⟨-1, rfl, by rw [HT.out]; rfl, rfl⟩
    have qk : ((k : Int) < (N : Int)) = True := eq_true (by omega)
    have qk' : (k < N) = True := eq_true hlt
    have hk62 : k ≤ 9223372036854775806 := by omega
    have HK := Lib.hid hlt
    obtain ⟨b2, off, hse, hb, h1, h2, hcl, hzi⟩ := int_at HV.out (k := k) (by rw [HN.out]; exact hlt)
    subst hse
    have HC := Lib.hid (HX.out _ hzi)
    have HTk := Lib.hid (show (l.take (k + 1)).any (fun x => !there out x) = !there out (l.getD k 0) by
      rw [List.take_add_one, List.any_append, hT.out, List.getElem?_eq_getElem (by rw [HN.out]; exact hlt)]
      simp [List.getD, List.getElem?_eq_getElem (show k < l.length by rw [HN.out]; exact hlt)])
    have HTa := Lib.hid (show there out (l.getD k 0) = false → l.any (fun x => !there out x) = true by
      intro h
      rw [List.any_eq_true]
      refine ⟨l.getD k 0, ?_, by rw [h]; rfl⟩
      have : l.getD k 0 = l[k]'(by rw [HN.out]; exact hlt) := by simp [List.getD, List.getElem?_eq_getElem (show k < l.length by rw [HN.out]; exact hlt)]
      rw [this]; exact List.getElem_mem _)
    generalize l.getD k 0 = x at *
    clear hzi hT hlt hk
    go_wp2_with fail
    refine HC.out.mono ?_; rintro r w2 ⟨rfl, rfl⟩
    cases ht : there out x
    · have HA := Lib.hid (HTa.out ht)
      clear ht
      go_wp2_with fail
      go_ret
      exact ⟨(k : Int), rfl, by rw [HA.out]; exact decide_eq_true (by omega), rfl⟩
    · rw [ht] at HTk
      clear ht
      go_wp2_with fail
      go_roundw
      case rel => exact ⟨k + 1, by have := HK.out; omega, by simp, Lib.hid HTk.out, by simp⟩
      case measure => have := HK.out; first | (simp [intOf]; done) | (simp [intOf]; omega)
theorem contains_at (v : Value) (l : List Int) (f g b n : Nat) (out : List Nat) (w : World) (hv : RowR 1 intR w v l) (hf : w.cell? ⟨f, 0, none⟩ = some (.func (.func 84) #[] #[.pointer (some ⟨g, 0, none⟩)])) (hc : w.cell? ⟨g, 0, none⟩ = some (.map (some b))) (hm : PlMap Tryz.prog 3 3 w b n out) :
    Calls Tryz.prog 85 #[v, .func (.func 86) #[] #[.pointer (some ⟨f, 0, none⟩)]] w fun r w' => r = .returned (.bool (l.any (fun x => !there out x))) ∧ w' = w := by
  have HX := Lib.hid (index_at v l f g b n out w hv hf hc hm)
  obtain ⟨Z, hZ⟩ : ∃ Z, l.any (fun x => !there out x) = Z := ⟨_, rfl⟩
  rw [hZ] at HX ⊢
  clear hf hc hm hv hZ
  go_enter Tryz.func85, Tryz.ntmps85
  go_wp2_with fail
  refine HX.out.mono ?_; rintro r w2 ⟨z, rfl, hz, rfl⟩
  by_cases h0 : 0 ≤ z
  · have q0 : (0 ≤ z) = True := eq_true h0
    have HZ := Lib.hid (show Z = true by rw [← hz]; exact decide_eq_true h0)
    clear h0 hz
    go_wp2_with fail
    go_ret
    exact ⟨by rw [HZ.out]; rfl, rfl⟩
  · have q0 : (0 ≤ z) = False := eq_false h0
    have HZ := Lib.hid (show Z = false by rw [← hz]; exact decide_eq_false h0)
    clear h0 hz
    go_wp2_with fail
    go_ret
    exact ⟨by rw [HZ.out]; rfl, rfl⟩
def optI : Option Nat → Int
  | none => -1
  | some u => (u : Int)
set_option maxRecDepth 100000 in
set_option maxHeartbeats 4000000 in
theorem calls_ready (v : Value) (C : List (List Nat)) (b n : Nat) (out : List Nat) (w : World) (hv : RowR 1 gridR w v (C.map nI)) (hn : C.length ≤ 100) (hm : PlMap Tryz.prog 3 3 w b n out) :
    Calls Tryz.prog 60 #[v, .map (some b)] w fun r w' => r = .returned (.int .i64 (optI (readyF C out))) ∧ Below w.heap.size w w' := by
  have hmf : ∀ (fn : Fn) (first cap : Array Value) (w : World), (Instr.makeFunc fn first cap).run Tryz.prog w = .ok (.func fn first cap) w := fun _ _ _ _ => rfl
  obtain ⟨W0, hW0⟩ : ∃ W, W = (w.alloc (.cells #[.map (some b)] 117)).alloc (.cells #[.func (.func 84) #[] #[.pointer (some ⟨w.heap.size, 0, none⟩)]] 72) := ⟨_, rfl⟩
  have hb0 : Below w.heap.size w W0 := by rw [hW0]; exact by (repeat' (first | (with_reducible exact Below.refl _ _) | (with_reducible assumption) | (with_reducible refine below_drewN ?_ _) | (with_reducible refine Below.alloc ?_ ?_ _) | (with_reducible refine Below.drew ?_) | (with_reducible refine Below.setCell ?_ ?_ _) | go_size))
  have oA : W0.heap[w.heap.size]? = some (.cells #[.map (some b)] 117) := by rw [hW0]; rw [get_past (by simp)]; exact get_last rfl
  have oF : W0.heap[w.heap.size + 1]? = some (.cells #[.func (.func 84) #[] #[.pointer (some ⟨w.heap.size, 0, none⟩)]] 72) := by rw [hW0]; exact get_last (by simp)
  have cA : W0.cell? ⟨w.heap.size, 0, none⟩ = some (.map (some b)) := obj_cell oA (i := 0) rfl
  have cF : W0.cell? ⟨w.heap.size + 1, 0, none⟩ = some (.func (.func 84) #[] #[.pointer (some ⟨w.heap.size, 0, none⟩)]) := obj_cell oF (i := 0) rfl
  have hm0 := hm.below hb0
  have hv0 := hv.below gridR_stable hb0
  have HP := Lib.hid (fun x hx => put_at w.heap.size b n out x W0 cA hm0 hx)
  have HC := Lib.hid (fun u (l : List Int) hu => contains_at u l (w.heap.size + 1) w.heap.size b n out W0 hu cF cA hm0)
  have HV := Lib.hid hv0
  have HB := Lib.hid hb0
  have HW := Lib.hid hW0
  obtain ⟨ad, cap, rfl⟩ := row_get hv
  have hcl : (C.map nI).length = C.length := by simp
  rw [hcl] at HV ⊢
  obtain ⟨N, hN⟩ : ∃ N, C.length = N := ⟨_, rfl⟩
  have HN := Lib.hid hN
  rw [hN] at HV hn ⊢
  have HF0 := Lib.hid (show readyF C out = (List.range N).find? (rdy C out) by unfold readyF; rw [hN])
  generalize readyF C out = F at *
  obtain ⟨Z, hZ⟩ : ∃ Z, optI F = Z := ⟨_, rfl⟩
  rw [hZ]
  have HZ := Lib.hid hZ
  clear hZ
  clear hN hv hv0 hm hm0 hb0 oA oF cA hW0 hcl
  go_enter Tryz.func60, Tryz.ntmps60
  go_wp2_with fail
  rw [← HW.out]
  go_loopw [11] (fun jj wr => ∃ k : Nat, k ≤ N ∧ jj = .int .i64 k ∧ Hid (F = ((List.range N).drop k).find? (rdy C out)) ∧ wr = W0) (fun jj _ => N - (intOf jj).toNat)
  case atStart => exact ⟨0, by omega, rfl, Lib.hid (by rw [HF0.out]; rfl), rfl⟩
  case round =>
    obtain ⟨k, hk, rfl, hT, hwr⟩ := hrel
    have hwr := hwr.symm
    subst hwr
    by_cases hlt : k < N
    case neg =>
      obtain rfl : k = N := by omega
      have qk : ((k : Int) < (k : Int)) = False := eq_false (by omega)
      have qk' : (k < k) = False := eq_false (by omega)
      have HT := Lib.hid (show Z = -1 by rw [← HZ.out, hT.out, List.drop_of_length_le (by simp)]; rfl)
      clear hT hlt hk
      go_wp2_with fail
      go_ret
      exact ⟨by rw [HT.out]; rfl, HB.out⟩
    have qk : ((k : Int) < (N : Int)) = True := eq_true (by omega)
    have qk' : (k < N) = True := eq_true hlt
    have hk62 : k ≤ 9223372036854775806 := by omega
    have HK := Lib.hid hlt
    obtain ⟨l, hl⟩ := get_some (L := C) (n := k) (by rw [HN.out]; exact hlt)
    obtain ⟨bn, on, sl, sc, hse, hbn, hnN, hcN, cn, hL⟩ := grid_at HV.out (k := k) (l := nI l) (by rw [List.getElem?_map, hl]; rfl)
    cases hse
    have HTk := Lib.hid (show (rdy C out k = true → Z = (k : Int)) ∧ (rdy C out k = false → F = ((List.range N).drop (k + 1)).find? (rdy C out)) by
      have h := hT.out
      rw [List.drop_eq_getElem_cons (by simpa using hlt), List.find?_cons] at h
      have e : (List.range N)[k]'(by simpa using hlt) = k := by simp
      rw [e] at h
      constructor
      · intro hr; rw [hr] at h; rw [← HZ.out, h]; rfl
      · intro hr; rw [hr] at h; exact h)
    have HRd := Lib.hid (show rdy C out k = (!there out (k : Int) && !(nI l).any (fun x => !there out x)) by
      unfold rdy
      rw [there_nat]
      congr 1
      have : C.getD k [] = l := by simp [List.getD, hl]
      rw [this]
      unfold nI
      rw [List.any_map, List.all_eq_not_any_not]
      congr 2
      funext x
      show (!out.contains x) = !there out (Int.ofNat x)
      rw [show Int.ofNat x = (x : Int) from rfl, there_nat])
    have HC1 := Lib.hid (HC.out _ _ hL)
    have HP1 := Lib.hid (HP.out (k : Int) (by unfold I64; omega))
    obtain ⟨Lr, hLr⟩ : ∃ L, (nI l).length = L := ⟨_, rfl⟩
    rw [hLr] at cn HC1
    generalize (nI l).any (fun x => !there out x) = za at *
    generalize there out (k : Int) = zt at *
    clear hL hT hlt hk hl hLr
    go_wp2_with fail
    refine HP1.out.mono ?_; rintro r w2 ⟨rfl, rfl⟩
    cases zt
    case true =>
      have HTn := Lib.hid (HTk.out.2 HRd.out)
      go_wp2_with fail
      go_roundw
      case rel => exact ⟨k + 1, by have := HK.out; omega, by simp, HTn, by simp⟩
      case measure => have := HK.out; first | (simp [intOf]; done) | (simp [intOf]; omega)
    case false =>
      go_wp2_with fail
      refine HC1.out.mono ?_; rintro r w2 ⟨rfl, rfl⟩
      cases za
      case true =>
        have HTn := Lib.hid (HTk.out.2 HRd.out)
        go_wp2_with fail
        go_roundw
        case rel => exact ⟨k + 1, by have := HK.out; omega, by simp, HTn, by simp⟩
        case measure => have := HK.out; first | (simp [intOf]; done) | (simp [intOf]; omega)
      case false =>
        have HTn := Lib.hid (HTk.out.1 HRd.out)
        go_wp2_with fail
        go_ret
        exact ⟨by rw [HTn.out]; rfl, HB.out⟩
end Go.Proofs.YtefejcofmopjfaaGreatDoor

/- calls.Order: all units, each behind all that it calls. -/
namespace Go.Proofs.YtefejcofmopjfaaGreatDoor
open Go.RowKit Go.Maps
set_option linter.unusedSimpArgs false
set_option linter.unusedVariables false
open CL (ordF readyF ofN)
/-- whom each unit calls -/
def calledF (L : List Un) : List (List Nat) := L.map fun x => ofN L.length x.code
theorem calledF_len (L : List Un) : (calledF L).length = L.length := by simp [calledF]
theorem calledF_at {L : List Un} {k : Nat} {x : Un} (hx : L[k]? = some x) : (calledF L)[k]? = some (ofN L.length x.code) := by simp [calledF, hx]
theorem ofC_at {L : List Un} {k : Nat} {x : Un} (hx : L[k]? = some x) : ofC (L.map Un.code) (k : Int) = ofN L.length x.code := by
  have hk := lt_of_get hx
  unfold ofC
  rw [List.length_map, if_pos (by omega), Int.toNat_natCast]
  congr 1
  simp [List.getD, hx]
structure CSt (s n k : Nat) (w wr : World) (U : List Value) (C : List (List Nat)) : Prop where
  hb : Below s w wr
  ho : wr.ownsRow s 35 1 (.slice (some ⟨s, 0, none⟩) n n) n (U ++ List.replicate (n - k) (.slice none 0 0))
  hr : OwnRows (s + 1) 3 wr U (C.map nI)
  hl : U.length = k
  hs : s + 1 ≤ wr.heap.size
theorem set_repl {α : Type} {U : List α} {n k : Nat} {u z : α} (hl : U.length = k) (hk : k < n) : (U ++ List.replicate (n - k) z).set k u = (U ++ [u]) ++ List.replicate (n - (k + 1)) z := by
  obtain ⟨m, hm⟩ : ∃ m, n - k = m + 1 := ⟨n - k - 1, by omega⟩
  rw [hm, show n - (k + 1) = m by omega, List.set_append_right _ _ (by omega), hl, Nat.sub_self, List.replicate_succ]
  simp
theorem CSt.next {s n k : Nat} {w wr w2 : World} {U : List Value} {C : List (List Nat)} {u : Value} {l : List Nat} (h : CSt s n k w wr U C) (hk : k < n) (hB : Below wr.heap.size wr w2) (hu : w2.ownsRow wr.heap.size 3 1 u l.length (iV (nI l))) :
    CSt s n (k + 1) w (w2.setCell ⟨s, k, none⟩ u) (U ++ [u]) (C ++ [l]) := by
  have ho := owns_below h.ho hB
  refine ⟨(h.hb.trans (hB.mono (by have := h.hs; omega))).setCell (p := ⟨s, k, none⟩) (Nat.le_refl _) _, ?_, ?_, by simp [h.hl], by have := h.hs; have := hB.size; simpa using (by omega : s + 1 ≤ w2.heap.size)⟩
  · have h2 := (ho.stored k u).1
    rw [set_repl h.hl hk] at h2
    exact h2
  · rw [List.map_append]
    exact rows_set (h.hr.snoc hB h.hs (by rw [nI_len]; exact hu)) (by omega)
theorem CSt.grid {s n : Nat} {w wr : World} {U : List Value} {C : List (List Nat)} (h : CSt s n n w wr U C) (hC : C.length = n) (hlt : ∀ l ∈ C, ∀ x ∈ l, x ≤ 1000) : RowR 1 gridR wr (.slice (some ⟨s, 0, none⟩) n n) (C.map nI) := by
  have ho := h.ho
  rw [Nat.sub_self, List.replicate_zero, List.append_nil] at ho
  have hlen : (C.map nI).length = n := by rw [List.length_map]; exact hC
  refine grid_own (own_eq2 ho hlen.symm rfl) (fun i u l hu hl => ?_)
  refine row_of_owns (h.hr.row i u l hu hl) (fun z hz => ?_)
  rw [List.getElem?_map] at hl
  cases hc : C[i]? with
  | none => rw [hc] at hl; cases hl
  | some m =>
    rw [hc] at hl
    cases hl
    obtain ⟨x, hx, rfl⟩ := List.mem_map.1 hz
    have := hlt m (List.mem_of_getElem? hc) x hx
    show I64 (x : Int)
    unfold I64; omega
structure PutSt (M : Nat) (W1 wr : World) (o : Value) (m : Nat) (out : List Nat) : Prop where
  hb : Below M W1 wr
  ho : wr.ownsRow (M + 1) 3 1 o m (iV (nI out))
  hm : PlMap Tryz.prog 3 3 wr M m out
  hs : M + 1 ≤ wr.heap.size
theorem PutSt.below {M : Nat} {W1 wr w2 : World} {o : Value} {m : Nat} {out : List Nat} (h : PutSt M W1 wr o m out) (hB : Below wr.heap.size wr w2) : PutSt M W1 w2 o m out :=
  ⟨h.hb.trans (hB.mono (by have := h.hs; omega)), owns_below h.ho hB, h.hm.below hB, Nat.le_trans h.hs hB.size⟩
def orI (R : Option (List Nat)) : List Nat := R.getD []
set_option maxRecDepth 100000 in
set_option maxHeartbeats 8000000 in
theorem calls_Order (v : Value) (L : List Un) (w : World) (hv : RowR 5 unitR w v L) (hn : L.length ≤ 100) (hc : ∀ x ∈ L, x.code.length ≤ 300) :
    Calls Tryz.prog 37 #[v] w fun r w' => ∃ u ok, r = .returned (.tuple #[u, .bool ok]) ∧ ok = (ordF (calledF L) L.length []).isSome ∧ w'.ownsRow w.heap.size 3 1 u (orI (ordF (calledF L) L.length [])).length (iV (nI (orI (ordF (calledF L) L.length [])))) ∧ Below w.heap.size w w' := by
  obtain ⟨i, hi, hz, hsize, hby⟩ : ∃ i, Tryz.prog.info? 3 = some i ∧ i.zero = some (.int .i64 0) ∧ i.size = 1 ∧ i.bytes = 8 := ⟨(Tryz.prog.info? 3).get!, by kernel_rfl, by kernel_rfl, by kernel_rfl, by kernel_rfl⟩
  obtain ⟨i3, hi3, hz3, hsize3, hby3⟩ : ∃ i, Tryz.prog.info? 35 = some i ∧ i.zero = some (.slice none 0 0) ∧ i.size = 1 ∧ i.bytes = 24 := ⟨(Tryz.prog.info? 35).get!, by kernel_rfl, by kernel_rfl, by kernel_rfl, by kernel_rfl⟩
  have HV := Lib.hid (fun W (h : Below w.heap.size w W) => hv.below unitR_stable h)
  obtain ⟨ad, cap, rfl⟩ := row_get hv
  have HOf := Lib.hid (fun (W : World) (h : Below w.heap.size w W) (k : Nat) (x : Un) (hx : L[k]? = some x) => by
    have h1 := calls_Of _ L (k : Int) W (hv.below unitR_stable h) hn hc
    rw [ofC_at hx] at h1
    exact h1)
  obtain ⟨CF, hCF⟩ : ∃ CF, calledF L = CF := ⟨_, rfl⟩
  have HCA := Lib.hid (fun (k : Nat) (x : Un) (hx : L[k]? = some x) => by have h := calledF_at hx; rw [hCF] at h; exact h)
  have HCL := Lib.hid (show CF.length = L.length by rw [← hCF]; exact calledF_len L)
  have HCS := Lib.hid (show ∀ l ∈ CF, ∀ x ∈ l, x ≤ 1000 by
    intro l hl x hx
    rw [← hCF] at hl
    unfold calledF at hl
    obtain ⟨y, hy, rfl⟩ := List.mem_map.1 hl
    have := CL.ofN_lt hx
    omega)
  obtain ⟨n, hN⟩ : ∃ n, L.length = n := ⟨_, rfl⟩
  have HN := Lib.hid hN
  rw [hCF]
  rw [hN] at hn HV HOf HCA HCL ⊢
  obtain ⟨R, hR⟩ : ∃ R, ordF CF n [] = R := ⟨_, rfl⟩
  rw [hR]
  have HR := Lib.hid hR
  clear hv hN hc hCF hR
  have hmp := fun W => run_make W 54 35 i3 _ Tryz.underlying54 hi3 hz3 .i64 .i64 (n : Int) (n : Int) (by omega) (by omega) (by rw [hby3]; omega) (by omega)
  rw [hsize3, Nat.mul_one, madeS, Int.toNat_natCast] at hmp
  have hn63 : n ≤ 9223372036854775807 := by omega
  obtain ⟨ZP, hZP⟩ : ∃ Z, (List.replicate n (Value.slice none 0 0)).toArray = Z := ⟨_, rfl⟩
  rw [hZP] at hmp
  obtain ⟨s, hs⟩ : ∃ s, w.heap.size = s := ⟨_, rfl⟩
  have HSz := Lib.hid hs
  have HP0 := Lib.hid (show CSt s n 0 w (w.alloc (.cells ZP 35)) [] (CF.take 0) by
    subst hs
    have k1 := owns_arr w ZP 35 1 n (by rw [← hZP]; simp) (by unfold maxLen; omega)
    rw [← hZP] at k1 ⊢
    exact ⟨by (repeat' (first | (with_reducible exact Below.refl _ _) | (with_reducible assumption) | (with_reducible refine below_drewN ?_ _) | (with_reducible refine Below.alloc ?_ ?_ _) | (with_reducible refine Below.drew ?_) | (with_reducible refine Below.setCell ?_ ?_ _) | go_size)), k1, OwnRows.nil _ _ _, rfl, by simp⟩)
  clear hZP hi3 hz3 hsize3 hby3
  go_enter Tryz.func37, Tryz.ntmps37
  go_wp2_with fail
  obtain ⟨W0, hW0⟩ : ∃ W, W = w.alloc (.cells ZP 35) := ⟨_, rfl⟩
  rw [← hW0] at HP0 ⊢
  clear hmp hW0 hs
  go_loopw [14] (fun jj wr => ∃ (k : Nat) (U : List Value), jj = .int .i64 k ∧ k ≤ n ∧ Hid (CSt s n k w wr U (CF.take k))) (fun jj _ => n - (intOf jj).toNat)
  case atStart => exact ⟨0, _, rfl, Nat.zero_le _, HP0⟩
  case round =>
    obtain ⟨k, U, rfl, hk, hP⟩ := hrel
    by_cases hlt : k < n
    case pos =>
      have q1 : ((k : Int) < (n : Int)) = True := eq_true (by omega)
      have q1' : (k < n) = True := eq_true hlt
      have hk62 : k ≤ 9223372036854775806 := by omega
      have HK := Lib.hid hlt
      obtain ⟨x, hx⟩ := get_some (L := L) (n := k) (by rw [HN.out]; exact hlt)
      have HC := Lib.hid (HOf.out wr (by rw [HSz.out]; exact hP.out.hb) k x hx)
      have HTk := Lib.hid (show CF.take (k + 1) = CF.take k ++ [ofN n x.code] from take_snoc (HCA.out k x hx))
      generalize ofN n x.code = l at *
      have HPP := hP
      have hsz := hP.out.hs
      clear hP hlt hk hx
      go_wp2_with fail
      refine HC.out.mono ?_; rintro r w2 ⟨u, rfl, hO2, hB2⟩
      have HPN := Lib.hid (HPP.out.next HK.out hB2 hO2)
      have hO3 := owns_below HPP.out.ho hB2
      have f3 := hO3.frozenAt k
      have c3 := hO3.cellAt k (by have := HK.out; omega)
      obtain ⟨z0, hz0⟩ := get_some (L := U ++ List.replicate (n - k) (Value.slice none 0 0)) (n := k) (by have := HK.out; simp [HPP.out.hl]; omega)
      rw [hz0] at c3
      have hf2 := owns_form hO2
      obtain ⟨ua, uc, rfl⟩ := hf2
      clear hO2 hB2 hO3 hz0
      go_wp2_with fail
      go_roundw
      case rel => exact ⟨k + 1, _, by simp, by have := HK.out; omega, Lib.hid (by rw [HTk.out]; exact HPN.out)⟩
      case measure => have := HK.out; first | (simp [intOf]; done) | (simp [intOf]; omega)
    case neg =>
      obtain rfl : n = k := by omega
      have q1 : ((n : Int) < (n : Int)) = False := eq_false (by omega)
      have q1' : (n < n) = False := eq_false (by omega)
      rw [List.take_of_length_le (by rw [HCL.out]; exact Nat.le_refl _)] at hP
      have HG := Lib.hid (hP.out.grid HCL.out HCS.out)
      rename World => W1
      obtain ⟨M, hM⟩ : ∃ M, W1.heap.size = M := ⟨_, rfl⟩
      have HM := Lib.hid hM
      have HBS := Lib.hid hP.out.hb
      have HSM := Lib.hid (show s ≤ M by rw [← hM]; have := hP.out.hs; omega)
      have HQ0 := Lib.hid (show PutSt M W1 (W1.alloc (.map #[] 0)) (.slice none 0 0) 0 [] by
        subst hM
        exact ⟨(Below.refl _ _).alloc (Nat.le_refl _) _, World.ownsRow_nil _ _ _ _, PlMap.made _ _ _ _, by simp⟩)
      have HRd := Lib.hid (fun (wr : World) (o : Value) (m : Nat) (out : List Nat) (h : PutSt M W1 wr o m out) => calls_ready _ CF M m out wr (HG.out.below gridR_stable (by rw [HM.out]; exact h.hb)) (by rw [HCL.out]; exact hn) h.hm)
      have hmm := @run_makeMap Tryz.prog
      clear hP hlt hk
      go_wp2_with fail
      clear hmm
      clear hM
      go_loopw [7] (fun oo wr => ∃ (m oc : Nat) (oa : Option Addr) (out : List Nat), oo = .slice oa m oc ∧ Hid (out.length = m ∧ m ≤ n ∧ ordF CF (n - m) out = R) ∧ Hid (PutSt M W1 wr (.slice oa m oc) m out)) (fun oo _ => n - (match oo with | .slice _ m _ => m | _ => 0))
      case atStart => exact ⟨0, 0, none, [], rfl, Lib.hid ⟨rfl, Nat.zero_le _, HR.out⟩, HQ0⟩
      case round =>
        obtain ⟨m, oc, oa, out, rfl, hT, hQ⟩ := hrel
        by_cases hlt : m < n
        case neg =>
          have hm : n = m := by have := hT.out.2.1; omega
          subst hm
          have q2 : ((n : Int) < (n : Int)) = False := eq_false (by omega)
          have q2' : (n < n) = False := eq_false (by omega)
          have HRe := Lib.hid (show R = some out by have h := hT.out.2.2; rw [Nat.sub_self] at h; exact h.symm)
          have HQQ := hQ
          have HT := hT
          clear hQ hT hlt
          go_wp2_with fail
          go_returns
          refine ⟨_, true, rfl, by rw [HRe.out]; rfl, ?_, ?_⟩
          · rw [HRe.out]
            exact own_eq2 (own_low HQQ.out.ho (by have := HSM.out; have := HSz.out; omega)) HT.out.1.symm rfl
          · rw [HSz.out]
            exact HBS.out.trans (HQQ.out.hb.mono HSM.out)
        have q2 : ((m : Int) < (n : Int)) = True := eq_true (by omega)
        have q2' : (m < n) = True := eq_true hlt
        have HK := Lib.hid hlt
        have HC := Lib.hid (HRd.out wr _ m out hQ.out)
        have HStep := Lib.hid (show ordF CF (n - m) out = match readyF CF out with | none => none | some u => ordF CF (n - (m + 1)) (out ++ [u]) by rw [show n - m = (n - (m + 1)) + 1 by omega]; rfl)
        have HT := hT
        have HQQ := hQ
        clear hT hQ hlt
        cases hF : readyF CF out with
        | none =>
          rw [hF] at HC
          have HE := Lib.hid (show R = none by have h := HT.out.2.2; rw [HStep.out, hF] at h; exact h.symm)
          clear hF
          go_wp2_with fail
          refine HC.out.mono ?_; rintro r w2 ⟨rfl, hB2⟩
          have HQ2 := Lib.hid (HQQ.out.below hB2)
          have qm : optI none = -1 := rfl
          rw [qm]
          clear hB2
          go_wp2_with fail
          go_returns
          refine ⟨_, false, rfl, by rw [HE.out]; rfl, by rw [HE.out]; exact World.ownsRow_nil _ _ _ _, ?_⟩
          rw [HSz.out]
          exact HBS.out.trans (HQ2.out.hb.mono HSM.out)
        | some u =>
          rw [hF] at HC
          have HE := Lib.hid (show ordF CF (n - (m + 1)) (out ++ [u]) = R by have h := HT.out.2.2; rw [HStep.out, hF] at h; exact h)
          have hu := (CL.ready_some hF).1
          rw [HCL.out] at hu
          clear hF
          go_wp2_with fail
          refine HC.out.mono ?_; rintro r w2 ⟨rfl, hB2⟩
          have HQ2 := Lib.hid (HQQ.out.below hB2)
          have qm : optI (some u) = (u : Int) := rfl
          rw [qm]
          have q3 : ((u : Int) < 0) = False := eq_false (by omega)
          have hwf : (Lit.int .i64 (m : Int)).wf = true := WalkArith.wf_i64 (by have := HK.out; omega)
          have hkey := key_int (P := Tryz.prog) (K := 3) Tryz.underlying3 (x := (u : Int)) (by unfold I64; omega)
          obtain ⟨D, hown, hI, hat⟩ := HQ2.out.hm
          have HAt := Lib.hid (And.intro hI hat)
          clear hB2 hI hat
          go_wp2_with (first | (at_mapUpdate; go_loud (refine wpList_mapUpdate_own _ rfl _ _ _ 117 rfl 3 3 (int_keyed Tryz.underlying3) Tryz.underlying117 _ M m D rfl hown (by have := HK.out; unfold maxLen; omega) _ _ (.int .i64 (u : Int)) rfl rfl hkey (.lit (.int .i64 (m : Int))) [] (plainElem_int Tryz.underlying3 hwf) ?_; intro w3 hown3 hgrow3; have HB3 := Lib.hid (show Below M W1 w3 from HQ2.out.hb.grown hgrow3 (by have := HQ2.out.hs; omega) (fun j hj => by cases hj; exact Nat.le_refl _)); have HO3 := Lib.hid (show w3.ownsRow (M + 1) 3 1 (.slice oa m oc) m (iV (nI out)) from owns_grown HQ2.out.ho hgrow3 (fun g hg he => by cases he; have := (owns_lt HQ2.out.ho hg).1; omega)); have HM3 := Lib.hid (PlMap.put HAt.out.1 HAt.out.2 hown3); have HS3 := Lib.hid (Nat.le_trans HQ2.out.hs hgrow3.size); clear hown3 hgrow3 hown)) | (at_builtin; go_loud (refine wpList_append_src rfl (.tmp 39) (.tmp 41) 35 rfl (M + 1) 3 i (.int .i64 0) 1 8 Tryz.underlying35 hi hz hsize hby rfl (by omega) _ m _ rfl (owns_below HO3.out ((Below.refl _ _).alloc (Nat.le_refl _) _)) _ 1 [.int .i64 (u : Int)] rfl (src_newE _ _ _ (by simp)) rfl (by intro u hu; simp at hu; rw [hu]; rfl) (by have := HK.out; unfold maxLen; omega) (by have := HK.out; omega) (by have := HS3.out; simp; omega) ?_; intro v4 w4 hO4 hG4; have HQ4 := Lib.hid (show PutSt M W1 w4 v4 (m + 1) (out ++ [u]) from ⟨grown3 (HB3.out.alloc (by have := HS3.out; omega) _) (by have := HS3.out; simp; omega) (own_low (owns_below HO3.out ((Below.refl _ _).alloc (Nat.le_refl _) _)) (Nat.le_succ _)) hG4, by rw [nI_app, iV_app]; exact hO4, (HM3.out.below ((Below.refl _ _).alloc (Nat.le_refl _) _)).kept hG4 (fun e => by have := (owns_lt HO3.out e.symm).1; omega), Nat.le_trans HS3.out (Nat.le_trans (by simp) hG4.size)⟩); have hf4 := owns_form hO4; clear hO4 hG4)) | fail)
          obtain ⟨ua, uc, rfl⟩ := hf4
          go_roundw
          case rel => exact ⟨m + 1, uc, ua, out ++ [u], rfl, Lib.hid ⟨by rw [List.length_append, HT.out.1]; rfl, by have := HK.out; omega, HE.out⟩, HQ4⟩
          case measure => have := HK.out; show n - (m + 1) < n - m; omega
end Go.Proofs.YtefejcofmopjfaaGreatDoor

/- Layer 22: errors.As at a target of type *verify.wrong: nil; an error that is a verify.wrong itself. -/
namespace Go.Proofs.YtefejcofmopjfaaGreatDoor
open Go.RowKit Go.Extern.Stop Go.Stop Go.Extern
set_option linter.unusedSimpArgs false
set_option linter.unusedVariables false
theorem as_nil (t : Value) (w : World) : Calls Tryz.prog 11 #[.nilIface, t] w fun e w' => e = .returned (.bool false) ∧ w' = w := by
  go_enter Tryz.func11, Tryz.ntmps11
  go_wp2
  go_ret
  exact ⟨rfl, rfl⟩
def hdl (t : TypeId) : Value := .pointer (some ⟨5, t, none⟩)
theorem vf_valueOfP (t : Addr) (w : World) : (ReflectliteValue.unpack (.iface 52 (.pointer (some t)))).run Tryz.prog w
    = .ok (.agg #[.pointer (some ⟨5, 52, none⟩), .pointer (some ⟨w.heap.size, 0, none⟩), .int .u64 150]) (w.alloc (.cells #[.pointer (some t)] 52)) := by kernel_rfl
theorem vf_typeP (a : Addr) (w : World) : (ReflectliteValue.methodAny (ReflectliteValue.valueError "reflectlite.Value.Type" 0) (fun t _ _ _ => ReflectliteType.toType t) #[.agg #[.pointer (some ⟨5, 52, none⟩), .pointer (some a), .int .u64 150]]).run Tryz.prog w
    = .ok (.iface 84 (.agg #[.pointer (some ⟨5, 52, none⟩)])) w := by kernel_rfl
theorem vf_methodKind (h : Value) (w : World) : (Go.method 316 84 (.agg #[h]) "Kind").run Tryz.prog w = .ok (165, h) w := by kernel_rfl
theorem vf_kindP (w : World) : ((ReflectliteType.abiMethod fun t => (fun a : Nat => Value.int IntKind.u8 (a : Int)) <$> Rtype.kind t) #[.pointer (some ⟨5, 52, none⟩)]).run Tryz.prog w = .ok (.int .u8 22) w := by kernel_rfl
theorem vf_kindS (w : World) : ((ReflectliteType.abiMethod fun t => (fun a : Nat => Value.int IntKind.u8 (a : Int)) <$> Rtype.kind t) #[.pointer (some ⟨5, 47, none⟩)]).run Tryz.prog w = .ok (.int .u8 25) w := by kernel_rfl
theorem vf_rlm (z : Sem Value) (f : TypeId → Addr → Nat → Nat → Sem Value) (v : Value) :
    ReflectliteValue.method z f #[v] = (do match ← ReflectliteValue.parts v with | none => z | some (t, a, fl) => f t a fl (fl % 32)) := rfl
theorem vf_partsP (a : Addr) (w : World) : (ReflectliteValue.parts (.agg #[.pointer (some ⟨5, 52, none⟩), .pointer (some a), .int .u64 150])).run Tryz.prog w = .ok (some (52, a, 150)) w := by kernel_rfl
theorem vf_isNilP (a p : Addr) (W : World) (ha : W.cell? a = some (.pointer (some p))) :
    (ReflectliteValue.method (ReflectliteValue.valueError "reflectlite.Value.IsNil" 0) ReflectliteValue.isNil #[.agg #[.pointer (some ⟨5, 52, none⟩), .pointer (some a), .int .u64 150]]).run Tryz.prog W = .ok (.bool false) W := by
  rw [vf_rlm]
  simp only [Sem.run_bind, vf_partsP, Result.andThen]
  simp [ReflectliteValue.isNil, loadVar, isAgg, underlying, Tryz.underlying52, ha, Result.andThen]
theorem vf_methodElem (h : Value) (w : World) : (Go.method 316 84 (.agg #[h]) "Elem").run Tryz.prog w = .ok (175, .agg #[h]) w := by kernel_rfl
theorem vf_methodImplements (h : Value) (w : World) : (Go.method 316 84 (.agg #[h]) "Implements").run Tryz.prog w = .ok (176, .agg #[h]) w := by kernel_rfl
theorem vf_methodAssignableTo (h : Value) (w : World) : (Go.method 316 84 (.agg #[h]) "AssignableTo").run Tryz.prog w = .ok (173, .agg #[h]) w := by kernel_rfl
theorem vf_elemP (w : World) : (ReflectliteType.method ReflectliteType.elem #[.agg #[.pointer (some ⟨5, 52, none⟩)]]).run Tryz.prog w = .ok (.iface 84 (.agg #[.pointer (some ⟨5, 47, none⟩)])) w := by kernel_rfl
theorem vf_implements (w : World) : (ReflectliteType.relation "Implements" ReflectliteType.implements_ #[.agg #[.pointer (some ⟨5, 47, none⟩)], .iface 84 (.agg #[.pointer (some ⟨5, 50, none⟩)])]).run Tryz.prog w = .ok (.bool true) w := by kernel_rfl
theorem vf_typeOf (v : Value) (w : World) : (ReflectliteType.typeOf #[.iface 47 v]).run Tryz.prog w = .ok (.iface 84 (.agg #[.pointer (some ⟨5, 47, none⟩)])) w := by kernel_rfl
theorem vf_assignable (w : World) : (ReflectliteType.relation "AssignableTo" ReflectliteType.assignableTo #[.agg #[.pointer (some ⟨5, 47, none⟩)], .iface 84 (.agg #[.pointer (some ⟨5, 47, none⟩)])]).run Tryz.prog w = .ok (.bool true) w := by kernel_rfl
theorem vf_valueOf (a b c : Value) (w : World) : (ReflectliteValue.unpack (.iface 47 (.agg #[a, b, c]))).run Tryz.prog w
    = .ok (.agg #[.pointer (some ⟨5, 47, none⟩), .pointer (some ⟨w.heap.size, 0, none⟩), .int .u64 153]) (w.alloc (.cells #[a, b, c] 47)) := by kernel_rfl
theorem vf_elemOf (w : World) : (Rtype.elem? 52).run Tryz.prog w = .ok (some 47) w := by kernel_rfl
theorem vf_mk (p : Addr) (w : World) : (ReflectliteValue.mk 47 p ReflectliteValue.flagAddr).run Tryz.prog w = .ok (.agg #[.pointer (some ⟨5, 47, none⟩), .pointer (some p), .int .u64 409]) w := by kernel_rfl
theorem vf_elemV (a p : Addr) (W : World) (ha : W.cell? a = some (.pointer (some p))) :
    (ReflectliteValue.method (ReflectliteValue.valueError "reflectlite.Value.Elem" 0) ReflectliteValue.elem #[.agg #[.pointer (some ⟨5, 52, none⟩), .pointer (some a), .int .u64 150]]).run Tryz.prog W
      = .ok (.agg #[.pointer (some ⟨5, 47, none⟩), .pointer (some p), .int .u64 409]) W := by
  rw [vf_rlm]
  simp only [Sem.run_bind, vf_partsP, Result.andThen]
  simp [ReflectliteValue.elem, loadVar, isAgg, underlying, Tryz.underlying52, ha, Result.andThen, vf_elemOf, vf_mk]
theorem vf_rls (v x : Value) : ReflectliteValue.set #[v, x] = (do
    let (some (dst, a, fl), some (src, b, _)) := (← ReflectliteValue.parts v, ← ReflectliteValue.parts x)
      | unsupported (.noEntry "extern/(internal/reflectlite.Value).Set.zeroValue")
    if fl / ReflectliteValue.flagAddr % 2 == 0 then unsupported (.noEntry "extern/(internal/reflectlite.Value).Set.unaddressable")
    let val ← loadVar src b
    if ← Rtype.directlyAssignable dst src then storeVar dst a val
    else if ← Rtype.implements dst src then
      if (← Rtype.kind src) == 20 then
        match val with
        | .nilIface => unsupported (.noEntry "extern/reflectlite: a nil value of one interface type handed on as a value of another")
        | _ => storeVar dst a val
      else storeVar dst a (.iface src val)
    else panicString ("reflectlite.Set: value of type " ++ (← Rtype.spelt src) ++ " is not assignable to type " ++ (← Rtype.spelt dst))
    pure (.tuple #[])) := rfl
theorem vf_partsA (a : Addr) (w : World) : (ReflectliteValue.parts (.agg #[.pointer (some ⟨5, 47, none⟩), .pointer (some a), .int .u64 409])).run Tryz.prog w = .ok (some (47, a, 409)) w := by kernel_rfl
theorem vf_partsS (a : Addr) (w : World) : (ReflectliteValue.parts (.agg #[.pointer (some ⟨5, 47, none⟩), .pointer (some a), .int .u64 153])).run Tryz.prog w = .ok (some (47, a, 153)) w := by kernel_rfl
theorem vf_direct (w : World) : (Rtype.directlyAssignable 47 47).run Tryz.prog w = .ok true w := by kernel_rfl
theorem vf_size (w : World) : (sizeOf 47).run Tryz.prog w = .ok 3 w := by kernel_rfl
theorem vf_set (ta b : Nat) (x y z x0 y0 z0 : Value) (W : World) (h1 : ([x, y, z] : List Value).all (·.oneCell') = true) (hb : W.heap[b]? = some (.cells #[x, y, z] 47)) (ht : W.heap[ta]? = some (.cells #[x0, y0, z0] 47)) :
    (ReflectliteValue.set #[.agg #[.pointer (some ⟨5, 47, none⟩), .pointer (some ⟨ta, 0, none⟩), .int .u64 409], .agg #[.pointer (some ⟨5, 47, none⟩), .pointer (some ⟨b, 0, none⟩), .int .u64 153]]).run Tryz.prog W
      = .ok (.tuple #[]) (W.setRow ta #[x, y, z]) := by
  have hl := run_loadVar_row (P := Tryz.prog) W b 47 47 #[x, y, z] (0, 0) _ hb Tryz.underlying47 (by kernel_rfl) (by kernel_rfl)
  have hs := run_storeCells_at (P := Tryz.prog) ta 0 47 [x, y, z] 0 #[x0, y0, z0] W ht (by simp) (fun v hv => List.all_eq_true.1 h1 v hv)
  rw [vf_rls]
  simp only [Sem.run_bind, vf_partsA, vf_partsS, Result.andThen]
  simp only [ReflectliteValue.flagAddr, Sem.run_bind, hl, Result.andThen, vf_direct, storeVar, vf_size]
  simp [Value.cells, Sem.run_bind, hs, vf_size, hl, vf_direct, Result.andThen]
end Go.Proofs.YtefejcofmopjfaaGreatDoor

/- Layer 22: errors.As at a target of type *verify.wrong: an error that is a verify.wrong itself: it is stored in the target. -/
namespace Go.Proofs.YtefejcofmopjfaaGreatDoor
open Go.RowKit Go.Extern.Stop Go.Stop Go.Extern
set_option linter.unusedSimpArgs false
set_option linter.unusedVariables false
def hitA (w : World) (ta : Nat) : World := (w.alloc (.cells #[.pointer (some ⟨ta, 0, none⟩)] 52)).alloc (.cells #[.pointer (some ⟨5, 52, none⟩), .pointer (some ⟨w.heap.size, 0, none⟩), .int .u64 150] 63)
def hitB (w : World) (ta : Nat) : World := (hitA w ta).alloc (.cells #[.pointer (some ⟨5, 52, none⟩), .pointer (some ⟨w.heap.size, 0, none⟩), .int .u64 150] 63)
set_option maxHeartbeats 4000000 in
theorem as_hit (x y z x0 y0 z0 : Value) (ta : Nat) (w : World) (h1 : ([x, y, z] : List Value).all (·.oneCell') = true) (hg : w.cell? ⟨0, 0, none⟩ = some (.iface 84 (.agg #[.pointer (some ⟨5, 50, none⟩)]))) (ht : w.heap[ta]? = some (.cells #[x0, y0, z0] 47)) :
    Calls Tryz.prog 11 #[.iface 47 (.agg #[x, y, z]), .iface 52 (.pointer (some ⟨ta, 0, none⟩))] w fun ev w' => ev = .returned (.bool true) ∧ w' = ((hitB w ta).alloc (.cells #[x, y, z] 47)).setRow ta #[x, y, z] := by
  have h6 := @run_callFunc_extern Tryz.prog 16 _ (fun args => ReflectliteValue.unpack (args.getD 0 (.tuple #[]))) Tryz.func16 (by kernel_rfl) (by kernel_rfl) (by kernel_rfl) (by kernel_rfl)
  have h7 := @run_callFunc_extern Tryz.prog 17 _ (ReflectliteValue.methodAny (ReflectliteValue.valueError "reflectlite.Value.Type" 0) (fun t _ _ _ => ReflectliteType.toType t)) Tryz.func17 (by kernel_rfl) (by kernel_rfl) (by kernel_rfl) (by kernel_rfl)
  have h8 := @run_callFunc_extern Tryz.prog 18 _ (ReflectliteValue.method (ReflectliteValue.valueError "reflectlite.Value.IsNil" 0) ReflectliteValue.isNil) Tryz.func18 (by kernel_rfl) (by kernel_rfl) (by kernel_rfl) (by kernel_rfl)
  have h27 := @run_callFunc_extern Tryz.prog 165 _ (ReflectliteType.abiMethod fun t => do pure (.int .u8 (← Rtype.kind t))) Tryz.func165 (by kernel_rfl) (by kernel_rfl) (by kernel_rfl) (by kernel_rfl)
  have h37 := @run_callFunc_extern Tryz.prog 175 _ (ReflectliteType.method ReflectliteType.elem) Tryz.func175 (by kernel_rfl) (by kernel_rfl) (by kernel_rfl) (by kernel_rfl)
  have h38 := @run_callFunc_extern Tryz.prog 176 _ (ReflectliteType.relation "Implements" ReflectliteType.implements_) Tryz.func176 (by kernel_rfl) (by kernel_rfl) (by kernel_rfl) (by kernel_rfl)
  have h10 := @run_callFunc_extern Tryz.prog 32 _ ReflectliteType.typeOf Tryz.func32 (by kernel_rfl) (by kernel_rfl) (by kernel_rfl) (by kernel_rfl)
  have h35 := @run_callFunc_extern Tryz.prog 173 _ (ReflectliteType.relation "AssignableTo" ReflectliteType.assignableTo) Tryz.func173 (by kernel_rfl) (by kernel_rfl) (by kernel_rfl) (by kernel_rfl)
  have h11 := @run_callFunc_extern Tryz.prog 33 _ (ReflectliteValue.method (ReflectliteValue.valueError "reflectlite.Value.Elem" 0) ReflectliteValue.elem) Tryz.func33 (by kernel_rfl) (by kernel_rfl) (by kernel_rfl) (by kernel_rfl)
  have h12 := @run_callFunc_extern Tryz.prog 34 _ ReflectliteValue.set Tryz.func34 (by kernel_rfl) (by kernel_rfl) (by kernel_rfl) (by kernel_rfl)
  have tO := vf_typeOf
  have mA := vf_methodAssignableTo
  have a25 := vf_assignable
  have v25 := vf_valueOf x y z
  have f6 := vf_valueOfP
  have f7 := vf_typeP
  have mK := vf_methodKind
  have mE := vf_methodElem
  have mI := vf_methodImplements
  have k27 := vf_kindP
  have k25 := vf_kindS
  have e27 := vf_elemP
  have i25 := vf_implements
  have hlt : 0 < w.heap.size := by
    rcases Nat.eq_zero_or_pos w.heap.size with h0 | h
    · simp [World.cell?, h0] at hg
    · exact h
  have htl : ta < w.heap.size := (Array.getElem?_eq_some_iff.1 ht).1
  have n8 := vf_isNilP ⟨w.heap.size, 0, none⟩ ⟨ta, 0, none⟩ ((w.alloc (.cells #[.pointer (some ⟨ta, 0, none⟩)] 52)).alloc (.cells #[.pointer (some ⟨5, 52, none⟩), .pointer (some ⟨w.heap.size, 0, none⟩), .int .u64 150] 63)) (by simp)
  have hg2 : ((w.alloc (.cells #[.pointer (some ⟨ta, 0, none⟩)] 52)).alloc (.cells #[.pointer (some ⟨5, 52, none⟩), .pointer (some ⟨w.heap.size, 0, none⟩), .int .u64 150] 63)).cell? ⟨0, 0, none⟩ = some (.iface 84 (.agg #[.pointer (some ⟨5, 50, none⟩)])) := by
    rw [World.cell?_alloc_lt _ _ ⟨0, 0, none⟩ (by simp), World.cell?_alloc_lt _ _ ⟨0, 0, none⟩ hlt]; exact hg
  have el := vf_elemV ⟨w.heap.size, 0, none⟩ ⟨ta, 0, none⟩ (hitB w ta) (by unfold hitB hitA; rw [World.cell?_alloc_lt _ _ ⟨w.heap.size, 0, none⟩ (by simp; omega)]; simp)
  have st := vf_set ta (w.heap.size + 1 + 1 + 1) x y z x0 y0 z0 ((hitB w ta).alloc (.cells #[x, y, z] 47)) h1
    (by
      unfold hitB hitA
      simp only [World.alloc, Array.getElem?_push, Array.size_push]
      rw [if_pos trivial])
    (by
      unfold hitB hitA
      simp only [World.alloc, Array.getElem?_push, Array.size_push]
      rw [if_neg (by omega), if_neg (by omega), if_neg (by omega), if_neg (by omega)]
      exact ht)
  unfold hitB hitA at el st ⊢
  go_enter Tryz.func11, Tryz.ntmps11
  go_wp2
  refine wp_loop_rounds 1 ?_
  rw [rounds_succ]
  go_wp2
  go_ret
  exact ⟨rfl, rfl⟩
end Go.Proofs.YtefejcofmopjfaaGreatDoor

/- Layer 22: verify.Check, verify.Right, told by what verify.find tells. -/
namespace Go.Proofs.YtefejcofmopjfaaGreatDoor
open Go.RowKit
set_option linter.unusedSimpArgs false
set_option linter.unusedVariables false
/-- what is wrong, as an error: the unit, the place, the number -/
def findV : Option (Int × Int × Int) → Value
  | none => .nilIface
  | some t => .iface 47 (.agg #[.int .i64 t.1, .int .i64 t.2.1, .int .i64 t.2.2])
def findA (r : Option (Int × Int × Int)) : Int × Int × Int := r.getD (-1, -1, 0)
/-- the variable that errors.As reads -/
def ErrT (w : World) : Prop := w.cell? ⟨0, 0, none⟩ = some (.iface 84 (.agg #[.pointer (some ⟨5, 50, none⟩)]))
theorem ErrT.pos {w : World} (h : ErrT w) : 0 < w.heap.size := by
  unfold ErrT at h
  rcases Nat.lt_or_ge 0 w.heap.size with h1 | h1
  · exact h1
  · simp [World.cell?, Array.getElem?_eq_none h1] at h
theorem ErrT.below {w W : World} (h : ErrT w) (hb : Below w.heap.size w W) : ErrT W := cellB hb h h.pos
theorem as_stored {B : Nat} {x y z : Int} (x0 y0 z0 : Value) (ta : Nat) (w : World) (hg : ErrT w) (ht : w.heap[ta]? = some (.cells #[x0, y0, z0] 47)) (hB : B ≤ ta) :
    Calls Tryz.prog 11 #[.iface 47 (.agg #[.int .i64 x, .int .i64 y, .int .i64 z]), .iface 52 (.pointer (some ⟨ta, 0, none⟩))] w fun ev w' => ev = .returned (.bool true) ∧ Below B w w' ∧ w'.heap[ta]? = some (.cells #[.int .i64 x, .int .i64 y, .int .i64 z] 47) := by
  have hlt : ta < w.heap.size := (Array.getElem?_eq_some_iff.1 ht).1
  refine (as_hit _ _ _ _ _ _ ta w (by rfl) hg ht).mono ?_
  rintro e w' ⟨rfl, rfl⟩
  have hb : Below B w ((hitB w ta).alloc (.cells #[.int .i64 x, .int .i64 y, .int .i64 z] 47)) := by
    unfold hitB hitA
    exact ((((Below.refl _ _).alloc (by omega) _).alloc (by simp; omega) _).alloc (by simp; omega) _).alloc (by simp; omega) _
  have hb2 : Below w.heap.size w ((hitB w ta).alloc (.cells #[.int .i64 x, .int .i64 y, .int .i64 z] 47)) := by
    unfold hitB hitA
    exact ((((Below.refl _ _).alloc (by omega) _).alloc (by simp) _).alloc (by simp; omega) _).alloc (by simp; omega) _
  exact ⟨rfl, below_setRow hb hB _, setRow_heap _ _ _ _ _ _ (obj_below ht hb2 hlt)⟩
set_option maxRecDepth 100000 in
set_option maxHeartbeats 4000000 in
theorem verify_Check_of (cv pv bv uv : Value) (r : Option (Int × Int × Int)) (w : World) (hG : ErrT w)
    (HF : ∀ W, Below w.heap.size w W → Calls Tryz.prog 12 #[.agg #[cv, pv, bv, uv]] W fun e w' => e = .returned (findV r) ∧ Below W.heap.size W w') :
    Calls Tryz.prog 7 #[.agg #[cv, pv, bv, uv]] w fun e w' => e = .returned (.tuple #[.int .i64 (findA r).1, .int .i64 (findA r).2.1, .int .i64 (findA r).2.2]) ∧ Below w.heap.size w w' := by
  obtain ⟨W1, hW1⟩ : ∃ W1, W1 = (w.alloc (.cells #[cv, pv, bv, uv] 27)).alloc (.cells #[.int .i64 0, .int .i64 0, .int .i64 0] 47) := ⟨_, rfl⟩
  have hb1 : Below w.heap.size w W1 := by rw [hW1]; exact ((Below.refl _ _).alloc (Nat.le_refl _) _).alloc (by simp) _
  have hbt : W1.heap[w.heap.size + 1]? = some (.cells #[.int .i64 0, .int .i64 0, .int .i64 0] 47) := by rw [hW1]; exact get_last (by simp)
  have hs1 : w.heap.size + 1 < W1.heap.size := heap_lt hbt
  have HW1 := Lib.hid hW1
  have Hb1 := Lib.hid hb1
  have Hbt := Lib.hid hbt
  have HG := Lib.hid hG
  have HF1 := Lib.hid (HF W1 hb1)
  clear hW1 hb1 hbt hG HF
  cases r with
  | none =>
    go_enter Tryz.func7, Tryz.ntmps7
    go_wp2_with fail
    rw [← HW1.out]
    refine HF1.out.mono ?_; rintro e w1 ⟨rfl, hb2⟩
    have HB2 := Lib.hid (Hb1.out.trans (hb2.mono Hb1.out.size))
    clear hb2
    go_wp2_with fail
    refine (as_nil _ _).mono ?_; rintro e w2 ⟨rfl, rfl⟩
    go_wp2_with fail
    go_returns
    exact ⟨rfl, HB2.out⟩
  | some t =>
    obtain ⟨x, y, z⟩ := t
    go_enter Tryz.func7, Tryz.ntmps7
    go_wp2_with fail
    rw [← HW1.out]
    refine HF1.out.mono ?_; rintro e w1 ⟨rfl, hb2⟩
    have HB2 := Lib.hid (Hb1.out.trans (hb2.mono Hb1.out.size))
    have HT2 := Lib.hid (obj_below Hbt.out hb2 hs1)
    clear hb2
    go_wp2_with fail
    refine (as_stored (B := w.heap.size) _ _ _ (w.heap.size + 1) w1 (HG.out.below HB2.out) HT2.out (by omega)).mono ?_; rintro e w2 ⟨rfl, hb3, ht3⟩
    have HB3 := Lib.hid (HB2.out.trans hb3)
    have e0 := obj_cell ht3 (i := 0) rfl
    have e1 := obj_cell ht3 (i := 1) rfl
    have e2 := obj_cell ht3 (i := 2) rfl
    clear hb3 ht3
    go_wp2_with fail
    go_quiet (fail)
    go_wp2_with fail
    go_returns
    exact ⟨rfl, by first | exact below_drewN HB3.out _ | exact HB3.out⟩
set_option maxHeartbeats 4000000 in
theorem verify_Right_of (cv pv bv uv : Value) (r : Option (Int × Int × Int)) (w : World) (hG : ErrT w)
    (HF : ∀ W, Below w.heap.size w W → Calls Tryz.prog 12 #[.agg #[cv, pv, bv, uv]] W fun e w' => e = .returned (findV r) ∧ Below W.heap.size W w') :
    Calls Tryz.prog 9 #[.agg #[cv, pv, bv, uv]] w fun e w' => e = .returned (.bool (decide ((findA r).2.2 = 0))) ∧ Below w.heap.size w w' := by
  obtain ⟨W1, hW1⟩ : ∃ W1, W1 = w.alloc (.cells #[cv, pv, bv, uv] 27) := ⟨_, rfl⟩
  have hb1 : Below w.heap.size w W1 := by rw [hW1]; exact (Below.refl _ _).alloc (Nat.le_refl _) _
  have HW1 := Lib.hid hW1
  have Hb1 := Lib.hid hb1
  have HC := Lib.hid (verify_Check_of cv pv bv uv r W1 (hG.below hb1) (fun W hb => HF W (hb1.trans (hb.mono hb1.size))))
  clear hW1 hb1 hG HF
  generalize findA r = A at *
  obtain ⟨x, y, z⟩ := A
  go_enter Tryz.func9, Tryz.ntmps9
  go_wp2_with fail
  rw [← HW1.out]
  refine HC.out.mono ?_; rintro e w1 ⟨rfl, hb2⟩
  have HB2 := Lib.hid (Hb1.out.trans (hb2.mono Hb1.out.size))
  clear hb2
  go_wp2_with fail
  go_returns
  exact ⟨by first | rfl | simp [Value.eql?] | (congr 2), HB2.out⟩
end Go.Proofs.YtefejcofmopjfaaGreatDoor

/- Layer 22: verify.declared, typed, called and find, told by what they call. -/
namespace Go.Proofs.YtefejcofmopjfaaGreatDoor
open Go.RowKit
set_option linter.unusedSimpArgs false
set_option linter.unusedVariables false
set_option maxHeartbeats 4000000 in
theorem verify_declared_of (cv pv bv uv : Value) (E : Int) (w : World)
    (HD : ∀ W, Below w.heap.size w W → Calls Tryz.prog 35 #[.agg #[cv, pv, bv, uv]] W fun e w' => e = .returned (.int .i64 E) ∧ Below W.heap.size W w') :
    Calls Tryz.prog 20 #[.agg #[cv, pv, bv, uv]] w fun e w' => e = .returned (findV (if E = 0 then none else some (-1, -1, E))) ∧ Below w.heap.size w w' := by
  obtain ⟨W1, hW1⟩ : ∃ W1, W1 = w.alloc (.cells #[cv, pv, bv, uv] 27) := ⟨_, rfl⟩
  have hb1 : Below w.heap.size w W1 := by rw [hW1]; exact (Below.refl _ _).alloc (Nat.le_refl _) _
  have HW1 := Lib.hid hW1
  have Hb1 := Lib.hid hb1
  have HC := Lib.hid (HD W1 hb1)
  clear hW1 hb1 HD
  by_cases h0 : E = 0
  · rw [if_pos h0]
    subst h0
    go_enter Tryz.func20, Tryz.ntmps20
    go_wp2_with fail
    rw [← HW1.out]
    refine HC.out.mono ?_; rintro e w1 ⟨rfl, hb2⟩
    have HB2 := Lib.hid (Hb1.out.trans (hb2.mono Hb1.out.size))
    clear hb2
    go_wp2_with fail
    go_returns
    exact ⟨rfl, HB2.out⟩
  · rw [if_neg h0]
    have q : (E != 0) = true := by simpa using h0
    go_enter Tryz.func20, Tryz.ntmps20
    go_wp2_with fail
    rw [← HW1.out]
    refine HC.out.mono ?_; rintro e w1 ⟨rfl, hb2⟩
    have HB2 := Lib.hid (Hb1.out.trans (hb2.mono Hb1.out.size))
    clear hb2
    go_wp2_with fail
    go_returns
    exact ⟨rfl, HB2.out⟩
set_option maxHeartbeats 4000000 in
theorem verify_called_of (cv pv bv uv : Value) (ok : Bool) (w : World)
    (HD : ∀ W, Below w.heap.size w W → Calls Tryz.prog 37 #[uv] W fun e w' => (∃ u, e = .returned (.tuple #[u, .bool ok])) ∧ Below W.heap.size W w') :
    Calls Tryz.prog 22 #[.agg #[cv, pv, bv, uv]] w fun e w' => e = .returned (findV (if ok = true then none else some (-1, -1, 12))) ∧ Below w.heap.size w w' := by
  obtain ⟨W1, hW1⟩ : ∃ W1, W1 = w.alloc (.cells #[cv, pv, bv, uv] 27) := ⟨_, rfl⟩
  have hb1 : Below w.heap.size w W1 := by rw [hW1]; exact (Below.refl _ _).alloc (Nat.le_refl _) _
  have HW1 := Lib.hid hW1
  have Hb1 := Lib.hid hb1
  have HC := Lib.hid (HD W1 hb1)
  clear hW1 hb1 HD
  cases ok with
  | true =>
    rw [if_pos rfl]
    go_enter Tryz.func22, Tryz.ntmps22
    go_wp2_with fail
    rw [← HW1.out]
    refine HC.out.mono ?_; rintro e w1 ⟨⟨u, rfl⟩, hb2⟩
    have HB2 := Lib.hid (Hb1.out.trans (hb2.mono Hb1.out.size))
    clear hb2
    go_wp2_with fail
    go_returns
    exact ⟨rfl, HB2.out⟩
  | false =>
    rw [if_neg (by decide)]
    go_enter Tryz.func22, Tryz.ntmps22
    go_wp2_with fail
    rw [← HW1.out]
    refine HC.out.mono ?_; rintro e w1 ⟨⟨u, rfl⟩, hb2⟩
    have HB2 := Lib.hid (Hb1.out.trans (hb2.mono Hb1.out.size))
    clear hb2
    go_wp2_with fail
    go_returns
    exact ⟨rfl, HB2.out⟩
/-- the first unit that isn't typed -/
def typedT (F : Nat → Int × Int) (n : Nat) : Option (Int × Int × Int) := ((List.range n).find? (fun k => (F k).2 != 0)).map fun k : Nat => ((k : Int), F k)
theorem typedT_none {F : Nat → Int × Int} {n : Nat} (h : ∀ j, j < n → (F j).2 = 0) : typedT F n = none := by
  unfold typedT
  have : (List.range n).find? (fun k => (F k).2 != 0) = none := by
    rw [List.find?_eq_none]; intro x hx; rw [List.mem_range] at hx; rw [h x hx]; decide
  rw [this]; rfl
theorem typedT_some {F : Nat → Int × Int} {n k : Nat} (hk : k < n) (h : ∀ j, j < k → (F j).2 = 0) (h2 : (F k).2 ≠ 0) : typedT F n = some ((k : Int), F k) := by
  unfold typedT
  have : (List.range n).find? (fun k => (F k).2 != 0) = some k := by
    rw [List.find?_range_eq_some]
    exact ⟨by simpa using h2, List.mem_range.2 hk, fun j hj => by simp [h j hj]⟩
  rw [this]; rfl
set_option maxRecDepth 100000 in
set_option maxHeartbeats 4000000 in
theorem verify_typed_of (cv pv bv : Value) (ad : Option Addr) (cap n : Nat) (hn : n ≤ 100) (F : Nat → Int × Int) (w : World)
    (HE : ∀ W, Below w.heap.size w W → ∀ k : Nat, k < n → Calls Tryz.prog 36 #[.agg #[cv, pv, bv, .slice ad n cap], .int .i64 k] W fun e w' => (∃ a b, e = .returned (.tuple #[a, b, .int .i64 (F k).1, .int .i64 (F k).2])) ∧ Below W.heap.size W w') :
    Calls Tryz.prog 21 #[.agg #[cv, pv, bv, .slice ad n cap]] w fun e w' => e = .returned (findV (typedT F n)) ∧ Below w.heap.size w w' := by
  obtain ⟨W1, hW1⟩ : ∃ W1, W1 = w.alloc (.cells #[cv, pv, bv, .slice ad n cap] 27) := ⟨_, rfl⟩
  have hb1 : Below w.heap.size w W1 := by rw [hW1]; exact (Below.refl _ _).alloc (Nat.le_refl _) _
  have hj1 : W1.heap[w.heap.size]? = some (.cells #[cv, pv, bv, .slice ad n cap] 27) := by rw [hW1]; exact get_last rfl
  have hs1 : w.heap.size < W1.heap.size := heap_lt hj1
  have e3 := obj_cell hj1 (i := 3) rfl
  have HW1 := Lib.hid hW1
  have Hb1 := Lib.hid hb1
  have HJ1 := Lib.hid hj1
  have HE1 := Lib.hid HE
  have HTn := Lib.hid (@typedT_none F n)
  have HTs := Lib.hid (fun (k : Nat) (hk : k < n) h h2 => @typedT_some F n k hk h h2)
  clear hW1 hb1 hj1 HE
  generalize typedT F n = T at *
  go_enter Tryz.func21, Tryz.ntmps21
  go_wp2_with fail
  rw [← HW1.out]
  clear e3
  go_loopw [11] (fun jj wr => ∃ k : Nat, k ≤ n ∧ jj = .int .i64 k ∧ Hid (∀ j, j < k → (F j).2 = 0) ∧ Hid (Below W1.heap.size W1 wr)) (fun jj _ => n - (intOf jj).toNat)
  case atStart => exact ⟨0, by omega, rfl, Lib.hid (fun j hj => by omega), Lib.hid (Below.refl _ _)⟩
  case round =>
    obtain ⟨k, hk, rfl, hall, HB⟩ := hrel
    by_cases hlt : k < n
    · have q1 : ((k : Int) < (n : Int)) = True := eq_true (by omega)
      have hj := obj_below HJ1.out HB.out hs1
      have e0 := obj_cell hj (i := 0) rfl
      have e1 := obj_cell hj (i := 1) rfl
      have e2 := obj_cell hj (i := 2) rfl
      have e3 := obj_cell hj (i := 3) rfl
      have HBw := Lib.hid (Hb1.out.trans (HB.out.mono Hb1.out.size))
      have HC := Lib.hid (HE1.out wr HBw.out k hlt)
      have HTk := Lib.hid (fun h => HTs.out k hlt hall.out h)
      have HN := Lib.hid (fun (h : (F k).2 = 0) (j : Nat) (hj : j < k + 1) => if e : j = k then e ▸ h else hall.out j (by omega))
      have hk62 : k ≤ 9223372036854775806 := by omega
      clear hj
      generalize F k = t at HC HTk HN
      obtain ⟨pl, er⟩ := t
      by_cases h0 : er = 0
      · subst h0
        have HN2 := Lib.hid (HN.out rfl)
        clear HN HTk
        go_wp2_with fail
        refine HC.out.mono ?_; rintro e w2 ⟨⟨a, b, rfl⟩, hb2⟩
        have HB2 := Lib.hid (HB.out.trans (hb2.mono HB.out.size))
        clear hb2
        go_wp2_with fail
        refine ⟨⟨k + 1, by omega, by first | rfl | simp, HN2, HB2⟩, ?_⟩
        simp [intOf]; omega
      · have q : (er != 0) = true := by simpa using h0
        have HTk := Lib.hid (HTk.out h0)
        go_wp2_with fail
        refine HC.out.mono ?_; rintro e w2 ⟨⟨a, b, rfl⟩, hb2⟩
        have HB2 := Lib.hid (HBw.out.trans (hb2.mono HBw.out.size))
        clear hb2
        go_wp2_with fail
        go_returns
        exact ⟨by rw [HTk.out]; rfl, HB2.out⟩
    · have q1 : ((k : Int) < (n : Int)) = False := eq_false (by omega)
      obtain rfl : k = n := by omega
      have HT := Lib.hid (HTn.out hall.out)
      have HBw := Lib.hid (Hb1.out.trans (HB.out.mono Hb1.out.size))
      go_wp2_with fail
      go_returns
      exact ⟨by rw [HT.out]; rfl, HBw.out⟩
end Go.Proofs.YtefejcofmopjfaaGreatDoor

/- Layer 22: verify.find; verify.Check and verify.Right of any program, told by what decl.Check, typing.Entries and calls.Order tell. -/
namespace Go.Proofs.YtefejcofmopjfaaGreatDoor
open Go.RowKit
set_option linter.unusedSimpArgs false
set_option linter.unusedVariables false
/-- the first of three that is something -/
def findF (E : Int) (t : Option (Int × Int × Int)) (ok : Bool) : Option (Int × Int × Int) :=
  if E = 0 then (if t = none then (if ok = true then none else some (-1, -1, 12)) else t) else some (-1, -1, E)
set_option maxHeartbeats 4000000 in
theorem verify_find_of (cv pv bv uv : Value) (E : Int) (t : Option (Int × Int × Int)) (ok : Bool) (w : World)
    (HD : ∀ W, Below w.heap.size w W → Calls Tryz.prog 20 #[.agg #[cv, pv, bv, uv]] W fun e w' => e = .returned (findV (if E = 0 then none else some (-1, -1, E))) ∧ Below W.heap.size W w')
    (HT : ∀ W, Below w.heap.size w W → Calls Tryz.prog 21 #[.agg #[cv, pv, bv, uv]] W fun e w' => e = .returned (findV t) ∧ Below W.heap.size W w')
    (HO : ∀ W, Below w.heap.size w W → Calls Tryz.prog 22 #[.agg #[cv, pv, bv, uv]] W fun e w' => e = .returned (findV (if ok = true then none else some (-1, -1, 12))) ∧ Below W.heap.size W w') :
    Calls Tryz.prog 12 #[.agg #[cv, pv, bv, uv]] w fun e w' => e = .returned (findV (findF E t ok)) ∧ Below w.heap.size w w' := by
  obtain ⟨W1, hW1⟩ : ∃ W1, W1 = w.alloc (.cells #[cv, pv, bv, uv] 27) := ⟨_, rfl⟩
  have hb1 : Below w.heap.size w W1 := by rw [hW1]; exact (Below.refl _ _).alloc (Nat.le_refl _) _
  have hj1 : W1.heap[w.heap.size]? = some (.cells #[cv, pv, bv, uv] 27) := by rw [hW1]; exact get_last rfl
  have hs1 : w.heap.size < W1.heap.size := heap_lt hj1
  have HW1 := Lib.hid hW1
  have Hb1 := Lib.hid hb1
  have HJ1 := Lib.hid hj1
  have HD1 := Lib.hid (HD W1 hb1)
  have HT1 := Lib.hid HT
  have HO1 := Lib.hid HO
  clear hW1 hb1 hj1 HD HT HO
  unfold findF
  by_cases h0 : E = 0
  case neg =>
    rw [if_neg h0] at HD1 ⊢
    go_enter Tryz.func12, Tryz.ntmps12
    go_wp2_with fail
    rw [← HW1.out]
    refine HD1.out.mono ?_; rintro e w1 ⟨rfl, hb2⟩
    have HB2 := Lib.hid (Hb1.out.trans (hb2.mono Hb1.out.size))
    clear hb2
    unfold findV
    go_wp2_with fail
    go_returns
    exact ⟨rfl, HB2.out⟩
  rw [if_pos h0] at HD1 ⊢
  clear h0
  cases t with
  | some t =>
    rw [if_neg (by simp)]
    go_enter Tryz.func12, Tryz.ntmps12
    go_wp2_with fail
    rw [← HW1.out]
    refine HD1.out.mono ?_; rintro e w1 ⟨rfl, hb2⟩
    have HB2 := Lib.hid (Hb1.out.trans (hb2.mono Hb1.out.size))
    have hj2 := obj_below HJ1.out hb2 hs1
    have e0 := obj_cell hj2 (i := 0) rfl
    have e1 := obj_cell hj2 (i := 1) rfl
    have e2 := obj_cell hj2 (i := 2) rfl
    have e3 := obj_cell hj2 (i := 3) rfl
    have HT2 := Lib.hid (HT1.out w1 HB2.out)
    clear hb2 hj2
    unfold findV at HT2 ⊢
    go_wp2_with fail
    refine HT2.out.mono ?_; rintro e w2 ⟨rfl, hb3⟩
    have HB3 := Lib.hid (HB2.out.trans (hb3.mono HB2.out.size))
    clear hb3
    go_wp2_with fail
    go_returns
    exact ⟨rfl, HB3.out⟩
  | none =>
    rw [if_pos rfl]
    generalize (if ok = true then none else some (-1, -1, 12) : Option (Int × Int × Int)) = R at *
    go_enter Tryz.func12, Tryz.ntmps12
    go_wp2_with fail
    rw [← HW1.out]
    refine HD1.out.mono ?_; rintro e w1 ⟨rfl, hb2⟩
    have HB2 := Lib.hid (Hb1.out.trans (hb2.mono Hb1.out.size))
    have hj2 := obj_below HJ1.out hb2 hs1
    have hs2 : w.heap.size < w1.heap.size := heap_lt hj2
    have HJ2 := Lib.hid hj2
    have e0 := obj_cell hj2 (i := 0) rfl
    have e1 := obj_cell hj2 (i := 1) rfl
    have e2 := obj_cell hj2 (i := 2) rfl
    have e3 := obj_cell hj2 (i := 3) rfl
    have HT2 := Lib.hid (HT1.out w1 HB2.out)
    have nv : findV none = .nilIface := rfl
    clear hb2 hj2
    rw [nv] at HT2 ⊢
    go_wp2_with fail
    refine HT2.out.mono ?_; rintro e w2 ⟨rfl, hb3⟩
    have HB3 := Lib.hid (HB2.out.trans (hb3.mono HB2.out.size))
    have hj3 := obj_below HJ2.out hb3 hs2
    have e0 := obj_cell hj3 (i := 0) rfl
    have e1 := obj_cell hj3 (i := 1) rfl
    have e2 := obj_cell hj3 (i := 2) rfl
    have e3 := obj_cell hj3 (i := 3) rfl
    have HO2 := Lib.hid (HO1.out w2 HB3.out)
    clear hb3 hj3
    go_wp2_with fail
    refine HO2.out.mono ?_; rintro e w3 ⟨rfl, hb4⟩
    have HB4 := Lib.hid (HB3.out.trans (hb4.mono HB3.out.size))
    clear hb4
    go_wp2_with fail
    go_returns
    exact ⟨rfl, HB4.out⟩
end Go.Proofs.YtefejcofmopjfaaGreatDoor

/- Layer 22, plain: what verify.Right answers, and what it means. -/
namespace Go.Proofs.YtefejcofmopjfaaGreatDoor
open Go.RowKit
open CL (ordF)
set_option linter.unusedSimpArgs false
set_option linter.unusedVariables false
def typT (p : Pr) : Option (Int × Int × Int) := typedT (fun k => entT p k) p.units.length
def ordT (p : Pr) : Bool := (ordF (callsF p.units) p.units.length []).isSome
def vR (p : Pr) : Bool := decide ((findA (findF (checkE p) (typT p) (ordT p))).2.2 = 0)
theorem typT_none {p : Pr} : typT p = none ↔ ∀ k : Nat, k < p.units.length → entOk p k := by
  constructor
  · intro h k hk
    apply Classical.byContradiction
    intro hne
    obtain ⟨j, hj, hj2, hj3⟩ : ∃ j, j < p.units.length ∧ (∀ i : Nat, i < j → (entT p i).2 = 0) ∧ (entT p j).2 ≠ 0 := by
      apply Classical.byContradiction
      intro hno
      have : ∀ m : Nat, m ≤ p.units.length → ∀ i : Nat, i < m → (entT p i).2 = 0 := by
        intro m
        induction m with
        | zero => intro _ i hi; omega
        | succ m ih =>
          intro hm i hi
          by_cases e : i = m
          · subst e
            exact Classical.byContradiction fun hx => hno ⟨i, by omega, ih (by omega), hx⟩
          · exact ih (by omega) i (by omega)
      exact hne (entT_zero.1 (this p.units.length (Nat.le_refl _) k hk))
    unfold typT at h
    rw [typedT_some (F := fun k => entT p k) hj hj2 hj3] at h
    cases h
  · intro h
    exact typedT_none (F := fun k => entT p k) fun j hj => entT_zero.2 (h j hj)
theorem typT_some {p : Pr} {t : Int × Int × Int} (h : typT p = some t) : t.2.2 ≠ 0 := by
  unfold typT typedT at h
  cases hf : (List.range p.units.length).find? (fun k : Nat => (entT p k).2 != 0) with
  | none => rw [hf] at h; cases h
  | some k =>
    rw [hf] at h
    have h2 := List.find?_some hf
    obtain rfl := Option.some.inj h
    simpa using h2
theorem vR_iff {p : Pr} : vR p = true ↔ rightP p := by
  unfold vR rightP findF
  rw [decide_eq_true_eq, ← typT_none]
  by_cases h0 : checkE p = 0
  · rw [if_pos h0]
    cases ht : typT p with
    | none =>
      rw [if_pos rfl]
      cases ho : ordT p
      · rw [if_neg (by decide)]
        constructor
        · intro h; simp [findA] at h
        · intro h; exact absurd (show ordT p = true from h.2.2) (by rw [ho]; decide)
      · rw [if_pos rfl]
        exact ⟨fun _ => ⟨h0, rfl, ho⟩, fun _ => rfl⟩
    | some t =>
      rw [if_neg (by simp)]
      constructor
      · intro h; exact absurd h (typT_some ht)
      · intro h; cases h.2.1
  · rw [if_neg h0]
    constructor
    · intro h; exact absurd h h0
    · intro h; exact absurd h.1 h0
theorem vR_more {p : Pr} (hf : fewP p = true) (h : vR p = true) : vR { p with consts := p.consts ++ [(6, -1)] } = true := by
  obtain ⟨⟨a, _⟩, _⟩ := fewP_is hf
  exact vR_iff.2 (right_more (vR_iff.1 h) (by omega))
end Go.Proofs.YtefejcofmopjfaaGreatDoor

/- One more at a row's end: of LawRefsMore, for other seats. -/
namespace Go.Proofs.YtefejcofmopjfaaGreatDoor
open Go.RowKit
set_option linter.unusedSimpArgs false
set_option linter.unusedVariables false
theorem heap_new (w : World) (o : Obj) : (w.alloc o).heap[w.heap.size]? = some o := by show (w.heap.push o)[w.heap.size]? = _; simp
theorem obj_grown {w w' : World} {ob : Option Nat} {g : Nat} {o : Obj} (h : w.heap[g]? = some o) (hg : w.grownBy w' ob) (hne : ob ≠ some g) : w'.heap[g]? = some o := by
  have hlt : g < w.heap.size := by
    by_cases hgl : g < w.heap.size
    · exact hgl
    · rw [Array.getElem?_eq_none (Nat.le_of_not_lt hgl)] at h; cases h
  exact (hg.block g hlt (fun e => hne e.symm)).trans h
theorem own_ne_empty {w : World} {g p : Nat} {t : TypeId} {C : Array Value} {fr fr' : Nat × Nat} {s : TypeId} (h : w.heap[g]? = some (.cells #[] t fr)) (hp : w.heap[p]? = some (.cells C s fr')) (hC : 0 < C.size) : (Value.slice (some ⟨g, 0, none⟩) 0 0).ownBlock ≠ some p := by
  intro hu
  have : g = p := by simpa [Value.ownBlock] using hu
  subst this
  rw [h] at hp
  simp at hp
  obtain ⟨rfl, _⟩ := hp
  simp at hC
theorem owns_nil_at {w : World} {B g q : Nat} {t : TypeId} (h : w.heap[g]? = some (.cells #[] t)) (hB : B ≤ g) : w.ownsRow B t q (.slice (some ⟨g, 0, none⟩) 0 0) 0 [] :=
  ⟨by simp, Or.inr ⟨g, 0, #[], rfl, hB, h, by omega, by unfold maxLen; omega, by simp, by simp⟩⟩
theorem src_at {w : World} {g n : Nat} {t : TypeId} {C : List Value} (h : w.heap[g]? = some (.cells C.toArray t)) : Src w (.slice (some ⟨g, 0, none⟩) n n) n C :=
  Or.inr ⟨⟨g, 0, none⟩, n, rfl, fun j u hu => by
    rw [add_at, Nat.zero_add]
    unfold World.cell?
    rw [show (⟨g, j, none⟩ : Addr).block = g from rfl, h]
    simpa using hu⟩
theorem chunks_snoc {α : Type} {q : Nat} {R : Rep α} {w : World} {CH : List (Chunk q)} {L : List α} {z : Chunk q} {y : α} (hR : ∀ (i : Nat) (c : Chunk q) (x : α), CH[i]? = some c → L[i]? = some x → R w c.1 x) (hl : CH.length = L.length) (hz : R w z.1 y) : ∀ (i : Nat) (c : Chunk q) (x : α), (CH ++ [z])[i]? = some c → (L ++ [y])[i]? = some x → R w c.1 x := by
  intro i c x hc hx
  by_cases hi : i < CH.length
  · rw [List.getElem?_append_left hi] at hc
    rw [List.getElem?_append_left (by omega)] at hx
    exact hR i c x hc hx
  · have h1 := lt_of_get hc
    obtain rfl : i = CH.length := by simp at h1; omega
    have e1 : z = c := by simpa using hc
    have e2 : y = x := by rw [hl] at hx; simpa using hx
    rw [← e1, ← e2]; exact hz
def moreP (p : Pr) : Pr := ⟨p.consts ++ [(0, 0)], p.vars ++ [⟨[], 0, 0, 0, 0⟩], p.blocks ++ [⟨[], 0⟩], p.units ++ [⟨[], [], 0, [], []⟩]⟩
theorem getD_more {α : Type} {L : List α} {x d : α} {k : Nat} (h : k < L.length) : (L ++ [x]).getD k d = L.getD k d := by
  simp [List.getD, List.getElem?_append_left h]
theorem int_one {w : World} {cs : List Value} {x : Int} (h : intR w cs x) : ∀ u ∈ cs, u.oneCell' = true := by
  obtain ⟨rfl, _⟩ := h; intro u hu; simp at hu; subst hu; rfl
theorem row_more {α : Type} {q : Nat} {R : Rep α} (hS : Stable R) (hO : ∀ w cs x, R w cs x → ∀ u ∈ cs, u.oneCell' = true) {w : World} {v : Value} {L : List α} (h : RowR q R w v L) :
    ∃ X : List Value, X.length = L.length * q ∧ (∀ u ∈ X, u.oneCell' = true) ∧ (∀ W, Below w.heap.size w W → Src W v L.length X) ∧ ∀ W, Below w.heap.size w W → ∀ (B : Nat) (e : TypeId) (r : Value) (z : Chunk q) (y : α), R W z.1 y → W.ownsRow B e q r (L.length + 1) (X ++ z.1) → RowR q R W r (L ++ [y]) := by
  obtain ⟨CH, h1, h2, h3⟩ := row_chunks h
  refine ⟨flatC CH, by rw [flatC_len, h1], chunks_one (fun i c hc => ?_), fun W hW => h3.below hW, fun W hW B e r z y hz hO => ?_⟩
  · obtain ⟨x, hx⟩ := get_some (L := L) (n := i) (by rw [← h1]; exact lt_of_get hc)
    exact hO _ _ _ (h2 i c x hc hx)
  · refine row_of_chunks (CH := CH ++ [z]) (own_eq2 hO rfl (by rw [flatC_app, flatC_one])) (by simp [h1]) (by simp [h1]) (chunks_snoc (fun i c x hc hx => hS _ _ _ _ (h2 i c x hc hx) hW) h1 hz)
end Go.Proofs.YtefejcofmopjfaaGreatDoor

/- Layer 22: the walk of VerifyLess, told by verify.Right and the law's awake. -/
namespace Go.Proofs.YtefejcofmopjfaaGreatDoor
open Go.RowKit
set_option linter.unusedSimpArgs false
set_option linter.unusedVariables false
def Stop (P : Prop) := P
theorem stop_here {P : Prop} (h : Stop P) : P := h
def moreC (p : Pr) : Pr := { p with consts := p.consts ++ [(6, -1)] }
def lessU (p : Pr) (n : Nat) : Pr := { moreC p with units := p.units.take n }
def CallsNo (p : Pr) (n : Nat) : Prop := ∀ (u : Nat) (x : Un), u < n → p.units[u]? = some x → ∀ i ∈ x.code, ¬ (i.1 = 33 ∧ i.2.1 = n)
theorem const_oneV {w : World} {cs : List Value} {x : Int × Int} (h : constR w cs x) : ∀ u ∈ cs, u.oneCell' = true := by
  obtain ⟨rfl, _⟩ := h; intro u hu; simp at hu; rcases hu with rfl | rfl <;> rfl
theorem owns_apartV {w : World} {B : Nat} {e : TypeId} {q n : Nat} {v : Value} {xs : List Value} {g o : Nat} {x : Value} (h : w.ownsRow B e q v n xs) (hg : g < B) : (w.setCell ⟨g, o, none⟩ x).ownsRow B e q v n xs := by
  obtain ⟨h1, h2⟩ := h
  refine ⟨h1, ?_⟩
  rcases h2 with h2 | ⟨b, cap, cur, a1, a2, a3, a4⟩
  · exact Or.inl h2
  · refine Or.inr ⟨b, cap, cur, a1, a2, ?_, a4⟩
    unfold World.setCell
    show (w.heap.modify g _)[b]? = _
    rw [Array.getElem?_modify, if_neg (by omega)]
    exact a3
theorem wide_moreC {p : Pr} (h : fewP p = true) : wideP (moreC p) = true := by
  obtain ⟨⟨a, b, c, d⟩, _, _, e⟩ := fewP_is h
  refine decide_eq_true ⟨⟨?_, ?_, ?_, ?_⟩, trivial, trivial, e⟩
  · simp [moreC]; omega
  · show p.vars.length ≤ 100; omega
  · show p.blocks.length ≤ 100; omega
  · show p.units.length ≤ 100; omega
theorem wide_lessU {p : Pr} {n : Nat} (h : fewP p = true) : wideP (lessU p n) = true := by
  obtain ⟨⟨a, b, c, d⟩, _, _, e⟩ := fewP_is h
  refine decide_eq_true ⟨⟨?_, ?_, ?_, ?_⟩, trivial, trivial, fun x hx => e x (List.mem_of_mem_take hx)⟩
  · simp [lessU, moreC]; omega
  · show p.vars.length ≤ 100; omega
  · show p.blocks.length ≤ 100; omega
  · show (p.units.take n).length ≤ 100; rw [List.length_take]; omega
end Go.Proofs.YtefejcofmopjfaaGreatDoor

/- Layer 22, plain: with fewer units; the small programs that the awake asks for. -/
namespace Go.Proofs.YtefejcofmopjfaaGreatDoor
open Go.RowKit
open CL (ordF)
set_option linter.unusedSimpArgs false
set_option linter.unusedVariables false
theorem vR_no : findA (findF (checkE prNo) (typT prNo) (ordT prNo)) = (-1, -1, 5) := by decide +kernel
theorem vR_34 : vR pr34 = true := by decide +kernel
end Go.Proofs.YtefejcofmopjfaaGreatDoor

/- Layer 22: the law's awake, told by verify.Check of no program and verify.Right of a program of one unit. -/
namespace Go.Proofs.YtefejcofmopjfaaGreatDoor
open Go.RowKit
set_option linter.unusedSimpArgs false
set_option linter.unusedVariables false
set_option maxHeartbeats 4000000 in
theorem law22_awake_of (w : World)
    (HC : ∀ W, Below w.heap.size w W → Calls Tryz.prog 7 #[.agg #[.slice none 0 0, .slice none 0 0, .slice none 0 0, .slice none 0 0]] W fun e w' => e = .returned (.tuple #[.int .i64 (-1), .int .i64 (-1), .int .i64 5]) ∧ Below W.heap.size W w')
    (HR : ∀ W vu, Below w.heap.size w W → RowR 5 unitR W vu [un34] → Calls Tryz.prog 9 #[.agg #[.slice none 0 0, .slice none 0 0, .slice none 0 0, vu]] W fun e w' => e = .returned (.bool true) ∧ Below W.heap.size W w') :
    Calls Tryz.prog 6 #[] w fun e w' => e = .returned (.bool true) ∧ Below w.heap.size w w' := by
  have HC1 := Lib.hid (HC w (Below.refl _ _))
  have HR1 := Lib.hid HR
  clear HC HR
  go_enter Tryz.func6, Tryz.ntmps6
  go_wp2_with fail
  refine HC1.out.mono ?_; rintro e w1 ⟨rfl, hb1⟩
  have HB1 := Lib.hid hb1
  go_wp2_with fail
  obtain ⟨W2, hW2⟩ : ∃ W2, W2 = (w1.alloc (.cells #[.int .i64 34, .int .i64 0, .int .i64 0] 40)).alloc (.cells #[.string ⟨#[]⟩, .slice none 0 0, .int .i64 0, .slice none 0 0, .slice (some ⟨w1.heap.size, 0, none⟩) 1 1] 38) := ⟨_, rfl⟩
  have hb2 : Below w1.heap.size w1 W2 := by rw [hW2]; exact by (repeat' (first | (with_reducible exact Below.refl _ _) | (with_reducible assumption) | (with_reducible refine below_drewN ?_ _) | (with_reducible refine Below.alloc ?_ ?_ _) | (with_reducible refine Below.drew ?_) | (with_reducible refine Below.setCell ?_ ?_ _) | go_size))
  have hz2 : W2.heap.size = w1.heap.size + 2 := by rw [hW2]; simp
  have hc2 : W2.heap[w1.heap.size]? = some (.cells #[.int .i64 34, .int .i64 0, .int .i64 0] 40) := by rw [hW2]; exact (get_past (by simp)).trans (get_last rfl)
  have hg2 : W2.heap[w1.heap.size + 1]? = some (.cells #[.string ⟨#[]⟩, .slice none 0 0, .int .i64 0, .slice none 0 0, .slice (some ⟨w1.heap.size, 0, none⟩) 1 1] 38) := by rw [hW2]; exact get_last (by simp)
  rw [← hW2]
  have HBw := Lib.hid (HB1.out.trans (hb2.mono HB1.out.size))
  refine (HR1.out W2 _ HBw.out (row_un34 hc2 hg2)).mono ?_; rintro e w3 ⟨rfl, hb3⟩
  have HB3 := Lib.hid (HBw.out.trans (hb3.mono HBw.out.size))
  clear hb1 hb2 hb3 hc2 hg2
  go_wp2_with fail
  go_ret
  exact ⟨rfl, HB3.out⟩
end Go.Proofs.YtefejcofmopjfaaGreatDoor

/- Layer 22: verify.Right and verify.Check of any wide program; the law's awake. -/
namespace Go.Proofs.YtefejcofmopjfaaGreatDoor
open Go.RowKit
open CL (ordF)
set_option linter.unusedSimpArgs false
set_option linter.unusedVariables false
theorem verify_find (cv pv bv uv : Value) (p : Pr) (w : World) (hP : PrAt w cv pv bv uv p) (hT : TabR w) (hBt : BTab w) (hf : wideP p = true) :
    Calls Tryz.prog 12 #[.agg #[cv, pv, bv, uv]] w fun e w' => e = .returned (findV (findF (checkE p) (typT p) (ordT p))) ∧ Below w.heap.size w w' := by
  obtain ⟨⟨f0, f1, f2, f3⟩, _, _, f4⟩ := wideP_is hf
  obtain ⟨s3, t3, rfl⟩ := row_get hP.us
  refine verify_find_of _ _ _ _ (checkE p) (typT p) (ordT p) w (fun W hb => ?_) (fun W hb => ?_) (fun W hb => ?_)
  · exact verify_declared_of _ _ _ _ (checkE p) W fun W2 hb2 => decl_Check _ _ _ _ p W2 (hP.below (hb.trans (hb2.mono hb.size))) f4
  · exact verify_typed_of _ _ _ _ _ _ f3 (fun k => entT p k) W fun W2 hb2 k hk => (typing_Entries _ _ _ _ p k W2 (hP.below (hb.trans (hb2.mono hb.size))) (hT.below (hb.trans (hb2.mono hb.size))) (hBt.below (hb.trans (hb2.mono hb.size))) hf).mono fun e w' h => entQ_told h
  · refine verify_called_of _ _ _ _ (ordT p) W fun W2 hb2 => ?_
    refine (calls_Order _ p.units W2 (hP.below (hb.trans (hb2.mono hb.size))).us f3 (fun x hx => (fewU_is (f4 x hx)).2.2.2)).mono ?_
    rintro e w' ⟨u, ok, rfl, rfl, _, hb3⟩
    exact ⟨⟨u, rfl⟩, hb3⟩
theorem verify_Right (cv pv bv uv : Value) (p : Pr) (w : World) (hP : PrAt w cv pv bv uv p) (hT : TabR w) (hBt : BTab w) (hG : ErrT w) (hf : wideP p = true) :
    Calls Tryz.prog 9 #[.agg #[cv, pv, bv, uv]] w fun e w' => e = .returned (.bool (vR p)) ∧ Below w.heap.size w w' :=
  verify_Right_of _ _ _ _ _ w hG fun W hb => verify_find _ _ _ _ p W (hP.below hb) (hT.below hb) (hBt.below hb) hf
theorem verify_Check (cv pv bv uv : Value) (p : Pr) (w : World) (hP : PrAt w cv pv bv uv p) (hT : TabR w) (hBt : BTab w) (hG : ErrT w) (hf : wideP p = true) :
    Calls Tryz.prog 7 #[.agg #[cv, pv, bv, uv]] w fun e w' => e = .returned (.tuple #[.int .i64 (findA (findF (checkE p) (typT p) (ordT p))).1, .int .i64 (findA (findF (checkE p) (typT p) (ordT p))).2.1, .int .i64 (findA (findF (checkE p) (typT p) (ordT p))).2.2]) ∧ Below w.heap.size w w' :=
  verify_Check_of _ _ _ _ _ w hG fun W hb => verify_find _ _ _ _ p W (hP.below hb) (hT.below hb) (hBt.below hb) hf
theorem law22_awake (w : World) (hT : TabR w) (hBt : BTab w) (hG : ErrT w) : Calls Tryz.prog 6 #[] w fun e w' => e = .returned (.bool true) ∧ Below w.heap.size w w' := by
  refine law22_awake_of w (fun W hb => ?_) (fun W vu hb hv => ?_)
  · have h := verify_Check _ _ _ _ prNo W ⟨row_none, row_none, row_none, row_none⟩ (hT.below hb) (hBt.below hb) (hG.below hb) (by decide)
    rw [vR_no] at h
    exact h
  · have h := verify_Right _ _ _ _ pr34 W ⟨row_none, row_none, row_none, hv⟩ (hT.below hb) (hBt.below hb) (hG.below hb) (by decide)
    rw [vR_34] at h
    exact h
end Go.Proofs.YtefejcofmopjfaaGreatDoor

/- Layer 22: what the rows' lists give: the tables, and the type that errors.As asks for. -/
namespace Go.Proofs.YtefejcofmopjfaaGreatDoor
open Go.RowKit
set_option linter.unusedSimpArgs false
set_option linter.unusedVariables false
theorem hn_et : Tryz.prog.globalNamed "errors.errorType" = some 0 := by kernel_rfl
theorem hn_rt : (Tryz.prog.cutTypes.find? (·.1 == "internal/reflectlite.rtype")).map (·.2) = some 84 := by kernel_rfl
theorem hn_row : ((List.range Tryz.prog.types.size).filter fun t => Tryz.prog.rowNamed t [101, 114, 114, 111, 114]) = [50] := by kernel_rfl
theorem hn_hd : typeHandle Tryz.prog 50 = .pointer (some ⟨5, 50, none⟩) := by kernel_rfl
theorem errT_met {l : List (String × DataW Unit)} {W : World} (h : handlesMet Tryz.prog (("errors.errorType", Rows.laid_errors_errorType) :: l) W) : ErrT W := by
  obtain ⟨name, u, ty, e1, e2, e3, e4, e5⟩ := h _ (List.mem_cons_self ..)
  have en : name = [101, 114, 114, 111, 114] := (Option.some.inj e1).symm
  subst en
  obtain rfl := Option.some.inj (hn_rt.symm.trans e2)
  have hm : ty ∈ (List.range Tryz.prog.types.size).filter fun t => Tryz.prog.rowNamed t [101, 114, 114, 111, 114] := List.mem_filter.2 ⟨List.mem_range.2 e3, e4⟩
  rw [hn_row] at hm
  obtain rfl := List.mem_singleton.1 hm
  rw [hn_hd] at e5
  unfold ErrT
  simpa using World.var?_cell hn_et e5 0
end Go.Proofs.YtefejcofmopjfaaGreatDoor
