/- Merged texts: RowOwn, ChunkC, RowMore, ExMp, TablesR, DeclA, DeclB, DeclC, Boxed, Slots, UnSlots, DeclD, DeclF, DeclG, HeldTill, DeclH, DeclAw, Few, FewP, LawDeclLe, RefHead, RefCheck, Facts, DeclS, SlotsO, DeclSc. -/
import Derived.Test.YtpecpeedefeokaaDoorOwn
import Derived.Test.YtpecpeedefeokaaDoorObj
import Derived.Test.YtpecpeedefeokaaDoorKeep
import Derived.Test.YtpecpeedefeokaaDoorPgm
import Derived.Test.YtpecpeedefeokaaDoorExTy
import Derived.Test.YtpecpeedefeokaaDoorKind
import Derived.Test.YtpecpeedefeokaaDoorMoreB
import Derived.Test.YtpecpeedefeokaaDoorHeldMore
import Derived.Deep.RegionHeld3
import Derived.LoopTactic
import Derived.OwnWalk
import Derived.Deep.QuietTactic
import Derived.BigQuiet
import Derived.WalkSmall
import Derived.IntWalk
import Derived.Test.YtpecpeedefeokaaDoorBlockC
import Derived.Test.YtpecpeedefeokaaDoorHeap
import Derived.WalkKit
import Derived.WalkSpells
import Derived.WalkLawsBesides
import Derived.Deep.Cut
import Derived.Deep.CutRange
import Derived.RegionTactic
import Derived.Test.YtpecpeedefeokaaDoorRow
import Derived.Laws.OwnMore
import Derived.Test.YtpecpeedefeokaaDoorRowTwo
import Derived.Test.YtpecpeedefeokaaDoorOwnLow
/- Rows of the call's own, as what they read as: elements of q cells each. -/
namespace Go.Proofs.YtpecpeedefeokaaDoor
open Go.RowKit
set_option linter.unusedSimpArgs false
set_option linter.unusedVariables false
theorem flat_len {α : Type} {enc : α → List Value} {q : Nat} (h : ∀ x, (enc x).length = q) : ∀ L : List α, (L.flatMap enc).length = L.length * q
  | [] => by simp
  | x :: t => by
    rw [List.flatMap_cons, List.length_append, h x, flat_len h t, List.length_cons, Nat.succ_mul]; omega
theorem flat_get {α : Type} {enc : α → List Value} {q : Nat} (h : ∀ x, (enc x).length = q) : ∀ (L : List α) (i j : Nat) (x : α), L[i]? = some x → j < q → (L.flatMap enc)[i * q + j]? = (enc x)[j]?
  | [], i, j, x, hx, _ => by simp at hx
  | y :: t, i, j, x, hx, hj => by
    rw [List.flatMap_cons]
    cases i with
    | zero =>
      obtain rfl : y = x := by simpa using hx
      rw [Nat.zero_mul, Nat.zero_add, List.getElem?_append_left (by rw [h]; exact hj)]
    | succ i =>
      rw [List.getElem?_append_right (by rw [h, Nat.succ_mul]; omega), h, ← flat_get h t i j x (by simpa using hx) hj]
      congr 1
      rw [Nat.succ_mul]; omega
theorem row_owned {α : Type} {enc : α → List Value} {q : Nat} {R : Rep α} {w : World} {B : Nat} {e : TypeId} {v : Value} {L : List α} (h : ∀ x, (enc x).length = q) (hv : w.ownsRow B e q v L.length (L.flatMap enc)) (hR : ∀ x ∈ L, R w (enc x) x) : RowR q R w v L := by
  obtain ⟨hl, hv⟩ := hv
  rcases hv with ⟨rfl, h0⟩ | ⟨g, cap, cur, rfl, hb, hg, h1, h2, h3, h4⟩
  · exact Or.inl ⟨none, 0, rfl, List.length_eq_zero_iff.1 h0, fun _ => rfl⟩
  · by_cases h0 : L.length = 0
    · exact Or.inl ⟨_, cap, by rw [h0], List.length_eq_zero_iff.1 h0, fun h => by cases h⟩
    · have hlt : g < w.heap.size := by
        by_cases hgl : g < w.heap.size
        · exact hgl
        · rw [Array.getElem?_eq_none (Nat.le_of_not_lt hgl)] at hg; cases hg
      refine Or.inr ⟨g, 0, cap, rfl, by omega, h1, h2, hlt, fun i x hx => ?_⟩
      refine ⟨enc x, h x, fun j u hu => ?_, hR x (List.mem_of_getElem? hx)⟩
      have hj : j < q := by rw [← h x]; exact lt_of_get hu
      have hi := lt_of_get hx
      have h5 := flat_get h L i j x hx hj
      have hij : i * q + j < L.length * q := by
        have : (i + 1) * q ≤ L.length * q := Nat.mul_le_mul_right q hi
        rw [Nat.succ_mul] at this
        omega
      rw [hu, ← h4, List.getElem?_take, if_pos hij] at h5
      unfold World.cell?
      rw [hg]
      simp only [Nat.zero_add]
      simpa using h5
end Go.Proofs.YtpecpeedefeokaaDoor

/- Rows as chunks of cells: what is appended to a row of the call's own, whatever its elements are. -/
namespace Go.Proofs.YtpecpeedefeokaaDoor
open Go.RowKit
set_option linter.unusedSimpArgs false
set_option linter.unusedVariables false
abbrev Chunk (q : Nat) := {c : List Value // c.length = q}
def flatC {q : Nat} (CH : List (Chunk q)) : List Value := CH.flatMap Subtype.val
theorem flatC_len {q : Nat} (CH : List (Chunk q)) : (flatC CH).length = CH.length * q := flat_len (fun x => x.2) CH
theorem flatC_app {q : Nat} (A B : List (Chunk q)) : flatC (A ++ B) = flatC A ++ flatC B := by simp [flatC]
theorem flatC_one {q : Nat} (c : Chunk q) : flatC [c] = c.1 := by simp [flatC]
theorem flatC_at {q : Nat} (CH : List (Chunk q)) {k : Nat} {u : Value} (h : (flatC CH)[k]? = some u) : ∃ i j c, k = i * q + j ∧ j < q ∧ CH[i]? = some c ∧ c.1[j]? = some u := by
  have hk : k < CH.length * q := by rw [← flatC_len]; exact lt_of_get h
  have hq : 0 < q := by
    rcases Nat.eq_zero_or_pos q with rfl | h0
    · simp at hk
    · exact h0
  have hi : k / q < CH.length := Nat.div_lt_of_lt_mul (by rw [Nat.mul_comm]; exact hk)
  obtain ⟨c, hc⟩ := get_some hi
  have hkk : k = k / q * q + k % q := by rw [Nat.mul_comm]; exact (Nat.div_add_mod k q).symm
  have hr : k % q < q := Nat.mod_lt _ hq
  refine ⟨k / q, k % q, c, hkk, hr, hc, ?_⟩
  rw [← flat_get (enc := Subtype.val) (fun x => x.2) CH (k / q) (k % q) c hc hr, ← hkk]
  exact h
theorem row_chunks {α : Type} {q : Nat} {R : Rep α} {w : World} {v : Value} {L : List α} (h : RowR q R w v L) : ∃ CH : List (Chunk q), CH.length = L.length ∧ (∀ (i : Nat) (c : Chunk q) (x : α), CH[i]? = some c → L[i]? = some x → R w c.1 x) ∧ Src w v L.length (flatC CH) := by
  rcases h with ⟨a, cap, rfl, rfl, h⟩ | ⟨b, off, cap, h1, h2, h3, h4, h5, h6⟩
  · refine ⟨[], rfl, fun i c x hc => by simp at hc, ?_⟩
    cases a with
    | none => obtain rfl := h rfl; exact Or.inl ⟨rfl, rfl, rfl⟩
    | some ad => exact Or.inr ⟨ad, cap, rfl, fun j u hu => by simp [flatC] at hu⟩
  · obtain ⟨f, hf⟩ := Classical.axiomOfChoice (r := fun (i : Fin L.length) (C : List Value) => C.length = q ∧ (∀ j u, C[j]? = some u → w.cell? ⟨b, off + i.val * q + j, none⟩ = some u) ∧ R w C L[i]) (fun i => h6 i.val L[i] (by simp))
    refine ⟨List.ofFn (fun i => ⟨f i, (hf i).1⟩), by simp, fun i c x hc hx => ?_, Or.inr ⟨⟨b, off, none⟩, cap, h1, fun k u hu => ?_⟩⟩
    · have hi := lt_of_get hx
      have e1 : c = ⟨f ⟨i, hi⟩, (hf ⟨i, hi⟩).1⟩ := by simpa [hi] using hc.symm
      have e2 : L[(⟨i, hi⟩ : Fin L.length)] = x := by simpa [hi] using hx
      rw [e1, ← e2]
      exact (hf ⟨i, hi⟩).2.2
    · obtain ⟨i, j, c, rfl, hj, hc, hcu⟩ := flatC_at _ hu
      have hi : i < L.length := by have := lt_of_get hc; simpa using this
      have e1 : c = ⟨f ⟨i, hi⟩, (hf ⟨i, hi⟩).1⟩ := by simpa [hi] using hc.symm
      rw [e1] at hcu
      rw [add_at, ← Nat.add_assoc]
      exact (hf ⟨i, hi⟩).2.1 j u hcu
theorem row_conv {α β : Type} {q : Nat} {R : Rep α} {S : Rep β} {w : World} {v : Value} {L : List α} {M : List β} (h : RowR q R w v L) (hl : L.length = M.length) (hR : ∀ (i : Nat) (x : α) (y : β) (cs : List Value), L[i]? = some x → M[i]? = some y → R w cs x → S w cs y) : RowR q S w v M := by
  rcases h with ⟨a, cap, rfl, rfl, h⟩ | ⟨b, off, cap, h1, h2, h3, h4, h5, h6⟩
  · exact Or.inl ⟨a, cap, rfl, List.length_eq_zero_iff.1 hl.symm, h⟩
  · refine Or.inr ⟨b, off, cap, by rw [← hl]; exact h1, by omega, by omega, h4, h5, fun i y hy => ?_⟩
    obtain ⟨x, hx⟩ := get_some (L := L) (n := i) (by have := lt_of_get hy; omega)
    obtain ⟨C, g1, g2, g3⟩ := h6 i x hx
    exact ⟨C, g1, g2, hR i x y C hx hy g3⟩
theorem row_of_chunks {α : Type} {q : Nat} {R : Rep α} {w : World} {B : Nat} {e : TypeId} {v : Value} {n : Nat} {CH : List (Chunk q)} {L : List α} (hv : w.ownsRow B e q v n (flatC CH)) (hn : n = CH.length) (hl : CH.length = L.length) (hR : ∀ (i : Nat) (c : Chunk q) (x : α), CH[i]? = some c → L[i]? = some x → R w c.1 x) : RowR q R w v L := by
  subst hn
  exact row_conv (row_owned (enc := Subtype.val) (R := fun _ cs (c : Chunk q) => cs = c.1) (fun x => x.2) hv (fun _ _ => rfl)) hl (fun i x y cs hx hy e => by rw [e]; exact hR i x y hx hy)
theorem chunks_one {q : Nat} {CH : List (Chunk q)} (h : ∀ (i : Nat) (c : Chunk q), CH[i]? = some c → ∀ u ∈ c.1, u.oneCell' = true) : ∀ u ∈ flatC CH, u.oneCell' = true := by
  intro u hu
  obtain ⟨c, hc, hu⟩ := List.mem_flatMap.1 hu
  obtain ⟨i, hi, rfl⟩ := List.getElem_of_mem hc
  exact h i _ (by simp [hi]) u hu
theorem own_ne_type {w : World} {B : Nat} {e t : TypeId} {q n g : Nat} {u : Value} {xs : List Value} {C : Array Value} {fr : Nat × Nat} (h : w.ownsRow B e q u n xs) (hg : w.heap[g]? = some (.cells C t fr)) (hne : e ≠ t) : u.ownBlock ≠ some g := by
  intro hu
  rcases h.2 with ⟨h0, _⟩ | ⟨b, cap, cur, h0, _, h1, _⟩
  · rw [h0] at hu; simp [Value.ownBlock] at hu
  · rw [h0] at hu
    have : b = g := by simpa [Value.ownBlock] using hu
    subst this
    rw [hg] at h1
    simp at h1
    exact hne h1.2.1.symm
end Go.Proofs.YtpecpeedefeokaaDoor

/- One more at a row's end: of LawRefsMore, for other seats. -/
namespace Go.Proofs.YtpecpeedefeokaaDoor
open Go.RowKit
set_option linter.unusedSimpArgs false
set_option linter.unusedVariables false
theorem heap_new (w : World) (o : Obj) : (w.alloc o).heap[w.heap.size]? = some o := by show (w.heap.push o)[w.heap.size]? = _; simp
theorem obj_grown {w w' : World} {ob : Option Nat} {g : Nat} {o : Obj} (h : w.heap[g]? = some o) (hg : w.grownBy w' ob) (hne : ob ≠ some g) : w'.heap[g]? = some o := by
  have hlt : g < w.heap.size := by
    by_cases hgl : g < w.heap.size
    · exact hgl
    · rw [Array.getElem?_eq_none (Nat.le_of_not_lt hgl)] at h; cases h
  exact (hg.block g hlt (fun e => hne e.symm)).trans h
theorem own_ne_empty {w : World} {g p : Nat} {t : TypeId} {C : Array Value} {fr fr' : Nat × Nat} {s : TypeId} (h : w.heap[g]? = some (.cells #[] t fr)) (hp : w.heap[p]? = some (.cells C s fr')) (hC : 0 < C.size) : (Value.slice (some ⟨g, 0, none⟩) 0 0).ownBlock ≠ some p := by
  intro hu
  have : g = p := by simpa [Value.ownBlock] using hu
  subst this
  rw [h] at hp
  simp at hp
  obtain ⟨rfl, _⟩ := hp
  simp at hC
theorem owns_nil_at {w : World} {B g q : Nat} {t : TypeId} (h : w.heap[g]? = some (.cells #[] t)) (hB : B ≤ g) : w.ownsRow B t q (.slice (some ⟨g, 0, none⟩) 0 0) 0 [] :=
  ⟨by simp, Or.inr ⟨g, 0, #[], rfl, hB, h, by omega, by unfold maxLen; omega, by simp, by simp⟩⟩
theorem src_at {w : World} {g n : Nat} {t : TypeId} {C : List Value} (h : w.heap[g]? = some (.cells C.toArray t)) : Src w (.slice (some ⟨g, 0, none⟩) n n) n C :=
  Or.inr ⟨⟨g, 0, none⟩, n, rfl, fun j u hu => by
    rw [add_at, Nat.zero_add]
    unfold World.cell?
    rw [show (⟨g, j, none⟩ : Addr).block = g from rfl, h]
    simpa using hu⟩
theorem chunks_snoc {α : Type} {q : Nat} {R : Rep α} {w : World} {CH : List (Chunk q)} {L : List α} {z : Chunk q} {y : α} (hR : ∀ (i : Nat) (c : Chunk q) (x : α), CH[i]? = some c → L[i]? = some x → R w c.1 x) (hl : CH.length = L.length) (hz : R w z.1 y) : ∀ (i : Nat) (c : Chunk q) (x : α), (CH ++ [z])[i]? = some c → (L ++ [y])[i]? = some x → R w c.1 x := by
  intro i c x hc hx
  by_cases hi : i < CH.length
  · rw [List.getElem?_append_left hi] at hc
    rw [List.getElem?_append_left (by omega)] at hx
    exact hR i c x hc hx
  · have h1 := lt_of_get hc
    obtain rfl : i = CH.length := by simp at h1; omega
    have e1 : z = c := by simpa using hc
    have e2 : y = x := by rw [hl] at hx; simpa using hx
    rw [← e1, ← e2]; exact hz
def moreP (p : Pr) : Pr := ⟨p.consts ++ [(0, 0)], p.vars ++ [⟨[], 0, 0, 0, 0⟩], p.blocks ++ [⟨[], 0⟩], p.units ++ [⟨[], [], 0, [], []⟩]⟩
theorem getD_more {α : Type} {L : List α} {x d : α} {k : Nat} (h : k < L.length) : (L ++ [x]).getD k d = L.getD k d := by
  simp [List.getD, List.getElem?_append_left h]
theorem int_one {w : World} {cs : List Value} {x : Int} (h : intR w cs x) : ∀ u ∈ cs, u.oneCell' = true := by
  obtain ⟨rfl, _⟩ := h; intro u hu; simp at hu; subst hu; rfl
theorem row_more {α : Type} {q : Nat} {R : Rep α} (hS : Stable R) (hO : ∀ w cs x, R w cs x → ∀ u ∈ cs, u.oneCell' = true) {w : World} {v : Value} {L : List α} (h : RowR q R w v L) :
    ∃ X : List Value, X.length = L.length * q ∧ (∀ u ∈ X, u.oneCell' = true) ∧ (∀ W, Below w.heap.size w W → Src W v L.length X) ∧ ∀ W, Below w.heap.size w W → ∀ (B : Nat) (e : TypeId) (r : Value) (z : Chunk q) (y : α), R W z.1 y → W.ownsRow B e q r (L.length + 1) (X ++ z.1) → RowR q R W r (L ++ [y]) := by
  obtain ⟨CH, h1, h2, h3⟩ := row_chunks h
  refine ⟨flatC CH, by rw [flatC_len, h1], chunks_one (fun i c hc => ?_), fun W hW => h3.below hW, fun W hW B e r z y hz hO => ?_⟩
  · obtain ⟨x, hx⟩ := get_some (L := L) (n := i) (by rw [← h1]; exact lt_of_get hc)
    exact hO _ _ _ (h2 i c x hc hx)
  · refine row_of_chunks (CH := CH ++ [z]) (own_eq2 hO rfl (by rw [flatC_app, flatC_one])) (by simp [h1]) (by simp [h1]) (chunks_snoc (fun i c x hc hx => hS _ _ _ _ (h2 i c x hc hx) hW) h1 hz)
end Go.Proofs.YtpecpeedefeokaaDoor

/- Layer 26: a scope with more at its ends. -/
namespace Go.Proofs.YtpecpeedefeokaaDoor
open Go.RowKit
set_option linter.unusedSimpArgs false
set_option linter.unusedVariables false
def moreS (s : Sc) : Sc := ⟨s.vars ++ [⟨[], 0, 0, 0, 0⟩], s.blocks ++ [⟨[], 1⟩], s.slots ++ [6]⟩
theorem inb_more {n : Int} {k : Nat} (h : inb n k = true) : inb n (k + 1) = true := by
  obtain ⟨i, rfl, hi⟩ := inb_yes h
  exact decide_eq_true (by omega)
theorem more_v {s : Sc} {n : Int} (h : inb n s.vars.length = true) : (moreS s).v n = s.v n := by
  obtain ⟨i, rfl, hi⟩ := inb_yes h
  unfold Sc.v moreS
  exact getD_more (by simpa using hi)
theorem more_b {s : Sc} {n : Int} (h : inb n s.blocks.length = true) : (moreS s).b n = s.b n := by
  obtain ⟨i, rfl, hi⟩ := inb_yes h
  unfold Sc.b moreS
  exact getD_more (by simpa using hi)
theorem more_s {s : Sc} {n : Int} (h : inb n s.slots.length = true) : (moreS s).s n = s.s n := by
  obtain ⟨i, rfl, hi⟩ := inb_yes h
  unfold Sc.s moreS
  exact getD_more (by simpa using hi)
theorem more_vl (s : Sc) : (moreS s).vars.length = s.vars.length + 1 := by simp [moreS]
theorem more_bl (s : Sc) : (moreS s).blocks.length = s.blocks.length + 1 := by simp [moreS]
theorem more_sl (s : Sc) : (moreS s).slots.length = s.slots.length + 1 := by simp [moreS]
theorem leafT_more {s : Sc} {e : Ex} (h : ¬ leafT s e = 0) : leafT (moreS s) e = leafT s e := by
  by_cases c1 : e.op = 1 ∧ e.m = 0
  · unfold leafT; rw [if_pos c1, if_pos c1]
  by_cases c0 : e.t = 0
  case neg => exact absurd (by unfold leafT; rw [if_neg c1, if_pos c0]) h
  by_cases c2 : e.op = 2 ∧ e.m = 0 ∧ inb e.n s.vars.length = true ∧ (s.v e.n).n < 2
  · obtain ⟨d1, d2, d3, d4⟩ := c2
    have d5 := inb_more d3
    unfold leafT
    rw [more_vl, more_v d3]
    simp [d1, d2, d3, d4, d5, c0]
  by_cases c3 : e.op = 3 ∧ e.m = 0 ∧ inb e.n s.slots.length = true
  · obtain ⟨d1, d2, d3⟩ := c3
    have d5 := inb_more d3
    unfold leafT
    rw [more_sl, more_s d3]
    simp [d1, d2, d3, d5, c0]
  by_cases c5 : e.op = 5 ∧ inb e.n s.blocks.length = true
  · obtain ⟨d1, d3⟩ := c5
    have d5 := inb_more d3
    unfold leafT
    rw [more_bl, more_b d3]
    simp [d1, d3, d5, c0]
  · exact absurd (by unfold leafT; rw [if_neg c1, if_neg (by simpa using c0), if_neg c2, if_neg c3, if_neg c5]) h
theorem singleT_more {s : Sc} {e : Ex} {t : Int} (h : ¬ singleT s e t = 0) : singleT (moreS s) e t = singleT s e t := by
  by_cases c8 : e.op = 8 ∧ e.n = 0 ∧ e.m = 0 ∧ kRight e.t = true
  · unfold singleT; rw [if_pos c8, if_pos c8]
  by_cases c0 : e.t = 0
  case neg => exact absurd (by unfold singleT; rw [if_neg c8, if_pos c0]) h
  by_cases c4 : e.op = 4 ∧ e.m = 0 ∧ t = 2 ∧ inb e.n s.vars.length = true
  · obtain ⟨d1, d2, d4, d3⟩ := c4
    have d5 := inb_more d3
    unfold singleT
    rw [more_vl, more_v d3]
    simp [d1, d2, d3, d4, d5, c0]
  by_cases c6 : e.op = 6 ∧ e.n = 0 ∧ (e.m = 13 ∨ e.m = 17)
  · have : ¬ e.op = 4 := by omega
    unfold singleT
    simp [this]
  · exact absurd (by unfold singleT; rw [if_neg c8, if_neg (by simpa using c0), if_neg c4, if_neg c6]) h
theorem typeM_more {s : Sc} {e : Ex} {ts : List Int} (h : ¬ typeM s e ts = 0) : typeM (moreS s) e ts = typeM s e ts := by
  match ts, h with
  | [], h => exact leafT_more h
  | [a], h => exact singleT_more h
  | [a, b], _ => rfl
  | _ :: _ :: _ :: _, _ => rfl
theorem typeE_m (s : Sc) (e : Ex) : typeE s e = if (e.l.map (typeE s)).any (· == 0) then 0 else typeM s e (e.l.map (typeE s)) := by rw [typeE_mk, typeF_m]
theorem type_within {s : Sc} {e x : Ex} (h : ¬ typeE s e = 0) (hx : x ∈ e.l) : ¬ typeE s x = 0 := by
  intro h0
  refine h ?_
  rw [typeE_m, if_pos]
  exact List.any_eq_true.2 ⟨0, List.mem_map.2 ⟨x, hx, h0⟩, rfl⟩
theorem type_more {s : Sc} {e : Ex} : ¬ typeE s e = 0 → typeE (moreS s) e = typeE s e := by
  induction e using Ex.ind with
  | h op t n m l ih =>
    intro h
    have hl : l.map (typeE (moreS s)) = l.map (typeE s) := List.map_congr_left fun x hx => ih x hx (type_within h hx)
    have hno : ¬ ((l.map (typeE s)).any (· == 0)) = true := fun hy => h (by rw [typeE_m]; exact if_pos hy)
    rw [typeE_m] at h
    rw [typeE_m, typeE_m (s := s)]
    show (if (l.map (typeE (moreS s))).any (· == 0) then 0 else typeM (moreS s) _ (l.map (typeE (moreS s)))) = if (l.map (typeE s)).any (· == 0) then 0 else typeM s _ (l.map (typeE s))
    have h : ¬ typeM s _ (l.map (typeE s)) = 0 := fun hz => h ((if_neg hno).trans hz)
    rw [hl, if_neg hno, if_neg hno]
    exact typeM_more h
end Go.Proofs.YtpecpeedefeokaaDoor

/- Layer 17: what is wrong of tables, by the answer. -/
namespace Go.Proofs.YtpecpeedefeokaaDoor
open Go.RowKit
set_option linter.unusedSimpArgs false
set_option linter.unusedVariables false
def goodV (x : Vr) : Bool := kRight x.t && (kIn x.t x.init && decide (1 ≤ x.n ∧ x.n ≤ 16 ∧ 0 ≤ x.area ∧ x.area ≤ 2))
def goodB (x : Bk) : Bool := decide (1 ≤ x.kind ∧ x.kind ≤ 8)
def tablesE (V : List Vr) (B : List Bk) : Int := if 64 < V.length ∨ 32 < B.length then 5 else if V.all goodV && B.all goodB then 0 else 10
theorem good_no {x : Vr} (h : kRight x.t = false ∨ kIn x.t x.init = false ∨ ¬ (1 ≤ x.n ∧ x.n ≤ 16 ∧ 0 ≤ x.area ∧ x.area ≤ 2)) : goodV x = false := by
  unfold goodV
  rcases h with h | h | h
  · rw [h]; rfl
  · rw [h]; simp
  · rw [decide_eq_false h]; simp
theorem good_yes {x : Vr} (h1 : kRight x.t = true) (h2 : kIn x.t x.init = true) (h3 : 1 ≤ x.n ∧ x.n ≤ 16 ∧ 0 ≤ x.area ∧ x.area ≤ 2) : goodV x = true := by
  unfold goodV; rw [h1, h2, decide_eq_true h3]; rfl
end Go.Proofs.YtpecpeedefeokaaDoor

/- Layer 17: functions that ask, one behind the other; what each asks. -/
namespace Go.Proofs.YtpecpeedefeokaaDoor
open Go.RowKit
set_option linter.unusedSimpArgs false
set_option linter.unusedVariables false
abbrev Fun := Nat × Array Value
def funcR : Rep Fun := fun _ cs f => cs = [.func (.func f.1) #[] f.2]
theorem funcR_stable : Stable funcR := fun _ _ _ _ h _ => h
def firstE (es : List Int) : Int := (es.find? (· != 0)).getD 0
theorem firstE_at {es : List Int} {k : Nat} {z : Int} (h : ∀ x ∈ es.take k, x = 0) (hk : es[k]? = some z) (hz : z ≠ 0) : firstE es = z := by
  unfold firstE
  rw [← List.take_append_drop k es, List.find?_append]
  have h0 : (es.take k).find? (· != 0) = none := List.find?_eq_none.2 fun x hx => by simp [h x hx]
  have hd : es.drop k = z :: es.drop (k + 1) := by
    have hl := lt_of_get hk
    rw [List.drop_eq_getElem_cons hl]
    congr 1
    have := List.getElem?_eq_some_iff.1 hk
    obtain ⟨_, this⟩ := this
    exact this
  rw [h0, hd]
  simp [hz]
theorem firstE_none {es : List Int} (h : ∀ x ∈ es, x = 0) : firstE es = 0 := by
  unfold firstE
  rw [List.find?_eq_none.2 fun x hx => by simp [h x hx]]
  rfl
end Go.Proofs.YtpecpeedefeokaaDoor

/- Layer 17: a variable; all of a list. -/
namespace Go.Proofs.YtpecpeedefeokaaDoor
open Go.RowKit
set_option linter.unusedSimpArgs false
set_option linter.unusedVariables false
end Go.Proofs.YtpecpeedefeokaaDoor

/- Layer 17: tables. -/
namespace Go.Proofs.YtpecpeedefeokaaDoor
open Go.RowKit
set_option linter.unusedSimpArgs false
set_option linter.unusedVariables false
end Go.Proofs.YtpecpeedefeokaaDoor

/- What a block that was made for a value holds. -/
namespace Go.Proofs.YtpecpeedefeokaaDoor
open Go.RowKit
def Boxed (W : World) (g : Nat) (L : List Value) : Prop := ∀ i u, L[i]? = some u → W.cell? ⟨g, i, none⟩ = some u
theorem Boxed.new (W : World) (L : List Value) (t : TypeId) {W' : World} (h : Below (W.heap.size + 1) (W.alloc (.cells L.toArray t)) W') : Boxed W' W.heap.size L := fun i u hu =>
  (h.cell (p := ⟨W.heap.size, i, none⟩) (by show W.heap.size < _; omega)).trans (by rw [cell_at rfl]; simpa using hu)
theorem Boxed.keep {W W' : World} {g : Nat} {L : List Value} (c : Boxed W g L) (hb : g < W.heap.size) (h : Below W.heap.size W W') : Boxed W' g L := fun i u hu => (h.cell (p := ⟨g, i, none⟩) hb).trans (c i u hu)
/-- two boxes, one behind the other -/
theorem boxed2 (w : World) (L M : List Value) (t u : TypeId) {W' : World} (h : Below (w.heap.size + 2) ((w.alloc (.cells L.toArray t)).alloc (.cells M.toArray u)) W') : Boxed W' w.heap.size L ∧ Boxed W' (w.heap.size + 1) M ∧ w.heap.size + 1 < W'.heap.size ∧ Below w.heap.size w W' := by
  have e : (w.alloc (.cells L.toArray t)).heap.size = w.heap.size + 1 := by simp
  have hb : Below w.heap.size w ((w.alloc (.cells L.toArray t)).alloc (.cells M.toArray u)) := Below.alloc (Below.alloc (Below.refl _ _) (by omega) _) (by simp) _
  refine ⟨?_, ?_, by have := h.size; simp at this; omega, hb.trans (h.mono (by omega))⟩
  · exact Boxed.new w L t (Below.trans (Below.alloc (Below.refl _ _) (by simp) _) (h.mono (by omega)))
  · have := Boxed.new (w.alloc (.cells L.toArray t)) M u (W' := W') (by rw [e]; exact h)
    rw [e] at this; exact this
end Go.Proofs.YtpecpeedefeokaaDoor

/- Layer 15: a unit's slots, by the answer. -/
namespace Go.Proofs.YtpecpeedefeokaaDoor
open Go.RowKit
set_option linter.unusedSimpArgs false
set_option linter.unusedVariables false
def slotsL (x : Un) : List Int := x.params ++ (if x.result = 0 then [] else [x.result]) ++ x.locals
set_option maxHeartbeats 4000000 in
theorem ref15_Slots (a b c : Value) (x : Un) (w : World) (h : UnAt w a b c x) (hf : fewU x = true) : Calls Tryd.prog 22 #[.agg #[.string ⟨x.name.toArray⟩, a, .int .i64 x.result, b, c]] w fun e w' => ∃ v, e = .returned v ∧ RowR 1 intR w' v (slotsL x) ∧ Below w.heap.size w w' := by
  obtain ⟨_, f1, f2, _⟩ : x.name.length ≤ 300 ∧ x.params.length ≤ 20 ∧ x.locals.length ≤ 1100 ∧ x.code.length ≤ 300 := of_decide_eq_true hf
  obtain ⟨i, hi, hz, hsize, hby⟩ : ∃ i, Tryd.prog.info? 3 = some i ∧ i.zero = some (.int .i64 0) ∧ i.size = 1 ∧ i.bytes = 8 := ⟨(Tryd.prog.info? 3).get!, by kernel_rfl, by kernel_rfl, by kernel_rfl, by kernel_rfl⟩
  have HI := Lib.hid (show ∀ z ∈ slotsL x, I64 z by
    intro z hz
    have hp := row_ints h.ps
    have hl := row_ints h.ls
    have hr := h.r64
    unfold slotsL at hz
    rcases List.mem_append.1 hz with hz | hz
    · rcases List.mem_append.1 hz with hz | hz
      · exact hp z hz
      · by_cases h0 : x.result = 0
        · rw [if_pos h0] at hz; cases hz
        · rw [if_neg h0] at hz
          have : z = x.result := by simpa using hz
          rw [this]; exact hr
    · exact hl z hz)
  have HS1 := Lib.hid (fun W (hb : Below w.heap.size w W) => (src_ints h.ps).below hb)
  have hls := h.ls
  obtain ⟨sa, ca, rfl⟩ := row_get h.ps
  obtain ⟨sb, cb, rfl⟩ := row_get h.ls
  have cp := @cell_past
  have HD := Lib.hid (show slotsL x = x.params ++ (if x.result = 0 then [] else [x.result]) ++ x.locals from rfl)
  clear h hf
  generalize (⟨x.name.toArray⟩ : ByteArray) = nm at *
  generalize x.result = rs at *
  generalize hp : x.params = P at *
  generalize hq : x.locals = L at *
  obtain ⟨n1, hn1⟩ : ∃ n, P.length = n := ⟨_, rfl⟩
  obtain ⟨n2, hn2⟩ : ∃ n, L.length = n := ⟨_, rfl⟩
  have HN := Lib.hid (show P.length = n1 ∧ L.length = n2 from ⟨hn1, hn2⟩)
  rw [hn1] at f1 HS1 ⊢
  rw [hn2] at f2 hls ⊢
  clear hp hq hn1 hn2
  by_cases h0 : rs = 0
  · have q : (rs != 0) = false := by simp [h0]
    rw [if_pos h0, List.append_nil] at HD
    clear h0
    go_enter Tryd.func22, Tryd.ntmps22
    have HE := Lib.hid (owns_empty1 w (.cells #[.string nm, .slice sa n1 ca, .int .i64 rs, .slice sb n2 cb, c] 51) 3 1)
    go_wp2_with (first | (at_builtin; go_loud (refine wpList_append_src rfl (.tmp 5) (.tmp 7) 35 rfl (w.heap.size + 1) 3 i (.int .i64 0) 1 8 Tryd.underlying35 hi hz hsize hby rfl (by omega) _ 0 [] rfl HE.out _ n1 (iV P) rfl (HS1.out _ (by (repeat' (first | (with_reducible exact Below.refl _ _) | (with_reducible assumption) | (with_reducible refine below_drewN ?_ _) | (with_reducible refine Below.alloc ?_ ?_ _) | (with_reducible refine Below.drew ?_) | (with_reducible refine Below.setCell ?_ ?_ _) | go_size)))) (by rw [iV_len, HN.out.1]; omega) (iV_one P) (by unfold maxLen; omega) (by omega) (by simp) ?_; intro v2 w2 hO2 hG2; have hB2 := grown3 (show Below (w.heap.size + 1) (w.alloc (.cells #[.string nm, .slice sa n1 ca, .int .i64 rs, .slice sb n2 cb, c] 51)) _ from by (repeat' (first | (with_reducible exact Below.refl _ _) | (with_reducible assumption) | (with_reducible refine below_drewN ?_ _) | (with_reducible refine Below.alloc ?_ ?_ _) | (with_reducible refine Below.drew ?_) | (with_reducible refine Below.setCell ?_ ?_ _) | go_size))) (by simp) HE.out hG2; have HO2 := Lib.hid hO2; have z2 : w.heap.size < w2.heap.size := (by have := hB2.size; simp at this; omega); have bx := Boxed.new w [.string nm, .slice sa n1 ca, .int .i64 rs, .slice sb n2 cb, c] 51 hB2; have e2 := bx 2 _ rfl; have e3 := bx 3 _ rfl; clear hO2 hG2 bx)) | fail)
    obtain ⟨X, hX⟩ : ∃ X, X = P := ⟨_, rfl⟩
    have HX := Lib.hid (show w2.ownsRow (w.heap.size + 1) 3 1 v2 X.length (iV X) by rw [hX]; exact own_eq2 HO2.out (by rw [HN.out.1]; omega) rfl)
    have HXl := Lib.hid (show X.length ≤ 21 by rw [hX, HN.out.1]; omega)
    rw [← hX] at HD
    have hBX := Lib.hid hB2
    clear hX hB2
    go_loopw [3, 4] (fun o jj wr => ∃ k : Nat, k ≤ n2 ∧ jj = .int .i64 k ∧ Hid (wr.ownsRow (w.heap.size + 1) 3 1 o (X.length + k) (iV (X ++ L.take k))) ∧ Hid (Below (w.heap.size + 1) (w.alloc (.cells #[.string nm, .slice sa n1 ca, .int .i64 rs, .slice sb n2 cb, c] 51)) wr)) (fun _ jj _ => n2 - (intOf jj).toNat)
    case atStart => exact ⟨0, by omega, rfl, Lib.hid (by simpa using HX.out), hBX⟩
    case round =>
      clear z2 e2 e3
      obtain ⟨k, hk, rfl, hO, hBw⟩ := hrel
      have z0 : w.heap.size < wr.heap.size := by have := hBw.out.size; simp at this; omega
      have hB0 : Below w.heap.size w wr := Below.trans (by (repeat' (first | (with_reducible exact Below.refl _ _) | (with_reducible assumption) | (with_reducible refine below_drewN ?_ _) | (with_reducible refine Below.alloc ?_ ?_ _) | (with_reducible refine Below.drew ?_) | (with_reducible refine Below.setCell ?_ ?_ _) | go_size))) (hBw.out.mono (by omega))
      have e3 := Boxed.new w [.string nm, .slice sa n1 ca, .int .i64 rs, .slice sb n2 cb, c] 51 hBw.out 3 _ rfl
      by_cases hlt : k < n2
      · obtain ⟨z, hzq⟩ := get_some (L := L) (n := k) (by have := HN.out.2; omega)
        obtain ⟨b3, off3, rfl, hbw3, hg⟩ := ints_at hls (k := k) (lt_of_get hzq)
        obtain ⟨g0, _⟩ := hg k z hzq
        have g0 := (hB0.cell (p := ⟨b3, off3 + k, none⟩) hbw3).trans g0
        have hts := Lib.hid (take_snoc hzq)
        have hXl := HXl.out
        clear hg hzq
        have Hown := Lib.hid (fun W (hW : Below wr.heap.size wr W) => owns_below hO.out hW)
        generalize hna : X.length = na at *
        go_wp2_with (first | (at_builtin; go_loud (refine wpList_append_src rfl (.tmp 24) (.tmp 30) 35 rfl (w.heap.size + 1) 3 i (.int .i64 0) 1 8 Tryd.underlying35 hi hz hsize hby rfl (by omega) _ (na + k) _ rfl (Hown.out _ (by (repeat' (first | (with_reducible exact Below.refl _ _) | (with_reducible assumption) | (with_reducible refine below_drewN ?_ _) | (with_reducible refine Below.alloc ?_ ?_ _) | (with_reducible refine Below.drew ?_) | (with_reducible refine Below.setCell ?_ ?_ _) | go_size)))) _ 1 [.int .i64 z] rfl (src_new _ _ _) rfl (by intro u hu; simp at hu; rw [hu]; rfl) (by unfold maxLen; omega) (by omega) (by simp; omega) ?_; intro v3 w3 hO3 hG3; have hB3 := Lib.hid (grown3 (Below.trans hBw.out (show Below (w.heap.size + 1) wr (wr.alloc _) from (show Below wr.heap.size wr _ by (repeat' (first | (with_reducible exact Below.refl _ _) | (with_reducible assumption) | (with_reducible refine below_drewN ?_ _) | (with_reducible refine Below.alloc ?_ ?_ _) | (with_reducible refine Below.drew ?_) | (with_reducible refine Below.setCell ?_ ?_ _) | go_size))).mono (by omega))) (by simp; omega) (Hown.out _ (by (repeat' (first | (with_reducible exact Below.refl _ _) | (with_reducible assumption) | (with_reducible refine below_drewN ?_ _) | (with_reducible refine Below.alloc ?_ ?_ _) | (with_reducible refine Below.drew ?_) | (with_reducible refine Below.setCell ?_ ?_ _) | go_size)))) hG3); have HO3 := Lib.hid hO3; clear hO3 hG3)) | fail)
        go_roundw
        case rel => exact ⟨k + 1, by omega, by simp, Lib.hid (own_eq2 HO3.out (by omega) (by simp [hts.out, iV])), hB3⟩
        case measure => first | (simp [intOf]; done) | (simp [intOf]; omega)
      · obtain rfl : k = n2 := by omega
        have hrow := Lib.hid (show RowR 1 intR wr _ (slotsL x) from row_of_owns (own_eq2 hO.out (by rw [HD.out, List.length_append, HN.out.2]) (by rw [HD.out, List.take_of_length_le (by have := HN.out.2; omega)])) HI.out)
        go_wp2_with fail
        go_returns
        exact ⟨_, rfl, hrow.out, hB0⟩
  · have q : (rs != 0) = true := by simpa using h0
    rw [if_neg h0] at HD
    clear h0
    go_enter Tryd.func22, Tryd.ntmps22
    have HE := Lib.hid (owns_empty1 w (.cells #[.string nm, .slice sa n1 ca, .int .i64 rs, .slice sb n2 cb, c] 51) 3 1)
    go_wp2_with (first | (at_builtin; go_loud (refine wpList_append_src rfl (.tmp 5) (.tmp 7) 35 rfl (w.heap.size + 1) 3 i (.int .i64 0) 1 8 Tryd.underlying35 hi hz hsize hby rfl (by omega) _ 0 [] rfl HE.out _ n1 (iV P) rfl (HS1.out _ (by (repeat' (first | (with_reducible exact Below.refl _ _) | (with_reducible assumption) | (with_reducible refine below_drewN ?_ _) | (with_reducible refine Below.alloc ?_ ?_ _) | (with_reducible refine Below.drew ?_) | (with_reducible refine Below.setCell ?_ ?_ _) | go_size)))) (by rw [iV_len, HN.out.1]; omega) (iV_one P) (by unfold maxLen; omega) (by omega) (by simp) ?_; intro v2 w2 hO2 hG2; have hB2 := grown3 (show Below (w.heap.size + 1) (w.alloc (.cells #[.string nm, .slice sa n1 ca, .int .i64 rs, .slice sb n2 cb, c] 51)) _ from by (repeat' (first | (with_reducible exact Below.refl _ _) | (with_reducible assumption) | (with_reducible refine below_drewN ?_ _) | (with_reducible refine Below.alloc ?_ ?_ _) | (with_reducible refine Below.drew ?_) | (with_reducible refine Below.setCell ?_ ?_ _) | go_size))) (by simp) HE.out hG2; have HO2 := Lib.hid hO2; have z2 : w.heap.size < w2.heap.size := (by have := hB2.size; simp at this; omega); have bx := Boxed.new w [.string nm, .slice sa n1 ca, .int .i64 rs, .slice sb n2 cb, c] 51 hB2; have e2 := bx 2 _ rfl; have e3 := bx 3 _ rfl; clear hO2 hG2 bx)) | (at_builtin; go_loud (refine wpList_append_src rfl (.tmp 12) (.tmp 15) 35 rfl (w.heap.size + 1) 3 i (.int .i64 0) 1 8 Tryd.underlying35 hi hz hsize hby rfl (by omega) _ n1 _ rfl (owns_below (own_eq2 HO2.out (Nat.zero_add n1) rfl) (by (repeat' (first | (with_reducible exact Below.refl _ _) | (with_reducible assumption) | (with_reducible refine below_drewN ?_ _) | (with_reducible refine Below.alloc ?_ ?_ _) | (with_reducible refine Below.drew ?_) | (with_reducible refine Below.setCell ?_ ?_ _) | go_size)))) _ 1 [.int .i64 rs] rfl (src_new _ _ _) rfl (by intro u hu; simp at hu; rw [hu]; rfl) (by unfold maxLen; omega) (by omega) (by simp; omega) ?_; intro v3 w3 hO3 hG3; have hB3 := grown3 (Below.trans hB2 (show Below (w.heap.size + 1) w2 (w2.alloc _) from (show Below w2.heap.size w2 _ by (repeat' (first | (with_reducible exact Below.refl _ _) | (with_reducible assumption) | (with_reducible refine below_drewN ?_ _) | (with_reducible refine Below.alloc ?_ ?_ _) | (with_reducible refine Below.drew ?_) | (with_reducible refine Below.setCell ?_ ?_ _) | go_size))).mono (by omega))) (by simp; omega) (owns_below (own_eq2 HO2.out (Nat.zero_add n1) rfl) (by (repeat' (first | (with_reducible exact Below.refl _ _) | (with_reducible assumption) | (with_reducible refine below_drewN ?_ _) | (with_reducible refine Below.alloc ?_ ?_ _) | (with_reducible refine Below.drew ?_) | (with_reducible refine Below.setCell ?_ ?_ _) | go_size)))) hG3; have HO3 := Lib.hid hO3; have e3 := Boxed.new w [.string nm, .slice sa n1 ca, .int .i64 rs, .slice sb n2 cb, c] 51 hB3 3 _ rfl; clear hO3 hG3)) | fail)
    obtain ⟨X, hX⟩ : ∃ X, X = P ++ [rs] := ⟨_, rfl⟩
    have HX := Lib.hid (show w3.ownsRow (w.heap.size + 1) 3 1 v3 X.length (iV X) by rw [hX]; exact own_eq2 HO3.out (by simp [HN.out.1]) (by rw [iV_app]; rfl))
    have HXl := Lib.hid (show X.length ≤ 21 by rw [hX, List.length_append, HN.out.1]; simp; omega)
    rw [← hX] at HD
    have hBX := Lib.hid hB3
    clear hX hB2
    go_loopw [3, 4] (fun o jj wr => ∃ k : Nat, k ≤ n2 ∧ jj = .int .i64 k ∧ Hid (wr.ownsRow (w.heap.size + 1) 3 1 o (X.length + k) (iV (X ++ L.take k))) ∧ Hid (Below (w.heap.size + 1) (w.alloc (.cells #[.string nm, .slice sa n1 ca, .int .i64 rs, .slice sb n2 cb, c] 51)) wr)) (fun _ jj _ => n2 - (intOf jj).toNat)
    case atStart => exact ⟨0, by omega, rfl, Lib.hid (by simpa using HX.out), hBX⟩
    case round =>
      clear z2 e2 e3
      obtain ⟨k, hk, rfl, hO, hBw⟩ := hrel
      have z0 : w.heap.size < wr.heap.size := by have := hBw.out.size; simp at this; omega
      have hB0 : Below w.heap.size w wr := Below.trans (by (repeat' (first | (with_reducible exact Below.refl _ _) | (with_reducible assumption) | (with_reducible refine below_drewN ?_ _) | (with_reducible refine Below.alloc ?_ ?_ _) | (with_reducible refine Below.drew ?_) | (with_reducible refine Below.setCell ?_ ?_ _) | go_size))) (hBw.out.mono (by omega))
      have e3 := Boxed.new w [.string nm, .slice sa n1 ca, .int .i64 rs, .slice sb n2 cb, c] 51 hBw.out 3 _ rfl
      by_cases hlt : k < n2
      · obtain ⟨z, hzq⟩ := get_some (L := L) (n := k) (by have := HN.out.2; omega)
        obtain ⟨b3, off3, rfl, hbw3, hg⟩ := ints_at hls (k := k) (lt_of_get hzq)
        obtain ⟨g0, _⟩ := hg k z hzq
        have g0 := (hB0.cell (p := ⟨b3, off3 + k, none⟩) hbw3).trans g0
        have hts := Lib.hid (take_snoc hzq)
        have hXl := HXl.out
        clear hg hzq
        have Hown := Lib.hid (fun W (hW : Below wr.heap.size wr W) => owns_below hO.out hW)
        generalize hna : X.length = na at *
        go_wp2_with (first | (at_builtin; go_loud (refine wpList_append_src rfl (.tmp 24) (.tmp 30) 35 rfl (w.heap.size + 1) 3 i (.int .i64 0) 1 8 Tryd.underlying35 hi hz hsize hby rfl (by omega) _ (na + k) _ rfl (Hown.out _ (by (repeat' (first | (with_reducible exact Below.refl _ _) | (with_reducible assumption) | (with_reducible refine below_drewN ?_ _) | (with_reducible refine Below.alloc ?_ ?_ _) | (with_reducible refine Below.drew ?_) | (with_reducible refine Below.setCell ?_ ?_ _) | go_size)))) _ 1 [.int .i64 z] rfl (src_new _ _ _) rfl (by intro u hu; simp at hu; rw [hu]; rfl) (by unfold maxLen; omega) (by omega) (by simp; omega) ?_; intro v3 w3 hO3 hG3; have hB3 := Lib.hid (grown3 (Below.trans hBw.out (show Below (w.heap.size + 1) wr (wr.alloc _) from (show Below wr.heap.size wr _ by (repeat' (first | (with_reducible exact Below.refl _ _) | (with_reducible assumption) | (with_reducible refine below_drewN ?_ _) | (with_reducible refine Below.alloc ?_ ?_ _) | (with_reducible refine Below.drew ?_) | (with_reducible refine Below.setCell ?_ ?_ _) | go_size))).mono (by omega))) (by simp; omega) (Hown.out _ (by (repeat' (first | (with_reducible exact Below.refl _ _) | (with_reducible assumption) | (with_reducible refine below_drewN ?_ _) | (with_reducible refine Below.alloc ?_ ?_ _) | (with_reducible refine Below.drew ?_) | (with_reducible refine Below.setCell ?_ ?_ _) | go_size)))) hG3); have HO3 := Lib.hid hO3; clear hO3 hG3)) | fail)
        go_roundw
        case rel => exact ⟨k + 1, by omega, by simp, Lib.hid (own_eq2 HO3.out (by omega) (by simp [hts.out, iV])), hB3⟩
        case measure => first | (simp [intOf]; done) | (simp [intOf]; omega)
      · obtain rfl : k = n2 := by omega
        have hrow := Lib.hid (show RowR 1 intR wr _ (slotsL x) from row_of_owns (own_eq2 hO.out (by rw [HD.out, List.length_append, HN.out.2]) (by rw [HD.out, List.take_of_length_le (by have := HN.out.2; omega)])) HI.out)
        go_wp2_with fail
        go_returns
        exact ⟨_, rfl, hrow.out, hB0⟩
end Go.Proofs.YtpecpeedefeokaaDoor

/- Layer 15: a unit's slots, by the program. -/
namespace Go.Proofs.YtpecpeedefeokaaDoor
open Go.RowKit
set_option linter.unusedSimpArgs false
set_option linter.unusedVariables false
end Go.Proofs.YtpecpeedefeokaaDoor

/- Layer 17: a unit's head. -/
namespace Go.Proofs.YtpecpeedefeokaaDoor
open Go.RowKit
set_option linter.unusedSimpArgs false
set_option linter.unusedVariables false
end Go.Proofs.YtpecpeedefeokaaDoor

/- Layer 17: all units; a program. -/
namespace Go.Proofs.YtpecpeedefeokaaDoor
open Go.RowKit
set_option linter.unusedSimpArgs false
set_option linter.unusedVariables false
end Go.Proofs.YtpecpeedefeokaaDoor

/- Layer 17: a program's declarations. -/
namespace Go.Proofs.YtpecpeedefeokaaDoor
open Go.RowKit
set_option linter.unusedSimpArgs false
set_option linter.unusedVariables false
end Go.Proofs.YtpecpeedefeokaaDoor

/- A region that draws its order: a condition on the world that hangs on what has been carried out: loads may be taken first, of cells that a store of the same region writes later. -/
namespace Go.Proofs.YtpecpeedefeokaaDoor
open Go.RowKit
section
variable {P : Program} {ops : Array Oper} {Q : Exit → Act → World → Prop} {md : Region.Mode} {S : Array Bool → World → Prop}
/-- whatever comes up next; S holds behind each operation, of what has come up by then -/
def wpTill (P : Program) (md : Region.Mode) (ops : Array Oper) (Q : Exit → Act → World → Prop) (S : Array Bool → World → Prop) : Nat → Array Bool → Act → World → Prop
  | 0, L, a, w => Region.ready md ops L = [] ∧ Q .normal a w
  | n + 1, L, a, w => (Region.ready md ops L = [] → Q .normal a w) ∧
    ∀ i ∈ Region.ready md ops L, wpOp P ops Q i (fun b v => S (L.setIfInBounds i true) v ∧ wpTill P md ops Q S n (L.setIfInBounds i true) b v) a w
theorem till_any : ∀ (n : Nat) (L : Array Bool) (a : Act) (w : World), wpTill P md ops Q S n L a w → wpAny P md ops Q n L a w
  | 0, _, _, _, h => h
  | n + 1, _, _, _, h => ⟨h.1, fun i hi => wpOp_mono (fun b v k => till_any n _ b v k.2) (h.2 i hi)⟩
theorem till_first {i z : Nat} {oi : Oper} {u : Value} {T : World → Prop} (hi : ops[i]? = some oi) (hsel : ∀ (j : Nat) (o : Oper) cs b, ops[j]? = some o → o.op ≠ .select cs b)
    (hQ : ∀ c a w, Q (.panic c) (a.put oi.dst u) w → Q (.panic c) a w) (hz : ∀ oz, ops[z]? = some oz → ∃ e ∈ oz.after, Region.binds md e = true ∧ e.on = i) (hiz : i ≠ z)
    (hT : ∀ L v, L.getD z true = false → S L v → T v) (hS2 : ∀ L v, S (L.setIfInBounds i true) v ↔ S L v) :
    ∀ (n : Nat) (L : Array Bool) (a : Act) (w : World),
      (∀ j oj, ops[j]? = some oj → j ≠ i → L.getD j true = false → (∀ e ∈ oj.after, Region.binds md e = true → e.on ≠ i) → oi.apart ops oj = true) →
      i ∈ Region.ready md ops L → YieldsIf P ops T oi u a → L.getD z true = false → S L w →
      wpTill P md ops Q S n (L.setIfInBounds i true) (a.put oi.dst u) w → wpTill P md ops Q S (n + 1) L a w := by
  intro n
  induction n with
  | zero =>
    intro L a w _ hr hy hL hS H
    refine ⟨fun h => (by rw [h] at hr; cases hr), fun j hj => ?_⟩
    by_cases hji : j = i
    · subst hji; exact hy.wpOp hi (hT L w hL hS) ⟨(hS2 L w).2 hS, H⟩
    · have := ready_mono hj hji
      rw [H.1] at this
      cases this
  | succ n ih =>
    intro L a w hfree hr hy hL hS H
    refine ⟨fun h => (by rw [h] at hr; cases hr), fun j hj => ?_⟩
    by_cases hji : j = i
    · subst hji; exact hy.wpOp hi (hT L w hL hS) ⟨(hS2 L w).2 hS, H⟩
    · have hK := H.2 j (ready_mono hj hji)
      obtain ⟨hun, oj, hoj, hall⟩ := mem_ready.1 hj
      have hiun := (mem_ready.1 hr).1
      have hwait : ∀ e ∈ oj.after, Region.binds md e = true → e.on ≠ i := fun e he hb heq => by
        have h1 := hall e he hb
        rw [heq] at h1
        rcases Nat.lt_or_ge i L.size with h' | h'
        · simp [h'] at hiun h1; rw [hiun] at h1; cases h1
        · simp [Array.getElem?_eq_none h'] at h1
      have hjz : j ≠ z := by
        rintro rfl
        obtain ⟨e, he, hb, heq⟩ := hz oj hoj
        exact hwait e he hb heq
      have h2 := wpOp_putIf hoj (hfree j oj hoj hji hun hwait) (fun cs b => hsel i oi cs b hi) (fun cs b => hsel j oj cs b hoj) hQ hy hK
      refine wpOp_mono (fun b v k => ?_) h2
      have hSv : S (L.setIfInBounds j true) v := (hS2 _ v).1 (by
        have := k.2.1
        rw [Array.setIfInBounds_comm _ _ (Ne.symm hji)] at this
        exact this)
      have hzL : (L.setIfInBounds j true).getD z true = false := by rw [getD_set_ne true hjz]; exact hL
      refine ⟨hSv, ih (L.setIfInBounds j true) b v (fun k' ok hk hki hu hno => hfree k' ok hk hki (by
          by_cases hjk : j = k'
          · subst hjk; exact hun
          · rw [getD_set_ne true hjk] at hu; exact hu) hno) (ready_mono hr (Ne.symm hji)) k.1 hzL hSv ?_⟩
      rw [Array.setIfInBounds_comm _ _ hji]
      exact k.2.2
/-- does number z wait for number i? -/
def waits (md : Region.Mode) (ops : Array Oper) (z i : Nat) : Bool := match ops[z]? with
  | some oz => oz.after.any fun e => Region.binds md e && e.on == i
  | none => true
theorem waits_spec {z i : Nat} (h : waits md ops z i = true) : ∀ oz, ops[z]? = some oz → ∃ e ∈ oz.after, Region.binds md e = true ∧ e.on = i := by
  intro oz ho
  unfold waits at h
  rw [ho] at h
  simp only [Array.any_eq_true, Bool.and_eq_true, beq_iff_eq] at h
  obtain ⟨k, hk, h1, h2⟩ := h
  exact ⟨_, Array.getElem_mem hk, h1, h2⟩
theorem till_take (z : Nat) (T : World → Prop) {i : Nat} {oi : Oper} {u : Value} {n : Nat} {L : Array Bool} {a : Act} {w : World} (hi : ops[i]? = some oi)
    (hs : Region.noSelect ops = true) (hf : Region.free md ops L i = true) (hr : (Region.ready md ops L).contains i = true) (hz : waits md ops z i = true) (hL : L.getD z true = false) (hiz : i ≠ z)
    (hT : ∀ L v, L.getD z true = false → S L v → T v) (hS2 : ∀ L v, S (L.setIfInBounds i true) v ↔ S L v)
    (hQ : ∀ c a w, Q (.panic c) (a.put oi.dst u) w → Q (.panic c) a w) (hy : YieldsIf P ops T oi u a) (hS : S L w)
    (h : S (L.setIfInBounds i true) w → wpTill P md ops Q S n (L.setIfInBounds i true) (a.put oi.dst u) w) : wpTill P md ops Q S (n + 1) L a w :=
  till_first hi (Region.noSelect_spec hs) hQ (waits_spec hz) hiz hT hS2 n L a w (Region.free_spec hi hf) (by simpa using hr) hy hL hS (h ((hS2 L w).2 hS))
/-- one alone may come up next -/
theorem till_one {i : Nat} {o : Oper} {n : Nat} {L : Array Bool} {a : Act} {w : World} (hr : Region.ready md ops L = [i]) (ho : ops[i]? = some o)
    (h : ∀ K' : Act → World → Prop, Shut (∀ b v, S (L.setIfInBounds i true) v → (S (L.setIfInBounds i true) v → wpTill P md ops Q S n (L.setIfInBounds i true) b v) → K' b v) →
      if Region.wanted o (yielded ops a.tmps) = true then Oper.wp P o a w K' Q else K' (a.put o.dst undef) w) : wpTill P md ops Q S (n + 1) L a w := by
  refine ⟨fun h0 => (by rw [hr] at h0; cases h0), fun j hj => ?_⟩
  rw [hr] at hj
  obtain rfl := List.mem_singleton.1 hj
  exact wpOp_step ho fun K' hK => h K' fun b v hS hW => hK b v ⟨hS, hW hS⟩
theorem till_done {L : Array Bool} {a : Act} {w : World} (hr : Region.ready md ops L = []) (h : Q .normal a w) : ∀ n, wpTill P md ops Q S n L a w
  | 0 => ⟨hr, h⟩
  | _ + 1 => ⟨fun _ => h, by rw [hr]; simp⟩
theorem wp_region_till {id : Nat} {a : Act} {w : World} (hm : P.follows .mixedOrders = true) (hS : S (Array.replicate ops.size false) w.drew)
    (h : S (Array.replicate ops.size false) w.drew → wpTill P .any ops Q S ops.size (Array.replicate ops.size false) a w.drew) : (Code.region id ops true).wp P Q a w :=
  wp_region_any hm (till_any _ _ _ _ (h hS))
end
end Go.Proofs.YtpecpeedefeokaaDoor

/- Layer 17: copies; what units take, and tell. -/
namespace Go.Proofs.YtpecpeedefeokaaDoor
open Go.RowKit
set_option linter.unusedSimpArgs false
set_option linter.unusedVariables false
def sigR : Rep (List Int × Int) := fun w cs s => ∃ a, cs = [a, .int .i64 s.2] ∧ RowR 1 intR w a s.1
theorem sigR_stable : Stable sigR := fun _ _ _ _ ⟨a, h1, h2⟩ hb => ⟨a, h1, h2.below intR_stable hb⟩
def sigC (U : List Value) (us : List Un) : List (Chunk 2) := List.zipWith (fun u (x : Un) => ⟨[u, .int .i64 x.result], rfl⟩) U us
theorem sigC_snoc (U : List Value) (us : List Un) (u : Value) (x : Un) (h : U.length = us.length) : flatC (sigC (U ++ [u]) (us ++ [x])) = flatC (sigC U us) ++ [u, .int .i64 x.result] := by
  unfold sigC
  rw [List.zipWith_append h, flatC_app]
  simp [flatC]
theorem sigs_row {w : World} {B C : Nat} {U : List Value} {us : List Un} {v : Value} {n : Nat} (hn : n = us.length) (hR : OwnRows B 3 w U (us.map Un.params)) (hO : w.ownsRow C 54 2 v n (flatC (sigC U us))) (hI : ∀ x ∈ us, ∀ z ∈ x.params, I64 z) : RowR 2 sigR w v (us.map fun x => (x.params, x.result)) := by
  have hlen : U.length = us.length := by have := hR.len; simpa using this
  have hcl : (sigC U us).length = us.length := by simp [sigC, hlen]
  refine row_of_chunks hO (by rw [hcl, hn]) (by simp [hcl]) (fun i c y hc hy => ?_)
  rw [List.getElem?_map] at hy
  obtain ⟨x, hx, rfl⟩ := Option.map_eq_some_iff.1 hy
  obtain ⟨u, hu⟩ := get_some (L := U) (n := i) (by rw [hlen]; exact lt_of_get hx)
  have hcc : c = ⟨[u, .int .i64 x.result], rfl⟩ := by
    unfold sigC at hc
    rw [List.getElem?_zipWith, hu, hx] at hc
    injection hc with hc
    exact hc.symm
  subst hcc
  exact ⟨u, rfl, row_of_owns (hR.row i u x.params hu (by rw [List.getElem?_map, hx]; rfl)) (hI x (List.mem_of_getElem? hx))⟩
/-- what units take and tell, in rows of the call's own -/
def SigsO (B : Nat) (w : World) (v : Value) (us : List Un) : Prop := ∃ U, OwnRows B 3 w U (us.map Un.params) ∧ w.ownsRow B 54 2 v us.length (flatC (sigC U us))
theorem units_int {w : World} {a : Option Addr} {n c : Nat} {us : List Un} (hv : RowR 5 unitR w (.slice a n c) us) (x : Un) (hx : x ∈ us) : ∀ z ∈ x.params, I64 z := by
  obtain ⟨k, hk, rfl⟩ := List.getElem_of_mem hx
  obtain ⟨_, _, _, _, hc⟩ := unit_at hv hk
  obtain ⟨_, _, _, _, _, _, _, _, hU⟩ := hc k us[k] (by simp [hk])
  exact row_ints hU.ps
end Go.Proofs.YtpecpeedefeokaaDoor

/- Layer 17: the program answers; shorter lists. -/
namespace Go.Proofs.YtpecpeedefeokaaDoor
open Go.RowKit
set_option linter.unusedSimpArgs false
set_option linter.unusedVariables false
def un0 : Un := ⟨[], [], 0, [], []⟩
def un34 : Un := ⟨[], [], 0, [], [(34, 0, 0)]⟩
def pr34 : Pr := ⟨[], [], [], [un34]⟩
def prNo : Pr := ⟨[], [], [], []⟩
end Go.Proofs.YtpecpeedefeokaaDoor

/- Whether a program's lists are short. -/
namespace Go.Proofs.YtpecpeedefeokaaDoor
open Go.RowKit
set_option linter.unusedSimpArgs false
set_option linter.unusedVariables false
set_option maxHeartbeats 2000000 in
theorem law15_Few (a b c : Value) (x : Un) (w : World) (h : UnAt w a b c x) : Calls Tryd.prog 20 #[.agg #[.string ⟨x.name.toArray⟩, a, .int .i64 x.result, b, c]] w fun e w' => e = .returned (.bool (fewU x)) ∧ Below w.heap.size w w' := by
  have l1 := h.ps.len
  have l2 := h.ls.len
  have l3 := h.cs.len
  have l0 : x.name.length ≤ 9223372036854775807 := h.ns
  obtain ⟨sa, ca, rfl⟩ := row_get h.ps
  obtain ⟨sb, cb, rfl⟩ := row_get h.ls
  obtain ⟨sc, cc, rfl⟩ := row_get h.cs
  have cp := @cell_past
  have HD := Lib.hid (show fewU x = decide (x.name.length ≤ 300 ∧ x.params.length ≤ 20 ∧ x.locals.length ≤ 1100 ∧ x.code.length ≤ 300) from rfl)
  clear h
  have hsz : (⟨x.name.toArray⟩ : ByteArray).size = x.name.length := by simp [ByteArray.size]
  generalize (⟨x.name.toArray⟩ : ByteArray) = nm at *
  generalize x.name.length = n0 at *
  generalize x.params.length = n1 at *
  generalize x.locals.length = n2 at *
  generalize x.code.length = n3 at *
  by_cases h0 : n0 ≤ 300
  · have q0 : ((n0 : Int) ≤ 300) = True := eq_true (by omega)
    by_cases h1 : n1 ≤ 20
    · have q1 : ((n1 : Int) ≤ 20) = True := eq_true (by omega)
      by_cases h2 : n2 ≤ 1100
      · have q2 : ((n2 : Int) ≤ 1100) = True := eq_true (by omega)
        by_cases h3 : n3 ≤ 300
        · have q3 : ((n3 : Int) ≤ 300) = True := eq_true (by omega)
          have hs := Lib.hid (HD.out.trans (decide_eq_true ⟨h0, h1, h2, h3⟩))
          clear h0 h1 h2 h3
          go_enter Tryd.func20, Tryd.ntmps20
          go_wp2_with fail
          go_ret
          exact ⟨by rw [hs.out]; rfl, by (repeat' (first | (with_reducible exact Below.refl _ _) | (with_reducible assumption) | (with_reducible refine below_drewN ?_ _) | (with_reducible refine Below.alloc ?_ ?_ _) | (with_reducible refine Below.drew ?_) | (with_reducible refine Below.setCell ?_ ?_ _) | go_size))⟩
        · have q3 : ((n3 : Int) ≤ 300) = False := eq_false (by omega)
          have hs := Lib.hid (HD.out.trans (decide_eq_false (fun g => h3 g.2.2.2)))
          clear h0 h1 h2 h3
          go_enter Tryd.func20, Tryd.ntmps20
          go_wp2_with fail
          go_ret
          exact ⟨by rw [hs.out]; rfl, by (repeat' (first | (with_reducible exact Below.refl _ _) | (with_reducible assumption) | (with_reducible refine below_drewN ?_ _) | (with_reducible refine Below.alloc ?_ ?_ _) | (with_reducible refine Below.drew ?_) | (with_reducible refine Below.setCell ?_ ?_ _) | go_size))⟩
      · have q2 : ((n2 : Int) ≤ 1100) = False := eq_false (by omega)
        have hs := Lib.hid (HD.out.trans (decide_eq_false (fun g => h2 g.2.2.1)))
        clear h0 h1 h2
        go_enter Tryd.func20, Tryd.ntmps20
        go_wp2_with fail
        go_ret
        exact ⟨by rw [hs.out]; rfl, by (repeat' (first | (with_reducible exact Below.refl _ _) | (with_reducible assumption) | (with_reducible refine below_drewN ?_ _) | (with_reducible refine Below.alloc ?_ ?_ _) | (with_reducible refine Below.drew ?_) | (with_reducible refine Below.setCell ?_ ?_ _) | go_size))⟩
    · have q1 : ((n1 : Int) ≤ 20) = False := eq_false (by omega)
      have hs := Lib.hid (HD.out.trans (decide_eq_false (fun g => h1 g.2.1)))
      clear h0 h1
      go_enter Tryd.func20, Tryd.ntmps20
      go_wp2_with fail
      go_ret
      exact ⟨by rw [hs.out]; rfl, by (repeat' (first | (with_reducible exact Below.refl _ _) | (with_reducible assumption) | (with_reducible refine below_drewN ?_ _) | (with_reducible refine Below.alloc ?_ ?_ _) | (with_reducible refine Below.drew ?_) | (with_reducible refine Below.setCell ?_ ?_ _) | go_size))⟩
  · have q0 : ((n0 : Int) ≤ 300) = False := eq_false (by omega)
    have hs := Lib.hid (HD.out.trans (decide_eq_false (fun g => h0 g.1)))
    clear h0
    go_enter Tryd.func20, Tryd.ntmps20
    go_wp2_with fail
    go_ret
    exact ⟨by rw [hs.out]; rfl, by (repeat' (first | (with_reducible exact Below.refl _ _) | (with_reducible assumption) | (with_reducible refine below_drewN ?_ _) | (with_reducible refine Below.alloc ?_ ?_ _) | (with_reducible refine Below.drew ?_) | (with_reducible refine Below.setCell ?_ ?_ _) | go_size))⟩
end Go.Proofs.YtpecpeedefeokaaDoor

/- Whether a program's lists are short: all of it. -/
namespace Go.Proofs.YtpecpeedefeokaaDoor
open Go.RowKit
set_option linter.unusedSimpArgs false
set_option linter.unusedVariables false
set_option maxHeartbeats 4000000 in
theorem law16_Few (vc vv vb vu : Value) (p : Pr) (w : World) (h : PrAt w vc vv vb vu p) : Calls Tryd.prog 6 #[.agg #[vc, vv, vb, vu]] w fun e w' => e = .returned (.bool (fewP p)) ∧ Below w.heap.size w w' := by
  have l0 := h.cs.len
  have l1 := h.vs.len
  have l2 := h.bs.len
  have l3 := h.us.len
  have hv := h.vs
  have hb := h.bs
  have hu := h.us
  obtain ⟨s0, t0, rfl⟩ := row_get h.cs
  obtain ⟨s1, t1, rfl⟩ := row_get h.vs
  obtain ⟨s2, t2, rfl⟩ := row_get h.bs
  obtain ⟨s3, t3, rfl⟩ := row_get h.us
  have cp := @cell_past
  have HD := Lib.hid (show fewP p = decide ((p.consts.length ≤ 60 ∧ p.vars.length ≤ 70 ∧ p.blocks.length ≤ 40 ∧ p.units.length ≤ 10) ∧ (∀ x ∈ p.vars, x.name.length ≤ 300) ∧ (∀ x ∈ p.blocks, x.name.length ≤ 300) ∧ ∀ x ∈ p.units, fewU x = true) from rfl)
  clear h
  obtain ⟨n0, e0⟩ : ∃ n, p.consts.length = n := ⟨_, rfl⟩
  obtain ⟨n1, e1⟩ : ∃ n, p.vars.length = n := ⟨_, rfl⟩
  obtain ⟨n2, e2⟩ : ∃ n, p.blocks.length = n := ⟨_, rfl⟩
  obtain ⟨n3, e3⟩ : ∃ n, p.units.length = n := ⟨_, rfl⟩
  rw [e0] at l0 HD ⊢
  rw [e1] at l1 hv HD ⊢
  rw [e2] at l2 hb HD ⊢
  rw [e3] at l3 hu HD ⊢
  have HE := Lib.hid (show p.vars.length = n1 ∧ p.blocks.length = n2 ∧ p.units.length = n3 from ⟨e1, e2, e3⟩)
  clear e0 e1 e2 e3
  by_cases h0 : 60 < n0
  · have q0 : (60 < (n0 : Int)) = True := eq_true (by omega)
    have hs := Lib.hid (HD.out.trans (decide_eq_false (fun g => by omega)))
    clear h0 hv hb hu
    go_enter Tryd.func6, Tryd.ntmps6
    go_wp2_with fail
    go_ret
    exact ⟨by rw [hs.out]; rfl, by (repeat' (first | (with_reducible exact Below.refl _ _) | (with_reducible assumption) | (with_reducible refine below_drewN ?_ _) | (with_reducible refine Below.alloc ?_ ?_ _) | (with_reducible refine Below.drew ?_) | (with_reducible refine Below.setCell ?_ ?_ _) | go_size))⟩
  have q0 : (60 < (n0 : Int)) = False := eq_false (by omega)
  by_cases h1 : 70 < n1
  · have q1 : (70 < (n1 : Int)) = True := eq_true (by omega)
    have hs := Lib.hid (HD.out.trans (decide_eq_false (fun g => by omega)))
    clear h0 h1 hv hb hu
    go_enter Tryd.func6, Tryd.ntmps6
    go_wp2_with fail
    go_ret
    exact ⟨by rw [hs.out]; rfl, by (repeat' (first | (with_reducible exact Below.refl _ _) | (with_reducible assumption) | (with_reducible refine below_drewN ?_ _) | (with_reducible refine Below.alloc ?_ ?_ _) | (with_reducible refine Below.drew ?_) | (with_reducible refine Below.setCell ?_ ?_ _) | go_size))⟩
  have q1 : (70 < (n1 : Int)) = False := eq_false (by omega)
  by_cases h2 : 40 < n2
  · have q2 : (40 < (n2 : Int)) = True := eq_true (by omega)
    have hs := Lib.hid (HD.out.trans (decide_eq_false (fun g => by omega)))
    clear h0 h1 h2 hv hb hu
    go_enter Tryd.func6, Tryd.ntmps6
    go_wp2_with fail
    go_ret
    exact ⟨by rw [hs.out]; rfl, by (repeat' (first | (with_reducible exact Below.refl _ _) | (with_reducible assumption) | (with_reducible refine below_drewN ?_ _) | (with_reducible refine Below.alloc ?_ ?_ _) | (with_reducible refine Below.drew ?_) | (with_reducible refine Below.setCell ?_ ?_ _) | go_size))⟩
  have q2 : (40 < (n2 : Int)) = False := eq_false (by omega)
  by_cases h3 : 10 < n3
  · have q3 : (10 < (n3 : Int)) = True := eq_true (by omega)
    have hs := Lib.hid (HD.out.trans (decide_eq_false (fun g => by omega)))
    clear h0 h1 h2 h3 hv hb hu
    go_enter Tryd.func6, Tryd.ntmps6
    go_wp2_with fail
    go_ret
    exact ⟨by rw [hs.out]; rfl, by (repeat' (first | (with_reducible exact Below.refl _ _) | (with_reducible assumption) | (with_reducible refine below_drewN ?_ _) | (with_reducible refine Below.alloc ?_ ?_ _) | (with_reducible refine Below.drew ?_) | (with_reducible refine Below.setCell ?_ ?_ _) | go_size))⟩
  have q3 : (10 < (n3 : Int)) = False := eq_false (by omega)
  have HY := Lib.hid (fun (g1 : ∀ x ∈ p.vars, x.name.length ≤ 300) (g2 : ∀ x ∈ p.blocks, x.name.length ≤ 300) (g3 : ∀ x ∈ p.units, fewU x = true) => HD.out.trans (decide_eq_true ⟨by omega, g1, g2, g3⟩))
  have HV := Lib.hid (fun (x : Vr) (hx : x ∈ p.vars) (g : 300 < x.name.length) => HD.out.trans (decide_eq_false (fun q => by have := q.2.1 x hx; omega)))
  have HB := Lib.hid (fun (x : Bk) (hx : x ∈ p.blocks) (g : 300 < x.name.length) => HD.out.trans (decide_eq_false (fun q => by have := q.2.2.1 x hx; omega)))
  have HU := Lib.hid (fun (x : Un) (hx : x ∈ p.units) (g : fewU x = false) => HD.out.trans (decide_eq_false (fun q => by have := q.2.2.2 x hx; rw [g] at this; cases this)))
  clear HD h0 h1 h2 h3
  have mc := @more_cell
  have mf := @more_frozen
  have ms := @more_set
  have md := more_drewN
  have mm := more_more
  go_enter Tryd.func6, Tryd.ntmps6
  go_wp2_with fail
  go_loopw [3] (fun j wr => ∃ k : Nat, k ≤ n1 ∧ j = .int .i64 k ∧ Hid (∀ x ∈ p.vars.take k, x.name.length ≤ 300) ∧ wr = w.alloc (.cells #[.slice s0 n0 t0, .slice s1 n1 t1, .slice s2 n2 t2, .slice s3 n3 t3] 27)) (fun j _ => n1 - (intOf j).toNat)
  case atStart => exact ⟨0, by omega, rfl, Lib.hid (by simp), rfl⟩
  case round =>
    obtain ⟨k, hk, rfl, hall, rfl⟩ := hrel
    by_cases hlt : k < n1
    · obtain ⟨x, hx⟩ := get_some (L := p.vars) (n := k) (by have := HE.out.1; omega)
      obtain ⟨b, off, rfl, hbw, hc⟩ := var_at hv (k := k) (lt_of_get hx)
      obtain ⟨c0, _, _, _, _, hz, _⟩ := hc k x hx
      have hz : x.name.length ≤ 9223372036854775807 := hz
      have hsz : (⟨x.name.toArray⟩ : ByteArray).size = x.name.length := by simp [ByteArray.size]
      have HX := Lib.hid hx
      clear hc hx
      generalize (⟨x.name.toArray⟩ : ByteArray) = nm at *
      by_cases hl : 300 < x.name.length
      · have hs := Lib.hid (HV.out x (List.mem_of_getElem? HX.out) hl)
        generalize x.name.length = nl at *
        have q4 : (300 < (nl : Int)) = True := eq_true (by omega)
        clear hall hv hb hu
        go_wp2_with fail
        go_ret
        exact ⟨by rw [hs.out]; rfl, by (repeat' (first | (with_reducible exact Below.refl _ _) | (with_reducible assumption) | (with_reducible refine below_drewN ?_ _) | (with_reducible refine Below.alloc ?_ ?_ _) | (with_reducible refine Below.drew ?_) | (with_reducible refine Below.setCell ?_ ?_ _) | go_size))⟩
      · have hs := Lib.hid (show ∀ m ∈ p.vars.take (k + 1), m.name.length ≤ 300 by
          intro m hm
          rw [take_snoc HX.out] at hm
          rcases List.mem_append.1 hm with hm | hm
          · exact hall.out m hm
          · rw [List.mem_singleton.1 hm]; omega)
        generalize x.name.length = nl at *
        have q4 : (300 < (nl : Int)) = False := eq_false (by omega)
        clear hall
        go_wp2_with fail
        go_roundw
        case rel => exact ⟨k + 1, by omega, by simp, hs, trivial⟩
        case measure => first | (simp [intOf]; done) | (simp [intOf]; omega)
    · obtain rfl : k = n1 := by omega
      have H1 := Lib.hid (show ∀ x ∈ p.vars, x.name.length ≤ 300 by have := hall.out; rw [List.take_of_length_le (by have := HE.out.1; omega)] at this; exact this)
      clear hall hv
      go_wp2_with fail
      go_loopw [4] (fun j wr => ∃ q : Nat, q ≤ n2 ∧ j = .int .i64 q ∧ Hid (∀ x ∈ p.blocks.take q, x.name.length ≤ 300) ∧ wr = w.alloc (.cells #[.slice s0 n0 t0, .slice s1 k t1, .slice s2 n2 t2, .slice s3 n3 t3] 27)) (fun j _ => n2 - (intOf j).toNat)
      case atStart => exact ⟨0, by omega, rfl, Lib.hid (by simp), rfl⟩
      case round =>
        obtain ⟨q, hq, rfl, hall, rfl⟩ := hrel
        by_cases hlq : q < n2
        · obtain ⟨x, hx⟩ := get_some (L := p.blocks) (n := q) (by have := HE.out.2.1; omega)
          obtain ⟨b, off, rfl, hbw, hc⟩ := blk_at hb (k := q) (lt_of_get hx)
          obtain ⟨c0, _, hz, _⟩ := hc q x hx
          have hz : x.name.length ≤ 9223372036854775807 := hz
          have hsz : (⟨x.name.toArray⟩ : ByteArray).size = x.name.length := by simp [ByteArray.size]
          have HX := Lib.hid hx
          clear hc hx
          generalize (⟨x.name.toArray⟩ : ByteArray) = nm at *
          by_cases hl : 300 < x.name.length
          · have hs := Lib.hid (HB.out x (List.mem_of_getElem? HX.out) hl)
            generalize x.name.length = nl at *
            have q4 : (300 < (nl : Int)) = True := eq_true (by omega)
            clear hall hb hu
            go_wp2_with fail
            go_ret
            exact ⟨by rw [hs.out]; rfl, by (repeat' (first | (with_reducible exact Below.refl _ _) | (with_reducible assumption) | (with_reducible refine below_drewN ?_ _) | (with_reducible refine Below.alloc ?_ ?_ _) | (with_reducible refine Below.drew ?_) | (with_reducible refine Below.setCell ?_ ?_ _) | go_size))⟩
          · have hs := Lib.hid (show ∀ m ∈ p.blocks.take (q + 1), m.name.length ≤ 300 by
              intro m hm
              rw [take_snoc HX.out] at hm
              rcases List.mem_append.1 hm with hm | hm
              · exact hall.out m hm
              · rw [List.mem_singleton.1 hm]; omega)
            generalize x.name.length = nl at *
            have q4 : (300 < (nl : Int)) = False := eq_false (by omega)
            clear hall
            go_wp2_with fail
            go_roundw
            case rel => exact ⟨q + 1, by omega, by simp, hs, trivial⟩
            case measure => first | (simp [intOf]; done) | (simp [intOf]; omega)
        · obtain rfl : q = n2 := by omega
          have H2 := Lib.hid (show ∀ x ∈ p.blocks, x.name.length ≤ 300 by have := hall.out; rw [List.take_of_length_le (by have := HE.out.2.1; omega)] at this; exact this)
          clear hall hb
          go_wp2_with fail
          go_loopw [5] (fun j wr => ∃ (i : Nat) (l : Array Obj) (d : Nat), i ≤ n3 ∧ j = .int .i64 i ∧ Hid (∀ x ∈ p.units.take i, fewU x = true) ∧ wr = wmore (w.alloc (.cells #[.slice s0 n0 t0, .slice s1 k t1, .slice s2 q t2, .slice s3 n3 t3] 27)) l d) (fun j _ => n3 - (intOf j).toNat)
          case atStart => exact ⟨0, #[], _, by omega, rfl, Lib.hid (by simp), more_start _⟩
          case round =>
            obtain ⟨i, l, d, hi, rfl, hall, rfl⟩ := hrel
            by_cases hli : i < n3
            · have hB : Below w.heap.size w (wmore (w.alloc (.cells #[.slice s0 n0 t0, .slice s1 k t1, .slice s2 q t2, .slice s3 n3 t3] 27)) l d) := by (repeat' (first | (with_reducible exact Below.refl _ _) | (with_reducible assumption) | (with_reducible refine more_below ?_ ?_ _ _) | (with_reducible refine below_drewN ?_ _) | (with_reducible refine Below.alloc ?_ ?_ _) | (with_reducible refine Below.drew ?_) | (with_reducible refine Below.setCell ?_ ?_ _) | (simp only [World.size_alloc, World.size_setCell, World.size_drew, more_size, World.heap_drewN]; omega) | go_size))
              obtain ⟨x, hx⟩ := get_some (L := p.units) (n := i) (by have := HE.out.2.2; omega)
              obtain ⟨b, off, rfl, hbw, hc⟩ := unit_at hu (k := i) (lt_of_get hx)
              obtain ⟨u1, u3, u4, c0, c1, c2, c3, c4, hU⟩ := hc i x hx
              have HX := Lib.hid hx
              have HF := Lib.hid (law15_Few u1 u3 u4 x _ (hU.below hB))
              obtain ⟨su1, cu1, rfl⟩ := row_get hU.ps
              obtain ⟨su3, cu3, rfl⟩ := row_get hU.ls
              obtain ⟨su4, cu4, rfl⟩ := row_get hU.cs
              have hU0 := hU.below hB
              clear hc hx hU
              go_wp2_with fail
              refine (HF.out).mono ?_
              rintro e W1 ⟨rfl, hb1⟩
              obtain ⟨l2, d2, rfl⟩ := more_of hb1
              clear hb1
              rw [more_more]
              generalize hff : fewU x = ff
              cases ff
              · have hs := Lib.hid (HU.out x (List.mem_of_getElem? HX.out) hff)
                clear hff
                go_wp2_with fail
                go_ret
                exact ⟨by rw [hs.out]; rfl, by (repeat' (first | (with_reducible exact Below.refl _ _) | (with_reducible assumption) | (with_reducible refine more_below ?_ ?_ _ _) | (with_reducible refine below_drewN ?_ _) | (with_reducible refine Below.alloc ?_ ?_ _) | (with_reducible refine Below.drew ?_) | (with_reducible refine Below.setCell ?_ ?_ _) | (simp only [World.size_alloc, World.size_setCell, World.size_drew, more_size, World.heap_drewN]; omega) | go_size))⟩
              · have hs := Lib.hid (show ∀ m ∈ p.units.take (i + 1), fewU m = true by
                  intro m hm
                  rw [take_snoc HX.out] at hm
                  rcases List.mem_append.1 hm with hm | hm
                  · exact hall.out m hm
                  · rw [List.mem_singleton.1 hm]; exact hff)
                clear hff
                go_wp2_with fail
                go_roundw
                case rel => exact ⟨i + 1, _, _, by omega, by simp, hs, rfl⟩
                case measure => first | (simp [intOf]; done) | (simp [intOf]; omega)
            · obtain rfl : i = n3 := by omega
              have hs := Lib.hid (HY.out H1.out H2.out (by have := hall.out; rw [List.take_of_length_le (by have := HE.out.2.2; omega)] at this; exact this))
              clear hall
              go_wp2_with fail
              go_ret
              exact ⟨by rw [hs.out]; rfl, by (repeat' (first | (with_reducible exact Below.refl _ _) | (with_reducible assumption) | (with_reducible refine more_below ?_ ?_ _ _) | (with_reducible refine below_drewN ?_ _) | (with_reducible refine Below.alloc ?_ ?_ _) | (with_reducible refine Below.drew ?_) | (with_reducible refine Below.setCell ?_ ?_ _) | (simp only [World.size_alloc, World.size_setCell, World.size_drew, more_size, World.heap_drewN]; omega) | go_size))⟩
end Go.Proofs.YtpecpeedefeokaaDoor

/- Layer 17: the walk of DeclLess. -/
namespace Go.Proofs.YtpecpeedefeokaaDoor
open Go.RowKit
set_option linter.unusedSimpArgs false
set_option linter.unusedVariables false
end Go.Proofs.YtpecpeedefeokaaDoor

/- Layer 17: a unit's head, by the answer. -/
namespace Go.Proofs.YtpecpeedefeokaaDoor
open Go.RowKit
set_option linter.unusedSimpArgs false
set_option linter.unusedVariables false
end Go.Proofs.YtpecpeedefeokaaDoor

/- Layer 17: a program's declarations, by the answer. -/
namespace Go.Proofs.YtpecpeedefeokaaDoor
open Go.RowKit
set_option linter.unusedSimpArgs false
set_option linter.unusedVariables false
end Go.Proofs.YtpecpeedefeokaaDoor

/- A region that draws its order, by facts that stay: a condition on what has been carried out, the frame and the world; one goal for each operation, whatever the order. -/
namespace Go.Proofs.YtpecpeedefeokaaDoor
open Go.RowKit
set_option linter.unusedSimpArgs false
set_option linter.unusedVariables false
section
variable {P : Program} {ops : Array Oper} {Q : Exit → Act → World → Prop} {S : Array Bool → Act → World → Prop}
def openN : Nat → Array Bool → Nat
  | 0, _ => 0
  | k + 1, L => openN k L + (if L.getD k true then 0 else 1)
theorem openN_le : ∀ (k : Nat) (L : Array Bool), openN k L ≤ k
  | 0, _ => Nat.le_refl _
  | k + 1, L => by have := openN_le k L; show openN k L + _ ≤ _; split <;> omega
theorem getD_set_self (L : Array Bool) (i : Nat) : (L.setIfInBounds i true).getD i true = true := by
  rcases Nat.lt_or_ge i L.size with h | h
  · simp [h]
  · simp [Array.getElem?_eq_none h]
theorem openN_past {i : Nat} {L : Array Bool} : ∀ k : Nat, k ≤ i → openN k (L.setIfInBounds i true) = openN k L
  | 0, _ => rfl
  | k + 1, h => by
    show openN k _ + _ = openN k L + _
    rw [openN_past k (by omega), getD_set_ne true (by omega)]
theorem openN_set {i : Nat} {L : Array Bool} (hL : L.getD i true = false) : ∀ k : Nat, i < k → openN k (L.setIfInBounds i true) + 1 = openN k L
  | 0, h => by omega
  | k + 1, h => by
    show openN k _ + _ + 1 = openN k L + _
    by_cases hik : i = k
    · subst hik
      rw [openN_past i (Nat.le_refl _), getD_set_self, hL]; simp
    · have := openN_set hL k (by omega)
      rw [getD_set_ne true hik]; omega
theorem openN_zero {L : Array Bool} : ∀ k : Nat, openN k L = 0 → ∀ j, j < k → L.getD j true = true
  | 0, _, j, hj => by omega
  | k + 1, h, j, hj => by
    have h' : openN k L + (if L.getD k true then 0 else 1) = 0 := h
    by_cases hjk : j = k
    · subst hjk
      cases hq : L.getD j true
      · rw [hq] at h'; simp at h'
      · rfl
    · exact openN_zero k (by omega) j (by omega)
/-- does each number wait for smaller ones alone? -/
def ordered (ops : Array Oper) : Bool := (List.range ops.size).all fun i => match ops[i]? with
  | some o => o.after.all fun e => !Region.binds .any e || decide (e.on < i)
  | none => true
theorem ordered_spec (h : ordered ops = true) {i : Nat} {o : Oper} (ho : ops[i]? = some o) : ∀ e ∈ o.after, Region.binds .any e = true → e.on < i := by
  intro e he hb
  have hlt : i < ops.size := (Array.getElem?_eq_some_iff.1 ho).1
  have := List.all_eq_true.1 h i (List.mem_range.2 hlt)
  rw [ho] at this
  have := Array.all_eq_true_iff_forall_mem.1 this e he
  rw [hb] at this
  simpa using this
theorem getD_two {L : Array Bool} {j : Nat} (h : j < L.size) : L.getD j true = L.getD j false := by simp [h]
theorem ready_nil (ho : ordered ops = true) {L : Array Bool} (hL : L.size = ops.size) (h : Region.ready .any ops L = []) : ∀ j, j < ops.size → L.getD j false = true := by
  intro j
  induction j using Nat.strongRecOn with
  | ind j ih =>
    intro hj
    cases hq : L.getD j false
    · exfalso
      have hm : j ∈ Region.ready .any ops L := mem_ready.2 ⟨by rw [getD_two (by omega)]; exact hq, ops[j], Array.getElem?_eq_some_iff.2 ⟨hj, rfl⟩, fun e he hb => by
        have hlt := ordered_spec ho (Array.getElem?_eq_some_iff.2 ⟨hj, rfl⟩) e he hb
        exact ih _ hlt (by omega)⟩
      rw [h] at hm
      cases hm
    · rfl
/-- what number i waits for -/
def waitsOf (ops : Array Oper) (i : Nat) : List Nat := match ops[i]? with
  | some o => (o.after.toList.filter (Region.binds .any)).map (·.on)
  | none => []
/-- what is listed has all listed that it waits for -/
def Closed (ops : Array Oper) (L : Array Bool) : Prop := ∀ j, L.getD j false = true → ∀ k ∈ waitsOf ops j, L.getD k false = true
theorem Closed.step {L : Array Bool} (hC : Closed ops L) {j k : Nat} (h : L.getD j false = true) (hk : (waitsOf ops j).contains k = true) : L.getD k false = true := hC j h k (by simpa using hk)
theorem getD_no {L : Array Bool} {i : Nat} (h0 : L.getD i true = false) (h : L.getD i false = true) : False := by
  rcases Nat.lt_or_ge i L.size with h' | h'
  · rw [getD_two h', h] at h0; cases h0
  · simp [h'] at h
/-- number i, wherever it comes -/
def StepAt (P : Program) (ops : Array Oper) (Q : Exit → Act → World → Prop) (S : Array Bool → Act → World → Prop) (i : Nat) : Prop :=
  ∀ L b v, Closed ops L → L.getD i true = false → (∀ j ∈ waitsOf ops i, L.getD j false = true) → S L b v → wpOp P ops Q i (fun b' v' => S (L.setIfInBounds i true) b' v') b v
theorem StepAt.mk {i : Nat} {o : Oper} {ws : List Nat} (ho : ops[i]? = some o) (hw : waitsOf ops i = ws)
    (h : ∀ L b v, Closed ops L → L.getD i true = false → (∀ j ∈ ws, L.getD j false = true) → S L b v → ∀ K : Act → World → Prop, Shut (∀ b' v', S (L.setIfInBounds i true) b' v' → K b' v') →
      if Region.wanted o (yielded ops b.tmps) = true then Oper.wp P o b v K Q else K (b.put o.dst undef) v) : StepAt P ops Q S i :=
  fun L b v hC h0 hj hS => wpOp_step ho fun K hK => h L b v hC h0 (hw ▸ hj) hS K hK
def AllSteps (P : Program) (ops : Array Oper) (Q : Exit → Act → World → Prop) (S : Array Bool → Act → World → Prop) (n : Nat) : Prop := ∀ i, i < n → StepAt P ops Q S i
theorem AllSteps.zero : AllSteps P ops Q S 0 := fun _ h => by omega
theorem AllSteps.succ {n : Nat} (h : AllSteps P ops Q S n) (hn : StepAt P ops Q S n) : AllSteps P ops Q S (n + 1) := fun i hi => by
  by_cases hin : i = n
  · exact hin ▸ hn
  · exact h i (by omega)
theorem any_facts (ho : ordered ops = true) (hs : AllSteps P ops Q S ops.size) (he : ∀ L b v, (∀ j, j < ops.size → L.getD j false = true) → S L b v → Q .normal b v) :
    ∀ (n : Nat) (L : Array Bool) (b : Act) (v : World), L.size = ops.size → Closed ops L → openN ops.size L ≤ n → S L b v → wpAny P .any ops Q n L b v := by
  have nil_of : ∀ L : Array Bool, openN ops.size L = 0 → Region.ready .any ops L = [] := by
    intro L h0
    rw [List.eq_nil_iff_forall_not_mem]
    intro j hj
    obtain ⟨h1, o, h2, _⟩ := mem_ready.1 hj
    rw [openN_zero _ h0 j (Array.getElem?_eq_some_iff.1 h2).1] at h1
    cases h1
  intro n
  induction n with
  | zero =>
    intro L b v hL hC h0 hS
    have hr := nil_of L (by omega)
    exact ⟨hr, he L b v (ready_nil ho hL hr) hS⟩
  | succ n ih =>
    intro L b v hL hC h0 hS
    refine ⟨fun hr => he L b v (ready_nil ho hL hr) hS, fun i hi => ?_⟩
    obtain ⟨h1, o, h2, h3⟩ := mem_ready.1 hi
    have hlt := (Array.getElem?_eq_some_iff.1 h2).1
    have hw : ∀ j ∈ waitsOf ops i, L.getD j false = true := by
      intro j hj
      unfold waitsOf at hj
      rw [h2] at hj
      obtain ⟨e, he1, rfl⟩ := List.mem_map.1 hj
      obtain ⟨he2, he3⟩ := List.mem_filter.1 he1
      exact h3 e (by simpa using he2) he3
    refine wpOp_mono (fun b' v' h' => ih _ b' v' (by simpa using hL) (fun j hj k hk => ?_) (by have := openN_set h1 ops.size hlt; omega) h') (hs i hlt L b v hC h1 hw hS)
    by_cases hij : i = j
    · subst hij; exact getD_set_true (hw k hk)
    · rw [getD_set_ne false hij] at hj; exact getD_set_true (hC j hj k hk)
theorem getD_open {L : Array Bool} {i : Nat} (h0 : L.getD i true = false) : L.getD i false = false := by
  rcases Nat.lt_or_ge i L.size with h' | h'
  · rw [← getD_two h']; exact h0
  · simp [h'] at h0
theorem getD_set_done {L : Array Bool} {i : Nat} (h0 : L.getD i true = false) : (L.setIfInBounds i true).getD i false = true := by
  rcases Nat.lt_or_ge i L.size with h' | h'
  · simp [h']
  · simp [h'] at h0
theorem wp_region_facts {id n : Nat} {a : Act} {w : World} (S : Array Bool → Act → World → Prop) (hm : P.follows .mixedOrders = true) (ho : ordered ops = true) (hn : ops.size = n)
    (h0 : S (Array.replicate n false) a w.drew) (hs : AllSteps P ops Q S n) (he : ∀ L b v, (∀ j, j < n → L.getD j false = true) → S L b v → Q .normal b v) : (Code.region id ops true).wp P Q a w := by
  subst hn
  exact wp_region_any hm (any_facts ho hs he _ _ _ _ (by simp) (fun j hj => by by_cases h : j < ops.size <;> simp [Array.getD, h] at hj) (openN_le _ _) h0)
/-- a fact of number j, behind number i -/
theorem flag_ne {L : Array Bool} {i j : Nat} {F : Prop} (h : i ≠ j) (hF : L.getD j false = true → F) : (L.setIfInBounds i true).getD j false = true → F := by
  rw [getD_set_ne false h]; exact hF
theorem flag_new {n j : Nat} {F : Prop} : (Array.replicate n false).getD j false = true → F := by
  intro h
  by_cases hj : j < n <;> simp [Array.getD, hj] at h
end
end Go.Proofs.YtpecpeedefeokaaDoor

/- Layer 17: a unit's scope. -/
namespace Go.Proofs.YtpecpeedefeokaaDoor
open Go.RowKit
set_option linter.unusedSimpArgs false
set_option linter.unusedVariables false
/-- a row of the call's own, whose elements read in every world alike -/
def OwnG {α : Type} (q : Nat) (e : TypeId) (R : Rep α) (B : Nat) (w : World) (v : Value) (L : List α) : Prop := ∃ CH : List (Chunk q), CH.length = L.length ∧ (∀ (i : Nat) (c : Chunk q) (x : α), CH[i]? = some c → L[i]? = some x → ∀ W, R W c.1 x) ∧ w.ownsRow B e q v L.length (flatC CH)
theorem OwnG.below {α : Type} {q : Nat} {e : TypeId} {R : Rep α} {B : Nat} {w w' : World} {v : Value} {L : List α} (h : OwnG q e R B w v L) (hb : Below w.heap.size w w') : OwnG q e R B w' v L := by
  obtain ⟨CH, h1, h2, h3⟩ := h
  exact ⟨CH, h1, h2, owns_below h3 hb⟩
theorem OwnG.low {α : Type} {q : Nat} {e : TypeId} {R : Rep α} {B C : Nat} {w : World} {v : Value} {L : List α} (h : OwnG q e R C w v L) (hb : B ≤ C) : OwnG q e R B w v L := by
  obtain ⟨CH, h1, h2, h3⟩ := h
  exact ⟨CH, h1, h2, own_low h3 hb⟩
theorem OwnG.row {α : Type} {q : Nat} {e : TypeId} {R : Rep α} {B : Nat} {w : World} {v : Value} {L : List α} (h : OwnG q e R B w v L) : RowR q R w v L := by
  obtain ⟨CH, h1, h2, h3⟩ := h
  exact row_of_chunks h3 h1.symm h1 (fun i c x hc hx => h2 i c x hc hx w)
theorem OwnG.form {α : Type} {q : Nat} {e : TypeId} {R : Rep α} {B : Nat} {w : World} {v : Value} {L : List α} (h : OwnG q e R B w v L) : ∃ a c, v = .slice a L.length c := by
  obtain ⟨CH, h1, h2, h3⟩ := h
  exact owns_form h3
theorem OwnG.set {α : Type} {q : Nat} {e t : TypeId} {R : Rep α} {B : Nat} {w : World} {v : Value} {L : List α} {g i : Nat} {C : Array Value} {fr : Nat × Nat} {x : Value} (h : OwnG q e R B w v L) (hg : w.heap[g]? = some (.cells C t fr)) (hne : e ≠ t) : OwnG q e R B (w.setCell ⟨g, i, none⟩ x) v L := by
  obtain ⟨CH, h1, h2, h3⟩ := h
  exact ⟨CH, h1, h2, owns_set h3 (own_ne_type h3 hg hne)⟩
theorem OwnRows.set {B : Nat} {e t : TypeId} {w : World} {U : List Value} {L : List (List Int)} {g i : Nat} {C : Array Value} {fr : Nat × Nat} {x : Value} (h : OwnRows B e w U L) (hg : w.heap[g]? = some (.cells C t fr)) (hne : e ≠ t) : OwnRows B e (w.setCell ⟨g, i, none⟩ x) U L :=
  ⟨h.len, fun k u l hu hl => owns_set (h.row k u l hu hl) (own_ne_type (h.row k u l hu hl) hg hne), h.apart⟩
theorem OwnRows.low {B C : Nat} {e : TypeId} {w : World} {U : List Value} {L : List (List Int)} (h : OwnRows C e w U L) (hb : B ≤ C) : OwnRows B e w U L :=
  ⟨h.len, fun k u l hu hl => own_low (h.row k u l hu hl) hb, h.apart⟩
theorem SigsO.below {B : Nat} {w w' : World} {v : Value} {us : List Un} (h : SigsO B w v us) (hb : Below w.heap.size w w') : SigsO B w' v us := by
  obtain ⟨U, h1, h2⟩ := h
  exact ⟨U, h1.below hb, owns_below h2 hb⟩
theorem SigsO.low {B C : Nat} {w : World} {v : Value} {us : List Un} (h : SigsO C w v us) (hb : B ≤ C) : SigsO B w v us := by
  obtain ⟨U, h1, h2⟩ := h
  exact ⟨U, h1.low hb, own_low h2 hb⟩
theorem SigsO.form {B : Nat} {w : World} {v : Value} {us : List Un} (h : SigsO B w v us) : ∃ a c, v = .slice a us.length c := by
  obtain ⟨U, h1, h2⟩ := h
  exact owns_form h2
theorem SigsO.set {B : Nat} {t : TypeId} {w : World} {v : Value} {us : List Un} {g i : Nat} {C : Array Value} {fr : Nat × Nat} {x : Value} (h : SigsO B w v us) (hg : w.heap[g]? = some (.cells C t fr)) (h1 : 3 ≠ t) (h2 : 54 ≠ t) : SigsO B (w.setCell ⟨g, i, none⟩ x) v us := by
  obtain ⟨U, k1, k2⟩ := h
  exact ⟨U, k1.set hg h1, owns_set k2 (own_ne_type k2 hg h2)⟩
theorem var_one (w : World) (cs : List Value) (x : Vr) (h : varR w cs x) : ∀ u ∈ cs, u.oneCell' = true := by
  obtain ⟨rfl, _⟩ := h
  intro u hu; simp at hu; rcases hu with rfl | rfl | rfl | rfl | rfl <;> rfl
theorem blk_one (w : World) (cs : List Value) (x : Bk) (h : blkR w cs x) : ∀ u ∈ cs, u.oneCell' = true := by
  obtain ⟨rfl, _⟩ := h
  intro u hu; simp at hu; rcases hu with rfl | rfl <;> rfl
end Go.Proofs.YtpecpeedefeokaaDoor

/- Layer 15: a unit's slots, in a row of the call's own. -/
namespace Go.Proofs.YtpecpeedefeokaaDoor
open Go.RowKit
set_option linter.unusedSimpArgs false
set_option linter.unusedVariables false
set_option maxHeartbeats 4000000 in
theorem ref15_SlotsO (a b c : Value) (x : Un) (w : World) (h : UnAt w a b c x) (hf : fewU x = true) : Calls Tryd.prog 22 #[.agg #[.string ⟨x.name.toArray⟩, a, .int .i64 x.result, b, c]] w fun e w' => ∃ v, e = .returned v ∧ w'.ownsRow w.heap.size 3 1 v (slotsL x).length (iV (slotsL x)) ∧ (∀ z ∈ slotsL x, I64 z) ∧ Below w.heap.size w w' := by
  obtain ⟨_, f1, f2, _⟩ : x.name.length ≤ 300 ∧ x.params.length ≤ 20 ∧ x.locals.length ≤ 1100 ∧ x.code.length ≤ 300 := of_decide_eq_true hf
  obtain ⟨i, hi, hz, hsize, hby⟩ : ∃ i, Tryd.prog.info? 3 = some i ∧ i.zero = some (.int .i64 0) ∧ i.size = 1 ∧ i.bytes = 8 := ⟨(Tryd.prog.info? 3).get!, by kernel_rfl, by kernel_rfl, by kernel_rfl, by kernel_rfl⟩
  have HI := Lib.hid (show ∀ z ∈ slotsL x, I64 z by
    intro z hz
    have hp := row_ints h.ps
    have hl := row_ints h.ls
    have hr := h.r64
    unfold slotsL at hz
    rcases List.mem_append.1 hz with hz | hz
    · rcases List.mem_append.1 hz with hz | hz
      · exact hp z hz
      · by_cases h0 : x.result = 0
        · rw [if_pos h0] at hz; cases hz
        · rw [if_neg h0] at hz
          have : z = x.result := by simpa using hz
          rw [this]; exact hr
    · exact hl z hz)
  have HS1 := Lib.hid (fun W (hb : Below w.heap.size w W) => (src_ints h.ps).below hb)
  have hls := h.ls
  obtain ⟨sa, ca, rfl⟩ := row_get h.ps
  obtain ⟨sb, cb, rfl⟩ := row_get h.ls
  have cp := @cell_past
  have HD := Lib.hid (show slotsL x = x.params ++ (if x.result = 0 then [] else [x.result]) ++ x.locals from rfl)
  clear h hf
  generalize (⟨x.name.toArray⟩ : ByteArray) = nm at *
  generalize x.result = rs at *
  generalize hp : x.params = P at *
  generalize hq : x.locals = L at *
  obtain ⟨n1, hn1⟩ : ∃ n, P.length = n := ⟨_, rfl⟩
  obtain ⟨n2, hn2⟩ : ∃ n, L.length = n := ⟨_, rfl⟩
  have HN := Lib.hid (show P.length = n1 ∧ L.length = n2 from ⟨hn1, hn2⟩)
  rw [hn1] at f1 HS1 ⊢
  rw [hn2] at f2 hls ⊢
  clear hp hq hn1 hn2
  by_cases h0 : rs = 0
  · have q : (rs != 0) = false := by simp [h0]
    rw [if_pos h0, List.append_nil] at HD
    clear h0
    go_enter Tryd.func22, Tryd.ntmps22
    have HE := Lib.hid (owns_empty1 w (.cells #[.string nm, .slice sa n1 ca, .int .i64 rs, .slice sb n2 cb, c] 51) 3 1)
    go_wp2_with (first | (at_builtin; go_loud (refine wpList_append_src rfl (.tmp 5) (.tmp 7) 35 rfl (w.heap.size + 1) 3 i (.int .i64 0) 1 8 Tryd.underlying35 hi hz hsize hby rfl (by omega) _ 0 [] rfl HE.out _ n1 (iV P) rfl (HS1.out _ (by (repeat' (first | (with_reducible exact Below.refl _ _) | (with_reducible assumption) | (with_reducible refine below_drewN ?_ _) | (with_reducible refine Below.alloc ?_ ?_ _) | (with_reducible refine Below.drew ?_) | (with_reducible refine Below.setCell ?_ ?_ _) | go_size)))) (by rw [iV_len, HN.out.1]; omega) (iV_one P) (by unfold maxLen; omega) (by omega) (by simp) ?_; intro v2 w2 hO2 hG2; have hB2 := grown3 (show Below (w.heap.size + 1) (w.alloc (.cells #[.string nm, .slice sa n1 ca, .int .i64 rs, .slice sb n2 cb, c] 51)) _ from by (repeat' (first | (with_reducible exact Below.refl _ _) | (with_reducible assumption) | (with_reducible refine below_drewN ?_ _) | (with_reducible refine Below.alloc ?_ ?_ _) | (with_reducible refine Below.drew ?_) | (with_reducible refine Below.setCell ?_ ?_ _) | go_size))) (by simp) HE.out hG2; have HO2 := Lib.hid hO2; have z2 : w.heap.size < w2.heap.size := (by have := hB2.size; simp at this; omega); have bx := Boxed.new w [.string nm, .slice sa n1 ca, .int .i64 rs, .slice sb n2 cb, c] 51 hB2; have e2 := bx 2 _ rfl; have e3 := bx 3 _ rfl; clear hO2 hG2 bx)) | fail)
    obtain ⟨X, hX⟩ : ∃ X, X = P := ⟨_, rfl⟩
    have HX := Lib.hid (show w2.ownsRow (w.heap.size + 1) 3 1 v2 X.length (iV X) by rw [hX]; exact own_eq2 HO2.out (by rw [HN.out.1]; omega) rfl)
    have HXl := Lib.hid (show X.length ≤ 21 by rw [hX, HN.out.1]; omega)
    rw [← hX] at HD
    have hBX := Lib.hid hB2
    clear hX hB2
    go_loopw [3, 4] (fun o jj wr => ∃ k : Nat, k ≤ n2 ∧ jj = .int .i64 k ∧ Hid (wr.ownsRow (w.heap.size + 1) 3 1 o (X.length + k) (iV (X ++ L.take k))) ∧ Hid (Below (w.heap.size + 1) (w.alloc (.cells #[.string nm, .slice sa n1 ca, .int .i64 rs, .slice sb n2 cb, c] 51)) wr)) (fun _ jj _ => n2 - (intOf jj).toNat)
    case atStart => exact ⟨0, by omega, rfl, Lib.hid (by simpa using HX.out), hBX⟩
    case round =>
      clear z2 e2 e3
      obtain ⟨k, hk, rfl, hO, hBw⟩ := hrel
      have z0 : w.heap.size < wr.heap.size := by have := hBw.out.size; simp at this; omega
      have hB0 : Below w.heap.size w wr := Below.trans (by (repeat' (first | (with_reducible exact Below.refl _ _) | (with_reducible assumption) | (with_reducible refine below_drewN ?_ _) | (with_reducible refine Below.alloc ?_ ?_ _) | (with_reducible refine Below.drew ?_) | (with_reducible refine Below.setCell ?_ ?_ _) | go_size))) (hBw.out.mono (by omega))
      have e3 := Boxed.new w [.string nm, .slice sa n1 ca, .int .i64 rs, .slice sb n2 cb, c] 51 hBw.out 3 _ rfl
      by_cases hlt : k < n2
      · obtain ⟨z, hzq⟩ := get_some (L := L) (n := k) (by have := HN.out.2; omega)
        obtain ⟨b3, off3, rfl, hbw3, hg⟩ := ints_at hls (k := k) (lt_of_get hzq)
        obtain ⟨g0, _⟩ := hg k z hzq
        have g0 := (hB0.cell (p := ⟨b3, off3 + k, none⟩) hbw3).trans g0
        have hts := Lib.hid (take_snoc hzq)
        have hXl := HXl.out
        clear hg hzq
        have Hown := Lib.hid (fun W (hW : Below wr.heap.size wr W) => owns_below hO.out hW)
        generalize hna : X.length = na at *
        go_wp2_with (first | (at_builtin; go_loud (refine wpList_append_src rfl (.tmp 24) (.tmp 30) 35 rfl (w.heap.size + 1) 3 i (.int .i64 0) 1 8 Tryd.underlying35 hi hz hsize hby rfl (by omega) _ (na + k) _ rfl (Hown.out _ (by (repeat' (first | (with_reducible exact Below.refl _ _) | (with_reducible assumption) | (with_reducible refine below_drewN ?_ _) | (with_reducible refine Below.alloc ?_ ?_ _) | (with_reducible refine Below.drew ?_) | (with_reducible refine Below.setCell ?_ ?_ _) | go_size)))) _ 1 [.int .i64 z] rfl (src_new _ _ _) rfl (by intro u hu; simp at hu; rw [hu]; rfl) (by unfold maxLen; omega) (by omega) (by simp; omega) ?_; intro v3 w3 hO3 hG3; have hB3 := Lib.hid (grown3 (Below.trans hBw.out (show Below (w.heap.size + 1) wr (wr.alloc _) from (show Below wr.heap.size wr _ by (repeat' (first | (with_reducible exact Below.refl _ _) | (with_reducible assumption) | (with_reducible refine below_drewN ?_ _) | (with_reducible refine Below.alloc ?_ ?_ _) | (with_reducible refine Below.drew ?_) | (with_reducible refine Below.setCell ?_ ?_ _) | go_size))).mono (by omega))) (by simp; omega) (Hown.out _ (by (repeat' (first | (with_reducible exact Below.refl _ _) | (with_reducible assumption) | (with_reducible refine below_drewN ?_ _) | (with_reducible refine Below.alloc ?_ ?_ _) | (with_reducible refine Below.drew ?_) | (with_reducible refine Below.setCell ?_ ?_ _) | go_size)))) hG3); have HO3 := Lib.hid hO3; clear hO3 hG3)) | fail)
        go_roundw
        case rel => exact ⟨k + 1, by omega, by simp, Lib.hid (own_eq2 HO3.out (by omega) (by simp [hts.out, iV])), hB3⟩
        case measure => first | (simp [intOf]; done) | (simp [intOf]; omega)
      · obtain rfl : k = n2 := by omega
        have hrow := Lib.hid (show wr.ownsRow w.heap.size 3 1 _ (slotsL x).length (iV (slotsL x)) from own_low (own_eq2 hO.out (by rw [HD.out, List.length_append, HN.out.2]) (by rw [HD.out, List.take_of_length_le (by have := HN.out.2; omega)])) (Nat.le_succ _))
        go_wp2_with fail
        go_returns
        exact ⟨_, rfl, hrow.out, HI.out, hB0⟩
  · have q : (rs != 0) = true := by simpa using h0
    rw [if_neg h0] at HD
    clear h0
    go_enter Tryd.func22, Tryd.ntmps22
    have HE := Lib.hid (owns_empty1 w (.cells #[.string nm, .slice sa n1 ca, .int .i64 rs, .slice sb n2 cb, c] 51) 3 1)
    go_wp2_with (first | (at_builtin; go_loud (refine wpList_append_src rfl (.tmp 5) (.tmp 7) 35 rfl (w.heap.size + 1) 3 i (.int .i64 0) 1 8 Tryd.underlying35 hi hz hsize hby rfl (by omega) _ 0 [] rfl HE.out _ n1 (iV P) rfl (HS1.out _ (by (repeat' (first | (with_reducible exact Below.refl _ _) | (with_reducible assumption) | (with_reducible refine below_drewN ?_ _) | (with_reducible refine Below.alloc ?_ ?_ _) | (with_reducible refine Below.drew ?_) | (with_reducible refine Below.setCell ?_ ?_ _) | go_size)))) (by rw [iV_len, HN.out.1]; omega) (iV_one P) (by unfold maxLen; omega) (by omega) (by simp) ?_; intro v2 w2 hO2 hG2; have hB2 := grown3 (show Below (w.heap.size + 1) (w.alloc (.cells #[.string nm, .slice sa n1 ca, .int .i64 rs, .slice sb n2 cb, c] 51)) _ from by (repeat' (first | (with_reducible exact Below.refl _ _) | (with_reducible assumption) | (with_reducible refine below_drewN ?_ _) | (with_reducible refine Below.alloc ?_ ?_ _) | (with_reducible refine Below.drew ?_) | (with_reducible refine Below.setCell ?_ ?_ _) | go_size))) (by simp) HE.out hG2; have HO2 := Lib.hid hO2; have z2 : w.heap.size < w2.heap.size := (by have := hB2.size; simp at this; omega); have bx := Boxed.new w [.string nm, .slice sa n1 ca, .int .i64 rs, .slice sb n2 cb, c] 51 hB2; have e2 := bx 2 _ rfl; have e3 := bx 3 _ rfl; clear hO2 hG2 bx)) | (at_builtin; go_loud (refine wpList_append_src rfl (.tmp 12) (.tmp 15) 35 rfl (w.heap.size + 1) 3 i (.int .i64 0) 1 8 Tryd.underlying35 hi hz hsize hby rfl (by omega) _ n1 _ rfl (owns_below (own_eq2 HO2.out (Nat.zero_add n1) rfl) (by (repeat' (first | (with_reducible exact Below.refl _ _) | (with_reducible assumption) | (with_reducible refine below_drewN ?_ _) | (with_reducible refine Below.alloc ?_ ?_ _) | (with_reducible refine Below.drew ?_) | (with_reducible refine Below.setCell ?_ ?_ _) | go_size)))) _ 1 [.int .i64 rs] rfl (src_new _ _ _) rfl (by intro u hu; simp at hu; rw [hu]; rfl) (by unfold maxLen; omega) (by omega) (by simp; omega) ?_; intro v3 w3 hO3 hG3; have hB3 := grown3 (Below.trans hB2 (show Below (w.heap.size + 1) w2 (w2.alloc _) from (show Below w2.heap.size w2 _ by (repeat' (first | (with_reducible exact Below.refl _ _) | (with_reducible assumption) | (with_reducible refine below_drewN ?_ _) | (with_reducible refine Below.alloc ?_ ?_ _) | (with_reducible refine Below.drew ?_) | (with_reducible refine Below.setCell ?_ ?_ _) | go_size))).mono (by omega))) (by simp; omega) (owns_below (own_eq2 HO2.out (Nat.zero_add n1) rfl) (by (repeat' (first | (with_reducible exact Below.refl _ _) | (with_reducible assumption) | (with_reducible refine below_drewN ?_ _) | (with_reducible refine Below.alloc ?_ ?_ _) | (with_reducible refine Below.drew ?_) | (with_reducible refine Below.setCell ?_ ?_ _) | go_size)))) hG3; have HO3 := Lib.hid hO3; have e3 := Boxed.new w [.string nm, .slice sa n1 ca, .int .i64 rs, .slice sb n2 cb, c] 51 hB3 3 _ rfl; clear hO3 hG3)) | fail)
    obtain ⟨X, hX⟩ : ∃ X, X = P ++ [rs] := ⟨_, rfl⟩
    have HX := Lib.hid (show w3.ownsRow (w.heap.size + 1) 3 1 v3 X.length (iV X) by rw [hX]; exact own_eq2 HO3.out (by simp [HN.out.1]) (by rw [iV_app]; rfl))
    have HXl := Lib.hid (show X.length ≤ 21 by rw [hX, List.length_append, HN.out.1]; simp; omega)
    rw [← hX] at HD
    have hBX := Lib.hid hB3
    clear hX hB2
    go_loopw [3, 4] (fun o jj wr => ∃ k : Nat, k ≤ n2 ∧ jj = .int .i64 k ∧ Hid (wr.ownsRow (w.heap.size + 1) 3 1 o (X.length + k) (iV (X ++ L.take k))) ∧ Hid (Below (w.heap.size + 1) (w.alloc (.cells #[.string nm, .slice sa n1 ca, .int .i64 rs, .slice sb n2 cb, c] 51)) wr)) (fun _ jj _ => n2 - (intOf jj).toNat)
    case atStart => exact ⟨0, by omega, rfl, Lib.hid (by simpa using HX.out), hBX⟩
    case round =>
      clear z2 e2 e3
      obtain ⟨k, hk, rfl, hO, hBw⟩ := hrel
      have z0 : w.heap.size < wr.heap.size := by have := hBw.out.size; simp at this; omega
      have hB0 : Below w.heap.size w wr := Below.trans (by (repeat' (first | (with_reducible exact Below.refl _ _) | (with_reducible assumption) | (with_reducible refine below_drewN ?_ _) | (with_reducible refine Below.alloc ?_ ?_ _) | (with_reducible refine Below.drew ?_) | (with_reducible refine Below.setCell ?_ ?_ _) | go_size))) (hBw.out.mono (by omega))
      have e3 := Boxed.new w [.string nm, .slice sa n1 ca, .int .i64 rs, .slice sb n2 cb, c] 51 hBw.out 3 _ rfl
      by_cases hlt : k < n2
      · obtain ⟨z, hzq⟩ := get_some (L := L) (n := k) (by have := HN.out.2; omega)
        obtain ⟨b3, off3, rfl, hbw3, hg⟩ := ints_at hls (k := k) (lt_of_get hzq)
        obtain ⟨g0, _⟩ := hg k z hzq
        have g0 := (hB0.cell (p := ⟨b3, off3 + k, none⟩) hbw3).trans g0
        have hts := Lib.hid (take_snoc hzq)
        have hXl := HXl.out
        clear hg hzq
        have Hown := Lib.hid (fun W (hW : Below wr.heap.size wr W) => owns_below hO.out hW)
        generalize hna : X.length = na at *
        go_wp2_with (first | (at_builtin; go_loud (refine wpList_append_src rfl (.tmp 24) (.tmp 30) 35 rfl (w.heap.size + 1) 3 i (.int .i64 0) 1 8 Tryd.underlying35 hi hz hsize hby rfl (by omega) _ (na + k) _ rfl (Hown.out _ (by (repeat' (first | (with_reducible exact Below.refl _ _) | (with_reducible assumption) | (with_reducible refine below_drewN ?_ _) | (with_reducible refine Below.alloc ?_ ?_ _) | (with_reducible refine Below.drew ?_) | (with_reducible refine Below.setCell ?_ ?_ _) | go_size)))) _ 1 [.int .i64 z] rfl (src_new _ _ _) rfl (by intro u hu; simp at hu; rw [hu]; rfl) (by unfold maxLen; omega) (by omega) (by simp; omega) ?_; intro v3 w3 hO3 hG3; have hB3 := Lib.hid (grown3 (Below.trans hBw.out (show Below (w.heap.size + 1) wr (wr.alloc _) from (show Below wr.heap.size wr _ by (repeat' (first | (with_reducible exact Below.refl _ _) | (with_reducible assumption) | (with_reducible refine below_drewN ?_ _) | (with_reducible refine Below.alloc ?_ ?_ _) | (with_reducible refine Below.drew ?_) | (with_reducible refine Below.setCell ?_ ?_ _) | go_size))).mono (by omega))) (by simp; omega) (Hown.out _ (by (repeat' (first | (with_reducible exact Below.refl _ _) | (with_reducible assumption) | (with_reducible refine below_drewN ?_ _) | (with_reducible refine Below.alloc ?_ ?_ _) | (with_reducible refine Below.drew ?_) | (with_reducible refine Below.setCell ?_ ?_ _) | go_size)))) hG3); have HO3 := Lib.hid hO3; clear hO3 hG3)) | fail)
        go_roundw
        case rel => exact ⟨k + 1, by omega, by simp, Lib.hid (own_eq2 HO3.out (by omega) (by simp [hts.out, iV])), hB3⟩
        case measure => first | (simp [intOf]; done) | (simp [intOf]; omega)
      · obtain rfl : k = n2 := by omega
        have hrow := Lib.hid (show wr.ownsRow w.heap.size 3 1 _ (slotsL x).length (iV (slotsL x)) from own_low (own_eq2 hO.out (by rw [HD.out, List.length_append, HN.out.2]) (by rw [HD.out, List.take_of_length_le (by have := HN.out.2; omega)])) (Nat.le_succ _))
        go_wp2_with fail
        go_returns
        exact ⟨_, rfl, hrow.out, HI.out, hB0⟩
end Go.Proofs.YtpecpeedefeokaaDoor

/- Layer 17: the scope of a unit, by the program. -/
namespace Go.Proofs.YtpecpeedefeokaaDoor
open Go.RowKit
set_option linter.unusedSimpArgs false
set_option linter.unusedVariables false
def scopeL (p : Pr) (u : Int) : List Int := if 0 ≤ u then ((p.units[u.toNat]?).map slotsL).getD [] else []
def ScopeAt (w : World) (a b c d : Value) (p : Pr) (u : Int) : Prop := RowR 5 varR w a p.vars ∧ RowR 2 blkR w b p.blocks ∧ RowR 2 sigR w c (p.units.map fun x => (x.params, x.result)) ∧ RowR 1 intR w d (scopeL p u)
theorem ScopeAt.below {w w' : World} {a b c d : Value} {p : Pr} {u : Int} (h : ScopeAt w a b c d p u) (hb : Below w.heap.size w w') : ScopeAt w' a b c d p u :=
  ⟨h.1.below varR_stable hb, h.2.1.below blkR_stable hb, h.2.2.1.below sigR_stable hb, h.2.2.2.below intR_stable hb⟩
theorem set4 {w : World} {g : Nat} {t : TypeId} {x0 x1 x2 x3 a b c d : Value} (h : w.heap[g]? = some (.cells #[x0, x1, x2, x3] t)) :
    (w.frozen? ⟨g, 0, none⟩ = false ∧ (w.setCell ⟨g, 0, none⟩ a).frozen? ⟨g, 1, none⟩ = false ∧ ((w.setCell ⟨g, 0, none⟩ a).setCell ⟨g, 1, none⟩ b).frozen? ⟨g, 2, none⟩ = false ∧ (((w.setCell ⟨g, 0, none⟩ a).setCell ⟨g, 1, none⟩ b).setCell ⟨g, 2, none⟩ c).frozen? ⟨g, 3, none⟩ = false) ∧
    (w.cell? ⟨g, 0, none⟩ = some x0 ∧ (w.setCell ⟨g, 0, none⟩ a).cell? ⟨g, 1, none⟩ = some x1 ∧ ((w.setCell ⟨g, 0, none⟩ a).setCell ⟨g, 1, none⟩ b).cell? ⟨g, 2, none⟩ = some x2 ∧ (((w.setCell ⟨g, 0, none⟩ a).setCell ⟨g, 1, none⟩ b).setCell ⟨g, 2, none⟩ c).cell? ⟨g, 3, none⟩ = some x3) ∧
    ((((w.setCell ⟨g, 0, none⟩ a).setCell ⟨g, 1, none⟩ b).setCell ⟨g, 2, none⟩ c).setCell ⟨g, 3, none⟩ d).heap[g]? = some (.cells #[a, b, c, d] t) := by
  have k1 := obj_self (i := 0) (x := a) h
  have k2 := obj_self (i := 1) (x := b) k1
  have k3 := obj_self (i := 2) (x := c) k2
  have k4 := obj_self (i := 3) (x := d) k3
  exact ⟨⟨obj_frozen h 0, obj_frozen k1 1, obj_frozen k2 2, obj_frozen k3 3⟩, ⟨obj_cell h rfl, obj_cell k1 rfl, obj_cell k2 rfl, obj_cell k3 rfl⟩, k4⟩
/-- four cells of a block that no row lies in -/
theorem ScopeO.set {w : World} {B : Nat} {V : List Vr} {K : List Bk} {us : List Un} {L : List Int} {a b c d : Value} {g i : Nat} {C : Array Value} {t : TypeId} {x : Value} (hg : w.heap[g]? = some (.cells C t)) (h1 : 45 ≠ t) (h2 : 47 ≠ t) (h3 : 54 ≠ t) (h4 : 3 ≠ t)
    (h : OwnG 5 45 varR B w a V ∧ OwnG 2 47 blkR B w b K ∧ SigsO B w c us ∧ w.ownsRow B 3 1 d L.length (iV L)) :
    OwnG 5 45 varR B (w.setCell ⟨g, i, none⟩ x) a V ∧ OwnG 2 47 blkR B (w.setCell ⟨g, i, none⟩ x) b K ∧ SigsO B (w.setCell ⟨g, i, none⟩ x) c us ∧ (w.setCell ⟨g, i, none⟩ x).ownsRow B 3 1 d L.length (iV L) :=
  ⟨h.1.set hg h1, h.2.1.set hg h2, h.2.2.1.set hg h4 h3, owns_set h.2.2.2 (own_ne_type h.2.2.2 hg h4)⟩
theorem scope_fin {w : World} {B : Nat} {V : List Vr} {K : List Bk} {us : List Un} {L : List Int} {a b c d : Value} {g : Nat} {x0 x1 x2 x3 y0 y1 y2 y3 : Value} (hg : w.heap[g]? = some (.cells #[x0, x1, x2, x3] 37))
    (h : OwnG 5 45 varR B w a V ∧ OwnG 2 47 blkR B w b K ∧ SigsO B w c us ∧ w.ownsRow B 3 1 d L.length (iV L)) (W : World) (hW : W = (((w.setCell ⟨g, 0, none⟩ y0).setCell ⟨g, 1, none⟩ y1).setCell ⟨g, 2, none⟩ y2).setCell ⟨g, 3, none⟩ y3) :
    OwnG 5 45 varR B W a V ∧ OwnG 2 47 blkR B W b K ∧ SigsO B W c us ∧ W.ownsRow B 3 1 d L.length (iV L) := by
  subst hW
  have k1 := obj_self (i := 0) (x := y0) hg
  have k2 := obj_self (i := 1) (x := y1) k1
  have k3 := obj_self (i := 2) (x := y2) k2
  exact ScopeO.set k3 (by decide) (by decide) (by decide) (by decide) (ScopeO.set k2 (by decide) (by decide) (by decide) (by decide) (ScopeO.set k1 (by decide) (by decide) (by decide) (by decide) (ScopeO.set hg (by decide) (by decide) (by decide) (by decide) h)))
theorem scope_at {w : World} {B : Nat} {p : Pr} {u : Int} {L : List Int} {a b c d : Value} (h : OwnG 5 45 varR B w a p.vars ∧ OwnG 2 47 blkR B w b p.blocks ∧ SigsO B w c p.units ∧ w.ownsRow B 3 1 d L.length (iV L)) (hL : scopeL p u = L) (hI : ∀ x ∈ p.units, ∀ z ∈ x.params, I64 z) (hz : ∀ z ∈ L, I64 z) : ScopeAt w a b c d p u := by
  obtain ⟨h1, h2, ⟨U, h3, h4⟩, h5⟩ := h
  subst hL
  exact ⟨h1.row, h2.row, sigs_row rfl h3 h4 hI, row_of_owns h5 hz⟩
end Go.Proofs.YtpecpeedefeokaaDoor
