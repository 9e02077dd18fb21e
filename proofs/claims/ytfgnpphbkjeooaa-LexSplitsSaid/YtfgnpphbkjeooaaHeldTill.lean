/- A region that draws its order: a condition on the world that hangs on what has been carried out: loads may be taken first, of cells that a store of the same region writes later. -/
import Derived.Test.YtfgnpphbkjeooaaRow
import Derived.Deep.RegionHeld3
namespace Go.Proofs.Ytfgnpphbkjeooaa
open Go.RowKit
section
variable {P : Program} {ops : Array Oper} {Q : Exit → Act → World → Prop} {md : Region.Mode} {S : Array Bool → World → Prop}
/-- whatever comes up next; S holds behind each operation, of what has come up by then -/
def wpTill (P : Program) (md : Region.Mode) (ops : Array Oper) (Q : Exit → Act → World → Prop) (S : Array Bool → World → Prop) : Nat → Array Bool → Act → World → Prop
  | 0, L, a, w => Region.ready md ops L = [] ∧ Q .normal a w
  | n + 1, L, a, w => (Region.ready md ops L = [] → Q .normal a w) ∧
    ∀ i ∈ Region.ready md ops L, wpOp P ops Q i (fun b v => S (L.setIfInBounds i true) v ∧ wpTill P md ops Q S n (L.setIfInBounds i true) b v) a w
theorem till_any : ∀ (n : Nat) (L : Array Bool) (a : Act) (w : World), wpTill P md ops Q S n L a w → wpAny P md ops Q n L a w
  | 0, _, _, _, h => h
  | n + 1, _, _, _, h => ⟨h.1, fun i hi => wpOp_mono (fun b v k => till_any n _ b v k.2) (h.2 i hi)⟩
theorem till_first {i z : Nat} {oi : Oper} {u : Value} {T : World → Prop} (hi : ops[i]? = some oi) (hsel : ∀ (j : Nat) (o : Oper) cs b, ops[j]? = some o → o.op ≠ .select cs b)
    (hQ : ∀ c a w, Q (.panic c) (a.put oi.dst u) w → Q (.panic c) a w) (hz : ∀ oz, ops[z]? = some oz → ∃ e ∈ oz.after, Region.binds md e = true ∧ e.on = i) (hiz : i ≠ z)
    (hT : ∀ L v, L.getD z true = false → S L v → T v) (hS2 : ∀ L v, S (L.setIfInBounds i true) v ↔ S L v) :
    ∀ (n : Nat) (L : Array Bool) (a : Act) (w : World),
      (∀ j oj, ops[j]? = some oj → j ≠ i → L.getD j true = false → (∀ e ∈ oj.after, Region.binds md e = true → e.on ≠ i) → oi.apart ops oj = true) →
      i ∈ Region.ready md ops L → YieldsIf P ops T oi u a → L.getD z true = false → S L w →
      wpTill P md ops Q S n (L.setIfInBounds i true) (a.put oi.dst u) w → wpTill P md ops Q S (n + 1) L a w := by
  intro n
  induction n with
  | zero =>
    intro L a w _ hr hy hL hS H
    refine ⟨fun h => (by rw [h] at hr; cases hr), fun j hj => ?_⟩
    by_cases hji : j = i
    · subst hji; exact hy.wpOp hi (hT L w hL hS) ⟨(hS2 L w).2 hS, H⟩
    · have := ready_mono hj hji
      rw [H.1] at this
      cases this
  | succ n ih =>
    intro L a w hfree hr hy hL hS H
    refine ⟨fun h => (by rw [h] at hr; cases hr), fun j hj => ?_⟩
    by_cases hji : j = i
    · subst hji; exact hy.wpOp hi (hT L w hL hS) ⟨(hS2 L w).2 hS, H⟩
    · have hK := H.2 j (ready_mono hj hji)
      obtain ⟨hun, oj, hoj, hall⟩ := mem_ready.1 hj
      have hiun := (mem_ready.1 hr).1
      have hwait : ∀ e ∈ oj.after, Region.binds md e = true → e.on ≠ i := fun e he hb heq => by
        have h1 := hall e he hb
        rw [heq] at h1
        rcases Nat.lt_or_ge i L.size with h' | h'
        · simp [h'] at hiun h1; rw [hiun] at h1; cases h1
        · simp [Array.getElem?_eq_none h'] at h1
      have hjz : j ≠ z := by
        rintro rfl
        obtain ⟨e, he, hb, heq⟩ := hz oj hoj
        exact hwait e he hb heq
      have h2 := wpOp_putIf hoj (hfree j oj hoj hji hun hwait) (fun cs b => hsel i oi cs b hi) (fun cs b => hsel j oj cs b hoj) hQ hy hK
      refine wpOp_mono (fun b v k => ?_) h2
      have hSv : S (L.setIfInBounds j true) v := (hS2 _ v).1 (by
        have := k.2.1
        rw [Array.setIfInBounds_comm _ _ (Ne.symm hji)] at this
        exact this)
      have hzL : (L.setIfInBounds j true).getD z true = false := by rw [getD_set_ne true hjz]; exact hL
      refine ⟨hSv, ih (L.setIfInBounds j true) b v (fun k' ok hk hki hu hno => hfree k' ok hk hki (by
          by_cases hjk : j = k'
          · subst hjk; exact hun
          · rw [getD_set_ne true hjk] at hu; exact hu) hno) (ready_mono hr (Ne.symm hji)) k.1 hzL hSv ?_⟩
      rw [Array.setIfInBounds_comm _ _ hji]
      exact k.2.2
/-- does number z wait for number i? -/
def waits (md : Region.Mode) (ops : Array Oper) (z i : Nat) : Bool := match ops[z]? with
  | some oz => oz.after.any fun e => Region.binds md e && e.on == i
  | none => true
theorem waits_spec {z i : Nat} (h : waits md ops z i = true) : ∀ oz, ops[z]? = some oz → ∃ e ∈ oz.after, Region.binds md e = true ∧ e.on = i := by
  intro oz ho
  unfold waits at h
  rw [ho] at h
  simp only [Array.any_eq_true, Bool.and_eq_true, beq_iff_eq] at h
  obtain ⟨k, hk, h1, h2⟩ := h
  exact ⟨_, Array.getElem_mem hk, h1, h2⟩
theorem till_take (z : Nat) (T : World → Prop) {i : Nat} {oi : Oper} {u : Value} {n : Nat} {L : Array Bool} {a : Act} {w : World} (hi : ops[i]? = some oi)
    (hs : Region.noSelect ops = true) (hf : Region.free md ops L i = true) (hr : (Region.ready md ops L).contains i = true) (hz : waits md ops z i = true) (hL : L.getD z true = false) (hiz : i ≠ z)
    (hT : ∀ L v, L.getD z true = false → S L v → T v) (hS2 : ∀ L v, S (L.setIfInBounds i true) v ↔ S L v)
    (hQ : ∀ c a w, Q (.panic c) (a.put oi.dst u) w → Q (.panic c) a w) (hy : YieldsIf P ops T oi u a) (hS : S L w)
    (h : S (L.setIfInBounds i true) w → wpTill P md ops Q S n (L.setIfInBounds i true) (a.put oi.dst u) w) : wpTill P md ops Q S (n + 1) L a w :=
  till_first hi (Region.noSelect_spec hs) hQ (waits_spec hz) hiz hT hS2 n L a w (Region.free_spec hi hf) (by simpa using hr) hy hL hS (h ((hS2 L w).2 hS))
/-- one alone may come up next -/
theorem till_one {i : Nat} {o : Oper} {n : Nat} {L : Array Bool} {a : Act} {w : World} (hr : Region.ready md ops L = [i]) (ho : ops[i]? = some o)
    (h : ∀ K' : Act → World → Prop, Shut (∀ b v, S (L.setIfInBounds i true) v → (S (L.setIfInBounds i true) v → wpTill P md ops Q S n (L.setIfInBounds i true) b v) → K' b v) →
      if Region.wanted o (yielded ops a.tmps) = true then Oper.wp P o a w K' Q else K' (a.put o.dst undef) w) : wpTill P md ops Q S (n + 1) L a w := by
  refine ⟨fun h0 => (by rw [hr] at h0; cases h0), fun j hj => ?_⟩
  rw [hr] at hj
  obtain rfl := List.mem_singleton.1 hj
  exact wpOp_step ho fun K' hK => h K' fun b v hS hW => hK b v ⟨hS, hW hS⟩
theorem till_done {L : Array Bool} {a : Act} {w : World} (hr : Region.ready md ops L = []) (h : Q .normal a w) : ∀ n, wpTill P md ops Q S n L a w
  | 0 => ⟨hr, h⟩
  | _ + 1 => ⟨fun _ => h, by rw [hr]; simp⟩
theorem wp_region_till {id : Nat} {a : Act} {w : World} (hm : P.follows .mixedOrders = true) (hS : S (Array.replicate ops.size false) w.drew)
    (h : S (Array.replicate ops.size false) w.drew → wpTill P .any ops Q S ops.size (Array.replicate ops.size false) a w.drew) : (Code.region id ops true).wp P Q a w :=
  wp_region_any hm (till_any _ _ _ _ (h hS))
end
end Go.Proofs.Ytfgnpphbkjeooaa
