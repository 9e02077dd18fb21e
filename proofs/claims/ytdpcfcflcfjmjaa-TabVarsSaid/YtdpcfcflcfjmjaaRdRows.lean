/- Layer 14: tables as plain lists: what is read of any bytes. -/
import Derived.Test.YtdpcfcflcfjmjaaRefNum
import Derived.Test.YtdpcfcflcfjmjaaPgm
namespace Go.Proofs.Ytdpcfcflcfjmjaa
open Go.RowKit
set_option linter.unusedSimpArgs false
set_option linter.unusedVariables false
/-- m rows, one behind the other -/
def rRows {R : Type} (row : Nat → Bool → R × Nat × Bool) : Nat → Nat → Bool → List R × Nat × Bool
  | 0, n, b => ([], n, b)
  | m + 1, n, b => ((rRows row m n b).1 ++ [(row (rRows row m n b).2.1 (rRows row m n b).2.2).1], (row (rRows row m n b).2.1 (rRows row m n b).2.2).2)
/-- what a table's bytes are read as -/
def getR {R : Type} (row : Nat → Bool → R × Nat × Bool) (limit : Int) (L : List UInt8) : List R × Int :=
  if (rNum L 2 0 false).2.2 = true then ([], 1) else if limit < (rNum L 2 0 false).1 then ([], 5) else
  if (rRows row (rNum L 2 0 false).1.toNat (rNum L 2 0 false).2.1 (rNum L 2 0 false).2.2).2.2 = true then ([], 1) else
  if 0 < leftOf L (rRows row (rNum L 2 0 false).1.toNat (rNum L 2 0 false).2.1 (rNum L 2 0 false).2.2).2.1 (rRows row (rNum L 2 0 false).1.toNat (rNum L 2 0 false).2.1 (rNum L 2 0 false).2.2).2.2 then ([], 4) else
  ((rRows row (rNum L 2 0 false).1.toNat (rNum L 2 0 false).2.1 (rNum L 2 0 false).2.2).1, 0)
theorem rRows_len {R : Type} (row : Nat → Bool → R × Nat × Bool) : ∀ m n b, (rRows row m n b).1.length = m
  | 0, n, b => rfl
  | m + 1, n, b => by simp [rRows, rRows_len row m n b]
/-- a row that reads what enc puts -/
structure Reads {R : Type} (row : List UInt8 → Nat → Bool → R × Nat × Bool) (enc : R → List UInt8) (ok : R → Bool) (good : R → Prop) : Prop where
  bad : ∀ L n, n ≤ L.length → (row L n true).2.2 = true
  at' : ∀ L n b, n ≤ L.length → n ≤ (row L n b).2.1 ∧ (row L n b).2.1 ≤ L.length
  fine : ∀ L n b, n ≤ L.length → L.length ≤ 100000000 → good (row L n b).1
  back : ∀ L n x T, ok x = true → good x → L.drop n = enc x ++ T → n ≤ L.length → row L n false = (x, n + (enc x).length, false)
  forth : ∀ L n, n ≤ L.length → (row L n false).2.2 = false → ok (row L n false).1 = true ∧ L.drop n = enc (row L n false).1 ++ L.drop (row L n false).2.1 ∧ (row L n false).2.1 = n + (enc (row L n false).1).length
theorem Reads.rows {R : Type} {row : List UInt8 → Nat → Bool → R × Nat × Bool} {enc : R → List UInt8} {ok : R → Bool} {good : R → Prop} (h : Reads row enc ok good) (L : List UInt8) (hL : L.length ≤ 100000000) : ∀ m n b, n ≤ L.length →
    n ≤ (rRows (row L) m n b).2.1 ∧ (rRows (row L) m n b).2.1 ≤ L.length ∧ (b = true → (rRows (row L) m n b).2.2 = true) ∧ ∀ x ∈ (rRows (row L) m n b).1, good x
  | 0, n, b, hn => ⟨Nat.le_refl _, hn, fun h => h, fun x hx => by simp [rRows] at hx⟩
  | m + 1, n, b, hn => by
    obtain ⟨h1, h2, h3, h4⟩ := h.rows L hL m n b hn
    obtain ⟨k1, k2⟩ := h.at' L (rRows (row L) m n b).2.1 (rRows (row L) m n b).2.2 h2
    refine ⟨Nat.le_trans h1 k1, k2, fun hb => ?_, fun x hx => ?_⟩
    · have := h3 hb
      show (row L (rRows (row L) m n b).2.1 (rRows (row L) m n b).2.2).2.2 = true
      rw [this]; exact h.bad L _ h2
    · rcases List.mem_append.1 hx with hx | hx
      · exact h4 x hx
      · rw [List.mem_singleton.1 hx]; exact h.fine L _ _ h2 hL
theorem drop_enc {L A T : List UInt8} {n : Nat} (h : L.drop n = A ++ T) (hn : n ≤ L.length) : L.drop (n + A.length) = T ∧ n + A.length ≤ L.length := by
  have hl := congrArg List.length h
  simp at hl
  refine ⟨?_, by omega⟩
  rw [← List.drop_drop, h]; exact List.drop_left' rfl
theorem Reads.rows_back {R : Type} {row : List UInt8 → Nat → Bool → R × Nat × Bool} {enc : R → List UInt8} {ok : R → Bool} {good : R → Prop} (h : Reads row enc ok good) (L : List UInt8) (l : List R) (n : Nat) (T : List UInt8) (hx : ∀ x ∈ l, ok x = true ∧ good x) (hd : L.drop n = l.flatMap enc ++ T) (hn : n ≤ L.length) :
    ∀ m, m ≤ l.length → rRows (row L) m n false = (l.take m, n + ((l.take m).flatMap enc).length, false)
  | 0, _ => by simp [rRows]
  | m + 1, hm => by
    have ih := h.rows_back L l n T hx hd hn m (by omega)
    obtain ⟨x, hxm⟩ : ∃ x, l[m]? = some x := get_some (by omega)
    have hts := take_snoc hxm
    have hmem := hx x (List.mem_of_getElem? hxm)
    have hsplit : l.flatMap enc ++ T = (l.take m).flatMap enc ++ (enc x ++ ((l.drop (m + 1)).flatMap enc ++ T)) := by
      have : l = l.take m ++ (x :: l.drop (m + 1)) := by
        have h1 := (List.take_append_drop (m + 1) l).symm
        rw [hts] at h1
        simpa using h1
      conv => lhs; rw [this]
      simp
    rw [hsplit] at hd
    obtain ⟨d1, d2⟩ := drop_enc hd hn
    have hb := h.back L _ x _ hmem.1 hmem.2 d1 d2
    simp only [rRows, ih, hb]
    rw [hts]
    simp [Nat.add_assoc]
theorem Reads.rows_forth {R : Type} {row : List UInt8 → Nat → Bool → R × Nat × Bool} {enc : R → List UInt8} {ok : R → Bool} {good : R → Prop} (h : Reads row enc ok good) (L : List UInt8) (hL : L.length ≤ 100000000) (n : Nat) (hn : n ≤ L.length) : ∀ m, (rRows (row L) m n false).2.2 = false →
    (∀ x ∈ (rRows (row L) m n false).1, ok x = true) ∧ L.drop n = (rRows (row L) m n false).1.flatMap enc ++ L.drop (rRows (row L) m n false).2.1
  | 0, _ => by simp [rRows]
  | m + 1, hb => by
    obtain ⟨h1, h2, h3, h4⟩ := h.rows L hL m n false hn
    have hb0 : (rRows (row L) m n false).2.2 = false := by
      cases hc : (rRows (row L) m n false).2.2
      · rfl
      · have hb' : (row L (rRows (row L) m n false).2.1 (rRows (row L) m n false).2.2).2.2 = false := hb
        rw [hc, h.bad L _ h2] at hb'
        cases hb'
    obtain ⟨k1, k2⟩ := h.rows_forth L hL n hn m hb0
    have hb' : (row L (rRows (row L) m n false).2.1 (rRows (row L) m n false).2.2).2.2 = false := hb
    rw [hb0] at hb'
    obtain ⟨f1, f2, f3⟩ := h.forth L _ h2 hb'
    have e : rRows (row L) (m + 1) n false = ((rRows (row L) m n false).1 ++ [(row L (rRows (row L) m n false).2.1 false).1], (row L (rRows (row L) m n false).2.1 false).2) := by
      simp only [rRows, hb0]
    rw [e]
    refine ⟨fun x hx => ?_, ?_⟩
    · rcases List.mem_append.1 hx with hx | hx
      · exact k1 x hx
      · rw [List.mem_singleton.1 hx]; exact f1
    · rw [k2, f2]; simp
theorem numV_put2 (n : Nat) (h : n < 65536) : numV (putL 2 n) = (n : Int) := by
  unfold numV
  rw [leV_putL n 2 (by omega)]
  unfold wrap64
  omega
theorem leV_inj : ∀ {A B : List UInt8}, A.length = B.length → leV A = leV B → A = B
  | [], [], _, _ => rfl
  | [], _ :: _, h, _ => by simp at h
  | _ :: _, [], h, _ => by simp at h
  | c :: A, d :: B, h, e => by
    have hc := c.toNat_lt
    have hd := d.toNat_lt
    simp only [leV] at e
    have h1 : c.toNat = d.toNat := by omega
    have h2 : leV A = leV B := by omega
    rw [leV_inj (by simpa using h) h2, UInt8.toNat_inj.1 h1]
theorem putL_num2 {B : List UInt8} (h : B.length = 2) : putL 2 (numV B) = B := by
  match B, h with
  | [c, d], _ =>
    have hc := c.toNat_lt
    have hd := d.toNat_lt
    have h4 : numV [c, d] = (c.toNat : Int) + 256 * (d.toNat : Int) := by unfold numV wrap64; simp only [leV]; omega
    rw [h4]
    have e1 : putL 2 ((c.toNat : Int) + 256 * (d.toNat : Int)) = [byteAt ((c.toNat : Int) + 256 * (d.toNat : Int)) 0, byteAt ((c.toNat : Int) + 256 * (d.toNat : Int)) 1] := rfl
    rw [e1]
    have b0 := byteAt_val ((c.toNat : Int) + 256 * (d.toNat : Int)) 0
    have b1 := byteAt_val ((c.toNat : Int) + 256 * (d.toNat : Int)) 1
    have p0 : (2 : Int) ^ (8 * 0) = 1 := by decide
    have p1 : (2 : Int) ^ (8 * 1) = 256 := by decide
    rw [p0] at b0
    rw [p1] at b1
    have f0 : (byteAt ((c.toNat : Int) + 256 * (d.toNat : Int)) 0) = c := UInt8.toNat_inj.1 (by omega)
    have f1 : (byteAt ((c.toNat : Int) + 256 * (d.toNat : Int)) 1) = d := UInt8.toNat_inj.1 (by omega)
    rw [f0, f1]
theorem getR_eq {R : Type} {row : Nat → Bool → R × Nat × Bool} {limit : Int} {L : List UInt8} {c : Int} {n n' : Nat} {l : List R} (h1 : rNum L 2 0 false = (c, n, false)) (h2 : ¬ limit < c) (h3 : rRows row c.toNat n false = (l, n', false)) (h4 : ¬ 0 < leftOf L n' false) : getR row limit L = (l, 0) := by
  unfold getR
  rw [h1]
  dsimp only
  rw [h3, if_neg (by simp), if_neg h2]
  dsimp only
  rw [if_neg (by simp), if_neg h4]
theorem gb_num {L B : List UInt8} {n : Nat} (h2 : n < 65536) (hL : putL 2 n ++ B = L) : rNum L 2 0 false = ((n : Int), 2, false) := by
  have hp : (putL 2 (n : Int)).length = 2 := putL_len 2 _
  have hlen : L.length = 2 + B.length := by rw [← hL, List.length_append, hp]
  have ht : (L.drop 0).take 2 = putL 2 n := by rw [← hL, List.drop_zero]; exact List.take_left' hp
  have h0 : 0 + 2 ≤ L.length := by omega
  have hT := rTake_ok h0
  unfold rNum
  rw [hT, ht, numV_put2 _ h2]
theorem Reads.get_back {R : Type} {row : List UInt8 → Nat → Bool → R × Nat × Bool} {enc : R → List UInt8} {ok : R → Bool} {good : R → Prop} (h : Reads row enc ok good) (limit : Nat) (l : List R) (L : List UInt8) (hL : putL 2 l.length ++ l.flatMap enc = L) (hl : l.length ≤ limit) (h2 : l.length < 65536) (hx : ∀ x ∈ l, ok x = true ∧ good x) :
    getR (row L) limit L = (l, 0) := by
  have hn := gb_num h2 hL
  have hp : (putL 2 (l.length : Int)).length = 2 := putL_len 2 _
  have hlen : L.length = 2 + (l.flatMap enc).length := by rw [← hL, List.length_append, hp]
  have hd : L.drop 2 = l.flatMap enc ++ [] := by rw [← hL, List.append_nil]; exact List.drop_left' hp
  have hr := h.rows_back L l 2 [] hx hd (by omega) l.length (Nat.le_refl _)
  rw [List.take_length] at hr
  have e1 : ¬ ((limit : Int) < (l.length : Int)) := by omega
  have e2 : ¬ 0 < leftOf L (2 + (l.flatMap enc).length) false := by
    unfold leftOf
    rw [if_neg (by simp)]
    omega
  exact getR_eq hn e1 hr e2
theorem getR_cases {R : Type} {row : Nat → Bool → R × Nat × Bool} {limit : Int} {L : List UInt8} (h : (getR row limit L).2 = 0) :
    ∃ c n l n', rNum L 2 0 false = (c, n, false) ∧ ¬ limit < c ∧ rRows row c.toNat n false = (l, n', false) ∧ ¬ 0 < leftOf L n' false ∧ getR row limit L = (l, 0) := by
  obtain ⟨A, hA⟩ : ∃ A, rNum L 2 0 false = A := ⟨_, rfl⟩
  obtain ⟨c, n, b⟩ := A
  cases b
  · by_cases h2 : limit < c
    · exfalso
      unfold getR at h
      rw [hA] at h
      dsimp only at h
      rw [if_neg (by simp), if_pos h2] at h
      simp at h
    · obtain ⟨Y, hY⟩ : ∃ Y, rRows row c.toNat n false = Y := ⟨_, rfl⟩
      obtain ⟨l, n', b'⟩ := Y
      cases b'
      · by_cases h4 : 0 < leftOf L n' false
        · exfalso
          unfold getR at h
          rw [hA] at h
          dsimp only at h
          rw [hY, if_neg (by simp), if_neg h2] at h
          dsimp only at h
          rw [if_neg (by simp), if_pos h4] at h
          simp at h
        · exact ⟨c, n, l, n', hA, h2, hY, h4, getR_eq hA h2 hY h4⟩
      · exfalso
        unfold getR at h
        rw [hA] at h
        dsimp only at h
        rw [hY, if_neg (by simp), if_neg h2] at h
        dsimp only at h
        rw [if_pos rfl] at h
        simp at h
  · exfalso
    unfold getR at h
    rw [hA] at h
    dsimp only at h
    rw [if_pos rfl] at h
    simp at h
theorem numV2 {B : List UInt8} (h : B.length = 2) : ∃ k : Nat, numV B = k ∧ putL 2 (k : Int) = B := by
  have h1 := putL_num2 h
  have h2 := leV_lt B
  rw [h] at h2
  have h3 : numV B = (leV B : Int) := by
    unfold numV wrap64
    generalize leV B = x at *
    omega
  exact ⟨leV B, h3, by rw [← h3]; exact h1⟩
theorem num2 {L : List UInt8} {c : Int} {n : Nat} {b : Bool} (h : rNum L 2 0 false = (c, n, b)) (hb : b = false) : 2 ≤ L.length ∧ n = 2 ∧ c = numV (L.take 2) := by
  by_cases hz : 0 + 2 ≤ L.length
  · have hT := rTake_ok hz
    have h1 : rNum L 2 0 false = (numV (L.take 2), 2, false) := by
      unfold rNum
      rw [hT, List.drop_zero]
    rw [h1] at h
    have e1 := congrArg Prod.fst h
    have e2 := congrArg (fun p => p.2.1) h
    exact ⟨by omega, e2.symm, e1.symm⟩
  · exfalso
    have h1 : rNum L 2 0 false = (numV [], 0, true) := by
      unfold rNum
      rw [rTake_fail (by omega)]
    rw [h1] at h
    have e2 := congrArg (fun p => p.2.2) h
    have e3 : true = b := e2
    rw [hb] at e3
    cases e3
theorem Reads.get_forth {R : Type} {row : List UInt8 → Nat → Bool → R × Nat × Bool} {enc : R → List UInt8} {ok : R → Bool} {good : R → Prop} (h : Reads row enc ok good) (limit : Nat) (L : List UInt8) (hL : L.length ≤ 100000000) (he : (getR (row L) limit L).2 = 0) :
    (getR (row L) limit L).1.length ≤ limit ∧ (∀ x ∈ (getR (row L) limit L).1, ok x = true) ∧ putL 2 (getR (row L) limit L).1.length ++ (getR (row L) limit L).1.flatMap enc = L := by
  obtain ⟨c, n, l, n', h1, h2, h3, h4, h5⟩ := getR_cases he
  obtain ⟨hz, hn, hc⟩ := num2 h1 rfl
  obtain ⟨k, hk, hp⟩ := numV2 (show (L.take 2).length = 2 by rw [List.length_take]; omega)
  rw [hk] at hc
  subst hc
  subst hn
  rw [h5]
  rw [Int.toNat_natCast] at h3
  have hb2 : (rRows (row L) k 2 false).2.2 = false := by rw [h3]
  obtain ⟨f1, f2⟩ := h.rows_forth L hL 2 hz _ hb2
  obtain ⟨_, r2, _, _⟩ := h.rows L hL k 2 false hz
  have hlen := rRows_len (row L) k 2 false
  rw [h3] at f1 f2 r2 hlen
  dsimp only at f1 f2 r2 hlen ⊢
  have hend : n' = L.length := by
    unfold leftOf at h4
    rw [if_neg (by simp)] at h4
    omega
  rw [hend, List.drop_length, List.append_nil] at f2
  refine ⟨by omega, f1, ?_⟩
  rw [hlen, ← f2, hp, List.take_append_drop]
end Go.Proofs.Ytdpcfcflcfjmjaa
