/- Merged texts: RefTake, RefNum, RdRows, RdBase, TabB. -/
import Derived.Test.YtjikkipdmonndaaDoorMg1
import Derived.Test.YtjikkipdmonndaaDoorMg0
/- Layer 3: the reference's reader: Take. -/
namespace Go.Proofs.YtjikkipdmonndaaDoor
open Go.RowKit
set_option linter.unusedSimpArgs false
set_option linter.unusedVariables false
theorem set_two {w : World} {g : Nat} {C : Array Value} {t : TypeId} {fr : Nat × Nat} (h : w.heap[g]? = some (.cells C t fr)) (i j : Nat) (u v : Value) :
    ((w.setCell ⟨g, i, none⟩ u).setCell ⟨g, j, none⟩ v).heap[g]? = some (.cells ((C.setIfInBounds i u).setIfInBounds j v) t fr) ∧ w.grownBy ((w.setCell ⟨g, i, none⟩ u).setCell ⟨g, j, none⟩ v) (some g) := by
  obtain ⟨k1, k2⟩ := set_at h i u 0
  obtain ⟨l1, l2⟩ := set_at k1 j v 0
  exact ⟨l1, grown_grown k2 l2⟩
theorem byteV_drop (L : List UInt8) (n i : Nat) : byteV (L.drop n) i = byteV L (n + i) := by simp [byteV, List.getD]
theorem byteV_take {L : List UInt8} {m i : Nat} (h : i < m) : byteV (L.take m) i = byteV L i := by simp [byteV, List.getD, h]
theorem ref_Take_ok (g q : Nat) (L : List UInt8) (n m : Nat) (w : World) (h : RfAt w g q L n false) (hm : n + m ≤ L.length) :
    Calls Tryd.prog 80 #[.pointer (some ⟨g, 0, none⟩), .int .i64 (m : Int)] w fun e w' => ∃ r, e = .returned r ∧ RowAt w' r m (byteV ((L.drop n).take m)) ∧ inBlk r q ∧ RfAt w' g q L (n + m) false ∧ w.grownBy w' (some g) := by
  obtain ⟨rv, hg, hr, hi, hq, hn, hL⟩ := h
  have c0 := cell_of hg 0 rfl
  have c1 := cell_of hg 1 rfl
  have c2 := cell_of hg 2 rfl
  have f0 := free_of hg 0
  have f1 := free_of hg 1
  have HG := Lib.hid hg
  have e1 : decide ((m : Int) < 0) = false := by simp
  have HI := Lib.hid hi
  clear hg hi
  rcases hr with ⟨p, cap, rfl, h0, hcn⟩ | ⟨b, off, cap, rfl, h1, h2, h3, h4, hc⟩
  · obtain rfl : m = 0 := by omega
    have HC := Lib.hid hcn
    clear hcn
    go_enter Tryd.func80, Tryd.ntmps80
    go_wp2_with fail
    go_ret
    obtain ⟨k1, k2⟩ := set_two HG.out 0 1 (.slice p 0 cap) (.int .i64 n)
    exact ⟨_, rfl, Or.inl ⟨_, _, rfl, rfl, HC.out⟩, HI.out, ⟨_, k1, Or.inl ⟨_, _, rfl, by omega, HC.out⟩, HI.out, hq, hm, hL⟩, k2⟩
  · have e2 : decide (((L.length - n : Nat) : Int) < m) = false := by simp; omega
    have e3 : ¬ (L.length - n < m) := by omega
    have e4 : (L.length - n) - m = L.length - (n + m) := by omega
    have HQ := Lib.hid (show b = q from HI.out _ _ _ rfl h1)
    have hlt : b < w.heap.size := h4
    have HX := Lib.hid (fun w' (hb : w.grownBy w' (some g)) i (hi : i < L.length - n) => (hb.cell (hc i hi) (by have := HQ.out; simp; omega)))
    have hcap3 : cap ≤ 9223372036854775807 := by unfold maxLen at h3; omega
    clear hc
    have HI2 := Lib.hid (fun o n c => (show inBlk (.slice (some ⟨b, o, none⟩) n c) q by intro a n' c' h _; have := HQ.out; injection h with h1; injection h1 with h1; subst h1; exact this))
    have HM := Lib.hid (fun w' (hb : w.grownBy w' (some g)) c (hc : m ≤ c) (hcl : c ≤ maxLen) => (show RowAt w' (.slice (some ⟨b, off, none⟩) m c) m (byteV ((L.drop n).take m)) by
      by_cases h0 : m = 0
      · subst h0; exact Or.inl ⟨_, _, rfl, rfl, fun h => by cases h⟩
      · exact Or.inr ⟨b, off, c, rfl, by omega, hc, hcl, Nat.lt_of_lt_of_le hlt hb.size, fun i hi => by rw [byteV_take hi]; exact HX.out w' hb i (by omega)⟩))
    have hcap : cap = m ∨ m < cap := by omega
    rcases hcap with rfl | hcap
    · go_enter Tryd.func80, Tryd.ntmps80
      go_wp2_with fail
      go_ret
      obtain ⟨k1, k2⟩ := set_two HG.out 0 1 (.slice (some ⟨b, off, none⟩) (L.length - (n + cap)) 0) (.int .i64 (n + cap))
      have e5 : L.length - (n + cap) = 0 := by omega
      exact ⟨_, rfl, HM.out _ k2 _ (Nat.le_refl _) h3, HI2.out _ _ _, ⟨_, by rw [← Int.natCast_add] at k1; exact k1, Or.inl ⟨_, 0, by rw [e5], e5, fun h => by cases h⟩, HI2.out _ _ _, hq, hm, hL⟩, k2⟩
    · have hcap2 : ¬ cap = m := by omega
      go_enter Tryd.func80, Tryd.ntmps80
      go_wp2_with fail
      go_ret
      obtain ⟨k1, k2⟩ := set_two HG.out 0 1 (.slice (some ⟨b, off + m, none⟩) (L.length - (n + m)) (cap - m)) (.int .i64 (n + m))
      refine ⟨_, rfl, HM.out _ k2 _ (by omega) (by omega), HI2.out _ _ _, ⟨_, by rw [← Int.natCast_add] at k1; exact k1, ?_, HI2.out _ _ _, hq, hm, hL⟩, k2⟩
      by_cases h0 : L.length - (n + m) = 0
      · rw [h0]; exact Or.inl ⟨_, _, rfl, rfl, fun h => by cases h⟩
      · exact Or.inr ⟨b, off + m, cap - m, rfl, by omega, by omega, by omega, Nat.lt_of_lt_of_le hlt k2.size, fun i hi => by rw [byteV_drop, Nat.add_assoc, Nat.add_assoc, ← byteV_drop]; exact HX.out _ k2 (m + i) (by omega)⟩
end Go.Proofs.YtjikkipdmonndaaDoor

/- Layer 3: the reference's reader in any state: Take, Num, Text, Left. -/
namespace Go.Proofs.YtjikkipdmonndaaDoor
open Go.RowKit
set_option linter.unusedSimpArgs false
set_option linter.unusedVariables false
theorem inBlk_none (q : Nat) : inBlk (.slice none 0 0) q := by intro a n c h; cases h
theorem rf_Take (g q : Nat) (L : List UInt8) (n : Nat) (bad : Bool) (z : Int) (w : World) (h : RfAt w g q L n bad) :
    Calls Tryd.prog 80 #[.pointer (some ⟨g, 0, none⟩), .int .i64 z] w fun e w' => ∃ r, e = .returned r ∧ RowAt w' r (rTake L z n bad).1.length (byteV (rTake L z n bad).1) ∧ inBlk r q ∧ RfAt w' g q L (rTake L z n bad).2.1 (rTake L z n bad).2.2 ∧ w.grownBy w' (some g) := by
  cases bad
  · by_cases hz : z < 0 ∨ (L.length : Int) - n < z
    · rw [rTake_fail hz]
      refine (ref_Take_fail g q L n z w h hz).mono ?_; rintro e w' ⟨rfl, h1, h2⟩
      exact ⟨_, rfl, Or.inl ⟨none, 0, rfl, rfl, fun _ => rfl⟩, inBlk_none q, h1, h2⟩
    · have hn := (rf_here h).1
      obtain ⟨m, rfl⟩ : ∃ m : Nat, z = m := ⟨z.toNat, by omega⟩
      have hm : n + m ≤ L.length := by omega
      rw [rTake_ok hm]
      refine (ref_Take_ok g q L n m w h hm).mono ?_; rintro e w' ⟨r, rfl, h1, h0, h2, h3⟩
      have hl : ((L.drop n).take m).length = m := by simp; omega
      exact ⟨r, rfl, by rw [hl]; exact h1, h0, h2, h3⟩
  · rw [rTake_bad]
    refine (ref_Take_bad g q L n z w h).mono ?_; rintro e w' ⟨rfl, h1, h2⟩
    exact ⟨_, rfl, Or.inl ⟨none, 0, rfl, rfl, fun _ => rfl⟩, inBlk_none q, h1, h2⟩
theorem leV_drop {B : List UInt8} {k : Nat} (h : k < B.length) : leV (B.drop k) = (B.getD k 0).toNat + 256 * leV (B.drop (k + 1)) := by
  rw [List.drop_eq_getElem_cons h, leV]
  simp [List.getD, h]
theorem rTake_len8 (L : List UInt8) (N n : Nat) (bad : Bool) : (rTake L N n bad).1.length ≤ N := by
  unfold rTake
  split
  · simp
  · split
    · simp
    · simp; omega
set_option maxHeartbeats 1000000 in
theorem rf_Num (g q : Nat) (L : List UInt8) (n N : Nat) (bad : Bool) (z : Int) (w : World) (h : RfAt w g q L n bad) (hN : near8 z = N) (h8 : N ≤ 8) :
    Calls Tryd.prog 42 #[.pointer (some ⟨g, 0, none⟩), .int .i64 z] w fun e w' => e = .returned (.int .i64 (rNum L N n bad).1) ∧ RfAt w' g q L (rNum L N n bad).2.1 (rNum L N n bad).2.2 ∧ w.grownBy w' (some g) := by
  have HT := Lib.hid (rf_Take g q L n bad N w h)
  have hB8 := rTake_len8 L N n bad
  unfold rNum
  obtain ⟨A, hA⟩ : ∃ A, rTake L N n bad = A := ⟨_, rfl⟩
  rw [hA] at HT hB8 ⊢
  clear hA h
  obtain ⟨B, n1, b1⟩ := A
  have HN := Lib.hid hN
  clear hN
  obtain ⟨K, hK⟩ : ∃ K, B.length = K := ⟨_, rfl⟩
  have HK := Lib.hid hK
  have hK8 : K ≤ 8 := by rw [← hK]; exact Nat.le_trans hB8 h8
  have hlt := leV_lt B
  go_enter Tryd.func42, Tryd.ntmps42
  go_wp2_with fail
  refine (ref03_held _ _).mono ?_; rintro e w1 ⟨rfl, rfl⟩
  rw [HN.out]
  go_wp2_with fail
  refine HT.out.mono ?_; rintro e w1 ⟨r, rfl, hr, _, hR, hG⟩
  have HR2 := Lib.hid hR
  have HG := Lib.hid hG
  have hr : RowAt w1 r K (byteV B) := by rw [← HK.out]; exact hr
  clear hR hG HT hB8 hK
  have hbnd : ∀ k, leV (B.drop k) < 18446744073709551616 := by
    intro k
    have h1 := leV_lt (B.drop k)
    have h2 : 256 ^ (B.drop k).length ≤ 256 ^ 8 := Nat.pow_le_pow_right (by omega) (by have := HK.out; simp; omega)
    have h3 : (256 : Nat) ^ 8 = 18446744073709551616 := by decide
    omega
  have HBn := Lib.hid hbnd
  obtain ⟨pp, cap, rfl⟩ : ∃ p c, r = .slice p K c := by
    rcases hr with ⟨p, cap, rfl, h0, _⟩ | ⟨b, off, cap, rfl, _⟩
    · exact ⟨p, cap, by rw [h0]⟩
    · exact ⟨_, cap, rfl⟩
  have hKi : (K : Int) ≤ 8 := by omega
  have hcell : ∀ k, k < K → ∃ bb off, pp = some ⟨bb, off, none⟩ ∧ w1.cell? ⟨bb, off + k, none⟩ = some (byteV B k) := by
    intro k hk
    rcases hr with ⟨p, c, h, h0, _⟩ | ⟨b, off, c, h, _, _, _, _, hc⟩
    · omega
    · exact ⟨b, off, by injection h, hc k hk⟩
  have HC := Lib.hid hcell
  clear hcell hr hbnd hlt
  go_wp2_with fail
  go_loop [6, 7] (fun s6 s7 => ∃ k : Nat, k ≤ K ∧ s7 = .int .i64 ((k : Int) - 1) ∧ s6 = .int .u64 (leV (B.drop k) : Int)) (fun _ s7 => (intOf s7 + 1).toNat)
  case atStart => exact ⟨K, Nat.le_refl _, rfl, by rw [List.drop_of_length_le (by have := HK.out; omega)]; rfl⟩
  case round =>
    obtain ⟨k, hk, rfl, rfl⟩ := hrel
    cases k with
    | zero =>
      go_wp2_with fail
      go_ret
      exact ⟨rfl, HR2.out, HG.out⟩
    | succ k =>
      have e1 : ((k + 1 : Nat) : Int) - 1 = (k : Int) := by omega
      rw [e1]
      obtain ⟨bb, off, rfl, hc⟩ := HC.out k (by omega)
      have hbyte : byteV B k = .int .u8 ((B.getD k 0).toNat : Int) := rfl
      rw [hbyte] at hc
      have hs := leV_drop (B := B) (k := k) (by have := HK.out; omega)
      have h1 := HBn.out k
      rw [hs] at h1
      have hb1 : (B.getD k 0).toNat < 256 := (B.getD k 0).toNat_lt
      have HS := Lib.hid (show (leV (B.drop k) : Int) = 256 * (leV (B.drop (k + 1)) : Int) + ((B.getD k 0).toNat : Int) by rw [hs]; omega)
      clear hs hbyte
      generalize (B.getD k 0).toNat = c at *
      generalize leV (B.drop (k + 1)) = A at *
      have w1 := IntWalk.u64_in (256 * (A : Int)) (by omega)
      have w2 := IntWalk.u64_in (256 * (A : Int) + (c : Int)) (by omega)
      go_wp2_with fail
      go_round
      case rel => exact ⟨k, by omega, by first | rfl | go_num, by rw [HS.out]⟩
      case measure => first | (simp [intOf]; done) | (simp [intOf]; omega)
theorem rf_Text (g q : Nat) (L : List UInt8) (n : Nat) (bad : Bool) (w : World) (h : RfAt w g q L n bad) :
    Calls Tryd.prog 107 #[.pointer (some ⟨g, 0, none⟩)] w fun e w' => e = .returned (.string ⟨(rText L n bad).1.toArray⟩) ∧ RfAt w' g q L (rText L n bad).2.1 (rText L n bad).2.2 ∧ w.grownBy w' (some g) := by
  unfold rText
  obtain ⟨A, hA⟩ : ∃ A, rNum L 1 n bad = A := ⟨_, rfl⟩
  obtain ⟨c, n1, b1⟩ := A
  have HNum := Lib.hid (rf_Num g q L n 1 bad 1 w h (by decide) (by omega))
  rw [hA] at HNum ⊢
  clear hA h
  obtain ⟨B, hB⟩ : ∃ B, rTake L c n1 b1 = B := ⟨_, rfl⟩
  have HNext := Lib.hid (fun W hW => rf_Take g q L n1 b1 c W hW)
  rw [hB] at HNext ⊢
  clear hB
  go_enter Tryd.func107, Tryd.ntmps107
  go_wp2_with fail
  refine HNum.out.mono ?_; rintro e w1 ⟨rfl, hR, hG⟩
  have HG := Lib.hid hG
  clear hG
  go_wp2_with fail
  refine (HNext.out w1 hR).mono ?_; rintro e w2 ⟨r, rfl, hr, _, hR2, hG2⟩
  have hcv := conv_row (P := Tryd.prog) (src := 30) (dst := 9) (e := 5) Tryd.underlying30 Tryd.underlying5 Tryd.underlying9 hr
  have HR2 := Lib.hid hR2
  have HG2 := Lib.hid hG2
  clear hr hR hR2 hG2 HNum HNext
  go_wp2_with fail
  go_ret
  exact ⟨rfl, HR2.out, grown_grown HG.out HG2.out⟩
end Go.Proofs.YtjikkipdmonndaaDoor

/- Layer 14: tables as plain lists: what is read of any bytes. -/
namespace Go.Proofs.YtjikkipdmonndaaDoor
open Go.RowKit
set_option linter.unusedSimpArgs false
set_option linter.unusedVariables false
/-- m rows, one behind the other -/
def rRows {R : Type} (row : Nat → Bool → R × Nat × Bool) : Nat → Nat → Bool → List R × Nat × Bool
  | 0, n, b => ([], n, b)
  | m + 1, n, b => ((rRows row m n b).1 ++ [(row (rRows row m n b).2.1 (rRows row m n b).2.2).1], (row (rRows row m n b).2.1 (rRows row m n b).2.2).2)
/-- what a table's bytes are read as -/
def getR {R : Type} (row : Nat → Bool → R × Nat × Bool) (limit : Int) (L : List UInt8) : List R × Int :=
  if (rNum L 2 0 false).2.2 = true then ([], 1) else if limit < (rNum L 2 0 false).1 then ([], 5) else
  if (rRows row (rNum L 2 0 false).1.toNat (rNum L 2 0 false).2.1 (rNum L 2 0 false).2.2).2.2 = true then ([], 1) else
  if 0 < leftOf L (rRows row (rNum L 2 0 false).1.toNat (rNum L 2 0 false).2.1 (rNum L 2 0 false).2.2).2.1 (rRows row (rNum L 2 0 false).1.toNat (rNum L 2 0 false).2.1 (rNum L 2 0 false).2.2).2.2 then ([], 4) else
  ((rRows row (rNum L 2 0 false).1.toNat (rNum L 2 0 false).2.1 (rNum L 2 0 false).2.2).1, 0)
theorem rRows_len {R : Type} (row : Nat → Bool → R × Nat × Bool) : ∀ m n b, (rRows row m n b).1.length = m
  | 0, n, b => rfl
  | m + 1, n, b => by simp [rRows, rRows_len row m n b]
/-- a row that reads what enc puts -/
structure Reads {R : Type} (row : List UInt8 → Nat → Bool → R × Nat × Bool) (enc : R → List UInt8) (ok : R → Bool) (good : R → Prop) : Prop where
  bad : ∀ L n, n ≤ L.length → (row L n true).2.2 = true
  at' : ∀ L n b, n ≤ L.length → n ≤ (row L n b).2.1 ∧ (row L n b).2.1 ≤ L.length
  fine : ∀ L n b, n ≤ L.length → L.length ≤ 100000000 → good (row L n b).1
  back : ∀ L n x T, ok x = true → good x → L.drop n = enc x ++ T → n ≤ L.length → row L n false = (x, n + (enc x).length, false)
  forth : ∀ L n, n ≤ L.length → (row L n false).2.2 = false → ok (row L n false).1 = true ∧ L.drop n = enc (row L n false).1 ++ L.drop (row L n false).2.1 ∧ (row L n false).2.1 = n + (enc (row L n false).1).length
theorem Reads.rows {R : Type} {row : List UInt8 → Nat → Bool → R × Nat × Bool} {enc : R → List UInt8} {ok : R → Bool} {good : R → Prop} (h : Reads row enc ok good) (L : List UInt8) (hL : L.length ≤ 100000000) : ∀ m n b, n ≤ L.length →
    n ≤ (rRows (row L) m n b).2.1 ∧ (rRows (row L) m n b).2.1 ≤ L.length ∧ (b = true → (rRows (row L) m n b).2.2 = true) ∧ ∀ x ∈ (rRows (row L) m n b).1, good x
  | 0, n, b, hn => ⟨Nat.le_refl _, hn, fun h => h, fun x hx => by simp [rRows] at hx⟩
  | m + 1, n, b, hn => by
    obtain ⟨h1, h2, h3, h4⟩ := h.rows L hL m n b hn
    obtain ⟨k1, k2⟩ := h.at' L (rRows (row L) m n b).2.1 (rRows (row L) m n b).2.2 h2
    refine ⟨Nat.le_trans h1 k1, k2, fun hb => ?_, fun x hx => ?_⟩
    · have := h3 hb
      show (row L (rRows (row L) m n b).2.1 (rRows (row L) m n b).2.2).2.2 = true
      rw [this]; exact h.bad L _ h2
    · rcases List.mem_append.1 hx with hx | hx
      · exact h4 x hx
      · rw [List.mem_singleton.1 hx]; exact h.fine L _ _ h2 hL
theorem drop_enc {L A T : List UInt8} {n : Nat} (h : L.drop n = A ++ T) (hn : n ≤ L.length) : L.drop (n + A.length) = T ∧ n + A.length ≤ L.length := by
  have hl := congrArg List.length h
  simp at hl
  refine ⟨?_, by omega⟩
  rw [← List.drop_drop, h]; exact List.drop_left' rfl
theorem Reads.rows_back {R : Type} {row : List UInt8 → Nat → Bool → R × Nat × Bool} {enc : R → List UInt8} {ok : R → Bool} {good : R → Prop} (h : Reads row enc ok good) (L : List UInt8) (l : List R) (n : Nat) (T : List UInt8) (hx : ∀ x ∈ l, ok x = true ∧ good x) (hd : L.drop n = l.flatMap enc ++ T) (hn : n ≤ L.length) :
    ∀ m, m ≤ l.length → rRows (row L) m n false = (l.take m, n + ((l.take m).flatMap enc).length, false)
  | 0, _ => by simp [rRows]
  | m + 1, hm => by
    have ih := h.rows_back L l n T hx hd hn m (by omega)
    obtain ⟨x, hxm⟩ : ∃ x, l[m]? = some x := get_some (by omega)
    have hts := take_snoc hxm
    have hmem := hx x (List.mem_of_getElem? hxm)
    have hsplit : l.flatMap enc ++ T = (l.take m).flatMap enc ++ (enc x ++ ((l.drop (m + 1)).flatMap enc ++ T)) := by
      have : l = l.take m ++ (x :: l.drop (m + 1)) := by
        have h1 := (List.take_append_drop (m + 1) l).symm
        rw [hts] at h1
        simpa using h1
      conv => lhs; rw [this]
      simp
    rw [hsplit] at hd
    obtain ⟨d1, d2⟩ := drop_enc hd hn
    have hb := h.back L _ x _ hmem.1 hmem.2 d1 d2
    simp only [rRows, ih, hb]
    rw [hts]
    simp [Nat.add_assoc]
theorem Reads.rows_forth {R : Type} {row : List UInt8 → Nat → Bool → R × Nat × Bool} {enc : R → List UInt8} {ok : R → Bool} {good : R → Prop} (h : Reads row enc ok good) (L : List UInt8) (hL : L.length ≤ 100000000) (n : Nat) (hn : n ≤ L.length) : ∀ m, (rRows (row L) m n false).2.2 = false →
    (∀ x ∈ (rRows (row L) m n false).1, ok x = true) ∧ L.drop n = (rRows (row L) m n false).1.flatMap enc ++ L.drop (rRows (row L) m n false).2.1
  | 0, _ => by simp [rRows]
  | m + 1, hb => by
    obtain ⟨h1, h2, h3, h4⟩ := h.rows L hL m n false hn
    have hb0 : (rRows (row L) m n false).2.2 = false := by
      cases hc : (rRows (row L) m n false).2.2
      · rfl
      · have hb' : (row L (rRows (row L) m n false).2.1 (rRows (row L) m n false).2.2).2.2 = false := hb
        rw [hc, h.bad L _ h2] at hb'
        cases hb'
    obtain ⟨k1, k2⟩ := h.rows_forth L hL n hn m hb0
    have hb' : (row L (rRows (row L) m n false).2.1 (rRows (row L) m n false).2.2).2.2 = false := hb
    rw [hb0] at hb'
    obtain ⟨f1, f2, f3⟩ := h.forth L _ h2 hb'
    have e : rRows (row L) (m + 1) n false = ((rRows (row L) m n false).1 ++ [(row L (rRows (row L) m n false).2.1 false).1], (row L (rRows (row L) m n false).2.1 false).2) := by
      simp only [rRows, hb0]
    rw [e]
    refine ⟨fun x hx => ?_, ?_⟩
    · rcases List.mem_append.1 hx with hx | hx
      · exact k1 x hx
      · rw [List.mem_singleton.1 hx]; exact f1
    · rw [k2, f2]; simp
theorem numV_put2 (n : Nat) (h : n < 65536) : numV (putL 2 n) = (n : Int) := by
  unfold numV
  rw [leV_putL n 2 (by omega)]
  unfold wrap64
  omega
theorem leV_inj : ∀ {A B : List UInt8}, A.length = B.length → leV A = leV B → A = B
  | [], [], _, _ => rfl
  | [], _ :: _, h, _ => by simp at h
  | _ :: _, [], h, _ => by simp at h
  | c :: A, d :: B, h, e => by
    have hc := c.toNat_lt
    have hd := d.toNat_lt
    simp only [leV] at e
    have h1 : c.toNat = d.toNat := by omega
    have h2 : leV A = leV B := by omega
    rw [leV_inj (by simpa using h) h2, UInt8.toNat_inj.1 h1]
theorem putL_num2 {B : List UInt8} (h : B.length = 2) : putL 2 (numV B) = B := by
  match B, h with
  | [c, d], _ =>
    have hc := c.toNat_lt
    have hd := d.toNat_lt
    have h4 : numV [c, d] = (c.toNat : Int) + 256 * (d.toNat : Int) := by unfold numV wrap64; simp only [leV]; omega
    rw [h4]
    have e1 : putL 2 ((c.toNat : Int) + 256 * (d.toNat : Int)) = [byteAt ((c.toNat : Int) + 256 * (d.toNat : Int)) 0, byteAt ((c.toNat : Int) + 256 * (d.toNat : Int)) 1] := rfl
    rw [e1]
    have b0 := byteAt_val ((c.toNat : Int) + 256 * (d.toNat : Int)) 0
    have b1 := byteAt_val ((c.toNat : Int) + 256 * (d.toNat : Int)) 1
    have p0 : (2 : Int) ^ (8 * 0) = 1 := by decide
    have p1 : (2 : Int) ^ (8 * 1) = 256 := by decide
    rw [p0] at b0
    rw [p1] at b1
    have f0 : (byteAt ((c.toNat : Int) + 256 * (d.toNat : Int)) 0) = c := UInt8.toNat_inj.1 (by omega)
    have f1 : (byteAt ((c.toNat : Int) + 256 * (d.toNat : Int)) 1) = d := UInt8.toNat_inj.1 (by omega)
    rw [f0, f1]
theorem getR_eq {R : Type} {row : Nat → Bool → R × Nat × Bool} {limit : Int} {L : List UInt8} {c : Int} {n n' : Nat} {l : List R} (h1 : rNum L 2 0 false = (c, n, false)) (h2 : ¬ limit < c) (h3 : rRows row c.toNat n false = (l, n', false)) (h4 : ¬ 0 < leftOf L n' false) : getR row limit L = (l, 0) := by
  unfold getR
  rw [h1]
  dsimp only
  rw [h3, if_neg (by simp), if_neg h2]
  dsimp only
  rw [if_neg (by simp), if_neg h4]
theorem gb_num {L B : List UInt8} {n : Nat} (h2 : n < 65536) (hL : putL 2 n ++ B = L) : rNum L 2 0 false = ((n : Int), 2, false) := by
  have hp : (putL 2 (n : Int)).length = 2 := putL_len 2 _
  have hlen : L.length = 2 + B.length := by rw [← hL, List.length_append, hp]
  have ht : (L.drop 0).take 2 = putL 2 n := by rw [← hL, List.drop_zero]; exact List.take_left' hp
  have h0 : 0 + 2 ≤ L.length := by omega
  have hT := rTake_ok h0
  unfold rNum
  rw [hT, ht, numV_put2 _ h2]
theorem Reads.get_back {R : Type} {row : List UInt8 → Nat → Bool → R × Nat × Bool} {enc : R → List UInt8} {ok : R → Bool} {good : R → Prop} (h : Reads row enc ok good) (limit : Nat) (l : List R) (L : List UInt8) (hL : putL 2 l.length ++ l.flatMap enc = L) (hl : l.length ≤ limit) (h2 : l.length < 65536) (hx : ∀ x ∈ l, ok x = true ∧ good x) :
    getR (row L) limit L = (l, 0) := by
  have hn := gb_num h2 hL
  have hp : (putL 2 (l.length : Int)).length = 2 := putL_len 2 _
  have hlen : L.length = 2 + (l.flatMap enc).length := by rw [← hL, List.length_append, hp]
  have hd : L.drop 2 = l.flatMap enc ++ [] := by rw [← hL, List.append_nil]; exact List.drop_left' hp
  have hr := h.rows_back L l 2 [] hx hd (by omega) l.length (Nat.le_refl _)
  rw [List.take_length] at hr
  have e1 : ¬ ((limit : Int) < (l.length : Int)) := by omega
  have e2 : ¬ 0 < leftOf L (2 + (l.flatMap enc).length) false := by
    unfold leftOf
    rw [if_neg (by simp)]
    omega
  exact getR_eq hn e1 hr e2
theorem getR_cases {R : Type} {row : Nat → Bool → R × Nat × Bool} {limit : Int} {L : List UInt8} (h : (getR row limit L).2 = 0) :
    ∃ c n l n', rNum L 2 0 false = (c, n, false) ∧ ¬ limit < c ∧ rRows row c.toNat n false = (l, n', false) ∧ ¬ 0 < leftOf L n' false ∧ getR row limit L = (l, 0) := by
  obtain ⟨A, hA⟩ : ∃ A, rNum L 2 0 false = A := ⟨_, rfl⟩
  obtain ⟨c, n, b⟩ := A
  cases b
  · by_cases h2 : limit < c
    · exfalso
      unfold getR at h
      rw [hA] at h
      dsimp only at h
      rw [if_neg (by simp), if_pos h2] at h
      simp at h
    · obtain ⟨Y, hY⟩ : ∃ Y, rRows row c.toNat n false = Y := ⟨_, rfl⟩
      obtain ⟨l, n', b'⟩ := Y
      cases b'
      · by_cases h4 : 0 < leftOf L n' false
        · exfalso
          unfold getR at h
          rw [hA] at h
          dsimp only at h
          rw [hY, if_neg (by simp), if_neg h2] at h
          dsimp only at h
          rw [if_neg (by simp), if_pos h4] at h
          simp at h
        · exact ⟨c, n, l, n', hA, h2, hY, h4, getR_eq hA h2 hY h4⟩
      · exfalso
        unfold getR at h
        rw [hA] at h
        dsimp only at h
        rw [hY, if_neg (by simp), if_neg h2] at h
        dsimp only at h
        rw [if_pos rfl] at h
        simp at h
  · exfalso
    unfold getR at h
    rw [hA] at h
    dsimp only at h
    rw [if_pos rfl] at h
    simp at h
theorem numV2 {B : List UInt8} (h : B.length = 2) : ∃ k : Nat, numV B = k ∧ putL 2 (k : Int) = B := by
  have h1 := putL_num2 h
  have h2 := leV_lt B
  rw [h] at h2
  have h3 : numV B = (leV B : Int) := by
    unfold numV wrap64
    generalize leV B = x at *
    omega
  exact ⟨leV B, h3, by rw [← h3]; exact h1⟩
theorem num2 {L : List UInt8} {c : Int} {n : Nat} {b : Bool} (h : rNum L 2 0 false = (c, n, b)) (hb : b = false) : 2 ≤ L.length ∧ n = 2 ∧ c = numV (L.take 2) := by
  by_cases hz : 0 + 2 ≤ L.length
  · have hT := rTake_ok hz
    have h1 : rNum L 2 0 false = (numV (L.take 2), 2, false) := by
      unfold rNum
      rw [hT, List.drop_zero]
    rw [h1] at h
    have e1 := congrArg Prod.fst h
    have e2 := congrArg (fun p => p.2.1) h
    exact ⟨by omega, e2.symm, e1.symm⟩
  · exfalso
    have h1 : rNum L 2 0 false = (numV [], 0, true) := by
      unfold rNum
      rw [rTake_fail (by omega)]
    rw [h1] at h
    have e2 := congrArg (fun p => p.2.2) h
    have e3 : true = b := e2
    rw [hb] at e3
    cases e3
theorem Reads.get_forth {R : Type} {row : List UInt8 → Nat → Bool → R × Nat × Bool} {enc : R → List UInt8} {ok : R → Bool} {good : R → Prop} (h : Reads row enc ok good) (limit : Nat) (L : List UInt8) (hL : L.length ≤ 100000000) (he : (getR (row L) limit L).2 = 0) :
    (getR (row L) limit L).1.length ≤ limit ∧ (∀ x ∈ (getR (row L) limit L).1, ok x = true) ∧ putL 2 (getR (row L) limit L).1.length ++ (getR (row L) limit L).1.flatMap enc = L := by
  obtain ⟨c, n, l, n', h1, h2, h3, h4, h5⟩ := getR_cases he
  obtain ⟨hz, hn, hc⟩ := num2 h1 rfl
  obtain ⟨k, hk, hp⟩ := numV2 (show (L.take 2).length = 2 by rw [List.length_take]; omega)
  rw [hk] at hc
  subst hc
  subst hn
  rw [h5]
  rw [Int.toNat_natCast] at h3
  have hb2 : (rRows (row L) k 2 false).2.2 = false := by rw [h3]
  obtain ⟨f1, f2⟩ := h.rows_forth L hL 2 hz _ hb2
  obtain ⟨_, r2, _, _⟩ := h.rows L hL k 2 false hz
  have hlen := rRows_len (row L) k 2 false
  rw [h3] at f1 f2 r2 hlen
  dsimp only at f1 f2 r2 hlen ⊢
  have hend : n' = L.length := by
    unfold leftOf at h4
    rw [if_neg (by simp)] at h4
    omega
  rw [hend, List.drop_length, List.append_nil] at f2
  refine ⟨by omega, f1, ?_⟩
  rw [hlen, ← f2, hp, List.take_append_drop]
end Go.Proofs.YtjikkipdmonndaaDoor

/- Layer 14: numbers and texts that are read of any bytes. -/
namespace Go.Proofs.YtjikkipdmonndaaDoor
open Go.RowKit
set_option linter.unusedSimpArgs false
set_option linter.unusedVariables false
theorem rNum_bad (L : List UInt8) (N n : Nat) : rNum L N n true = (0, n, true) := by
  unfold rNum; rw [rTake_bad, numV_nil]
theorem rText_bad (L : List UInt8) (n : Nat) : rText L n true = ([], n, true) := by
  unfold rText; rw [rNum_bad]; exact rTake_bad L 0 n
theorem rNum_at (L : List UInt8) (N n : Nat) (b : Bool) (hn : n ≤ L.length) : n ≤ (rNum L N n b).2.1 ∧ (rNum L N n b).2.1 ≤ L.length := by
  obtain ⟨h1, h2, _⟩ := rTake_at L N n b hn
  exact ⟨h1, h2⟩
theorem rText_at (L : List UInt8) (n : Nat) (b : Bool) (hn : n ≤ L.length) : n ≤ (rText L n b).2.1 ∧ (rText L n b).2.1 ≤ L.length := by
  obtain ⟨h1, h2⟩ := rNum_at L 1 n b hn
  obtain ⟨k1, k2, _⟩ := rTake_at L (rNum L 1 n b).1 (rNum L 1 n b).2.1 (rNum L 1 n b).2.2 h2
  exact ⟨Nat.le_trans h1 k1, k2⟩
theorem numV_in (B : List UInt8) : I64 (numV B) := by
  unfold numV
  generalize (leV B : Int) = x
  unfold I64 wrap64
  omega
theorem numV_byte {B : List UInt8} (h : B.length ≤ 1) : 0 ≤ numV B ∧ numV B ≤ 255 := by
  match B, h with
  | [], _ => rw [numV_nil]; omega
  | [c], _ =>
    rw [numV_one]
    have := c.toNat_lt
    omega
theorem rNum1_fit (L : List UInt8) (n : Nat) (b : Bool) : 0 ≤ (rNum L 1 n b).1 ∧ (rNum L 1 n b).1 ≤ 255 := numV_byte (rTake_len8 L 1 n b)
theorem rText_len (L : List UInt8) (n : Nat) (b : Bool) : (rText L n b).1.length ≤ 255 := by
  have h := rNum1_fit L n b
  unfold rText
  generalize (rNum L 1 n b).1 = c at *
  unfold rTake
  split
  · simp
  · split
    · simp
    · rw [List.length_take]; omega
theorem rNum_back {L B T : List UInt8} {n : Nat} (h : L.drop n = B ++ T) (hn : n ≤ L.length) : rNum L B.length n false = (numV B, n + B.length, false) := by
  obtain ⟨d1, d2⟩ := drop_enc h hn
  unfold rNum
  rw [rTake_ok d2, h, List.take_left' rfl]
theorem rNum_forth {L : List UInt8} {N n : Nat} (hb : (rNum L N n false).2.2 = false) : n + N ≤ L.length ∧ rNum L N n false = (numV ((L.drop n).take N), n + N, false) ∧ L.drop n = (L.drop n).take N ++ L.drop (n + N) ∧ ((L.drop n).take N).length = N := by
  by_cases hz : n + N ≤ L.length
  · refine ⟨hz, ?_, ?_, by rw [List.length_take, List.length_drop]; omega⟩
    · unfold rNum; rw [rTake_ok hz]
    · rw [← List.drop_drop, List.take_append_drop]
  · exfalso
    have : (rNum L N n false).2.2 = true := by unfold rNum; rw [rTake_fail (by omega)]
    rw [this] at hb
    cases hb
theorem rText_back {L s T : List UInt8} {n : Nat} (h : L.drop n = (UInt8.ofNat s.length :: s) ++ T) (hn : n ≤ L.length) (hs : s.length ≤ 255) : rText L n false = (s, n + (1 + s.length), false) := by
  have h1 : L.drop n = [UInt8.ofNat s.length] ++ (s ++ T) := by rw [h]; simp
  have h2 := rNum_back h1 hn
  obtain ⟨d1, d2⟩ := drop_enc h1 hn
  obtain ⟨f1, f2⟩ := drop_enc d1 d2
  have hc : numV [UInt8.ofNat s.length] = (s.length : Int) := by rw [numV_one, UInt8.toNat_ofNat']; omega
  rw [show [UInt8.ofNat s.length].length = 1 from rfl] at h2 d1 d2 f1 f2
  unfold rText
  rw [h2]
  dsimp only
  rw [hc, rTake_ok f2, d1, List.take_left' rfl, Nat.add_assoc]
theorem rText_forth {L : List UInt8} {n : Nat} (hb : (rText L n false).2.2 = false) : (rText L n false).1.length ≤ 255 ∧ L.drop n = (UInt8.ofNat (rText L n false).1.length :: (rText L n false).1) ++ L.drop (rText L n false).2.1 ∧ (rText L n false).2.1 = n + (1 + (rText L n false).1.length) := by
  have hb0 : (rNum L 1 n false).2.2 = false := by
    cases hc : (rNum L 1 n false).2.2
    · rfl
    · unfold rText at hb; rw [hc, rTake_bad] at hb; cases hb
  obtain ⟨h1, h2, h3, h4⟩ := rNum_forth hb0
  obtain ⟨c, hc⟩ : ∃ c, (L.drop n).take 1 = [c] := ⟨_, take_one h1⟩
  rw [hc] at h2 h3
  have hT : rText L n false = rTake L (c.toNat : Int) (n + 1) false := by unfold rText; rw [h2, numV_one]
  rw [hT] at hb ⊢
  have hlt := c.toNat_lt
  by_cases hz : n + 1 + c.toNat ≤ L.length
  · rw [rTake_ok hz]
    dsimp only
    have hl : ((L.drop (n + 1)).take c.toNat).length = c.toNat := by rw [List.length_take, List.length_drop]; omega
    rw [hl]
    refine ⟨by omega, ?_, by omega⟩
    have hdd : L.drop (n + 1 + c.toNat) = (L.drop (n + 1)).drop c.toNat := by rw [List.drop_drop]
    rw [h3, show UInt8.ofNat c.toNat = c from by simp, hdd]
    show c :: L.drop (n + 1) = c :: (_ ++ _)
    rw [List.take_append_drop]
  · exfalso
    rw [rTake_fail (by omega)] at hb
    cases hb
theorem putL8_num {B : List UInt8} (h : B.length = 8) : putL 8 (numV B) = B := by
  refine leV_inj (by rw [putL_len, h]) ?_
  have h1 := leV_putL (numV B) 8 (by omega)
  have h2 := leV_lt B
  rw [h] at h2
  have h3 : (numV B) % 256 ^ 8 = (leV B : Int) := by
    unfold numV wrap64
    generalize leV B = x at *
    omega
  rw [h3] at h1
  exact_mod_cast h1
end Go.Proofs.YtjikkipdmonndaaDoor

/- Layer 14: a block's row as bytes. -/
namespace Go.Proofs.YtjikkipdmonndaaDoor
open Go.RowKit
set_option linter.unusedSimpArgs false
set_option linter.unusedVariables false
theorem owns_int1 {w : World} (B : Nat) (k : Int) (hB : B ≤ w.heap.size) : (w.alloc (.cells #[.int .i64 k] 3)).ownsRow B 3 1 (.slice (some ⟨w.heap.size, 0, none⟩) 1 1) 1 [.int .i64 k] :=
  ⟨rfl, Or.inr ⟨w.heap.size, 1, #[.int .i64 k], rfl, hB, by show (w.heap.push _)[w.heap.size]? = _; simp, by omega, by unfold maxLen; omega, by simp, by simp⟩⟩
/-- a block's row: its name's length, its name, its kind -/
def blkB (s : ByteArray) (k : Int) : List UInt8 := [UInt8.ofNat (cut255 s).size] ++ (cut255 s).data.toList ++ [byteO k]
set_option maxRecDepth 100000 in
set_option maxHeartbeats 4000000 in
theorem tab_PutBlock (s : ByteArray) (k : Int) (w : World) (hs : s.size ≤ 1000000) (hk : I64 k) (h2 : s.size ≤ 255) :
    Calls Tryd.prog 53 #[.agg #[.string s, .int .i64 k]] w fun e w' => ∃ r, e = .returned (.tuple #[r, .bool (fitB k)]) ∧ w'.ownsRow (w.heap.size + 1) 5 1 r (blkB s k).length (bytesV (blkB s k)) ∧ Below w.heap.size w w' := by
  obtain ⟨i, hi, hz, hsize, hby⟩ : ∃ i, Tryd.prog.info? 5 = some i ∧ i.zero = some (.int .u8 0) ∧ i.size = 1 ∧ i.bytes = 1 := ⟨(Tryd.prog.info? 5).get!, by kernel_rfl, by kernel_rfl, by kernel_rfl, by kernel_rfl⟩
  have hq : ((s.size : Int) ≤ 255) = True := eq_true (by omega)
  go_enter Tryd.func53, Tryd.ntmps53
  go_wp2_with fail
  obtain ⟨W0, hW0⟩ : ∃ W0, W0 = w.alloc (.cells #[.string s, .int .i64 k] 43) := ⟨_, rfl⟩
  have bx := Boxed.new w [.string s, .int .i64 k] 43 (Below.refl _ _)
  have C0 := bx 0 _ rfl
  have C1 := bx 1 _ rfl
  clear bx
  rw [← hW0] at C0 C1
  have hz0 : w.heap.size < W0.heap.size := by rw [hW0]; simp
  rw [← hW0]
  obtain ⟨T, hT⟩ : ∃ T, T = [UInt8.ofNat (cut255 s).size] ++ (cut255 s).data.toList := ⟨_, rfl⟩
  obtain ⟨N, hN⟩ : ∃ N, N = 1 + (cut255 s).size := ⟨_, rfl⟩
  have hN1 : N ≤ 256 := by rw [hN]; unfold cut255; rw [if_neg (by omega)]; omega
  have HTX := Lib.hid (fun W : World => (octet_Text (.slice none 0 0) [] s W (Or.inl ⟨none, 0, rfl, rfl, fun _ => rfl⟩) (by simp)).mono (R' := fun e w' => ∃ r, e = .returned r ∧ w'.ownsRow W.heap.size 5 1 r N (bytesV T) ∧ Below W.heap.size W w') (by rintro e w' ⟨r, h1, h2, h3⟩; exact ⟨r, h1, by rw [hT, hN]; simpa using h2, h3⟩))
  have HD := Lib.hid (show blkB s k = T ++ [byteO k] ∧ (blkB s k).length = N + 1 by rw [hT, hN]; unfold blkB; simp; omega)
  clear hT hN
  refine wp_region_facts (n := 20) (fun L b v => ∃ u2 u3 u4 u5 u6 u7 u8 u9 u10 u11 u12 u13 u14 u15 u16 u17 u18 u19 u20 u21 : Value, b = ⟨#[.agg #[.string s, .int .i64 k], .pointer (some ⟨w.heap.size, 0, none⟩), u2, u3, u4, u5, u6, u7, u8, u9, u10, u11, u12, u13, u14, u15, u16, u17, u18, u19, u20, u21], []⟩ ∧ Below W0.heap.size W0 v ∧ (L.getD 0 false = true → u4 = .pointer (some ⟨w.heap.size, 0, none⟩)) ∧ (L.getD 1 false = true → u5 = .string s) ∧ (L.getD 2 false = true → L.getD 7 true = false → v.ownsRow W0.heap.size 5 1 u6 N (bytesV T)) ∧ (L.getD 3 false = true → u7 = .pointer (some ⟨w.heap.size, 1, none⟩)) ∧ (L.getD 4 false = true → u8 = .int .i64 k) ∧ (L.getD 5 false = true → ∃ q, u9 = .slice (some ⟨q, 0, none⟩) 1 1 ∧ v.ownsRow W0.heap.size 3 1 (.slice (some ⟨q, 0, none⟩) 1 1) 1 [.int .i64 k]) ∧ (L.getD 6 false = true → L.getD 7 true = false → v.ownsRow W0.heap.size 5 1 u10 1 (bytesV [byteO k])) ∧ (L.getD 7 false = true → v.ownsRow W0.heap.size 5 1 u11 (N + 1) (bytesV T ++ bytesV [byteO k])) ∧ (L.getD 8 false = true → u12 = .pointer (some ⟨w.heap.size, 0, none⟩)) ∧ (L.getD 9 false = true → u13 = .string s) ∧ (L.getD 10 false = true → u14 = .int .i64 s.size) ∧ (L.getD 11 false = true → u15 = .bool true) ∧ (L.getD 12 false = true → u16 = .bool true) ∧ (L.getD 13 false = true → u17 = .pointer (some ⟨w.heap.size, 1, none⟩)) ∧ (L.getD 14 false = true → u18 = .int .i64 k) ∧ (L.getD 15 false = true → ∃ q, u19 = .slice (some ⟨q, 0, none⟩) 1 1 ∧ v.ownsRow W0.heap.size 3 1 (.slice (some ⟨q, 0, none⟩) 1 1) 1 [.int .i64 k]) ∧ (L.getD 16 false = true → u20 = .bool (fitB k)) ∧ (L.getD 17 false = true → u21 = .bool (fitB k)) ∧ (L.getD 18 false = true → v.ownsRow W0.heap.size 5 1 u2 (N + 1) (bytesV T ++ bytesV [byteO k])) ∧ (L.getD 19 false = true → u3 = .bool (fitB k))) (by kernel_rfl) (by kernel_rfl) (by kernel_rfl) ?_ ?_ ?_
  · refine ⟨_, _, _, _, _, _, _, _, _, _, _, _, _, _, _, _, _, _, _, _, rfl, (Below.refl _ _).drew, flag_new, flag_new, flag_new, flag_new, flag_new, flag_new, flag_new, flag_new, flag_new, flag_new, flag_new, flag_new, flag_new, flag_new, flag_new, flag_new, flag_new, flag_new, flag_new, flag_new⟩
  · refine AllSteps.succ (AllSteps.succ (AllSteps.succ (AllSteps.succ (AllSteps.succ (AllSteps.succ (AllSteps.succ (AllSteps.succ (AllSteps.succ (AllSteps.succ (AllSteps.succ (AllSteps.succ (AllSteps.succ (AllSteps.succ (AllSteps.succ (AllSteps.succ (AllSteps.succ (AllSteps.succ (AllSteps.succ (AllSteps.succ AllSteps.zero ?_) ?_) ?_) ?_) ?_) ?_) ?_) ?_) ?_) ?_) ?_) ?_) ?_) ?_) ?_) ?_) ?_) ?_) ?_) ?_
    · refine StepAt.mk (o := { dst := some 4, op := Op.fieldAddr 43 (Operand.tmp 1) 0, type := 0, pos := _, after := #[], guard := none }) (ws := []) rfl (by kernel_rfl) ?_
      intro L b v hC h0 hA h
      refine h.elim ?_; clear h; intro u2 h
      refine h.elim ?_; clear h; intro u3 h
      refine h.elim ?_; clear h; intro u4 h
      refine h.elim ?_; clear h; intro u5 h
      refine h.elim ?_; clear h; intro u6 h
      refine h.elim ?_; clear h; intro u7 h
      refine h.elim ?_; clear h; intro u8 h
      refine h.elim ?_; clear h; intro u9 h
      refine h.elim ?_; clear h; intro u10 h
      refine h.elim ?_; clear h; intro u11 h
      refine h.elim ?_; clear h; intro u12 h
      refine h.elim ?_; clear h; intro u13 h
      refine h.elim ?_; clear h; intro u14 h
      refine h.elim ?_; clear h; intro u15 h
      refine h.elim ?_; clear h; intro u16 h
      refine h.elim ?_; clear h; intro u17 h
      refine h.elim ?_; clear h; intro u18 h
      refine h.elim ?_; clear h; intro u19 h
      refine h.elim ?_; clear h; intro u20 h
      refine h.elim ?_; clear h; intro u21 h
      have hbb := h.1; replace h := h.2; subst hbb
      have hHeld := h.1; replace h := h.2
      have f0 := h.1; replace h := h.2
      have f1 := h.1; replace h := h.2
      have f2 := h.1; replace h := h.2
      have f3 := h.1; replace h := h.2
      have f4 := h.1; replace h := h.2
      have f5 := h.1; replace h := h.2
      have f6 := h.1; replace h := h.2
      have f7 := h.1; replace h := h.2
      have f8 := h.1; replace h := h.2
      have f9 := h.1; replace h := h.2
      have f10 := h.1; replace h := h.2
      have f11 := h.1; replace h := h.2
      have f12 := h.1; replace h := h.2
      have f13 := h.1; replace h := h.2
      have f14 := h.1; replace h := h.2
      have f15 := h.1; replace h := h.2
      have f16 := h.1; replace h := h.2
      have f17 := h.1; replace h := h.2
      have f18 := h.1; replace h := h.2
      have f19 := h; clear h
      intro K hK
      rw [if_pos (by kernel_rfl)]
      have q0 := cellB hHeld C0 hz0
      have q1 := cellB hHeld C1 hz0
      go_simp
      try simp only [Act.put, List.setIfInBounds_toArray, List.set_cons_zero, List.set_cons_succ]
      refine hK.out _ _ ⟨_, _, _, _, _, _, _, _, _, _, _, _, _, _, _, _, _, _, _, _, rfl, ?_, ?_, ?_, ?_, ?_, ?_, ?_, ?_, ?_, ?_, ?_, ?_, ?_, ?_, ?_, ?_, ?_, ?_, ?_, ?_, ?_⟩
      · first | exact hHeld | exact hHeld.trans (hb.mono hHeld.size) | (trace_state; fail)
      · intro _; first | rfl | (trace_state; fail)
      · first | exact flag_ne (by decide) f1 | exact fun _ => rfl
      · intro h _; rw [getD_set_ne false (by decide)] at h; exact (getD_no h0 (hC.step (j := 1) (k := 0) (hC.step (j := 2) (k := 1) h (by kernel_rfl)) (by kernel_rfl))).elim
      · first | exact flag_ne (by decide) f3 | exact fun _ => rfl
      · first | exact flag_ne (by decide) f4 | exact fun _ => rfl
      · intro h; rw [getD_set_ne false (by decide)] at h; have := f5 h; obtain ⟨q, e1, e2⟩ := this; exact (by first | exact ⟨q, e1, e2⟩ | exact ⟨q, e1, owns_below e2 hb⟩ | exact ⟨q, e1, owns_grown e2 hG (fun g hg => owns_type e2 g2 (by decide) hg)⟩ | (trace_state; fail))
      · intro h _; rw [getD_set_ne false (by decide)] at h; exact (getD_no h0 (hC.step (j := 1) (k := 0) (hC.step (j := 2) (k := 1) (hC.step (j := 6) (k := 2) h (by kernel_rfl)) (by kernel_rfl)) (by kernel_rfl))).elim
      · intro h; rw [getD_set_ne false (by decide)] at h; exact (getD_no h0 (hC.step (j := 1) (k := 0) (hC.step (j := 2) (k := 1) (hC.step (j := 7) (k := 2) h (by kernel_rfl)) (by kernel_rfl)) (by kernel_rfl))).elim
      · first | exact flag_ne (by decide) f8 | exact fun _ => rfl
      · first | exact flag_ne (by decide) f9 | exact fun _ => rfl
      · first | exact flag_ne (by decide) f10 | exact fun _ => rfl
      · first | exact flag_ne (by decide) f11 | exact fun _ => rfl
      · first | exact flag_ne (by decide) f12 | exact fun _ => rfl
      · first | exact flag_ne (by decide) f13 | exact fun _ => rfl
      · first | exact flag_ne (by decide) f14 | exact fun _ => rfl
      · intro h; rw [getD_set_ne false (by decide)] at h; exact (getD_no h0 (hC.step (j := 1) (k := 0) (hC.step (j := 2) (k := 1) (hC.step (j := 7) (k := 2) (hC.step (j := 12) (k := 7) (hC.step (j := 15) (k := 12) h (by kernel_rfl)) (by kernel_rfl)) (by kernel_rfl)) (by kernel_rfl)) (by kernel_rfl))).elim
      · first | exact flag_ne (by decide) f16 | exact fun _ => rfl
      · first | exact flag_ne (by decide) f17 | exact fun _ => rfl
      · intro h; rw [getD_set_ne false (by decide)] at h; exact (getD_no h0 (hC.step (j := 18) (k := 0) h (by kernel_rfl))).elim
      · first | exact flag_ne (by decide) f19 | exact fun _ => rfl
    · refine StepAt.mk (o := { dst := some 5, op := Op.load 9 (Operand.tmp 4), type := 9, pos := _, after := #[{ on := 0, ground := Ground.data }], guard := none }) (ws := [0]) rfl (by kernel_rfl) ?_
      intro L b v hC h0 hA h
      refine h.elim ?_; clear h; intro u2 h
      refine h.elim ?_; clear h; intro u3 h
      refine h.elim ?_; clear h; intro u4 h
      refine h.elim ?_; clear h; intro u5 h
      refine h.elim ?_; clear h; intro u6 h
      refine h.elim ?_; clear h; intro u7 h
      refine h.elim ?_; clear h; intro u8 h
      refine h.elim ?_; clear h; intro u9 h
      refine h.elim ?_; clear h; intro u10 h
      refine h.elim ?_; clear h; intro u11 h
      refine h.elim ?_; clear h; intro u12 h
      refine h.elim ?_; clear h; intro u13 h
      refine h.elim ?_; clear h; intro u14 h
      refine h.elim ?_; clear h; intro u15 h
      refine h.elim ?_; clear h; intro u16 h
      refine h.elim ?_; clear h; intro u17 h
      refine h.elim ?_; clear h; intro u18 h
      refine h.elim ?_; clear h; intro u19 h
      refine h.elim ?_; clear h; intro u20 h
      refine h.elim ?_; clear h; intro u21 h
      have hbb := h.1; replace h := h.2; subst hbb
      have hHeld := h.1; replace h := h.2
      have f0 := h.1; replace h := h.2
      have f1 := h.1; replace h := h.2
      have f2 := h.1; replace h := h.2
      have f3 := h.1; replace h := h.2
      have f4 := h.1; replace h := h.2
      have f5 := h.1; replace h := h.2
      have f6 := h.1; replace h := h.2
      have f7 := h.1; replace h := h.2
      have f8 := h.1; replace h := h.2
      have f9 := h.1; replace h := h.2
      have f10 := h.1; replace h := h.2
      have f11 := h.1; replace h := h.2
      have f12 := h.1; replace h := h.2
      have f13 := h.1; replace h := h.2
      have f14 := h.1; replace h := h.2
      have f15 := h.1; replace h := h.2
      have f16 := h.1; replace h := h.2
      have f17 := h.1; replace h := h.2
      have f18 := h.1; replace h := h.2
      have f19 := h; clear h
      intro K hK
      have g0 := f0 (hA 0 (by simp))
      obtain rfl := g0
      rw [if_pos (by kernel_rfl)]
      have q0 := cellB hHeld C0 hz0
      have q1 := cellB hHeld C1 hz0
      go_simp
      try simp only [Act.put, List.setIfInBounds_toArray, List.set_cons_zero, List.set_cons_succ]
      refine hK.out _ _ ⟨_, _, _, _, _, _, _, _, _, _, _, _, _, _, _, _, _, _, _, _, rfl, ?_, ?_, ?_, ?_, ?_, ?_, ?_, ?_, ?_, ?_, ?_, ?_, ?_, ?_, ?_, ?_, ?_, ?_, ?_, ?_, ?_⟩
      · first | exact hHeld | exact hHeld.trans (hb.mono hHeld.size) | (trace_state; fail)
      · first | exact flag_ne (by decide) f0 | exact fun _ => rfl
      · intro _; first | rfl | (trace_state; fail)
      · intro h _; rw [getD_set_ne false (by decide)] at h; exact (getD_no h0 (hC.step (j := 2) (k := 1) h (by kernel_rfl))).elim
      · first | exact flag_ne (by decide) f3 | exact fun _ => rfl
      · first | exact flag_ne (by decide) f4 | exact fun _ => rfl
      · intro h; rw [getD_set_ne false (by decide)] at h; have := f5 h; obtain ⟨q, e1, e2⟩ := this; exact (by first | exact ⟨q, e1, e2⟩ | exact ⟨q, e1, owns_below e2 hb⟩ | exact ⟨q, e1, owns_grown e2 hG (fun g hg => owns_type e2 g2 (by decide) hg)⟩ | (trace_state; fail))
      · intro h _; rw [getD_set_ne false (by decide)] at h; exact (getD_no h0 (hC.step (j := 2) (k := 1) (hC.step (j := 6) (k := 2) h (by kernel_rfl)) (by kernel_rfl))).elim
      · intro h; rw [getD_set_ne false (by decide)] at h; exact (getD_no h0 (hC.step (j := 2) (k := 1) (hC.step (j := 7) (k := 2) h (by kernel_rfl)) (by kernel_rfl))).elim
      · first | exact flag_ne (by decide) f8 | exact fun _ => rfl
      · first | exact flag_ne (by decide) f9 | exact fun _ => rfl
      · first | exact flag_ne (by decide) f10 | exact fun _ => rfl
      · first | exact flag_ne (by decide) f11 | exact fun _ => rfl
      · first | exact flag_ne (by decide) f12 | exact fun _ => rfl
      · first | exact flag_ne (by decide) f13 | exact fun _ => rfl
      · first | exact flag_ne (by decide) f14 | exact fun _ => rfl
      · intro h; rw [getD_set_ne false (by decide)] at h; exact (getD_no h0 (hC.step (j := 2) (k := 1) (hC.step (j := 7) (k := 2) (hC.step (j := 12) (k := 7) (hC.step (j := 15) (k := 12) h (by kernel_rfl)) (by kernel_rfl)) (by kernel_rfl)) (by kernel_rfl))).elim
      · first | exact flag_ne (by decide) f16 | exact fun _ => rfl
      · first | exact flag_ne (by decide) f17 | exact fun _ => rfl
      · intro h; rw [getD_set_ne false (by decide)] at h; exact (getD_no h0 (hC.step (j := 18) (k := 1) h (by kernel_rfl))).elim
      · first | exact flag_ne (by decide) f19 | exact fun _ => rfl
    · refine StepAt.mk (o := { dst := some 6, op := Op.call { callee := Callee.value (Operand.func 51), args := #[Operand.const (Value.slice none 0 0), Operand.tmp 5], argTypes := #[30, 9] }, type := 30, pos := _, after := #[{ on := 1, ground := Ground.data }], guard := none }) (ws := [1]) rfl (by kernel_rfl) ?_
      intro L b v hC h0 hA h
      refine h.elim ?_; clear h; intro u2 h
      refine h.elim ?_; clear h; intro u3 h
      refine h.elim ?_; clear h; intro u4 h
      refine h.elim ?_; clear h; intro u5 h
      refine h.elim ?_; clear h; intro u6 h
      refine h.elim ?_; clear h; intro u7 h
      refine h.elim ?_; clear h; intro u8 h
      refine h.elim ?_; clear h; intro u9 h
      refine h.elim ?_; clear h; intro u10 h
      refine h.elim ?_; clear h; intro u11 h
      refine h.elim ?_; clear h; intro u12 h
      refine h.elim ?_; clear h; intro u13 h
      refine h.elim ?_; clear h; intro u14 h
      refine h.elim ?_; clear h; intro u15 h
      refine h.elim ?_; clear h; intro u16 h
      refine h.elim ?_; clear h; intro u17 h
      refine h.elim ?_; clear h; intro u18 h
      refine h.elim ?_; clear h; intro u19 h
      refine h.elim ?_; clear h; intro u20 h
      refine h.elim ?_; clear h; intro u21 h
      have hbb := h.1; replace h := h.2; subst hbb
      have hHeld := h.1; replace h := h.2
      have f0 := h.1; replace h := h.2
      have f1 := h.1; replace h := h.2
      have f2 := h.1; replace h := h.2
      have f3 := h.1; replace h := h.2
      have f4 := h.1; replace h := h.2
      have f5 := h.1; replace h := h.2
      have f6 := h.1; replace h := h.2
      have f7 := h.1; replace h := h.2
      have f8 := h.1; replace h := h.2
      have f9 := h.1; replace h := h.2
      have f10 := h.1; replace h := h.2
      have f11 := h.1; replace h := h.2
      have f12 := h.1; replace h := h.2
      have f13 := h.1; replace h := h.2
      have f14 := h.1; replace h := h.2
      have f15 := h.1; replace h := h.2
      have f16 := h.1; replace h := h.2
      have f17 := h.1; replace h := h.2
      have f18 := h.1; replace h := h.2
      have f19 := h; clear h
      intro K hK
      have g1 := f1 (hA 1 (by simp))
      obtain rfl := g1
      rw [if_pos (by kernel_rfl)]
      have q0 := cellB hHeld C0 hz0
      have q1 := cellB hHeld C1 hz0
      go_simp
      refine (HTX.out v).mono ?_; rintro e v1 ⟨r, rfl, HO, hb⟩
      go_wp2_with fail
      try simp only [Act.put, List.setIfInBounds_toArray, List.set_cons_zero, List.set_cons_succ]
      refine hK.out _ _ ⟨_, _, _, _, _, _, _, _, _, _, _, _, _, _, _, _, _, _, _, _, rfl, ?_, ?_, ?_, ?_, ?_, ?_, ?_, ?_, ?_, ?_, ?_, ?_, ?_, ?_, ?_, ?_, ?_, ?_, ?_, ?_, ?_⟩
      · first | exact hHeld | exact hHeld.trans (hb.mono hHeld.size) | (trace_state; fail)
      · first | exact flag_ne (by decide) f0 | exact fun _ => rfl
      · first | exact flag_ne (by decide) f1 | exact fun _ => rfl
      · intro _ _; first | (exact own_low HO hHeld.size) | (trace_state; fail)
      · first | exact flag_ne (by decide) f3 | exact fun _ => rfl
      · first | exact flag_ne (by decide) f4 | exact fun _ => rfl
      · intro h; rw [getD_set_ne false (by decide)] at h; have := f5 h; obtain ⟨q, e1, e2⟩ := this; exact (by first | exact ⟨q, e1, e2⟩ | exact ⟨q, e1, owns_below e2 hb⟩ | exact ⟨q, e1, owns_grown e2 hG (fun g hg => owns_type e2 g2 (by decide) hg)⟩ | (trace_state; fail))
      · intro h _; rw [getD_set_ne false (by decide)] at h; exact (getD_no h0 (hC.step (j := 6) (k := 2) h (by kernel_rfl))).elim
      · intro h; rw [getD_set_ne false (by decide)] at h; exact (getD_no h0 (hC.step (j := 7) (k := 2) h (by kernel_rfl))).elim
      · first | exact flag_ne (by decide) f8 | exact fun _ => rfl
      · first | exact flag_ne (by decide) f9 | exact fun _ => rfl
      · first | exact flag_ne (by decide) f10 | exact fun _ => rfl
      · first | exact flag_ne (by decide) f11 | exact fun _ => rfl
      · first | exact flag_ne (by decide) f12 | exact fun _ => rfl
      · first | exact flag_ne (by decide) f13 | exact fun _ => rfl
      · first | exact flag_ne (by decide) f14 | exact fun _ => rfl
      · intro h; rw [getD_set_ne false (by decide)] at h; exact (getD_no h0 (hC.step (j := 7) (k := 2) (hC.step (j := 12) (k := 7) (hC.step (j := 15) (k := 12) h (by kernel_rfl)) (by kernel_rfl)) (by kernel_rfl))).elim
      · first | exact flag_ne (by decide) f16 | exact fun _ => rfl
      · first | exact flag_ne (by decide) f17 | exact fun _ => rfl
      · intro h; rw [getD_set_ne false (by decide)] at h; exact (getD_no h0 (hC.step (j := 18) (k := 2) h (by kernel_rfl))).elim
      · first | exact flag_ne (by decide) f19 | exact fun _ => rfl
    · refine StepAt.mk (o := { dst := some 7, op := Op.fieldAddr 43 (Operand.tmp 1) 1, type := 0, pos := _, after := #[], guard := none }) (ws := []) rfl (by kernel_rfl) ?_
      intro L b v hC h0 hA h
      refine h.elim ?_; clear h; intro u2 h
      refine h.elim ?_; clear h; intro u3 h
      refine h.elim ?_; clear h; intro u4 h
      refine h.elim ?_; clear h; intro u5 h
      refine h.elim ?_; clear h; intro u6 h
      refine h.elim ?_; clear h; intro u7 h
      refine h.elim ?_; clear h; intro u8 h
      refine h.elim ?_; clear h; intro u9 h
      refine h.elim ?_; clear h; intro u10 h
      refine h.elim ?_; clear h; intro u11 h
      refine h.elim ?_; clear h; intro u12 h
      refine h.elim ?_; clear h; intro u13 h
      refine h.elim ?_; clear h; intro u14 h
      refine h.elim ?_; clear h; intro u15 h
      refine h.elim ?_; clear h; intro u16 h
      refine h.elim ?_; clear h; intro u17 h
      refine h.elim ?_; clear h; intro u18 h
      refine h.elim ?_; clear h; intro u19 h
      refine h.elim ?_; clear h; intro u20 h
      refine h.elim ?_; clear h; intro u21 h
      have hbb := h.1; replace h := h.2; subst hbb
      have hHeld := h.1; replace h := h.2
      have f0 := h.1; replace h := h.2
      have f1 := h.1; replace h := h.2
      have f2 := h.1; replace h := h.2
      have f3 := h.1; replace h := h.2
      have f4 := h.1; replace h := h.2
      have f5 := h.1; replace h := h.2
      have f6 := h.1; replace h := h.2
      have f7 := h.1; replace h := h.2
      have f8 := h.1; replace h := h.2
      have f9 := h.1; replace h := h.2
      have f10 := h.1; replace h := h.2
      have f11 := h.1; replace h := h.2
      have f12 := h.1; replace h := h.2
      have f13 := h.1; replace h := h.2
      have f14 := h.1; replace h := h.2
      have f15 := h.1; replace h := h.2
      have f16 := h.1; replace h := h.2
      have f17 := h.1; replace h := h.2
      have f18 := h.1; replace h := h.2
      have f19 := h; clear h
      intro K hK
      rw [if_pos (by kernel_rfl)]
      have q0 := cellB hHeld C0 hz0
      have q1 := cellB hHeld C1 hz0
      go_simp
      try simp only [Act.put, List.setIfInBounds_toArray, List.set_cons_zero, List.set_cons_succ]
      refine hK.out _ _ ⟨_, _, _, _, _, _, _, _, _, _, _, _, _, _, _, _, _, _, _, _, rfl, ?_, ?_, ?_, ?_, ?_, ?_, ?_, ?_, ?_, ?_, ?_, ?_, ?_, ?_, ?_, ?_, ?_, ?_, ?_, ?_, ?_⟩
      · first | exact hHeld | exact hHeld.trans (hb.mono hHeld.size) | (trace_state; fail)
      · first | exact flag_ne (by decide) f0 | exact fun _ => rfl
      · first | exact flag_ne (by decide) f1 | exact fun _ => rfl
      · intro h h7; rw [getD_set_ne false (by decide)] at h; rw [getD_set_ne true (by decide)] at h7; have := f2 h h7; first | exact this | exact owns_below this hb | (trace_state; fail)
      · intro _; first | rfl | (trace_state; fail)
      · first | exact flag_ne (by decide) f4 | exact fun _ => rfl
      · intro h; rw [getD_set_ne false (by decide)] at h; exact (getD_no h0 (hC.step (j := 4) (k := 3) (hC.step (j := 5) (k := 4) h (by kernel_rfl)) (by kernel_rfl))).elim
      · intro h _; rw [getD_set_ne false (by decide)] at h; exact (getD_no h0 (hC.step (j := 4) (k := 3) (hC.step (j := 5) (k := 4) (hC.step (j := 6) (k := 5) h (by kernel_rfl)) (by kernel_rfl)) (by kernel_rfl))).elim
      · intro h; rw [getD_set_ne false (by decide)] at h; exact (getD_no h0 (hC.step (j := 4) (k := 3) (hC.step (j := 5) (k := 4) (hC.step (j := 6) (k := 5) (hC.step (j := 7) (k := 6) h (by kernel_rfl)) (by kernel_rfl)) (by kernel_rfl)) (by kernel_rfl))).elim
      · first | exact flag_ne (by decide) f8 | exact fun _ => rfl
      · first | exact flag_ne (by decide) f9 | exact fun _ => rfl
      · first | exact flag_ne (by decide) f10 | exact fun _ => rfl
      · first | exact flag_ne (by decide) f11 | exact fun _ => rfl
      · first | exact flag_ne (by decide) f12 | exact fun _ => rfl
      · first | exact flag_ne (by decide) f13 | exact fun _ => rfl
      · first | exact flag_ne (by decide) f14 | exact fun _ => rfl
      · intro h; rw [getD_set_ne false (by decide)] at h; exact (getD_no h0 (hC.step (j := 4) (k := 3) (hC.step (j := 5) (k := 4) (hC.step (j := 6) (k := 5) (hC.step (j := 7) (k := 6) (hC.step (j := 12) (k := 7) (hC.step (j := 15) (k := 12) h (by kernel_rfl)) (by kernel_rfl)) (by kernel_rfl)) (by kernel_rfl)) (by kernel_rfl)) (by kernel_rfl))).elim
      · first | exact flag_ne (by decide) f16 | exact fun _ => rfl
      · first | exact flag_ne (by decide) f17 | exact fun _ => rfl
      · intro h; rw [getD_set_ne false (by decide)] at h; exact (getD_no h0 (hC.step (j := 18) (k := 3) h (by kernel_rfl))).elim
      · first | exact flag_ne (by decide) f19 | exact fun _ => rfl
    · refine StepAt.mk (o := { dst := some 8, op := Op.load 3 (Operand.tmp 7), type := 3, pos := _, after := #[{ on := 3, ground := Ground.data }], guard := none }) (ws := [3]) rfl (by kernel_rfl) ?_
      intro L b v hC h0 hA h
      refine h.elim ?_; clear h; intro u2 h
      refine h.elim ?_; clear h; intro u3 h
      refine h.elim ?_; clear h; intro u4 h
      refine h.elim ?_; clear h; intro u5 h
      refine h.elim ?_; clear h; intro u6 h
      refine h.elim ?_; clear h; intro u7 h
      refine h.elim ?_; clear h; intro u8 h
      refine h.elim ?_; clear h; intro u9 h
      refine h.elim ?_; clear h; intro u10 h
      refine h.elim ?_; clear h; intro u11 h
      refine h.elim ?_; clear h; intro u12 h
      refine h.elim ?_; clear h; intro u13 h
      refine h.elim ?_; clear h; intro u14 h
      refine h.elim ?_; clear h; intro u15 h
      refine h.elim ?_; clear h; intro u16 h
      refine h.elim ?_; clear h; intro u17 h
      refine h.elim ?_; clear h; intro u18 h
      refine h.elim ?_; clear h; intro u19 h
      refine h.elim ?_; clear h; intro u20 h
      refine h.elim ?_; clear h; intro u21 h
      have hbb := h.1; replace h := h.2; subst hbb
      have hHeld := h.1; replace h := h.2
      have f0 := h.1; replace h := h.2
      have f1 := h.1; replace h := h.2
      have f2 := h.1; replace h := h.2
      have f3 := h.1; replace h := h.2
      have f4 := h.1; replace h := h.2
      have f5 := h.1; replace h := h.2
      have f6 := h.1; replace h := h.2
      have f7 := h.1; replace h := h.2
      have f8 := h.1; replace h := h.2
      have f9 := h.1; replace h := h.2
      have f10 := h.1; replace h := h.2
      have f11 := h.1; replace h := h.2
      have f12 := h.1; replace h := h.2
      have f13 := h.1; replace h := h.2
      have f14 := h.1; replace h := h.2
      have f15 := h.1; replace h := h.2
      have f16 := h.1; replace h := h.2
      have f17 := h.1; replace h := h.2
      have f18 := h.1; replace h := h.2
      have f19 := h; clear h
      intro K hK
      have g3 := f3 (hA 3 (by simp))
      obtain rfl := g3
      rw [if_pos (by kernel_rfl)]
      have q0 := cellB hHeld C0 hz0
      have q1 := cellB hHeld C1 hz0
      go_simp
      try simp only [Act.put, List.setIfInBounds_toArray, List.set_cons_zero, List.set_cons_succ]
      refine hK.out _ _ ⟨_, _, _, _, _, _, _, _, _, _, _, _, _, _, _, _, _, _, _, _, rfl, ?_, ?_, ?_, ?_, ?_, ?_, ?_, ?_, ?_, ?_, ?_, ?_, ?_, ?_, ?_, ?_, ?_, ?_, ?_, ?_, ?_⟩
      · first | exact hHeld | exact hHeld.trans (hb.mono hHeld.size) | (trace_state; fail)
      · first | exact flag_ne (by decide) f0 | exact fun _ => rfl
      · first | exact flag_ne (by decide) f1 | exact fun _ => rfl
      · intro h h7; rw [getD_set_ne false (by decide)] at h; rw [getD_set_ne true (by decide)] at h7; have := f2 h h7; first | exact this | exact owns_below this hb | (trace_state; fail)
      · first | exact flag_ne (by decide) f3 | exact fun _ => rfl
      · intro _; first | rfl | (trace_state; fail)
      · intro h; rw [getD_set_ne false (by decide)] at h; exact (getD_no h0 (hC.step (j := 5) (k := 4) h (by kernel_rfl))).elim
      · intro h _; rw [getD_set_ne false (by decide)] at h; exact (getD_no h0 (hC.step (j := 5) (k := 4) (hC.step (j := 6) (k := 5) h (by kernel_rfl)) (by kernel_rfl))).elim
      · intro h; rw [getD_set_ne false (by decide)] at h; exact (getD_no h0 (hC.step (j := 5) (k := 4) (hC.step (j := 6) (k := 5) (hC.step (j := 7) (k := 6) h (by kernel_rfl)) (by kernel_rfl)) (by kernel_rfl))).elim
      · first | exact flag_ne (by decide) f8 | exact fun _ => rfl
      · first | exact flag_ne (by decide) f9 | exact fun _ => rfl
      · first | exact flag_ne (by decide) f10 | exact fun _ => rfl
      · first | exact flag_ne (by decide) f11 | exact fun _ => rfl
      · first | exact flag_ne (by decide) f12 | exact fun _ => rfl
      · first | exact flag_ne (by decide) f13 | exact fun _ => rfl
      · first | exact flag_ne (by decide) f14 | exact fun _ => rfl
      · intro h; rw [getD_set_ne false (by decide)] at h; exact (getD_no h0 (hC.step (j := 5) (k := 4) (hC.step (j := 6) (k := 5) (hC.step (j := 7) (k := 6) (hC.step (j := 12) (k := 7) (hC.step (j := 15) (k := 12) h (by kernel_rfl)) (by kernel_rfl)) (by kernel_rfl)) (by kernel_rfl)) (by kernel_rfl))).elim
      · first | exact flag_ne (by decide) f16 | exact fun _ => rfl
      · first | exact flag_ne (by decide) f17 | exact fun _ => rfl
      · intro h; rw [getD_set_ne false (by decide)] at h; exact (getD_no h0 (hC.step (j := 18) (k := 4) h (by kernel_rfl))).elim
      · first | exact flag_ne (by decide) f19 | exact fun _ => rfl
    · refine StepAt.mk (o := { dst := some 9, op := Op.buildSlice 45 1 #[(0, Operand.tmp 8)], type := 45, pos := _, after := #[{ on := 4, ground := Ground.data }], guard := none }) (ws := [4]) rfl (by kernel_rfl) ?_
      intro L b v hC h0 hA h
      refine h.elim ?_; clear h; intro u2 h
      refine h.elim ?_; clear h; intro u3 h
      refine h.elim ?_; clear h; intro u4 h
      refine h.elim ?_; clear h; intro u5 h
      refine h.elim ?_; clear h; intro u6 h
      refine h.elim ?_; clear h; intro u7 h
      refine h.elim ?_; clear h; intro u8 h
      refine h.elim ?_; clear h; intro u9 h
      refine h.elim ?_; clear h; intro u10 h
      refine h.elim ?_; clear h; intro u11 h
      refine h.elim ?_; clear h; intro u12 h
      refine h.elim ?_; clear h; intro u13 h
      refine h.elim ?_; clear h; intro u14 h
      refine h.elim ?_; clear h; intro u15 h
      refine h.elim ?_; clear h; intro u16 h
      refine h.elim ?_; clear h; intro u17 h
      refine h.elim ?_; clear h; intro u18 h
      refine h.elim ?_; clear h; intro u19 h
      refine h.elim ?_; clear h; intro u20 h
      refine h.elim ?_; clear h; intro u21 h
      have hbb := h.1; replace h := h.2; subst hbb
      have hHeld := h.1; replace h := h.2
      have f0 := h.1; replace h := h.2
      have f1 := h.1; replace h := h.2
      have f2 := h.1; replace h := h.2
      have f3 := h.1; replace h := h.2
      have f4 := h.1; replace h := h.2
      have f5 := h.1; replace h := h.2
      have f6 := h.1; replace h := h.2
      have f7 := h.1; replace h := h.2
      have f8 := h.1; replace h := h.2
      have f9 := h.1; replace h := h.2
      have f10 := h.1; replace h := h.2
      have f11 := h.1; replace h := h.2
      have f12 := h.1; replace h := h.2
      have f13 := h.1; replace h := h.2
      have f14 := h.1; replace h := h.2
      have f15 := h.1; replace h := h.2
      have f16 := h.1; replace h := h.2
      have f17 := h.1; replace h := h.2
      have f18 := h.1; replace h := h.2
      have f19 := h; clear h
      intro K hK
      have g4 := f4 (hA 4 (by simp))
      obtain rfl := g4
      rw [if_pos (by kernel_rfl)]
      have q0 := cellB hHeld C0 hz0
      have q1 := cellB hHeld C1 hz0
      go_simp
      try simp only [Act.put, List.setIfInBounds_toArray, List.set_cons_zero, List.set_cons_succ]
      have hb : Below v.heap.size v (v.alloc (.cells #[.int .i64 k] 3)) := (Below.refl _ _).alloc (Nat.le_refl _) _
      refine hK.out _ _ ⟨_, _, _, _, _, _, _, _, _, _, _, _, _, _, _, _, _, _, _, _, rfl, ?_, ?_, ?_, ?_, ?_, ?_, ?_, ?_, ?_, ?_, ?_, ?_, ?_, ?_, ?_, ?_, ?_, ?_, ?_, ?_, ?_⟩
      · first | exact hHeld | exact hHeld.trans (hb.mono hHeld.size) | (trace_state; fail)
      · first | exact flag_ne (by decide) f0 | exact fun _ => rfl
      · first | exact flag_ne (by decide) f1 | exact fun _ => rfl
      · intro h h7; rw [getD_set_ne false (by decide)] at h; rw [getD_set_ne true (by decide)] at h7; have := f2 h h7; first | exact this | exact owns_below this hb | (trace_state; fail)
      · first | exact flag_ne (by decide) f3 | exact fun _ => rfl
      · first | exact flag_ne (by decide) f4 | exact fun _ => rfl
      · intro _; first | exact ⟨_, rfl, owns_int1 _ k hHeld.size⟩ | (trace_state; fail)
      · intro h _; rw [getD_set_ne false (by decide)] at h; exact (getD_no h0 (hC.step (j := 6) (k := 5) h (by kernel_rfl))).elim
      · intro h; rw [getD_set_ne false (by decide)] at h; exact (getD_no h0 (hC.step (j := 6) (k := 5) (hC.step (j := 7) (k := 6) h (by kernel_rfl)) (by kernel_rfl))).elim
      · first | exact flag_ne (by decide) f8 | exact fun _ => rfl
      · first | exact flag_ne (by decide) f9 | exact fun _ => rfl
      · first | exact flag_ne (by decide) f10 | exact fun _ => rfl
      · first | exact flag_ne (by decide) f11 | exact fun _ => rfl
      · first | exact flag_ne (by decide) f12 | exact fun _ => rfl
      · first | exact flag_ne (by decide) f13 | exact fun _ => rfl
      · first | exact flag_ne (by decide) f14 | exact fun _ => rfl
      · intro h; rw [getD_set_ne false (by decide)] at h; exact (getD_no h0 (hC.step (j := 6) (k := 5) (hC.step (j := 7) (k := 6) (hC.step (j := 12) (k := 7) (hC.step (j := 15) (k := 12) h (by kernel_rfl)) (by kernel_rfl)) (by kernel_rfl)) (by kernel_rfl))).elim
      · first | exact flag_ne (by decide) f16 | exact fun _ => rfl
      · first | exact flag_ne (by decide) f17 | exact fun _ => rfl
      · intro h; rw [getD_set_ne false (by decide)] at h; exact (getD_no h0 (hC.step (j := 18) (k := 5) h (by kernel_rfl))).elim
      · first | exact flag_ne (by decide) f19 | exact fun _ => rfl
    · refine StepAt.mk (o := { dst := some 10, op := Op.call { callee := Callee.value (Operand.func 47), args := #[Operand.tmp 9], argTypes := #[45] }, type := 30, pos := _, after := #[{ on := 5, ground := Ground.data }, { on := 2, ground := Ground.chain }], guard := none }) (ws := [5, 2]) rfl (by kernel_rfl) ?_
      intro L b v hC h0 hA h
      refine h.elim ?_; clear h; intro u2 h
      refine h.elim ?_; clear h; intro u3 h
      refine h.elim ?_; clear h; intro u4 h
      refine h.elim ?_; clear h; intro u5 h
      refine h.elim ?_; clear h; intro u6 h
      refine h.elim ?_; clear h; intro u7 h
      refine h.elim ?_; clear h; intro u8 h
      refine h.elim ?_; clear h; intro u9 h
      refine h.elim ?_; clear h; intro u10 h
      refine h.elim ?_; clear h; intro u11 h
      refine h.elim ?_; clear h; intro u12 h
      refine h.elim ?_; clear h; intro u13 h
      refine h.elim ?_; clear h; intro u14 h
      refine h.elim ?_; clear h; intro u15 h
      refine h.elim ?_; clear h; intro u16 h
      refine h.elim ?_; clear h; intro u17 h
      refine h.elim ?_; clear h; intro u18 h
      refine h.elim ?_; clear h; intro u19 h
      refine h.elim ?_; clear h; intro u20 h
      refine h.elim ?_; clear h; intro u21 h
      have hbb := h.1; replace h := h.2; subst hbb
      have hHeld := h.1; replace h := h.2
      have f0 := h.1; replace h := h.2
      have f1 := h.1; replace h := h.2
      have f2 := h.1; replace h := h.2
      have f3 := h.1; replace h := h.2
      have f4 := h.1; replace h := h.2
      have f5 := h.1; replace h := h.2
      have f6 := h.1; replace h := h.2
      have f7 := h.1; replace h := h.2
      have f8 := h.1; replace h := h.2
      have f9 := h.1; replace h := h.2
      have f10 := h.1; replace h := h.2
      have f11 := h.1; replace h := h.2
      have f12 := h.1; replace h := h.2
      have f13 := h.1; replace h := h.2
      have f14 := h.1; replace h := h.2
      have f15 := h.1; replace h := h.2
      have f16 := h.1; replace h := h.2
      have f17 := h.1; replace h := h.2
      have f18 := h.1; replace h := h.2
      have f19 := h; clear h
      intro K hK
      have g5 := f5 (hA 5 (by simp))
      obtain ⟨q9, rfl, H9⟩ := g5
      have g2 := f2 (hA 2 (by simp))
      rw [if_pos (by kernel_rfl)]
      have q0 := cellB hHeld C0 hz0
      have q1 := cellB hHeld C1 hz0
      go_simp
      refine (tab_bytesOf _ [k] v (row_of_owns H9 (fun z hz => by simp at hz; exact hz ▸ hk)) (by simp)).mono ?_; rintro e v1 ⟨r, rfl, HO, hb⟩
      go_wp2_with fail
      try simp only [Act.put, List.setIfInBounds_toArray, List.set_cons_zero, List.set_cons_succ]
      refine hK.out _ _ ⟨_, _, _, _, _, _, _, _, _, _, _, _, _, _, _, _, _, _, _, _, rfl, ?_, ?_, ?_, ?_, ?_, ?_, ?_, ?_, ?_, ?_, ?_, ?_, ?_, ?_, ?_, ?_, ?_, ?_, ?_, ?_, ?_⟩
      · first | exact hHeld | exact hHeld.trans (hb.mono hHeld.size) | (trace_state; fail)
      · first | exact flag_ne (by decide) f0 | exact fun _ => rfl
      · first | exact flag_ne (by decide) f1 | exact fun _ => rfl
      · intro h h7; rw [getD_set_ne false (by decide)] at h; rw [getD_set_ne true (by decide)] at h7; have := f2 h h7; first | exact this | exact owns_below this hb | (trace_state; fail)
      · first | exact flag_ne (by decide) f3 | exact fun _ => rfl
      · first | exact flag_ne (by decide) f4 | exact fun _ => rfl
      · intro h; rw [getD_set_ne false (by decide)] at h; have := f5 h; obtain ⟨q, e1, e2⟩ := this; exact (by first | exact ⟨q, e1, e2⟩ | exact ⟨q, e1, owns_below e2 hb⟩ | exact ⟨q, e1, owns_grown e2 hG (fun g hg => owns_type e2 g2 (by decide) hg)⟩ | (trace_state; fail))
      · intro _ _; first | (exact own_low HO hHeld.size) | (trace_state; fail)
      · intro h; rw [getD_set_ne false (by decide)] at h; exact (getD_no h0 (hC.step (j := 7) (k := 6) h (by kernel_rfl))).elim
      · first | exact flag_ne (by decide) f8 | exact fun _ => rfl
      · first | exact flag_ne (by decide) f9 | exact fun _ => rfl
      · first | exact flag_ne (by decide) f10 | exact fun _ => rfl
      · first | exact flag_ne (by decide) f11 | exact fun _ => rfl
      · first | exact flag_ne (by decide) f12 | exact fun _ => rfl
      · first | exact flag_ne (by decide) f13 | exact fun _ => rfl
      · first | exact flag_ne (by decide) f14 | exact fun _ => rfl
      · intro h; rw [getD_set_ne false (by decide)] at h; exact (getD_no h0 (hC.step (j := 7) (k := 6) (hC.step (j := 12) (k := 7) (hC.step (j := 15) (k := 12) h (by kernel_rfl)) (by kernel_rfl)) (by kernel_rfl))).elim
      · first | exact flag_ne (by decide) f16 | exact fun _ => rfl
      · first | exact flag_ne (by decide) f17 | exact fun _ => rfl
      · intro h; rw [getD_set_ne false (by decide)] at h; exact (getD_no h0 (hC.step (j := 18) (k := 6) h (by kernel_rfl))).elim
      · first | exact flag_ne (by decide) f19 | exact fun _ => rfl
    · refine StepAt.mk (o := { dst := some 11, op := Op.call { callee := Callee.builtin Builtin.append, args := #[Operand.tmp 6, Operand.tmp 10], argTypes := #[30, 30] }, type := 30, pos := _, after := #[{ on := 2, ground := Ground.data }, { on := 6, ground := Ground.data }, { on := 6, ground := Ground.chain }], guard := none }) (ws := [2, 6, 6]) rfl (by kernel_rfl) ?_
      intro L b v hC h0 hA h
      refine h.elim ?_; clear h; intro u2 h
      refine h.elim ?_; clear h; intro u3 h
      refine h.elim ?_; clear h; intro u4 h
      refine h.elim ?_; clear h; intro u5 h
      refine h.elim ?_; clear h; intro u6 h
      refine h.elim ?_; clear h; intro u7 h
      refine h.elim ?_; clear h; intro u8 h
      refine h.elim ?_; clear h; intro u9 h
      refine h.elim ?_; clear h; intro u10 h
      refine h.elim ?_; clear h; intro u11 h
      refine h.elim ?_; clear h; intro u12 h
      refine h.elim ?_; clear h; intro u13 h
      refine h.elim ?_; clear h; intro u14 h
      refine h.elim ?_; clear h; intro u15 h
      refine h.elim ?_; clear h; intro u16 h
      refine h.elim ?_; clear h; intro u17 h
      refine h.elim ?_; clear h; intro u18 h
      refine h.elim ?_; clear h; intro u19 h
      refine h.elim ?_; clear h; intro u20 h
      refine h.elim ?_; clear h; intro u21 h
      have hbb := h.1; replace h := h.2; subst hbb
      have hHeld := h.1; replace h := h.2
      have f0 := h.1; replace h := h.2
      have f1 := h.1; replace h := h.2
      have f2 := h.1; replace h := h.2
      have f3 := h.1; replace h := h.2
      have f4 := h.1; replace h := h.2
      have f5 := h.1; replace h := h.2
      have f6 := h.1; replace h := h.2
      have f7 := h.1; replace h := h.2
      have f8 := h.1; replace h := h.2
      have f9 := h.1; replace h := h.2
      have f10 := h.1; replace h := h.2
      have f11 := h.1; replace h := h.2
      have f12 := h.1; replace h := h.2
      have f13 := h.1; replace h := h.2
      have f14 := h.1; replace h := h.2
      have f15 := h.1; replace h := h.2
      have f16 := h.1; replace h := h.2
      have f17 := h.1; replace h := h.2
      have f18 := h.1; replace h := h.2
      have f19 := h; clear h
      intro K hK
      have g2 := f2 (hA 2 (by simp)) h0
      have g6 := f6 (hA 6 (by simp)) h0
      rw [if_pos (by kernel_rfl)]
      have q0 := cellB hHeld C0 hz0
      have q1 := cellB hHeld C1 hz0
      refine wp_append_src (.tmp 6) (.tmp 10) 30 rfl W0.heap.size 5 i (.int .u8 0) 1 1 Tryd.underlying30 hi hz hsize hby rfl (by omega) u6 N _ rfl g2 u10 1 _ rfl (src_own g6) rfl (bytesV_one _) (by unfold maxLen; omega) (by omega) hHeld.size ?_; intro v' w' HO hG
      try simp only [Act.put, List.setIfInBounds_toArray, List.set_cons_zero, List.set_cons_succ]
      refine hK.out _ _ ⟨_, _, _, _, _, _, _, _, _, _, _, _, _, _, _, _, _, _, _, _, rfl, ?_, ?_, ?_, ?_, ?_, ?_, ?_, ?_, ?_, ?_, ?_, ?_, ?_, ?_, ?_, ?_, ?_, ?_, ?_, ?_, ?_⟩
      · exact grown3 hHeld hHeld.size g2 hG
      · first | exact flag_ne (by decide) f0 | exact fun _ => rfl
      · first | exact flag_ne (by decide) f1 | exact fun _ => rfl
      · intro _ h7; rw [getD_set_self] at h7; cases h7
      · first | exact flag_ne (by decide) f3 | exact fun _ => rfl
      · first | exact flag_ne (by decide) f4 | exact fun _ => rfl
      · intro h; rw [getD_set_ne false (by decide)] at h; have := f5 h; obtain ⟨q, e1, e2⟩ := this; exact (by first | exact ⟨q, e1, e2⟩ | exact ⟨q, e1, owns_below e2 hb⟩ | exact ⟨q, e1, owns_grown e2 hG (fun g hg => owns_type e2 g2 (by decide) hg)⟩ | (trace_state; fail))
      · intro _ h7; rw [getD_set_self] at h7; cases h7
      · intro _; first | exact HO | (trace_state; fail)
      · first | exact flag_ne (by decide) f8 | exact fun _ => rfl
      · first | exact flag_ne (by decide) f9 | exact fun _ => rfl
      · first | exact flag_ne (by decide) f10 | exact fun _ => rfl
      · first | exact flag_ne (by decide) f11 | exact fun _ => rfl
      · first | exact flag_ne (by decide) f12 | exact fun _ => rfl
      · first | exact flag_ne (by decide) f13 | exact fun _ => rfl
      · first | exact flag_ne (by decide) f14 | exact fun _ => rfl
      · intro h; rw [getD_set_ne false (by decide)] at h; exact (getD_no h0 (hC.step (j := 12) (k := 7) (hC.step (j := 15) (k := 12) h (by kernel_rfl)) (by kernel_rfl))).elim
      · first | exact flag_ne (by decide) f16 | exact fun _ => rfl
      · first | exact flag_ne (by decide) f17 | exact fun _ => rfl
      · intro h; rw [getD_set_ne false (by decide)] at h; exact (getD_no h0 (hC.step (j := 18) (k := 7) h (by kernel_rfl))).elim
      · first | exact flag_ne (by decide) f19 | exact fun _ => rfl
    · refine StepAt.mk (o := { dst := some 12, op := Op.fieldAddr 43 (Operand.tmp 1) 0, type := 0, pos := _, after := #[], guard := none }) (ws := []) rfl (by kernel_rfl) ?_
      intro L b v hC h0 hA h
      refine h.elim ?_; clear h; intro u2 h
      refine h.elim ?_; clear h; intro u3 h
      refine h.elim ?_; clear h; intro u4 h
      refine h.elim ?_; clear h; intro u5 h
      refine h.elim ?_; clear h; intro u6 h
      refine h.elim ?_; clear h; intro u7 h
      refine h.elim ?_; clear h; intro u8 h
      refine h.elim ?_; clear h; intro u9 h
      refine h.elim ?_; clear h; intro u10 h
      refine h.elim ?_; clear h; intro u11 h
      refine h.elim ?_; clear h; intro u12 h
      refine h.elim ?_; clear h; intro u13 h
      refine h.elim ?_; clear h; intro u14 h
      refine h.elim ?_; clear h; intro u15 h
      refine h.elim ?_; clear h; intro u16 h
      refine h.elim ?_; clear h; intro u17 h
      refine h.elim ?_; clear h; intro u18 h
      refine h.elim ?_; clear h; intro u19 h
      refine h.elim ?_; clear h; intro u20 h
      refine h.elim ?_; clear h; intro u21 h
      have hbb := h.1; replace h := h.2; subst hbb
      have hHeld := h.1; replace h := h.2
      have f0 := h.1; replace h := h.2
      have f1 := h.1; replace h := h.2
      have f2 := h.1; replace h := h.2
      have f3 := h.1; replace h := h.2
      have f4 := h.1; replace h := h.2
      have f5 := h.1; replace h := h.2
      have f6 := h.1; replace h := h.2
      have f7 := h.1; replace h := h.2
      have f8 := h.1; replace h := h.2
      have f9 := h.1; replace h := h.2
      have f10 := h.1; replace h := h.2
      have f11 := h.1; replace h := h.2
      have f12 := h.1; replace h := h.2
      have f13 := h.1; replace h := h.2
      have f14 := h.1; replace h := h.2
      have f15 := h.1; replace h := h.2
      have f16 := h.1; replace h := h.2
      have f17 := h.1; replace h := h.2
      have f18 := h.1; replace h := h.2
      have f19 := h; clear h
      intro K hK
      rw [if_pos (by kernel_rfl)]
      have q0 := cellB hHeld C0 hz0
      have q1 := cellB hHeld C1 hz0
      go_simp
      try simp only [Act.put, List.setIfInBounds_toArray, List.set_cons_zero, List.set_cons_succ]
      refine hK.out _ _ ⟨_, _, _, _, _, _, _, _, _, _, _, _, _, _, _, _, _, _, _, _, rfl, ?_, ?_, ?_, ?_, ?_, ?_, ?_, ?_, ?_, ?_, ?_, ?_, ?_, ?_, ?_, ?_, ?_, ?_, ?_, ?_, ?_⟩
      · first | exact hHeld | exact hHeld.trans (hb.mono hHeld.size) | (trace_state; fail)
      · first | exact flag_ne (by decide) f0 | exact fun _ => rfl
      · first | exact flag_ne (by decide) f1 | exact fun _ => rfl
      · intro h h7; rw [getD_set_ne false (by decide)] at h; rw [getD_set_ne true (by decide)] at h7; have := f2 h h7; first | exact this | exact owns_below this hb | (trace_state; fail)
      · first | exact flag_ne (by decide) f3 | exact fun _ => rfl
      · first | exact flag_ne (by decide) f4 | exact fun _ => rfl
      · intro h; rw [getD_set_ne false (by decide)] at h; have := f5 h; obtain ⟨q, e1, e2⟩ := this; exact (by first | exact ⟨q, e1, e2⟩ | exact ⟨q, e1, owns_below e2 hb⟩ | exact ⟨q, e1, owns_grown e2 hG (fun g hg => owns_type e2 g2 (by decide) hg)⟩ | (trace_state; fail))
      · intro h h7; rw [getD_set_ne false (by decide)] at h; rw [getD_set_ne true (by decide)] at h7; have := f6 h h7; first | exact this | exact owns_below this hb | (trace_state; fail)
      · intro h; rw [getD_set_ne false (by decide)] at h; have := f7 h; first | exact this | exact owns_below this hb | (trace_state; fail)
      · intro _; first | rfl | (trace_state; fail)
      · first | exact flag_ne (by decide) f9 | exact fun _ => rfl
      · first | exact flag_ne (by decide) f10 | exact fun _ => rfl
      · first | exact flag_ne (by decide) f11 | exact fun _ => rfl
      · first | exact flag_ne (by decide) f12 | exact fun _ => rfl
      · first | exact flag_ne (by decide) f13 | exact fun _ => rfl
      · first | exact flag_ne (by decide) f14 | exact fun _ => rfl
      · intro h; rw [getD_set_ne false (by decide)] at h; exact (getD_no h0 (hC.step (j := 9) (k := 8) (hC.step (j := 10) (k := 9) (hC.step (j := 11) (k := 10) (hC.step (j := 12) (k := 11) (hC.step (j := 15) (k := 12) h (by kernel_rfl)) (by kernel_rfl)) (by kernel_rfl)) (by kernel_rfl)) (by kernel_rfl))).elim
      · first | exact flag_ne (by decide) f16 | exact fun _ => rfl
      · first | exact flag_ne (by decide) f17 | exact fun _ => rfl
      · intro h; rw [getD_set_ne false (by decide)] at h; exact (getD_no h0 (hC.step (j := 9) (k := 8) (hC.step (j := 10) (k := 9) (hC.step (j := 11) (k := 10) (hC.step (j := 12) (k := 11) (hC.step (j := 16) (k := 12) (hC.step (j := 18) (k := 16) h (by kernel_rfl)) (by kernel_rfl)) (by kernel_rfl)) (by kernel_rfl)) (by kernel_rfl)) (by kernel_rfl))).elim
      · first | exact flag_ne (by decide) f19 | exact fun _ => rfl
    · refine StepAt.mk (o := { dst := some 13, op := Op.load 9 (Operand.tmp 12), type := 9, pos := _, after := #[{ on := 8, ground := Ground.data }], guard := none }) (ws := [8]) rfl (by kernel_rfl) ?_
      intro L b v hC h0 hA h
      refine h.elim ?_; clear h; intro u2 h
      refine h.elim ?_; clear h; intro u3 h
      refine h.elim ?_; clear h; intro u4 h
      refine h.elim ?_; clear h; intro u5 h
      refine h.elim ?_; clear h; intro u6 h
      refine h.elim ?_; clear h; intro u7 h
      refine h.elim ?_; clear h; intro u8 h
      refine h.elim ?_; clear h; intro u9 h
      refine h.elim ?_; clear h; intro u10 h
      refine h.elim ?_; clear h; intro u11 h
      refine h.elim ?_; clear h; intro u12 h
      refine h.elim ?_; clear h; intro u13 h
      refine h.elim ?_; clear h; intro u14 h
      refine h.elim ?_; clear h; intro u15 h
      refine h.elim ?_; clear h; intro u16 h
      refine h.elim ?_; clear h; intro u17 h
      refine h.elim ?_; clear h; intro u18 h
      refine h.elim ?_; clear h; intro u19 h
      refine h.elim ?_; clear h; intro u20 h
      refine h.elim ?_; clear h; intro u21 h
      have hbb := h.1; replace h := h.2; subst hbb
      have hHeld := h.1; replace h := h.2
      have f0 := h.1; replace h := h.2
      have f1 := h.1; replace h := h.2
      have f2 := h.1; replace h := h.2
      have f3 := h.1; replace h := h.2
      have f4 := h.1; replace h := h.2
      have f5 := h.1; replace h := h.2
      have f6 := h.1; replace h := h.2
      have f7 := h.1; replace h := h.2
      have f8 := h.1; replace h := h.2
      have f9 := h.1; replace h := h.2
      have f10 := h.1; replace h := h.2
      have f11 := h.1; replace h := h.2
      have f12 := h.1; replace h := h.2
      have f13 := h.1; replace h := h.2
      have f14 := h.1; replace h := h.2
      have f15 := h.1; replace h := h.2
      have f16 := h.1; replace h := h.2
      have f17 := h.1; replace h := h.2
      have f18 := h.1; replace h := h.2
      have f19 := h; clear h
      intro K hK
      have g8 := f8 (hA 8 (by simp))
      obtain rfl := g8
      rw [if_pos (by kernel_rfl)]
      have q0 := cellB hHeld C0 hz0
      have q1 := cellB hHeld C1 hz0
      go_simp
      try simp only [Act.put, List.setIfInBounds_toArray, List.set_cons_zero, List.set_cons_succ]
      refine hK.out _ _ ⟨_, _, _, _, _, _, _, _, _, _, _, _, _, _, _, _, _, _, _, _, rfl, ?_, ?_, ?_, ?_, ?_, ?_, ?_, ?_, ?_, ?_, ?_, ?_, ?_, ?_, ?_, ?_, ?_, ?_, ?_, ?_, ?_⟩
      · first | exact hHeld | exact hHeld.trans (hb.mono hHeld.size) | (trace_state; fail)
      · first | exact flag_ne (by decide) f0 | exact fun _ => rfl
      · first | exact flag_ne (by decide) f1 | exact fun _ => rfl
      · intro h h7; rw [getD_set_ne false (by decide)] at h; rw [getD_set_ne true (by decide)] at h7; have := f2 h h7; first | exact this | exact owns_below this hb | (trace_state; fail)
      · first | exact flag_ne (by decide) f3 | exact fun _ => rfl
      · first | exact flag_ne (by decide) f4 | exact fun _ => rfl
      · intro h; rw [getD_set_ne false (by decide)] at h; have := f5 h; obtain ⟨q, e1, e2⟩ := this; exact (by first | exact ⟨q, e1, e2⟩ | exact ⟨q, e1, owns_below e2 hb⟩ | exact ⟨q, e1, owns_grown e2 hG (fun g hg => owns_type e2 g2 (by decide) hg)⟩ | (trace_state; fail))
      · intro h h7; rw [getD_set_ne false (by decide)] at h; rw [getD_set_ne true (by decide)] at h7; have := f6 h h7; first | exact this | exact owns_below this hb | (trace_state; fail)
      · intro h; rw [getD_set_ne false (by decide)] at h; have := f7 h; first | exact this | exact owns_below this hb | (trace_state; fail)
      · first | exact flag_ne (by decide) f8 | exact fun _ => rfl
      · intro _; first | rfl | (trace_state; fail)
      · first | exact flag_ne (by decide) f10 | exact fun _ => rfl
      · first | exact flag_ne (by decide) f11 | exact fun _ => rfl
      · first | exact flag_ne (by decide) f12 | exact fun _ => rfl
      · first | exact flag_ne (by decide) f13 | exact fun _ => rfl
      · first | exact flag_ne (by decide) f14 | exact fun _ => rfl
      · intro h; rw [getD_set_ne false (by decide)] at h; exact (getD_no h0 (hC.step (j := 10) (k := 9) (hC.step (j := 11) (k := 10) (hC.step (j := 12) (k := 11) (hC.step (j := 15) (k := 12) h (by kernel_rfl)) (by kernel_rfl)) (by kernel_rfl)) (by kernel_rfl))).elim
      · first | exact flag_ne (by decide) f16 | exact fun _ => rfl
      · first | exact flag_ne (by decide) f17 | exact fun _ => rfl
      · intro h; rw [getD_set_ne false (by decide)] at h; exact (getD_no h0 (hC.step (j := 10) (k := 9) (hC.step (j := 11) (k := 10) (hC.step (j := 12) (k := 11) (hC.step (j := 16) (k := 12) (hC.step (j := 18) (k := 16) h (by kernel_rfl)) (by kernel_rfl)) (by kernel_rfl)) (by kernel_rfl)) (by kernel_rfl))).elim
      · first | exact flag_ne (by decide) f19 | exact fun _ => rfl
    · refine StepAt.mk (o := { dst := some 14, op := Op.call { callee := Callee.builtin Builtin.len, args := #[Operand.tmp 13], argTypes := #[9] }, type := 3, pos := _, after := #[{ on := 9, ground := Ground.data }], guard := none }) (ws := [9]) rfl (by kernel_rfl) ?_
      intro L b v hC h0 hA h
      refine h.elim ?_; clear h; intro u2 h
      refine h.elim ?_; clear h; intro u3 h
      refine h.elim ?_; clear h; intro u4 h
      refine h.elim ?_; clear h; intro u5 h
      refine h.elim ?_; clear h; intro u6 h
      refine h.elim ?_; clear h; intro u7 h
      refine h.elim ?_; clear h; intro u8 h
      refine h.elim ?_; clear h; intro u9 h
      refine h.elim ?_; clear h; intro u10 h
      refine h.elim ?_; clear h; intro u11 h
      refine h.elim ?_; clear h; intro u12 h
      refine h.elim ?_; clear h; intro u13 h
      refine h.elim ?_; clear h; intro u14 h
      refine h.elim ?_; clear h; intro u15 h
      refine h.elim ?_; clear h; intro u16 h
      refine h.elim ?_; clear h; intro u17 h
      refine h.elim ?_; clear h; intro u18 h
      refine h.elim ?_; clear h; intro u19 h
      refine h.elim ?_; clear h; intro u20 h
      refine h.elim ?_; clear h; intro u21 h
      have hbb := h.1; replace h := h.2; subst hbb
      have hHeld := h.1; replace h := h.2
      have f0 := h.1; replace h := h.2
      have f1 := h.1; replace h := h.2
      have f2 := h.1; replace h := h.2
      have f3 := h.1; replace h := h.2
      have f4 := h.1; replace h := h.2
      have f5 := h.1; replace h := h.2
      have f6 := h.1; replace h := h.2
      have f7 := h.1; replace h := h.2
      have f8 := h.1; replace h := h.2
      have f9 := h.1; replace h := h.2
      have f10 := h.1; replace h := h.2
      have f11 := h.1; replace h := h.2
      have f12 := h.1; replace h := h.2
      have f13 := h.1; replace h := h.2
      have f14 := h.1; replace h := h.2
      have f15 := h.1; replace h := h.2
      have f16 := h.1; replace h := h.2
      have f17 := h.1; replace h := h.2
      have f18 := h.1; replace h := h.2
      have f19 := h; clear h
      intro K hK
      have g9 := f9 (hA 9 (by simp))
      obtain rfl := g9
      rw [if_pos (by kernel_rfl)]
      have q0 := cellB hHeld C0 hz0
      have q1 := cellB hHeld C1 hz0
      go_simp
      try simp only [Act.put, List.setIfInBounds_toArray, List.set_cons_zero, List.set_cons_succ]
      refine hK.out _ _ ⟨_, _, _, _, _, _, _, _, _, _, _, _, _, _, _, _, _, _, _, _, rfl, ?_, ?_, ?_, ?_, ?_, ?_, ?_, ?_, ?_, ?_, ?_, ?_, ?_, ?_, ?_, ?_, ?_, ?_, ?_, ?_, ?_⟩
      · first | exact hHeld | exact hHeld.trans (hb.mono hHeld.size) | (trace_state; fail)
      · first | exact flag_ne (by decide) f0 | exact fun _ => rfl
      · first | exact flag_ne (by decide) f1 | exact fun _ => rfl
      · intro h h7; rw [getD_set_ne false (by decide)] at h; rw [getD_set_ne true (by decide)] at h7; have := f2 h h7; first | exact this | exact owns_below this hb | (trace_state; fail)
      · first | exact flag_ne (by decide) f3 | exact fun _ => rfl
      · first | exact flag_ne (by decide) f4 | exact fun _ => rfl
      · intro h; rw [getD_set_ne false (by decide)] at h; have := f5 h; obtain ⟨q, e1, e2⟩ := this; exact (by first | exact ⟨q, e1, e2⟩ | exact ⟨q, e1, owns_below e2 hb⟩ | exact ⟨q, e1, owns_grown e2 hG (fun g hg => owns_type e2 g2 (by decide) hg)⟩ | (trace_state; fail))
      · intro h h7; rw [getD_set_ne false (by decide)] at h; rw [getD_set_ne true (by decide)] at h7; have := f6 h h7; first | exact this | exact owns_below this hb | (trace_state; fail)
      · intro h; rw [getD_set_ne false (by decide)] at h; have := f7 h; first | exact this | exact owns_below this hb | (trace_state; fail)
      · first | exact flag_ne (by decide) f8 | exact fun _ => rfl
      · first | exact flag_ne (by decide) f9 | exact fun _ => rfl
      · intro _; first | rfl | (trace_state; fail)
      · first | exact flag_ne (by decide) f11 | exact fun _ => rfl
      · first | exact flag_ne (by decide) f12 | exact fun _ => rfl
      · first | exact flag_ne (by decide) f13 | exact fun _ => rfl
      · first | exact flag_ne (by decide) f14 | exact fun _ => rfl
      · intro h; rw [getD_set_ne false (by decide)] at h; exact (getD_no h0 (hC.step (j := 11) (k := 10) (hC.step (j := 12) (k := 11) (hC.step (j := 15) (k := 12) h (by kernel_rfl)) (by kernel_rfl)) (by kernel_rfl))).elim
      · first | exact flag_ne (by decide) f16 | exact fun _ => rfl
      · first | exact flag_ne (by decide) f17 | exact fun _ => rfl
      · intro h; rw [getD_set_ne false (by decide)] at h; exact (getD_no h0 (hC.step (j := 11) (k := 10) (hC.step (j := 12) (k := 11) (hC.step (j := 16) (k := 12) (hC.step (j := 18) (k := 16) h (by kernel_rfl)) (by kernel_rfl)) (by kernel_rfl)) (by kernel_rfl))).elim
      · first | exact flag_ne (by decide) f19 | exact fun _ => rfl
    · refine StepAt.mk (o := { dst := some 15, op := Op.binOp BinOp.leq 3 (Operand.tmp 14) (Operand.const (Value.int IntKind.i64 255)) 3, type := 4, pos := _, after := #[{ on := 10, ground := Ground.data }], guard := none }) (ws := [10]) rfl (by kernel_rfl) ?_
      intro L b v hC h0 hA h
      refine h.elim ?_; clear h; intro u2 h
      refine h.elim ?_; clear h; intro u3 h
      refine h.elim ?_; clear h; intro u4 h
      refine h.elim ?_; clear h; intro u5 h
      refine h.elim ?_; clear h; intro u6 h
      refine h.elim ?_; clear h; intro u7 h
      refine h.elim ?_; clear h; intro u8 h
      refine h.elim ?_; clear h; intro u9 h
      refine h.elim ?_; clear h; intro u10 h
      refine h.elim ?_; clear h; intro u11 h
      refine h.elim ?_; clear h; intro u12 h
      refine h.elim ?_; clear h; intro u13 h
      refine h.elim ?_; clear h; intro u14 h
      refine h.elim ?_; clear h; intro u15 h
      refine h.elim ?_; clear h; intro u16 h
      refine h.elim ?_; clear h; intro u17 h
      refine h.elim ?_; clear h; intro u18 h
      refine h.elim ?_; clear h; intro u19 h
      refine h.elim ?_; clear h; intro u20 h
      refine h.elim ?_; clear h; intro u21 h
      have hbb := h.1; replace h := h.2; subst hbb
      have hHeld := h.1; replace h := h.2
      have f0 := h.1; replace h := h.2
      have f1 := h.1; replace h := h.2
      have f2 := h.1; replace h := h.2
      have f3 := h.1; replace h := h.2
      have f4 := h.1; replace h := h.2
      have f5 := h.1; replace h := h.2
      have f6 := h.1; replace h := h.2
      have f7 := h.1; replace h := h.2
      have f8 := h.1; replace h := h.2
      have f9 := h.1; replace h := h.2
      have f10 := h.1; replace h := h.2
      have f11 := h.1; replace h := h.2
      have f12 := h.1; replace h := h.2
      have f13 := h.1; replace h := h.2
      have f14 := h.1; replace h := h.2
      have f15 := h.1; replace h := h.2
      have f16 := h.1; replace h := h.2
      have f17 := h.1; replace h := h.2
      have f18 := h.1; replace h := h.2
      have f19 := h; clear h
      intro K hK
      have g10 := f10 (hA 10 (by simp))
      obtain rfl := g10
      rw [if_pos (by kernel_rfl)]
      have q0 := cellB hHeld C0 hz0
      have q1 := cellB hHeld C1 hz0
      go_simp
      try simp only [Act.put, List.setIfInBounds_toArray, List.set_cons_zero, List.set_cons_succ]
      refine hK.out _ _ ⟨_, _, _, _, _, _, _, _, _, _, _, _, _, _, _, _, _, _, _, _, rfl, ?_, ?_, ?_, ?_, ?_, ?_, ?_, ?_, ?_, ?_, ?_, ?_, ?_, ?_, ?_, ?_, ?_, ?_, ?_, ?_, ?_⟩
      · first | exact hHeld | exact hHeld.trans (hb.mono hHeld.size) | (trace_state; fail)
      · first | exact flag_ne (by decide) f0 | exact fun _ => rfl
      · first | exact flag_ne (by decide) f1 | exact fun _ => rfl
      · intro h h7; rw [getD_set_ne false (by decide)] at h; rw [getD_set_ne true (by decide)] at h7; have := f2 h h7; first | exact this | exact owns_below this hb | (trace_state; fail)
      · first | exact flag_ne (by decide) f3 | exact fun _ => rfl
      · first | exact flag_ne (by decide) f4 | exact fun _ => rfl
      · intro h; rw [getD_set_ne false (by decide)] at h; have := f5 h; obtain ⟨q, e1, e2⟩ := this; exact (by first | exact ⟨q, e1, e2⟩ | exact ⟨q, e1, owns_below e2 hb⟩ | exact ⟨q, e1, owns_grown e2 hG (fun g hg => owns_type e2 g2 (by decide) hg)⟩ | (trace_state; fail))
      · intro h h7; rw [getD_set_ne false (by decide)] at h; rw [getD_set_ne true (by decide)] at h7; have := f6 h h7; first | exact this | exact owns_below this hb | (trace_state; fail)
      · intro h; rw [getD_set_ne false (by decide)] at h; have := f7 h; first | exact this | exact owns_below this hb | (trace_state; fail)
      · first | exact flag_ne (by decide) f8 | exact fun _ => rfl
      · first | exact flag_ne (by decide) f9 | exact fun _ => rfl
      · first | exact flag_ne (by decide) f10 | exact fun _ => rfl
      · intro _; first | rfl | (trace_state; fail)
      · first | exact flag_ne (by decide) f12 | exact fun _ => rfl
      · first | exact flag_ne (by decide) f13 | exact fun _ => rfl
      · first | exact flag_ne (by decide) f14 | exact fun _ => rfl
      · intro h; rw [getD_set_ne false (by decide)] at h; exact (getD_no h0 (hC.step (j := 12) (k := 11) (hC.step (j := 15) (k := 12) h (by kernel_rfl)) (by kernel_rfl))).elim
      · first | exact flag_ne (by decide) f16 | exact fun _ => rfl
      · first | exact flag_ne (by decide) f17 | exact fun _ => rfl
      · intro h; rw [getD_set_ne false (by decide)] at h; exact (getD_no h0 (hC.step (j := 12) (k := 11) (hC.step (j := 16) (k := 12) (hC.step (j := 18) (k := 16) h (by kernel_rfl)) (by kernel_rfl)) (by kernel_rfl))).elim
      · first | exact flag_ne (by decide) f19 | exact fun _ => rfl
    · refine StepAt.mk (o := { dst := some 16, op := Op.move (Operand.tmp 15), type := 4, pos := _, after := #[{ on := 11, ground := Ground.data }, { on := 7, ground := Ground.chain }], guard := none }) (ws := [11, 7]) rfl (by kernel_rfl) ?_
      intro L b v hC h0 hA h
      refine h.elim ?_; clear h; intro u2 h
      refine h.elim ?_; clear h; intro u3 h
      refine h.elim ?_; clear h; intro u4 h
      refine h.elim ?_; clear h; intro u5 h
      refine h.elim ?_; clear h; intro u6 h
      refine h.elim ?_; clear h; intro u7 h
      refine h.elim ?_; clear h; intro u8 h
      refine h.elim ?_; clear h; intro u9 h
      refine h.elim ?_; clear h; intro u10 h
      refine h.elim ?_; clear h; intro u11 h
      refine h.elim ?_; clear h; intro u12 h
      refine h.elim ?_; clear h; intro u13 h
      refine h.elim ?_; clear h; intro u14 h
      refine h.elim ?_; clear h; intro u15 h
      refine h.elim ?_; clear h; intro u16 h
      refine h.elim ?_; clear h; intro u17 h
      refine h.elim ?_; clear h; intro u18 h
      refine h.elim ?_; clear h; intro u19 h
      refine h.elim ?_; clear h; intro u20 h
      refine h.elim ?_; clear h; intro u21 h
      have hbb := h.1; replace h := h.2; subst hbb
      have hHeld := h.1; replace h := h.2
      have f0 := h.1; replace h := h.2
      have f1 := h.1; replace h := h.2
      have f2 := h.1; replace h := h.2
      have f3 := h.1; replace h := h.2
      have f4 := h.1; replace h := h.2
      have f5 := h.1; replace h := h.2
      have f6 := h.1; replace h := h.2
      have f7 := h.1; replace h := h.2
      have f8 := h.1; replace h := h.2
      have f9 := h.1; replace h := h.2
      have f10 := h.1; replace h := h.2
      have f11 := h.1; replace h := h.2
      have f12 := h.1; replace h := h.2
      have f13 := h.1; replace h := h.2
      have f14 := h.1; replace h := h.2
      have f15 := h.1; replace h := h.2
      have f16 := h.1; replace h := h.2
      have f17 := h.1; replace h := h.2
      have f18 := h.1; replace h := h.2
      have f19 := h; clear h
      intro K hK
      have g11 := f11 (hA 11 (by simp))
      obtain rfl := g11
      have g7 := f7 (hA 7 (by simp))
      rw [if_pos (by kernel_rfl)]
      have q0 := cellB hHeld C0 hz0
      have q1 := cellB hHeld C1 hz0
      go_simp
      try simp only [Act.put, List.setIfInBounds_toArray, List.set_cons_zero, List.set_cons_succ]
      refine hK.out _ _ ⟨_, _, _, _, _, _, _, _, _, _, _, _, _, _, _, _, _, _, _, _, rfl, ?_, ?_, ?_, ?_, ?_, ?_, ?_, ?_, ?_, ?_, ?_, ?_, ?_, ?_, ?_, ?_, ?_, ?_, ?_, ?_, ?_⟩
      · first | exact hHeld | exact hHeld.trans (hb.mono hHeld.size) | (trace_state; fail)
      · first | exact flag_ne (by decide) f0 | exact fun _ => rfl
      · first | exact flag_ne (by decide) f1 | exact fun _ => rfl
      · intro _ h7; rw [getD_set_ne true (by decide)] at h7; exact (getD_no h7 (hA 7 (by simp))).elim
      · first | exact flag_ne (by decide) f3 | exact fun _ => rfl
      · first | exact flag_ne (by decide) f4 | exact fun _ => rfl
      · intro h; rw [getD_set_ne false (by decide)] at h; have := f5 h; obtain ⟨q, e1, e2⟩ := this; exact (by first | exact ⟨q, e1, e2⟩ | exact ⟨q, e1, owns_below e2 hb⟩ | exact ⟨q, e1, owns_grown e2 hG (fun g hg => owns_type e2 g2 (by decide) hg)⟩ | (trace_state; fail))
      · intro _ h7; rw [getD_set_ne true (by decide)] at h7; exact (getD_no h7 (hA 7 (by simp))).elim
      · intro h; rw [getD_set_ne false (by decide)] at h; have := f7 h; first | exact this | exact owns_below this hb | (trace_state; fail)
      · first | exact flag_ne (by decide) f8 | exact fun _ => rfl
      · first | exact flag_ne (by decide) f9 | exact fun _ => rfl
      · first | exact flag_ne (by decide) f10 | exact fun _ => rfl
      · first | exact flag_ne (by decide) f11 | exact fun _ => rfl
      · intro _; first | rfl | (trace_state; fail)
      · first | exact flag_ne (by decide) f13 | exact fun _ => rfl
      · first | exact flag_ne (by decide) f14 | exact fun _ => rfl
      · intro h; rw [getD_set_ne false (by decide)] at h; exact (getD_no h0 (hC.step (j := 15) (k := 12) h (by kernel_rfl))).elim
      · first | exact flag_ne (by decide) f16 | exact fun _ => rfl
      · first | exact flag_ne (by decide) f17 | exact fun _ => rfl
      · intro h; rw [getD_set_ne false (by decide)] at h; exact (getD_no h0 (hC.step (j := 16) (k := 12) (hC.step (j := 18) (k := 16) h (by kernel_rfl)) (by kernel_rfl))).elim
      · first | exact flag_ne (by decide) f19 | exact fun _ => rfl
    · refine StepAt.mk (o := { dst := some 17, op := Op.fieldAddr 43 (Operand.tmp 1) 1, type := 0, pos := _, after := #[{ on := 12, ground := Ground.guard }], guard := some (12, true) }) (ws := [12]) rfl (by kernel_rfl) ?_
      intro L b v hC h0 hA h
      refine h.elim ?_; clear h; intro u2 h
      refine h.elim ?_; clear h; intro u3 h
      refine h.elim ?_; clear h; intro u4 h
      refine h.elim ?_; clear h; intro u5 h
      refine h.elim ?_; clear h; intro u6 h
      refine h.elim ?_; clear h; intro u7 h
      refine h.elim ?_; clear h; intro u8 h
      refine h.elim ?_; clear h; intro u9 h
      refine h.elim ?_; clear h; intro u10 h
      refine h.elim ?_; clear h; intro u11 h
      refine h.elim ?_; clear h; intro u12 h
      refine h.elim ?_; clear h; intro u13 h
      refine h.elim ?_; clear h; intro u14 h
      refine h.elim ?_; clear h; intro u15 h
      refine h.elim ?_; clear h; intro u16 h
      refine h.elim ?_; clear h; intro u17 h
      refine h.elim ?_; clear h; intro u18 h
      refine h.elim ?_; clear h; intro u19 h
      refine h.elim ?_; clear h; intro u20 h
      refine h.elim ?_; clear h; intro u21 h
      have hbb := h.1; replace h := h.2; subst hbb
      have hHeld := h.1; replace h := h.2
      have f0 := h.1; replace h := h.2
      have f1 := h.1; replace h := h.2
      have f2 := h.1; replace h := h.2
      have f3 := h.1; replace h := h.2
      have f4 := h.1; replace h := h.2
      have f5 := h.1; replace h := h.2
      have f6 := h.1; replace h := h.2
      have f7 := h.1; replace h := h.2
      have f8 := h.1; replace h := h.2
      have f9 := h.1; replace h := h.2
      have f10 := h.1; replace h := h.2
      have f11 := h.1; replace h := h.2
      have f12 := h.1; replace h := h.2
      have f13 := h.1; replace h := h.2
      have f14 := h.1; replace h := h.2
      have f15 := h.1; replace h := h.2
      have f16 := h.1; replace h := h.2
      have f17 := h.1; replace h := h.2
      have f18 := h.1; replace h := h.2
      have f19 := h; clear h
      intro K hK
      have g12 := f12 (hA 12 (by simp))
      obtain rfl := g12
      rw [if_pos (by kernel_rfl)]
      have q0 := cellB hHeld C0 hz0
      have q1 := cellB hHeld C1 hz0
      go_simp
      try simp only [Act.put, List.setIfInBounds_toArray, List.set_cons_zero, List.set_cons_succ]
      refine hK.out _ _ ⟨_, _, _, _, _, _, _, _, _, _, _, _, _, _, _, _, _, _, _, _, rfl, ?_, ?_, ?_, ?_, ?_, ?_, ?_, ?_, ?_, ?_, ?_, ?_, ?_, ?_, ?_, ?_, ?_, ?_, ?_, ?_, ?_⟩
      · first | exact hHeld | exact hHeld.trans (hb.mono hHeld.size) | (trace_state; fail)
      · first | exact flag_ne (by decide) f0 | exact fun _ => rfl
      · first | exact flag_ne (by decide) f1 | exact fun _ => rfl
      · intro _ h7; rw [getD_set_ne true (by decide)] at h7; exact (getD_no h7 (hC.step (j := 12) (k := 7) (hA 12 (by simp)) (by kernel_rfl))).elim
      · first | exact flag_ne (by decide) f3 | exact fun _ => rfl
      · first | exact flag_ne (by decide) f4 | exact fun _ => rfl
      · intro h; rw [getD_set_ne false (by decide)] at h; have := f5 h; obtain ⟨q, e1, e2⟩ := this; exact (by first | exact ⟨q, e1, e2⟩ | exact ⟨q, e1, owns_below e2 hb⟩ | exact ⟨q, e1, owns_grown e2 hG (fun g hg => owns_type e2 g2 (by decide) hg)⟩ | (trace_state; fail))
      · intro _ h7; rw [getD_set_ne true (by decide)] at h7; exact (getD_no h7 (hC.step (j := 12) (k := 7) (hA 12 (by simp)) (by kernel_rfl))).elim
      · intro h; rw [getD_set_ne false (by decide)] at h; have := f7 h; first | exact this | exact owns_below this hb | (trace_state; fail)
      · first | exact flag_ne (by decide) f8 | exact fun _ => rfl
      · first | exact flag_ne (by decide) f9 | exact fun _ => rfl
      · first | exact flag_ne (by decide) f10 | exact fun _ => rfl
      · first | exact flag_ne (by decide) f11 | exact fun _ => rfl
      · first | exact flag_ne (by decide) f12 | exact fun _ => rfl
      · intro _; first | rfl | (trace_state; fail)
      · first | exact flag_ne (by decide) f14 | exact fun _ => rfl
      · intro h; rw [getD_set_ne false (by decide)] at h; exact (getD_no h0 (hC.step (j := 14) (k := 13) (hC.step (j := 15) (k := 14) h (by kernel_rfl)) (by kernel_rfl))).elim
      · first | exact flag_ne (by decide) f16 | exact fun _ => rfl
      · first | exact flag_ne (by decide) f17 | exact fun _ => rfl
      · intro h; rw [getD_set_ne false (by decide)] at h; exact (getD_no h0 (hC.step (j := 14) (k := 13) (hC.step (j := 15) (k := 14) (hC.step (j := 16) (k := 15) (hC.step (j := 18) (k := 16) h (by kernel_rfl)) (by kernel_rfl)) (by kernel_rfl)) (by kernel_rfl))).elim
      · first | exact flag_ne (by decide) f19 | exact fun _ => rfl
    · refine StepAt.mk (o := { dst := some 18, op := Op.load 3 (Operand.tmp 17), type := 3, pos := _, after := #[{ on := 13, ground := Ground.data }, { on := 12, ground := Ground.guard }], guard := some (12, true) }) (ws := [13, 12]) rfl (by kernel_rfl) ?_
      intro L b v hC h0 hA h
      refine h.elim ?_; clear h; intro u2 h
      refine h.elim ?_; clear h; intro u3 h
      refine h.elim ?_; clear h; intro u4 h
      refine h.elim ?_; clear h; intro u5 h
      refine h.elim ?_; clear h; intro u6 h
      refine h.elim ?_; clear h; intro u7 h
      refine h.elim ?_; clear h; intro u8 h
      refine h.elim ?_; clear h; intro u9 h
      refine h.elim ?_; clear h; intro u10 h
      refine h.elim ?_; clear h; intro u11 h
      refine h.elim ?_; clear h; intro u12 h
      refine h.elim ?_; clear h; intro u13 h
      refine h.elim ?_; clear h; intro u14 h
      refine h.elim ?_; clear h; intro u15 h
      refine h.elim ?_; clear h; intro u16 h
      refine h.elim ?_; clear h; intro u17 h
      refine h.elim ?_; clear h; intro u18 h
      refine h.elim ?_; clear h; intro u19 h
      refine h.elim ?_; clear h; intro u20 h
      refine h.elim ?_; clear h; intro u21 h
      have hbb := h.1; replace h := h.2; subst hbb
      have hHeld := h.1; replace h := h.2
      have f0 := h.1; replace h := h.2
      have f1 := h.1; replace h := h.2
      have f2 := h.1; replace h := h.2
      have f3 := h.1; replace h := h.2
      have f4 := h.1; replace h := h.2
      have f5 := h.1; replace h := h.2
      have f6 := h.1; replace h := h.2
      have f7 := h.1; replace h := h.2
      have f8 := h.1; replace h := h.2
      have f9 := h.1; replace h := h.2
      have f10 := h.1; replace h := h.2
      have f11 := h.1; replace h := h.2
      have f12 := h.1; replace h := h.2
      have f13 := h.1; replace h := h.2
      have f14 := h.1; replace h := h.2
      have f15 := h.1; replace h := h.2
      have f16 := h.1; replace h := h.2
      have f17 := h.1; replace h := h.2
      have f18 := h.1; replace h := h.2
      have f19 := h; clear h
      intro K hK
      have g13 := f13 (hA 13 (by simp))
      obtain rfl := g13
      have g12 := f12 (hA 12 (by simp))
      obtain rfl := g12
      rw [if_pos (by kernel_rfl)]
      have q0 := cellB hHeld C0 hz0
      have q1 := cellB hHeld C1 hz0
      go_simp
      try simp only [Act.put, List.setIfInBounds_toArray, List.set_cons_zero, List.set_cons_succ]
      refine hK.out _ _ ⟨_, _, _, _, _, _, _, _, _, _, _, _, _, _, _, _, _, _, _, _, rfl, ?_, ?_, ?_, ?_, ?_, ?_, ?_, ?_, ?_, ?_, ?_, ?_, ?_, ?_, ?_, ?_, ?_, ?_, ?_, ?_, ?_⟩
      · first | exact hHeld | exact hHeld.trans (hb.mono hHeld.size) | (trace_state; fail)
      · first | exact flag_ne (by decide) f0 | exact fun _ => rfl
      · first | exact flag_ne (by decide) f1 | exact fun _ => rfl
      · intro _ h7; rw [getD_set_ne true (by decide)] at h7; exact (getD_no h7 (hC.step (j := 12) (k := 7) (hA 12 (by simp)) (by kernel_rfl))).elim
      · first | exact flag_ne (by decide) f3 | exact fun _ => rfl
      · first | exact flag_ne (by decide) f4 | exact fun _ => rfl
      · intro h; rw [getD_set_ne false (by decide)] at h; have := f5 h; obtain ⟨q, e1, e2⟩ := this; exact (by first | exact ⟨q, e1, e2⟩ | exact ⟨q, e1, owns_below e2 hb⟩ | exact ⟨q, e1, owns_grown e2 hG (fun g hg => owns_type e2 g2 (by decide) hg)⟩ | (trace_state; fail))
      · intro _ h7; rw [getD_set_ne true (by decide)] at h7; exact (getD_no h7 (hC.step (j := 12) (k := 7) (hA 12 (by simp)) (by kernel_rfl))).elim
      · intro h; rw [getD_set_ne false (by decide)] at h; have := f7 h; first | exact this | exact owns_below this hb | (trace_state; fail)
      · first | exact flag_ne (by decide) f8 | exact fun _ => rfl
      · first | exact flag_ne (by decide) f9 | exact fun _ => rfl
      · first | exact flag_ne (by decide) f10 | exact fun _ => rfl
      · first | exact flag_ne (by decide) f11 | exact fun _ => rfl
      · first | exact flag_ne (by decide) f12 | exact fun _ => rfl
      · first | exact flag_ne (by decide) f13 | exact fun _ => rfl
      · intro _; first | rfl | (trace_state; fail)
      · intro h; rw [getD_set_ne false (by decide)] at h; exact (getD_no h0 (hC.step (j := 15) (k := 14) h (by kernel_rfl))).elim
      · first | exact flag_ne (by decide) f16 | exact fun _ => rfl
      · first | exact flag_ne (by decide) f17 | exact fun _ => rfl
      · intro h; rw [getD_set_ne false (by decide)] at h; exact (getD_no h0 (hC.step (j := 15) (k := 14) (hC.step (j := 16) (k := 15) (hC.step (j := 18) (k := 16) h (by kernel_rfl)) (by kernel_rfl)) (by kernel_rfl))).elim
      · first | exact flag_ne (by decide) f19 | exact fun _ => rfl
    · refine StepAt.mk (o := { dst := some 19, op := Op.buildSlice 45 1 #[(0, Operand.tmp 18)], type := 45, pos := _, after := #[{ on := 14, ground := Ground.data }, { on := 12, ground := Ground.guard }], guard := some (12, true) }) (ws := [14, 12]) rfl (by kernel_rfl) ?_
      intro L b v hC h0 hA h
      refine h.elim ?_; clear h; intro u2 h
      refine h.elim ?_; clear h; intro u3 h
      refine h.elim ?_; clear h; intro u4 h
      refine h.elim ?_; clear h; intro u5 h
      refine h.elim ?_; clear h; intro u6 h
      refine h.elim ?_; clear h; intro u7 h
      refine h.elim ?_; clear h; intro u8 h
      refine h.elim ?_; clear h; intro u9 h
      refine h.elim ?_; clear h; intro u10 h
      refine h.elim ?_; clear h; intro u11 h
      refine h.elim ?_; clear h; intro u12 h
      refine h.elim ?_; clear h; intro u13 h
      refine h.elim ?_; clear h; intro u14 h
      refine h.elim ?_; clear h; intro u15 h
      refine h.elim ?_; clear h; intro u16 h
      refine h.elim ?_; clear h; intro u17 h
      refine h.elim ?_; clear h; intro u18 h
      refine h.elim ?_; clear h; intro u19 h
      refine h.elim ?_; clear h; intro u20 h
      refine h.elim ?_; clear h; intro u21 h
      have hbb := h.1; replace h := h.2; subst hbb
      have hHeld := h.1; replace h := h.2
      have f0 := h.1; replace h := h.2
      have f1 := h.1; replace h := h.2
      have f2 := h.1; replace h := h.2
      have f3 := h.1; replace h := h.2
      have f4 := h.1; replace h := h.2
      have f5 := h.1; replace h := h.2
      have f6 := h.1; replace h := h.2
      have f7 := h.1; replace h := h.2
      have f8 := h.1; replace h := h.2
      have f9 := h.1; replace h := h.2
      have f10 := h.1; replace h := h.2
      have f11 := h.1; replace h := h.2
      have f12 := h.1; replace h := h.2
      have f13 := h.1; replace h := h.2
      have f14 := h.1; replace h := h.2
      have f15 := h.1; replace h := h.2
      have f16 := h.1; replace h := h.2
      have f17 := h.1; replace h := h.2
      have f18 := h.1; replace h := h.2
      have f19 := h; clear h
      intro K hK
      have g14 := f14 (hA 14 (by simp))
      obtain rfl := g14
      have g12 := f12 (hA 12 (by simp))
      obtain rfl := g12
      rw [if_pos (by kernel_rfl)]
      have q0 := cellB hHeld C0 hz0
      have q1 := cellB hHeld C1 hz0
      go_simp
      try simp only [Act.put, List.setIfInBounds_toArray, List.set_cons_zero, List.set_cons_succ]
      have hb : Below v.heap.size v (v.alloc (.cells #[.int .i64 k] 3)) := (Below.refl _ _).alloc (Nat.le_refl _) _
      refine hK.out _ _ ⟨_, _, _, _, _, _, _, _, _, _, _, _, _, _, _, _, _, _, _, _, rfl, ?_, ?_, ?_, ?_, ?_, ?_, ?_, ?_, ?_, ?_, ?_, ?_, ?_, ?_, ?_, ?_, ?_, ?_, ?_, ?_, ?_⟩
      · first | exact hHeld | exact hHeld.trans (hb.mono hHeld.size) | (trace_state; fail)
      · first | exact flag_ne (by decide) f0 | exact fun _ => rfl
      · first | exact flag_ne (by decide) f1 | exact fun _ => rfl
      · intro _ h7; rw [getD_set_ne true (by decide)] at h7; exact (getD_no h7 (hC.step (j := 12) (k := 7) (hA 12 (by simp)) (by kernel_rfl))).elim
      · first | exact flag_ne (by decide) f3 | exact fun _ => rfl
      · first | exact flag_ne (by decide) f4 | exact fun _ => rfl
      · intro h; rw [getD_set_ne false (by decide)] at h; have := f5 h; obtain ⟨q, e1, e2⟩ := this; exact (by first | exact ⟨q, e1, e2⟩ | exact ⟨q, e1, owns_below e2 hb⟩ | exact ⟨q, e1, owns_grown e2 hG (fun g hg => owns_type e2 g2 (by decide) hg)⟩ | (trace_state; fail))
      · intro _ h7; rw [getD_set_ne true (by decide)] at h7; exact (getD_no h7 (hC.step (j := 12) (k := 7) (hA 12 (by simp)) (by kernel_rfl))).elim
      · intro h; rw [getD_set_ne false (by decide)] at h; have := f7 h; first | exact this | exact owns_below this hb | (trace_state; fail)
      · first | exact flag_ne (by decide) f8 | exact fun _ => rfl
      · first | exact flag_ne (by decide) f9 | exact fun _ => rfl
      · first | exact flag_ne (by decide) f10 | exact fun _ => rfl
      · first | exact flag_ne (by decide) f11 | exact fun _ => rfl
      · first | exact flag_ne (by decide) f12 | exact fun _ => rfl
      · first | exact flag_ne (by decide) f13 | exact fun _ => rfl
      · first | exact flag_ne (by decide) f14 | exact fun _ => rfl
      · intro _; first | exact ⟨_, rfl, owns_int1 _ k hHeld.size⟩ | (trace_state; fail)
      · first | exact flag_ne (by decide) f16 | exact fun _ => rfl
      · first | exact flag_ne (by decide) f17 | exact fun _ => rfl
      · intro h; rw [getD_set_ne false (by decide)] at h; exact (getD_no h0 (hC.step (j := 16) (k := 15) (hC.step (j := 18) (k := 16) h (by kernel_rfl)) (by kernel_rfl))).elim
      · first | exact flag_ne (by decide) f19 | exact fun _ => rfl
    · refine StepAt.mk (o := { dst := some 20, op := Op.call { callee := Callee.value (Operand.func 48), args := #[Operand.tmp 19], argTypes := #[45] }, type := 4, pos := _, after := #[{ on := 15, ground := Ground.data }, { on := 12, ground := Ground.chain }, { on := 12, ground := Ground.guard }], guard := some (12, true) }) (ws := [15, 12, 12]) rfl (by kernel_rfl) ?_
      intro L b v hC h0 hA h
      refine h.elim ?_; clear h; intro u2 h
      refine h.elim ?_; clear h; intro u3 h
      refine h.elim ?_; clear h; intro u4 h
      refine h.elim ?_; clear h; intro u5 h
      refine h.elim ?_; clear h; intro u6 h
      refine h.elim ?_; clear h; intro u7 h
      refine h.elim ?_; clear h; intro u8 h
      refine h.elim ?_; clear h; intro u9 h
      refine h.elim ?_; clear h; intro u10 h
      refine h.elim ?_; clear h; intro u11 h
      refine h.elim ?_; clear h; intro u12 h
      refine h.elim ?_; clear h; intro u13 h
      refine h.elim ?_; clear h; intro u14 h
      refine h.elim ?_; clear h; intro u15 h
      refine h.elim ?_; clear h; intro u16 h
      refine h.elim ?_; clear h; intro u17 h
      refine h.elim ?_; clear h; intro u18 h
      refine h.elim ?_; clear h; intro u19 h
      refine h.elim ?_; clear h; intro u20 h
      refine h.elim ?_; clear h; intro u21 h
      have hbb := h.1; replace h := h.2; subst hbb
      have hHeld := h.1; replace h := h.2
      have f0 := h.1; replace h := h.2
      have f1 := h.1; replace h := h.2
      have f2 := h.1; replace h := h.2
      have f3 := h.1; replace h := h.2
      have f4 := h.1; replace h := h.2
      have f5 := h.1; replace h := h.2
      have f6 := h.1; replace h := h.2
      have f7 := h.1; replace h := h.2
      have f8 := h.1; replace h := h.2
      have f9 := h.1; replace h := h.2
      have f10 := h.1; replace h := h.2
      have f11 := h.1; replace h := h.2
      have f12 := h.1; replace h := h.2
      have f13 := h.1; replace h := h.2
      have f14 := h.1; replace h := h.2
      have f15 := h.1; replace h := h.2
      have f16 := h.1; replace h := h.2
      have f17 := h.1; replace h := h.2
      have f18 := h.1; replace h := h.2
      have f19 := h; clear h
      intro K hK
      have g15 := f15 (hA 15 (by simp))
      obtain ⟨q19, rfl, H19⟩ := g15
      have g12 := f12 (hA 12 (by simp))
      obtain rfl := g12
      rw [if_pos (by kernel_rfl)]
      have q0 := cellB hHeld C0 hz0
      have q1 := cellB hHeld C1 hz0
      go_simp
      refine (tab_fits _ [k] v (row_of_owns H19 (fun z hz => by simp at hz; exact hz ▸ hk))).mono ?_; rintro e v1 ⟨rfl, m, rfl⟩; have hb : Below v.heap.size v (v.drewN m) := Below_drewN _ _ _; rw [show [k].all fitB = fitB k by simp]
      go_wp2_with fail
      try simp only [Act.put, List.setIfInBounds_toArray, List.set_cons_zero, List.set_cons_succ]
      refine hK.out _ _ ⟨_, _, _, _, _, _, _, _, _, _, _, _, _, _, _, _, _, _, _, _, rfl, ?_, ?_, ?_, ?_, ?_, ?_, ?_, ?_, ?_, ?_, ?_, ?_, ?_, ?_, ?_, ?_, ?_, ?_, ?_, ?_, ?_⟩
      · first | exact hHeld | exact hHeld.trans (hb.mono hHeld.size) | (trace_state; fail)
      · first | exact flag_ne (by decide) f0 | exact fun _ => rfl
      · first | exact flag_ne (by decide) f1 | exact fun _ => rfl
      · intro _ h7; rw [getD_set_ne true (by decide)] at h7; exact (getD_no h7 (hC.step (j := 12) (k := 7) (hA 12 (by simp)) (by kernel_rfl))).elim
      · first | exact flag_ne (by decide) f3 | exact fun _ => rfl
      · first | exact flag_ne (by decide) f4 | exact fun _ => rfl
      · intro h; rw [getD_set_ne false (by decide)] at h; have := f5 h; obtain ⟨q, e1, e2⟩ := this; exact (by first | exact ⟨q, e1, e2⟩ | exact ⟨q, e1, owns_below e2 hb⟩ | exact ⟨q, e1, owns_grown e2 hG (fun g hg => owns_type e2 g2 (by decide) hg)⟩ | (trace_state; fail))
      · intro _ h7; rw [getD_set_ne true (by decide)] at h7; exact (getD_no h7 (hC.step (j := 12) (k := 7) (hA 12 (by simp)) (by kernel_rfl))).elim
      · intro h; rw [getD_set_ne false (by decide)] at h; have := f7 h; first | exact this | exact owns_below this hb | (trace_state; fail)
      · first | exact flag_ne (by decide) f8 | exact fun _ => rfl
      · first | exact flag_ne (by decide) f9 | exact fun _ => rfl
      · first | exact flag_ne (by decide) f10 | exact fun _ => rfl
      · first | exact flag_ne (by decide) f11 | exact fun _ => rfl
      · first | exact flag_ne (by decide) f12 | exact fun _ => rfl
      · first | exact flag_ne (by decide) f13 | exact fun _ => rfl
      · first | exact flag_ne (by decide) f14 | exact fun _ => rfl
      · intro h; rw [getD_set_ne false (by decide)] at h; have := f15 h; obtain ⟨q, e1, e2⟩ := this; exact (by first | exact ⟨q, e1, e2⟩ | exact ⟨q, e1, owns_below e2 hb⟩ | exact ⟨q, e1, owns_grown e2 hG (fun g hg => owns_type e2 g2 (by decide) hg)⟩ | (trace_state; fail))
      · intro _; first | rfl | (trace_state; fail)
      · first | exact flag_ne (by decide) f17 | exact fun _ => rfl
      · intro h; rw [getD_set_ne false (by decide)] at h; exact (getD_no h0 (hC.step (j := 18) (k := 16) h (by kernel_rfl))).elim
      · first | exact flag_ne (by decide) f19 | exact fun _ => rfl
    · refine StepAt.mk (o := { dst := some 21, op := Op.pick (Operand.tmp 16) (Operand.tmp 20) (Operand.const (Value.bool false)), type := 4, pos := _, after := #[{ on := 12, ground := Ground.data }, { on := 16, ground := Ground.data }, { on := 18, ground := Ground.gcOnly Departure.lateStores }], guard := none }) (ws := [12, 16]) rfl (by kernel_rfl) ?_
      intro L b v hC h0 hA h
      refine h.elim ?_; clear h; intro u2 h
      refine h.elim ?_; clear h; intro u3 h
      refine h.elim ?_; clear h; intro u4 h
      refine h.elim ?_; clear h; intro u5 h
      refine h.elim ?_; clear h; intro u6 h
      refine h.elim ?_; clear h; intro u7 h
      refine h.elim ?_; clear h; intro u8 h
      refine h.elim ?_; clear h; intro u9 h
      refine h.elim ?_; clear h; intro u10 h
      refine h.elim ?_; clear h; intro u11 h
      refine h.elim ?_; clear h; intro u12 h
      refine h.elim ?_; clear h; intro u13 h
      refine h.elim ?_; clear h; intro u14 h
      refine h.elim ?_; clear h; intro u15 h
      refine h.elim ?_; clear h; intro u16 h
      refine h.elim ?_; clear h; intro u17 h
      refine h.elim ?_; clear h; intro u18 h
      refine h.elim ?_; clear h; intro u19 h
      refine h.elim ?_; clear h; intro u20 h
      refine h.elim ?_; clear h; intro u21 h
      have hbb := h.1; replace h := h.2; subst hbb
      have hHeld := h.1; replace h := h.2
      have f0 := h.1; replace h := h.2
      have f1 := h.1; replace h := h.2
      have f2 := h.1; replace h := h.2
      have f3 := h.1; replace h := h.2
      have f4 := h.1; replace h := h.2
      have f5 := h.1; replace h := h.2
      have f6 := h.1; replace h := h.2
      have f7 := h.1; replace h := h.2
      have f8 := h.1; replace h := h.2
      have f9 := h.1; replace h := h.2
      have f10 := h.1; replace h := h.2
      have f11 := h.1; replace h := h.2
      have f12 := h.1; replace h := h.2
      have f13 := h.1; replace h := h.2
      have f14 := h.1; replace h := h.2
      have f15 := h.1; replace h := h.2
      have f16 := h.1; replace h := h.2
      have f17 := h.1; replace h := h.2
      have f18 := h.1; replace h := h.2
      have f19 := h; clear h
      intro K hK
      have g12 := f12 (hA 12 (by simp))
      obtain rfl := g12
      have g16 := f16 (hA 16 (by simp))
      obtain rfl := g16
      rw [if_pos (by kernel_rfl)]
      have q0 := cellB hHeld C0 hz0
      have q1 := cellB hHeld C1 hz0
      go_simp
      try simp only [Act.put, List.setIfInBounds_toArray, List.set_cons_zero, List.set_cons_succ]
      refine hK.out _ _ ⟨_, _, _, _, _, _, _, _, _, _, _, _, _, _, _, _, _, _, _, _, rfl, ?_, ?_, ?_, ?_, ?_, ?_, ?_, ?_, ?_, ?_, ?_, ?_, ?_, ?_, ?_, ?_, ?_, ?_, ?_, ?_, ?_⟩
      · first | exact hHeld | exact hHeld.trans (hb.mono hHeld.size) | (trace_state; fail)
      · first | exact flag_ne (by decide) f0 | exact fun _ => rfl
      · first | exact flag_ne (by decide) f1 | exact fun _ => rfl
      · intro _ h7; rw [getD_set_ne true (by decide)] at h7; exact (getD_no h7 (hC.step (j := 12) (k := 7) (hA 12 (by simp)) (by kernel_rfl))).elim
      · first | exact flag_ne (by decide) f3 | exact fun _ => rfl
      · first | exact flag_ne (by decide) f4 | exact fun _ => rfl
      · intro h; rw [getD_set_ne false (by decide)] at h; have := f5 h; obtain ⟨q, e1, e2⟩ := this; exact (by first | exact ⟨q, e1, e2⟩ | exact ⟨q, e1, owns_below e2 hb⟩ | exact ⟨q, e1, owns_grown e2 hG (fun g hg => owns_type e2 g2 (by decide) hg)⟩ | (trace_state; fail))
      · intro _ h7; rw [getD_set_ne true (by decide)] at h7; exact (getD_no h7 (hC.step (j := 12) (k := 7) (hA 12 (by simp)) (by kernel_rfl))).elim
      · intro h; rw [getD_set_ne false (by decide)] at h; have := f7 h; first | exact this | exact owns_below this hb | (trace_state; fail)
      · first | exact flag_ne (by decide) f8 | exact fun _ => rfl
      · first | exact flag_ne (by decide) f9 | exact fun _ => rfl
      · first | exact flag_ne (by decide) f10 | exact fun _ => rfl
      · first | exact flag_ne (by decide) f11 | exact fun _ => rfl
      · first | exact flag_ne (by decide) f12 | exact fun _ => rfl
      · first | exact flag_ne (by decide) f13 | exact fun _ => rfl
      · first | exact flag_ne (by decide) f14 | exact fun _ => rfl
      · intro h; rw [getD_set_ne false (by decide)] at h; have := f15 h; obtain ⟨q, e1, e2⟩ := this; exact (by first | exact ⟨q, e1, e2⟩ | exact ⟨q, e1, owns_below e2 hb⟩ | exact ⟨q, e1, owns_grown e2 hG (fun g hg => owns_type e2 g2 (by decide) hg)⟩ | (trace_state; fail))
      · first | exact flag_ne (by decide) f16 | exact fun _ => rfl
      · intro _; first | rfl | (trace_state; fail)
      · intro h; rw [getD_set_ne false (by decide)] at h; have := f18 h; first | exact this | exact owns_below this hb | (trace_state; fail)
      · first | exact flag_ne (by decide) f19 | exact fun _ => rfl
    · refine StepAt.mk (o := { dst := some 2, op := Op.assign (Operand.tmp 11), type := 30, pos := _, after := #[{ on := 7, ground := Ground.data }, { on := 16, ground := Ground.chain }, { on := 0, ground := Ground.phase }, { on := 1, ground := Ground.phase }, { on := 2, ground := Ground.phase }, { on := 3, ground := Ground.phase }, { on := 4, ground := Ground.phase }, { on := 5, ground := Ground.phase }, { on := 6, ground := Ground.phase }, { on := 7, ground := Ground.phase }, { on := 8, ground := Ground.textOnly Departure.lateStores }, { on := 9, ground := Ground.textOnly Departure.lateStores }, { on := 10, ground := Ground.textOnly Departure.lateStoresUnsure }, { on := 11, ground := Ground.textOnly Departure.lateStores }, { on := 12, ground := Ground.textOnly Departure.lateStores }, { on := 13, ground := Ground.textOnly Departure.lateStores }, { on := 14, ground := Ground.textOnly Departure.lateStores }, { on := 15, ground := Ground.textOnly Departure.lateStores }, { on := 16, ground := Ground.textOnly Departure.lateStoresUnsure }, { on := 17, ground := Ground.textOnly Departure.lateStores }], guard := none }) (ws := [7, 16, 0, 1, 2, 3, 4, 5, 6, 7]) rfl (by kernel_rfl) ?_
      intro L b v hC h0 hA h
      refine h.elim ?_; clear h; intro u2 h
      refine h.elim ?_; clear h; intro u3 h
      refine h.elim ?_; clear h; intro u4 h
      refine h.elim ?_; clear h; intro u5 h
      refine h.elim ?_; clear h; intro u6 h
      refine h.elim ?_; clear h; intro u7 h
      refine h.elim ?_; clear h; intro u8 h
      refine h.elim ?_; clear h; intro u9 h
      refine h.elim ?_; clear h; intro u10 h
      refine h.elim ?_; clear h; intro u11 h
      refine h.elim ?_; clear h; intro u12 h
      refine h.elim ?_; clear h; intro u13 h
      refine h.elim ?_; clear h; intro u14 h
      refine h.elim ?_; clear h; intro u15 h
      refine h.elim ?_; clear h; intro u16 h
      refine h.elim ?_; clear h; intro u17 h
      refine h.elim ?_; clear h; intro u18 h
      refine h.elim ?_; clear h; intro u19 h
      refine h.elim ?_; clear h; intro u20 h
      refine h.elim ?_; clear h; intro u21 h
      have hbb := h.1; replace h := h.2; subst hbb
      have hHeld := h.1; replace h := h.2
      have f0 := h.1; replace h := h.2
      have f1 := h.1; replace h := h.2
      have f2 := h.1; replace h := h.2
      have f3 := h.1; replace h := h.2
      have f4 := h.1; replace h := h.2
      have f5 := h.1; replace h := h.2
      have f6 := h.1; replace h := h.2
      have f7 := h.1; replace h := h.2
      have f8 := h.1; replace h := h.2
      have f9 := h.1; replace h := h.2
      have f10 := h.1; replace h := h.2
      have f11 := h.1; replace h := h.2
      have f12 := h.1; replace h := h.2
      have f13 := h.1; replace h := h.2
      have f14 := h.1; replace h := h.2
      have f15 := h.1; replace h := h.2
      have f16 := h.1; replace h := h.2
      have f17 := h.1; replace h := h.2
      have f18 := h.1; replace h := h.2
      have f19 := h; clear h
      intro K hK
      have g7 := f7 (hA 7 (by simp))
      have g16 := f16 (hA 16 (by simp))
      obtain rfl := g16
      have g0 := f0 (hA 0 (by simp))
      obtain rfl := g0
      have g1 := f1 (hA 1 (by simp))
      obtain rfl := g1
      have g2 := f2 (hA 2 (by simp))
      have g3 := f3 (hA 3 (by simp))
      obtain rfl := g3
      have g4 := f4 (hA 4 (by simp))
      obtain rfl := g4
      have g5 := f5 (hA 5 (by simp))
      obtain ⟨q9, rfl, H9⟩ := g5
      have g6 := f6 (hA 6 (by simp))
      rw [if_pos (by kernel_rfl)]
      have q0 := cellB hHeld C0 hz0
      have q1 := cellB hHeld C1 hz0
      go_simp
      try simp only [Act.put, List.setIfInBounds_toArray, List.set_cons_zero, List.set_cons_succ]
      refine hK.out _ _ ⟨_, _, _, _, _, _, _, _, _, _, _, _, _, _, _, _, _, _, _, _, rfl, ?_, ?_, ?_, ?_, ?_, ?_, ?_, ?_, ?_, ?_, ?_, ?_, ?_, ?_, ?_, ?_, ?_, ?_, ?_, ?_, ?_⟩
      · first | exact hHeld | exact hHeld.trans (hb.mono hHeld.size) | (trace_state; fail)
      · first | exact flag_ne (by decide) f0 | exact fun _ => rfl
      · first | exact flag_ne (by decide) f1 | exact fun _ => rfl
      · intro _ h7; rw [getD_set_ne true (by decide)] at h7; exact (getD_no h7 (hA 7 (by simp))).elim
      · first | exact flag_ne (by decide) f3 | exact fun _ => rfl
      · first | exact flag_ne (by decide) f4 | exact fun _ => rfl
      · intro h; rw [getD_set_ne false (by decide)] at h; have := f5 h; obtain ⟨q, e1, e2⟩ := this; exact (by first | exact ⟨q, e1, e2⟩ | exact ⟨q, e1, owns_below e2 hb⟩ | exact ⟨q, e1, owns_grown e2 hG (fun g hg => owns_type e2 g2 (by decide) hg)⟩ | (trace_state; fail))
      · intro _ h7; rw [getD_set_ne true (by decide)] at h7; exact (getD_no h7 (hA 7 (by simp))).elim
      · intro h; rw [getD_set_ne false (by decide)] at h; have := f7 h; first | exact this | exact owns_below this hb | (trace_state; fail)
      · first | exact flag_ne (by decide) f8 | exact fun _ => rfl
      · first | exact flag_ne (by decide) f9 | exact fun _ => rfl
      · first | exact flag_ne (by decide) f10 | exact fun _ => rfl
      · first | exact flag_ne (by decide) f11 | exact fun _ => rfl
      · first | exact flag_ne (by decide) f12 | exact fun _ => rfl
      · first | exact flag_ne (by decide) f13 | exact fun _ => rfl
      · first | exact flag_ne (by decide) f14 | exact fun _ => rfl
      · intro h; rw [getD_set_ne false (by decide)] at h; have := f15 h; obtain ⟨q, e1, e2⟩ := this; exact (by first | exact ⟨q, e1, e2⟩ | exact ⟨q, e1, owns_below e2 hb⟩ | exact ⟨q, e1, owns_grown e2 hG (fun g hg => owns_type e2 g2 (by decide) hg)⟩ | (trace_state; fail))
      · first | exact flag_ne (by decide) f16 | exact fun _ => rfl
      · first | exact flag_ne (by decide) f17 | exact fun _ => rfl
      · intro _; first | exact g7 | (trace_state; fail)
      · first | exact flag_ne (by decide) f19 | exact fun _ => rfl
    · refine StepAt.mk (o := { dst := some 3, op := Op.assign (Operand.tmp 21), type := 4, pos := _, after := #[{ on := 17, ground := Ground.data }, { on := 18, ground := Ground.chain }, { on := 0, ground := Ground.phase }, { on := 1, ground := Ground.phase }, { on := 2, ground := Ground.phase }, { on := 3, ground := Ground.phase }, { on := 4, ground := Ground.phase }, { on := 5, ground := Ground.phase }, { on := 6, ground := Ground.phase }, { on := 7, ground := Ground.phase }, { on := 8, ground := Ground.phase }, { on := 9, ground := Ground.phase }, { on := 10, ground := Ground.phase }, { on := 11, ground := Ground.phase }, { on := 12, ground := Ground.phase }, { on := 13, ground := Ground.phase }, { on := 14, ground := Ground.phase }, { on := 15, ground := Ground.phase }, { on := 16, ground := Ground.phase }, { on := 17, ground := Ground.phase }, { on := 18, ground := Ground.phase }], guard := none }) (ws := [17, 18, 0, 1, 2, 3, 4, 5, 6, 7, 8, 9, 10, 11, 12, 13, 14, 15, 16, 17, 18]) rfl (by kernel_rfl) ?_
      intro L b v hC h0 hA h
      refine h.elim ?_; clear h; intro u2 h
      refine h.elim ?_; clear h; intro u3 h
      refine h.elim ?_; clear h; intro u4 h
      refine h.elim ?_; clear h; intro u5 h
      refine h.elim ?_; clear h; intro u6 h
      refine h.elim ?_; clear h; intro u7 h
      refine h.elim ?_; clear h; intro u8 h
      refine h.elim ?_; clear h; intro u9 h
      refine h.elim ?_; clear h; intro u10 h
      refine h.elim ?_; clear h; intro u11 h
      refine h.elim ?_; clear h; intro u12 h
      refine h.elim ?_; clear h; intro u13 h
      refine h.elim ?_; clear h; intro u14 h
      refine h.elim ?_; clear h; intro u15 h
      refine h.elim ?_; clear h; intro u16 h
      refine h.elim ?_; clear h; intro u17 h
      refine h.elim ?_; clear h; intro u18 h
      refine h.elim ?_; clear h; intro u19 h
      refine h.elim ?_; clear h; intro u20 h
      refine h.elim ?_; clear h; intro u21 h
      have hbb := h.1; replace h := h.2; subst hbb
      have hHeld := h.1; replace h := h.2
      have f0 := h.1; replace h := h.2
      have f1 := h.1; replace h := h.2
      have f2 := h.1; replace h := h.2
      have f3 := h.1; replace h := h.2
      have f4 := h.1; replace h := h.2
      have f5 := h.1; replace h := h.2
      have f6 := h.1; replace h := h.2
      have f7 := h.1; replace h := h.2
      have f8 := h.1; replace h := h.2
      have f9 := h.1; replace h := h.2
      have f10 := h.1; replace h := h.2
      have f11 := h.1; replace h := h.2
      have f12 := h.1; replace h := h.2
      have f13 := h.1; replace h := h.2
      have f14 := h.1; replace h := h.2
      have f15 := h.1; replace h := h.2
      have f16 := h.1; replace h := h.2
      have f17 := h.1; replace h := h.2
      have f18 := h.1; replace h := h.2
      have f19 := h; clear h
      intro K hK
      have g17 := f17 (hA 17 (by simp))
      obtain rfl := g17
      have g18 := f18 (hA 18 (by simp))
      have g0 := f0 (hA 0 (by simp))
      obtain rfl := g0
      have g1 := f1 (hA 1 (by simp))
      obtain rfl := g1
      have g2 := f2 (hA 2 (by simp))
      have g3 := f3 (hA 3 (by simp))
      obtain rfl := g3
      have g4 := f4 (hA 4 (by simp))
      obtain rfl := g4
      have g5 := f5 (hA 5 (by simp))
      obtain ⟨q9, rfl, H9⟩ := g5
      have g6 := f6 (hA 6 (by simp))
      have g7 := f7 (hA 7 (by simp))
      have g8 := f8 (hA 8 (by simp))
      obtain rfl := g8
      have g9 := f9 (hA 9 (by simp))
      obtain rfl := g9
      have g10 := f10 (hA 10 (by simp))
      obtain rfl := g10
      have g11 := f11 (hA 11 (by simp))
      obtain rfl := g11
      have g12 := f12 (hA 12 (by simp))
      obtain rfl := g12
      have g13 := f13 (hA 13 (by simp))
      obtain rfl := g13
      have g14 := f14 (hA 14 (by simp))
      obtain rfl := g14
      have g15 := f15 (hA 15 (by simp))
      obtain ⟨q19, rfl, H19⟩ := g15
      have g16 := f16 (hA 16 (by simp))
      obtain rfl := g16
      rw [if_pos (by kernel_rfl)]
      have q0 := cellB hHeld C0 hz0
      have q1 := cellB hHeld C1 hz0
      go_simp
      try simp only [Act.put, List.setIfInBounds_toArray, List.set_cons_zero, List.set_cons_succ]
      refine hK.out _ _ ⟨_, _, _, _, _, _, _, _, _, _, _, _, _, _, _, _, _, _, _, _, rfl, ?_, ?_, ?_, ?_, ?_, ?_, ?_, ?_, ?_, ?_, ?_, ?_, ?_, ?_, ?_, ?_, ?_, ?_, ?_, ?_, ?_⟩
      · first | exact hHeld | exact hHeld.trans (hb.mono hHeld.size) | (trace_state; fail)
      · first | exact flag_ne (by decide) f0 | exact fun _ => rfl
      · first | exact flag_ne (by decide) f1 | exact fun _ => rfl
      · intro _ h7; rw [getD_set_ne true (by decide)] at h7; exact (getD_no h7 (hA 7 (by simp))).elim
      · first | exact flag_ne (by decide) f3 | exact fun _ => rfl
      · first | exact flag_ne (by decide) f4 | exact fun _ => rfl
      · intro h; rw [getD_set_ne false (by decide)] at h; have := f5 h; obtain ⟨q, e1, e2⟩ := this; exact (by first | exact ⟨q, e1, e2⟩ | exact ⟨q, e1, owns_below e2 hb⟩ | exact ⟨q, e1, owns_grown e2 hG (fun g hg => owns_type e2 g2 (by decide) hg)⟩ | (trace_state; fail))
      · intro _ h7; rw [getD_set_ne true (by decide)] at h7; exact (getD_no h7 (hA 7 (by simp))).elim
      · intro h; rw [getD_set_ne false (by decide)] at h; have := f7 h; first | exact this | exact owns_below this hb | (trace_state; fail)
      · first | exact flag_ne (by decide) f8 | exact fun _ => rfl
      · first | exact flag_ne (by decide) f9 | exact fun _ => rfl
      · first | exact flag_ne (by decide) f10 | exact fun _ => rfl
      · first | exact flag_ne (by decide) f11 | exact fun _ => rfl
      · first | exact flag_ne (by decide) f12 | exact fun _ => rfl
      · first | exact flag_ne (by decide) f13 | exact fun _ => rfl
      · first | exact flag_ne (by decide) f14 | exact fun _ => rfl
      · intro h; rw [getD_set_ne false (by decide)] at h; have := f15 h; obtain ⟨q, e1, e2⟩ := this; exact (by first | exact ⟨q, e1, e2⟩ | exact ⟨q, e1, owns_below e2 hb⟩ | exact ⟨q, e1, owns_grown e2 hG (fun g hg => owns_type e2 g2 (by decide) hg)⟩ | (trace_state; fail))
      · first | exact flag_ne (by decide) f16 | exact fun _ => rfl
      · first | exact flag_ne (by decide) f17 | exact fun _ => rfl
      · intro h; rw [getD_set_ne false (by decide)] at h; have := f18 h; first | exact this | exact owns_below this hb | (trace_state; fail)
      · intro _; first | rfl | (trace_state; fail)
  intro L b v hA h
  refine h.elim ?_; clear h; intro u2 h
  refine h.elim ?_; clear h; intro u3 h
  refine h.elim ?_; clear h; intro u4 h
  refine h.elim ?_; clear h; intro u5 h
  refine h.elim ?_; clear h; intro u6 h
  refine h.elim ?_; clear h; intro u7 h
  refine h.elim ?_; clear h; intro u8 h
  refine h.elim ?_; clear h; intro u9 h
  refine h.elim ?_; clear h; intro u10 h
  refine h.elim ?_; clear h; intro u11 h
  refine h.elim ?_; clear h; intro u12 h
  refine h.elim ?_; clear h; intro u13 h
  refine h.elim ?_; clear h; intro u14 h
  refine h.elim ?_; clear h; intro u15 h
  refine h.elim ?_; clear h; intro u16 h
  refine h.elim ?_; clear h; intro u17 h
  refine h.elim ?_; clear h; intro u18 h
  refine h.elim ?_; clear h; intro u19 h
  refine h.elim ?_; clear h; intro u20 h
  refine h.elim ?_; clear h; intro u21 h
  have hbb := h.1; replace h := h.2; subst hbb
  have hHeld := h.1; replace h := h.2
  have f0 := h.1; replace h := h.2
  have f1 := h.1; replace h := h.2
  have f2 := h.1; replace h := h.2
  have f3 := h.1; replace h := h.2
  have f4 := h.1; replace h := h.2
  have f5 := h.1; replace h := h.2
  have f6 := h.1; replace h := h.2
  have f7 := h.1; replace h := h.2
  have f8 := h.1; replace h := h.2
  have f9 := h.1; replace h := h.2
  have f10 := h.1; replace h := h.2
  have f11 := h.1; replace h := h.2
  have f12 := h.1; replace h := h.2
  have f13 := h.1; replace h := h.2
  have f14 := h.1; replace h := h.2
  have f15 := h.1; replace h := h.2
  have f16 := h.1; replace h := h.2
  have f17 := h.1; replace h := h.2
  have f18 := h.1; replace h := h.2
  have f19 := h; clear h
  have g0 := f0 (hA 0 (by omega))
  clear f0
  obtain rfl := g0
  have g1 := f1 (hA 1 (by omega))
  clear f1
  obtain rfl := g1
  clear f2
  have g3 := f3 (hA 3 (by omega))
  clear f3
  obtain rfl := g3
  have g4 := f4 (hA 4 (by omega))
  clear f4
  obtain rfl := g4
  have g5 := f5 (hA 5 (by omega))
  clear f5
  obtain ⟨q9, rfl, H9⟩ := g5
  clear f6
  have g7 := f7 (hA 7 (by omega))
  clear f7
  have g8 := f8 (hA 8 (by omega))
  clear f8
  obtain rfl := g8
  have g9 := f9 (hA 9 (by omega))
  clear f9
  obtain rfl := g9
  have g10 := f10 (hA 10 (by omega))
  clear f10
  obtain rfl := g10
  have g11 := f11 (hA 11 (by omega))
  clear f11
  obtain rfl := g11
  have g12 := f12 (hA 12 (by omega))
  clear f12
  obtain rfl := g12
  have g13 := f13 (hA 13 (by omega))
  clear f13
  obtain rfl := g13
  have g14 := f14 (hA 14 (by omega))
  clear f14
  obtain rfl := g14
  have g15 := f15 (hA 15 (by omega))
  clear f15
  obtain ⟨q19, rfl, H19⟩ := g15
  have g16 := f16 (hA 16 (by omega))
  clear f16
  obtain rfl := g16
  have g17 := f17 (hA 17 (by omega))
  clear f17
  obtain rfl := g17
  have g18 := f18 (hA 18 (by omega))
  clear f18
  have g19 := f19 (hA 19 (by omega))
  clear f19
  obtain rfl := g19
  clear hA
  go_wp2_with fail
  go_returns
  have hz1 : W0.heap.size = w.heap.size + 1 := by rw [hW0]; simp
  exact ⟨_, rfl, by rw [HD.out.2, HD.out.1, ← hz1]; simpa [bytesV] using g18, Below.trans (by rw [hW0]; exact (Below.refl _ _).alloc (Nat.le_refl _) _) (hHeld.mono (by omega))⟩
end Go.Proofs.YtjikkipdmonndaaDoor
