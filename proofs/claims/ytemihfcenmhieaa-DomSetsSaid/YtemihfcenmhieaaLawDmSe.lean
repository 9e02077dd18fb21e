/- Layer 31: the walk of DomSets. -/
import Derived.Test.YtemihfcenmhieaaDmSets
namespace Go.Proofs.Ytemihfcenmhieaa
open Go.RowKit
set_option linter.unusedSimpArgs false
set_option linter.unusedVariables false
open DM (domF reachF gI okN)
theorem told_sets {next : List (List Int)} {d : List Nat} {DF : List Int} (T : Told next d DF) {b : Nat} (hb : b < next.length) : (setsF DF d.reverse (List.replicate next.length (List.replicate next.length false))).length = next.length ∧
    ((setsF DF d.reverse (List.replicate next.length (List.replicate next.length false))).getD b []).length = next.length ∧
    (∀ a, a < next.length → hasB ((setsF DF d.reverse (List.replicate next.length (List.replicate next.length false))).getD b []) (a : Int) = domF next a b) ∧
    ((reachF next (-1)).getD b false = true → ∀ a, a < next.length → upB DF (a : Int) (b : Int) = domF next a b) := by
  obtain ⟨g1, g2, g3, g4, g5, g6, tl, g7⟩ := T.tree (by omega)
  have hlt : ∀ v ∈ d.reverse, v < next.length := fun v hv => T.lt v (by simpa using hv)
  have H := sets_spec g1 hlt g3 g4 g6 d.reverse [] _ (by simp) has_start
  have hdom : ∀ a, a < next.length → (domF next a b = true ↔ b ∈ d.reverse ∧ DM.Anc (DM.dOf DF) a b) := fun a ha => by
    rw [DM.dom_iff, ← g5 b]
    constructor
    · rintro ⟨_, _, h3, h4⟩; exact ⟨h3, (g4.dom b h3 a).1 h4⟩
    · rintro ⟨h3, h4⟩; exact ⟨hb, ha, h3, (g4.dom b h3 a).2 h4⟩
  refine ⟨by rw [setsF_len]; simp, H.2.1 b hb, fun a ha => ?_, fun hr a ha => ?_⟩
  · unfold hasB
    rw [if_pos (by have := H.2.1 b hb; omega), Int.toNat_natCast, Bool.eq_iff_iff, H.2.2 b hb a ha, hdom a ha]
  · have hbo : b ∈ d.reverse := by
      obtain ⟨_, hf⟩ := (DM.reach_iff b).1 hr
      exact (g5 b).2 (DM.free_all.1 hf)
    have hz : gI DF 0 = -1 := DM.dOf_none g4.zero g2 (by omega)
    have hk := hit_anc (D := DF) (R := (· ∈ d.reverse)) (rk := (d.reverse.idxOf ·)) hz (fun v hv h0 => by
      obtain ⟨e, he, hRe⟩ := g4.has v hv h0
      refine ⟨e, he, hRe, ?_⟩
      rcases (g6 e v hv (.up he .self)).2 with h | h
      · exact h
      · subst h; exact absurd .self (g4.total e e hv he)) g4.zero (fun v hv => by rw [g1]; exact hlt v hv) a next.length b hbo (by
        have := List.idxOf_lt_length_of_mem hbo
        have h2 := T.len
        simp only [List.length_reverse] at this
        omega)
    unfold upB
    rw [up_hit, g1, show okN next.length (b : Int) = true from decide_eq_true (by omega), Bool.true_and, Bool.eq_iff_iff, hk, hdom a ha]
    exact ⟨fun h => ⟨hbo, h⟩, fun h => h.2⟩
set_option maxRecDepth 100000 in
set_option maxHeartbeats 8000000 in
theorem domSets_walk (v : Value) (next : List (List Int)) (w : World) (hv : RowR 1 gridR w v next) :
    Calls Try.prog 4 #[v] w fun r w' => r = .returned (.bool true) ∧ Below w.heap.size w w' := by
  have HF := Lib.hid (ref31_Few v next 24 w hv)
  have HA0 := Lib.hid (fun W => law31_awake W)
  cases hf : few31 next 24
  · rw [hf] at HF
    obtain ⟨ad, cap, rfl⟩ := row_get hv
    clear hv hf
    go_enter Try.func4, Try.ntmps4
    go_wp2_with fail
    refine HF.out.mono ?_; rintro r w2 ⟨rfl, rfl⟩
    go_wp2_with fail
    refine (HA0.out _).mono ?_; rintro r w3 ⟨rfl, hb⟩
    go_wp2_with fail
    go_ret
    exact ⟨rfl, hb⟩
  rw [hf] at HF
  obtain ⟨hn, hl⟩ := few31_le (k := 24) hf
  have hl' : ∀ l ∈ next, l.length ≤ 1024 := fun l hl' => by have := hl l hl'; omega
  obtain ⟨d, DF, T⟩ := told next
  obtain ⟨K, hK⟩ := T.ord
  obtain ⟨K2, N2, hS⟩ := T.set
  have H1 := Lib.hid (fun W (h : Below w.heap.size w W) => dom_Sets v next W (hv.below gridR_stable h) (by omega) hl' d DF T)
  have H3 := Lib.hid (fun W (h : Below w.heap.size w W) => dom_Idom v next W (hv.below gridR_stable h) (by omega) hl' K d hK T.len T.lt K2 N2 DF hS)
  have H4 := Lib.hid (fun W (h : Below w.heap.size w W) => ref31_Reach v next (-1) W (hv.below gridR_stable h) (by omega))
  have H5 := Lib.hid (fun (a b : Nat) W (h : Below w.heap.size w W) (ha : a < next.length) (hb : b < next.length) => ref31_Dominates v next a b W (hv.below gridR_stable h) (by omega) ha hb)
  have HTS := Lib.hid (fun (b : Nat) (hb : b < next.length) => told_sets T hb)
  obtain ⟨ad, cap, rfl⟩ := row_get hv
  obtain ⟨n, hN⟩ : ∃ n, next.length = n := ⟨_, rfl⟩
  have HN := Lib.hid hN
  have HNl := Lib.hid hn
  have hn63 : n ≤ 9223372036854775807 := by omega
  rw [hN] at HF H1 H3 H4 H5 HTS HNl ⊢
  have HSl := Lib.hid (show (setsF DF d.reverse (List.replicate n (List.replicate n false))).length = n by rw [setsF_len]; simp)
  generalize setsF DF d.reverse (List.replicate n (List.replicate n false)) = SF at *
  have e1 : ((n : Int) != (n : Int)) = false := by simp
  clear hv hf hn hl hl' T hK hS hN
  go_enter Try.func4, Try.ntmps4
  go_wp2_with fail
  refine HF.out.mono ?_; rintro r w2 ⟨rfl, rfl⟩
  go_wp2_with fail
  refine (H1.out _ (Below.refl _ _)).mono ?_; rintro r W1 ⟨U, rfl, hSA, hb1⟩
  have HSA := Lib.hid hSA
  have HB1 := Lib.hid hb1
  clear hSA hb1
  go_wp2_with fail
  refine (H3.out _ HB1.out).mono ?_; rintro r W2 ⟨u3, rfl, hO3, hb3, hF3, hL3⟩
  have hI64 := fine_i64 hF3 hL3 (by have := HNl.out; omega)
  have HR3 := Lib.hid (row_of_owns (own_owns hO3 hL3.symm rfl) hI64)
  obtain ⟨a3, c3, rfl⟩ := owns_form hO3
  have HSA := Lib.hid (HSA.out.below hb3)
  have HB2 := Lib.hid (HB1.out.trans (hb3.mono HB1.out.size))
  clear hO3 hb3 hF3 hL3 hI64
  go_wp2_with fail
  refine (H4.out _ HB2.out).mono ?_; rintro r W3 ⟨u4, rfl, hO4, hb4⟩
  have HR3 := Lib.hid (HR3.out.below intR_stable hb4)
  have HSA := Lib.hid (HSA.out.below hb4)
  have HO4 := Lib.hid hO4
  obtain ⟨a4, c4, rfl⟩ := owns_form hO4
  have HB3 := Lib.hid (HB2.out.trans (hb4.mono HB2.out.size))
  have HUp := Lib.hid (fun (a b : Int) (W : World) (h : Below W3.heap.size W3 W) => dom_Dominates (.slice a3 n c3) DF a b W (HR3.out.below intR_stable h))
  have HSat := Lib.hid (fun (W : World) (h : Below W3.heap.size W3 W) => HSA.out.below h)
  have HO4W := Lib.hid (fun (W : World) (h : Below W3.heap.size W3 W) => owns_below HO4.out h)
  have HBW := Lib.hid (fun (W : World) (h : Below W3.heap.size W3 W) => HB3.out.trans (h.mono HB3.out.size))
  clear hO4 hb4 H1 H3 H4
  go_wp2_with fail
  go_loopw [6] (fun jj wr => ∃ b : Nat, b ≤ n ∧ jj = .int .i64 b ∧ Hid (Below W3.heap.size W3 wr)) (fun jj _ => n - (intOf jj).toNat)
  case atStart => exact ⟨0, Nat.zero_le _, rfl, Lib.hid (Below.refl _ _)⟩
  case round =>
    obtain ⟨b, hb, rfl, hB⟩ := hrel
    by_cases hlt : b < n
    case neg =>
      obtain rfl : n = b := by omega
      have q1 : ((n : Int) < (n : Int)) = False := eq_false (by omega)
      have q1' : (n < n) = False := eq_false (by omega)
      have HBB := Lib.hid (HBW.out _ hB.out)
      clear hlt hb
      go_wp2_with fail
      refine (HA0.out _).mono ?_; rintro r w8 ⟨rfl, hb⟩
      have HB7 := Lib.hid (HBB.out.trans (hb.mono HBB.out.size))
      clear hb
      go_wp2_with fail
      go_ret
      exact ⟨rfl, HB7.out⟩
    have q1 : ((b : Int) < (n : Int)) = True := eq_true (by omega)
    have q1' : (b < n) = True := eq_true hlt
    have hb62 : b ≤ 9223372036854775806 := by omega
    have HBb := Lib.hid hlt
    obtain ⟨g4, c4', h4e, hc41, hc42⟩ := owned_bool (HO4W.out _ hB.out) (by omega)
    obtain ⟨rfl, rfl⟩ : a4 = some ⟨g4, 0, none⟩ ∧ c4 = c4' := by cases h4e; exact ⟨rfl, rfl⟩
    obtain ⟨_, hlen, hhas, hup⟩ := HTS.out b hlt
    have HHas := Lib.hid hhas
    have HUpp := Lib.hid hup
    obtain ⟨a, q, c, hU, x0, x1, _, _, hl, hS⟩ := (HSat.out _ hB.out).at_ HSl.out hlt
    have HRo := Lib.hid (bits_Room _ _ wr hS)
    rw [hlen] at HRo
    clear hlt hb h4e hhas hup hU hl hS hlen
    go_wp2_with fail
    refine HRo.out.mono ?_; rintro r w5 ⟨rfl, hb⟩
    have HB5 := Lib.hid (hB.out.trans (hb.mono hB.out.size))
    clear hb x0 x1
    go_wp2_with fail
    go_loopw [7] (fun jj wr2 => ∃ a : Nat, a ≤ n ∧ jj = .int .i64 a ∧ Hid (Below W3.heap.size W3 wr2)) (fun jj _ => n - (intOf jj).toNat)
    case atStart => exact ⟨0, Nat.zero_le _, rfl, HB5⟩
    case round =>
      obtain ⟨a, ha, rfl, hB2⟩ := hrel
      by_cases hlt : a < n
      case neg =>
        obtain rfl : n = a := by omega
        have q2 : ((n : Int) < (n : Int)) = False := eq_false (by omega)
        have q2' : (n < n) = False := eq_false (by omega)
        clear hlt ha
        go_wp2_with fail
        go_roundw
        case rel => exact ⟨b + 1, by have := HBb.out; omega, by simp, hB2⟩
        case measure => have := HBb.out; first | (simp [intOf]; done) | (simp [intOf]; omega)
      have q2 : ((a : Int) < (n : Int)) = True := eq_true (by omega)
      have q2' : (a < n) = True := eq_true hlt
      have ha62 : a ≤ 9223372036854775806 := by omega
      have HAa := Lib.hid hlt
      have HD := Lib.hid (H5.out a b wr (HBW.out _ hB2.out) hlt HBb.out)
      have E1 := Lib.hid (HHas.out a hlt)
      have E2 := Lib.hid (fun h => HUpp.out h a hlt)
      generalize domF next a b = dm at *
      clear hlt ha
      go_wp2_with fail
      refine HD.out.mono ?_; rintro r w6 ⟨rfl, hb6⟩
      have HB6 := Lib.hid (hB2.out.trans (hb6.mono hB2.out.size))
      obtain ⟨a9, q9, c9, hU, x0, x1, _, _, hl, hS⟩ := (HSat.out _ HB6.out).at_ HSl.out HBb.out
      have HHa := Lib.hid (bits_Has _ _ (a : Int) w6 hS)
      rw [E1.out] at HHa
      have ed : (dm != dm) = false := by simp
      clear hb6 hU hl hS HD
      go_wp2_with fail
      refine HHa.out.mono ?_; rintro r w7 ⟨rfl, hb7⟩
      have HB7 := Lib.hid (HB6.out.trans (hb7.mono HB6.out.size))
      have cr := owns_bool_at (HO4W.out _ HB7.out) HBb.out false
      clear hb7 x0 x1 HHa
      cases hr : (reachF next (-1)).getD b false
      · rw [hr] at cr
        clear hr
        go_wp2_with fail
        go_roundw
        case rel => exact ⟨a + 1, by have := HAa.out; omega, by simp, HB7⟩
        case measure => have := HAa.out; first | (simp [intOf]; done) | (simp [intOf]; omega)
      · rw [hr] at cr
        have HU2 := Lib.hid (HUp.out (a : Int) (b : Int) w7 HB7.out)
        rw [E2.out hr] at HU2
        clear hr
        go_wp2_with fail
        refine HU2.out.mono ?_; rintro r w8 ⟨rfl, hb8⟩
        have HB8 := Lib.hid (HB7.out.trans (hb8.mono HB7.out.size))
        clear hb8
        go_wp2_with fail
        go_roundw
        case rel => exact ⟨a + 1, by have := HAa.out; omega, by simp, HB8⟩
        case measure => have := HAa.out; first | (simp [intOf]; done) | (simp [intOf]; omega)
end Go.Proofs.Ytemihfcenmhieaa
