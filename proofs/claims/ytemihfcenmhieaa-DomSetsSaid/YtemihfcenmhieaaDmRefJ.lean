/- The document's nearest dominators. -/
import Derived.Test.YtemihfcenmhieaaDmRefI
namespace Go.Proofs.Ytemihfcenmhieaa
open Go.RowKit
set_option linter.unusedSimpArgs false
set_option linter.unusedVariables false
open DM (rowN okN gI reachF domF bestF)
theorem best_le {next : List (List Int)} {b : Nat} : ∀ k, k ≤ next.length → bestF next b k = -1 ∨ ∃ c : Nat, bestF next b k = (c : Int) ∧ c < next.length
  | 0, _ => .inl rfl
  | a + 1, h => by
    unfold bestF
    split
    · exact .inr ⟨a, rfl, by omega⟩
    · exact best_le a (by omega)
def bestL (next : List (List Int)) (k : Nat) : List Int := (List.range k).map fun b => bestF next b next.length
theorem bestL_succ (next : List (List Int)) (k : Nat) : bestL next (k + 1) = bestL next k ++ [bestF next k next.length] := by simp [bestL, List.range_succ]
set_option maxRecDepth 100000 in
set_option maxHeartbeats 8000000 in
theorem ref31_Idom (v : Value) (next : List (List Int)) (w : World) (hv : RowR 1 gridR w v next) (hn : next.length ≤ 1024) :
    Calls Try.prog 12 #[v] w fun r w' => ∃ u, r = .returned u ∧ w'.ownsRow w.heap.size 3 1 u next.length (iV (bestL next next.length)) ∧ Below w.heap.size w w' := by
  obtain ⟨i2, hi2, hz2, hsize2, hby2⟩ : ∃ i, Try.prog.info? 3 = some i ∧ i.zero = some (.int .i64 0) ∧ i.size = 1 ∧ i.bytes = 8 := ⟨(Try.prog.info? 3).get!, by kernel_rfl, by kernel_rfl, by kernel_rfl, by kernel_rfl⟩
  have HD := Lib.hid (fun (a b : Nat) (W : World) (h : Below w.heap.size w W) (ha : a < next.length) (hb : b < next.length) => ref31_Dominates v next a b W (hv.below gridR_stable h) hn ha hb)
  obtain ⟨ad, cap, rfl⟩ := row_get hv
  obtain ⟨n, hN⟩ : ∃ n, next.length = n := ⟨_, rfl⟩
  have HN := Lib.hid hN
  rw [hN] at hn HD ⊢
  have hn63 : n ≤ 9223372036854775807 := by omega
  have HNB := Lib.hid hn
  clear hv hN hn
  go_enter Try.func12, Try.ntmps12
  go_wp2_with fail
  go_loopw [3, 4] (fun o jj wr => ∃ b : Nat, b ≤ n ∧ jj = .int .i64 b ∧ Hid (wr.ownsRow w.heap.size 3 1 o b (iV (bestL next b))) ∧ Hid (Below w.heap.size w wr)) (fun _ jj _ => n - (intOf jj).toNat)
  case atStart => exact ⟨0, Nat.zero_le _, rfl, Lib.hid (World.ownsRow_nil _ _ _ _), Lib.hid (Below.refl _ _)⟩
  case round =>
    obtain ⟨b, hb, rfl, hO, hB⟩ := hrel
    by_cases hlt : b < n
    case neg =>
      obtain rfl : n = b := by omega
      have q1 : ((n : Int) < (n : Int)) = False := eq_false (by omega)
      have q1' : (n < n) = False := eq_false (by omega)
      clear hlt hb
      go_wp2_with fail
      go_ret
      exact ⟨_, rfl, hO.out, hB.out⟩
    have q1 : ((b : Int) < (n : Int)) = True := eq_true (by omega)
    have q1' : (b < n) = True := eq_true hlt
    have hb62 : b ≤ 9223372036854775806 := by omega
    have HBb := Lib.hid hlt
    have HOo := hO
    have HBo := hB
    clear hlt hb hO hB
    go_wp2_with fail
    go_loopw [5, 6] (fun s5 jj wr2 => ∃ (a : Nat) (z : Int), a ≤ n ∧ s5 = .int .i64 z ∧ jj = .int .i64 a ∧ z = bestF next b a ∧ Hid (Below wr.heap.size wr wr2)) (fun _ jj _ => n - (intOf jj).toNat)
    case atStart => exact ⟨0, -1, Nat.zero_le _, rfl, rfl, rfl, Lib.hid (Below.refl _ _)⟩
    case round =>
      obtain ⟨a, z, ha, rfl, rfl, hz, hB2⟩ := hrel
      by_cases hlt : a < n
      case neg =>
        obtain rfl : n = a := by omega
        have q2 : ((n : Int) < (n : Int)) = False := eq_false (by omega)
        have q2' : (n < n) = False := eq_false (by omega)
        have hO := Lib.hid (owns_below HOo.out hB2.out)
        have hB := Lib.hid (HBo.out.trans (hB2.out.mono HBo.out.size))
        have hsz := hB.out.size
        have HZ := Lib.hid (show bestL next (b + 1) = bestL next b ++ [z] by rw [bestL_succ, hz, HN.out])
        clear hz hlt ha
        go_wp2_with (first | (at_builtin; go_loud (refine wpList_append_src rfl (.tmp 39) (.tmp 41) 26 rfl w.heap.size 3 i2 (.int .i64 0) 1 8 Try.underlying26 hi2 hz2 hsize2 hby2 rfl (by omega) _ b _ rfl (owns_below hO.out ((Below.refl _ _).alloc (Nat.le_refl _) _)) _ 1 [.int .i64 z] rfl (src_new _ _ _) rfl (by intro u hu; simp at hu; rw [hu]; rfl) (by have := HNB.out; have := HBb.out; unfold maxLen; omega) (by have := HNB.out; have := HBb.out; omega) (by simp; omega) ?_; intro v6 w6 hO6 hG6; have HB6 := Lib.hid (grown3 (hB.out.alloc hsz _) (by simp; omega) (owns_below hO.out ((Below.refl _ _).alloc (Nat.le_refl _) _)) hG6); have HO6 := Lib.hid hO6; clear hO6 hG6)) | fail)
        go_roundw
        case rel => exact ⟨b + 1, by have := HBb.out; omega, by simp, Lib.hid (by rw [HZ.out, iV_app]; exact HO6.out), HB6⟩
        case measure => have := HBb.out; first | (simp [intOf]; done) | (simp [intOf]; omega)
      have q2 : ((a : Int) < (n : Int)) = True := eq_true (by omega)
      have q2' : (a < n) = True := eq_true hlt
      have ha62 : a ≤ 9223372036854775806 := by omega
      have HAa := Lib.hid hlt
      have HZl := Lib.hid (best_le (next := next) (b := b) a (by rw [HN.out]; omega))
      have HZs := Lib.hid (show bestF next b (a + 1) = if a ≠ b ∧ domF next a b = true ∧ (bestF next b a < 0 ∨ domF next (bestF next b a).toNat a = true) then (a : Int) else bestF next b a from rfl)
      rw [← hz] at HZl HZs
      clear hz hlt ha
      by_cases hab : a = b
      · subst hab
        have eab : ((a : Int) != (a : Int)) = false := by simp
        have HR := Lib.hid (show z = bestF next a (a + 1) by rw [HZs.out, if_neg (fun h => h.1 rfl)])
        go_wp2_with fail
        go_roundw
        case rel => exact ⟨a + 1, z, by have := HAa.out; omega, rfl, by simp, HR.out, hB2⟩
        case measure => have := HAa.out; first | (simp [intOf]; done) | (simp [intOf]; omega)
      have eab : ((a : Int) != (b : Int)) = true := by have : ¬ (a : Int) = (b : Int) := by omega
                                                       simpa using this
      have HBB := Lib.hid (HBo.out.trans (hB2.out.mono HBo.out.size))
      have HD1 := Lib.hid (HD.out a b wr HBB.out HAa.out HBb.out)
      cases hd : domF next a b
      · rw [hd] at HD1
        have HR := Lib.hid (show z = bestF next b (a + 1) by rw [HZs.out, if_neg (fun h => by rw [hd] at h; cases h.2.1)])
        clear hd hab
        go_wp2_with fail
        refine HD1.out.mono ?_; rintro r w2 ⟨rfl, hb⟩
        have HB3 := Lib.hid (hB2.out.trans (hb.mono hB2.out.size))
        clear hb
        go_wp2_with fail
        go_roundw
        case rel => exact ⟨a + 1, z, by have := HAa.out; omega, rfl, by simp, HR.out, HB3⟩
        case measure => have := HAa.out; first | (simp [intOf]; done) | (simp [intOf]; omega)
      rw [hd] at HD1
      by_cases hz0 : z < 0
      · have q3 : (z < 0) = True := eq_true hz0
        have HR := Lib.hid (show (a : Int) = bestF next b (a + 1) by rw [HZs.out, if_pos ⟨hab, hd, .inl hz0⟩])
        clear hd hab hz0
        go_wp2_with fail
        refine HD1.out.mono ?_; rintro r w2 ⟨rfl, hb⟩
        have HB3 := Lib.hid (hB2.out.trans (hb.mono hB2.out.size))
        clear hb
        go_wp2_with fail
        go_roundw
        case rel => exact ⟨a + 1, (a : Int), by have := HAa.out; omega, rfl, by simp, HR.out, HB3⟩
        case measure => have := HAa.out; first | (simp [intOf]; done) | (simp [intOf]; omega)
      have hc : ∃ c : Nat, z = (c : Int) ∧ c < n := by
        rcases HZl.out with h | ⟨c, h, hcn⟩
        · omega
        · exact ⟨c, h, by rw [← HN.out]; exact hcn⟩
      obtain ⟨c, rfl, hcn⟩ := hc
      have q3 : ((c : Int) < 0) = False := eq_false hz0
      have HCN := Lib.hid hcn
      have HZs2 := Lib.hid (show bestF next b (a + 1) = if domF next c a = true then (a : Int) else (c : Int) by
        rw [HZs.out, Int.toNat_natCast]
        by_cases hx : domF next c a = true
        · rw [if_pos ⟨hab, hd, .inr hx⟩, if_pos hx]
        · rw [if_neg (fun h => by rcases h.2.2 with h | h; exact hz0 h; exact hx h), if_neg hx])
      clear hd hab hz0 HZs HZl hcn
      go_wp2_with fail
      refine HD1.out.mono ?_; rintro r w2 ⟨rfl, hb⟩
      have HB3 := Lib.hid (hB2.out.trans (hb.mono hB2.out.size))
      have HBB3 := Lib.hid (HBB.out.trans (hb.mono HBB.out.size))
      have HD2 := Lib.hid (HD.out c a w2 HBB3.out HCN.out HAa.out)
      clear hb HD1
      go_wp2_with fail
      cases hx : domF next c a
      · rw [hx] at HD2
        have HR := Lib.hid (show (c : Int) = bestF next b (a + 1) by rw [HZs2.out, hx, if_neg (by simp)])
        clear hx
        refine HD2.out.mono ?_; rintro r w3 ⟨rfl, hb⟩
        have HB4 := Lib.hid (HB3.out.trans (hb.mono HB3.out.size))
        clear hb
        go_wp2_with fail
        go_roundw
        case rel => exact ⟨a + 1, (c : Int), by have := HAa.out; omega, rfl, by simp, HR.out, HB4⟩
        case measure => have := HAa.out; first | (simp [intOf]; done) | (simp [intOf]; omega)
      · rw [hx] at HD2
        have HR := Lib.hid (show (a : Int) = bestF next b (a + 1) by rw [HZs2.out, hx, if_pos rfl])
        clear hx
        refine HD2.out.mono ?_; rintro r w3 ⟨rfl, hb⟩
        have HB4 := Lib.hid (HB3.out.trans (hb.mono HB3.out.size))
        clear hb
        go_wp2_with fail
        go_roundw
        case rel => exact ⟨a + 1, (a : Int), by have := HAa.out; omega, rfl, by simp, HR.out, HB4⟩
        case measure => have := HAa.out; first | (simp [intOf]; done) | (simp [intOf]; omega)
end Go.Proofs.Ytemihfcenmhieaa
