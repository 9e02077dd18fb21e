/- The document's nearest postdominators. -/
import Derived.Test.YtkjafkegkllbiaaPdRd
import Derived.Test.YtkjafkegkllbiaaPdN
namespace Go.Proofs.Ytkjafkegkllbiaa
open Go.RowKit
set_option linter.unusedSimpArgs false
set_option linter.unusedVariables false
open DM (reachG endF thrF bestP nearP)
theorem owned_boolP {w : World} {B n : Nat} {e : TypeId} {u : Value} {L : List Bool} (h : w.ownsRow B e 1 u n (bV1 L)) (hn : 0 < n) : ∃ g c, u = .slice (some ⟨g, 0, none⟩) n c ∧ n ≤ c ∧ c ≤ 9223372036854775807 := by
  rcases h.2 with ⟨_, h0⟩ | ⟨g, cap, cur, h1, _, _, h2, h3, _⟩
  · omega
  · exact ⟨g, cap, h1, h2, h3⟩
set_option maxHeartbeats 4000000 in
theorem ref32_Through (v : Value) (next : List (List Int)) (a b : Nat) (w : World) (hv : RowR 1 gridR w v next) (hn : next.length ≤ 1000) (hrl : ∀ l ∈ next, l.length ≤ 1024) (ha : a ≤ next.length) (hb : b ≤ next.length) :
    Calls Try.prog 16 #[v, .int .i64 (a : Int), .int .i64 (b : Int)] w fun r w' => r = .returned (.bool (thrF next a b)) ∧ Below w.heap.size w w' := by
  have HE := Lib.hid (ref32_Ended v next w hv hn hrl)
  have hlE := DM.end_len next
  obtain ⟨n, hN⟩ : ∃ n, next.length = n := ⟨_, rfl⟩
  have HR := Lib.hid (fun u wo W (hu : RowR 1 gridR W u (endF next)) => ref31_ReachG u (endF next) b wo W hu (by omega) (by omega))
  have HD := Lib.hid (show thrF next a b = ((reachG (endF next) b (-1)).getD n false && !(reachG (endF next) b (a : Int)).getD n false) by unfold thrF; rw [hN])
  obtain ⟨ad, cap, rfl⟩ := row_get hv
  rw [hlE] at HR
  rw [hN] at hn ha hb HR HE ⊢
  have hn62 : n ≤ 9223372036854775806 := by omega
  have qb : ((n : Int) < (n : Int) + 1) = True := eq_true (by omega)
  have qb2 : (n < n + 1) = True := eq_true (by omega)
  generalize thrF next a b = Z at *
  clear hv hn ha hb hrl
  go_enter Try.func16, Try.ntmps16
  go_wp2_with fail
  refine HE.out.mono ?_; rintro r w1 ⟨ue, rfl, hue, hb1⟩
  have hul := hue.len
  have HUE := Lib.hid (fun W (h : Below w1.heap.size w1 W) => hue.below gridR_stable h)
  have HB1 := Lib.hid hb1
  clear hb1 hue
  go_wp2_with fail
  refine (HR.out ue (-1) _ (HUE.out _ (Below.refl _ _))).mono ?_; rintro r w2 ⟨u, rfl, hO, hb⟩
  obtain ⟨g, c, rfl, hc1, hc2⟩ := owned_boolP hO (by omega)
  have cb := owns_bool_at hO (j := n) (by omega) false
  have HB2 := Lib.hid (HB1.out.trans (hb.mono HB1.out.size))
  have HUE2 := Lib.hid (HUE.out _ hb)
  clear hO hb
  cases hx : (reachG (endF next) b (-1)).getD n false
  · rw [hx] at cb
    have hZ := Lib.hid (show Z = false by rw [HD.out, hx]; rfl)
    clear hx
    go_wp2_with fail
    go_ret
    exact ⟨by rw [hZ.out]; rfl, HB2.out⟩
  · rw [hx] at cb
    have HD := Lib.hid (show Z = !(reachG (endF next) b (a : Int)).getD n false by rw [HD.out, hx]; rfl)
    clear hx
    go_wp2_with fail
    refine (HR.out ue (a : Int) _ HUE2.out).mono ?_; rintro r w3 ⟨u, rfl, hO, hb⟩
    obtain ⟨g3, c3, rfl, hc31, hc32⟩ := owned_boolP hO (by omega)
    have cb3 := owns_bool_at hO (j := n) (by omega) false
    have HB3 := Lib.hid (HB2.out.trans (hb.mono HB2.out.size))
    clear hO hb cb
    generalize (reachG (endF next) b (a : Int)).getD n false = y at *
    go_wp2_with fail
    go_ret
    exact ⟨by rw [HD.out]; rfl, HB3.out⟩
theorem bestP_le {next : List (List Int)} {b : Nat} : ∀ k, bestP next b k = -1 ∨ ∃ c : Nat, bestP next b k = (c : Int) ∧ c < k
  | 0 => .inl rfl
  | a + 1 => by
    unfold bestP
    split
    · exact .inr ⟨a, rfl, by omega⟩
    · rcases bestP_le (next := next) (b := b) a with h | ⟨c, h, h2⟩
      · exact .inl h
      · exact .inr ⟨c, h, by omega⟩
def nearL (next : List (List Int)) (k : Nat) : List Int := (List.range k).map fun b => bestP next b (next.length + 1)
theorem nearL_succ (next : List (List Int)) (k : Nat) : nearL next (k + 1) = nearL next k ++ [bestP next k (next.length + 1)] := by simp [nearL, List.range_succ]
set_option maxRecDepth 100000 in
set_option maxHeartbeats 8000000 in
theorem ref32_Nearest (v : Value) (next : List (List Int)) (w : World) (hv : RowR 1 gridR w v next) (hn : next.length ≤ 1000) (hrl : ∀ l ∈ next, l.length ≤ 1024) :
    Calls Try.prog 8 #[v] w fun r w' => ∃ u, r = .returned u ∧ w'.ownsRow w.heap.size 3 1 u next.length (iV (nearL next next.length)) ∧ Below w.heap.size w w' := by
  obtain ⟨i2, hi2, hz2, hsize2, hby2⟩ : ∃ i, Try.prog.info? 3 = some i ∧ i.zero = some (.int .i64 0) ∧ i.size = 1 ∧ i.bytes = 8 := ⟨(Try.prog.info? 3).get!, by kernel_rfl, by kernel_rfl, by kernel_rfl, by kernel_rfl⟩
  have HD := Lib.hid (fun (a b : Nat) (W : World) (h : Below w.heap.size w W) (ha : a ≤ next.length) (hb : b ≤ next.length) => ref32_Through v next a b W (hv.below gridR_stable h) hn hrl ha hb)
  obtain ⟨ad, cap, rfl⟩ := row_get hv
  obtain ⟨n, hN⟩ : ∃ n, next.length = n := ⟨_, rfl⟩
  have HN := Lib.hid hN
  rw [hN] at hn HD ⊢
  have hn62 : n ≤ 9223372036854775806 := by omega
  have HNB := Lib.hid hn
  clear hv hN hn hrl
  go_enter Try.func8, Try.ntmps8
  go_wp2_with fail
  go_loopw [3, 5] (fun o jj wr => ∃ b : Nat, b ≤ n ∧ jj = .int .i64 b ∧ Hid (wr.ownsRow w.heap.size 3 1 o b (iV (nearL next b))) ∧ Hid (Below w.heap.size w wr)) (fun _ jj _ => n - (intOf jj).toNat)
  case atStart => exact ⟨0, Nat.zero_le _, rfl, Lib.hid (World.ownsRow_nil _ _ _ _), Lib.hid (Below.refl _ _)⟩
  case round =>
    obtain ⟨b, hb, rfl, hO, hB⟩ := hrel
    by_cases hlt : b < n
    case neg =>
      obtain rfl : n = b := by omega
      have q1 : ((n : Int) < (n : Int)) = False := eq_false (by omega)
      have q1' : (n < n) = False := eq_false (by omega)
      clear hlt hb
      go_wp2_with fail
      go_ret
      exact ⟨_, rfl, hO.out, hB.out⟩
    have q1 : ((b : Int) < (n : Int)) = True := eq_true (by omega)
    have q1' : (b < n) = True := eq_true hlt
    have hb62 : b ≤ 9223372036854775806 := by omega
    have HBb := Lib.hid hlt
    have HOo := hO
    have HBo := hB
    clear hlt hb hO hB
    go_wp2_with fail
    go_loopw [6, 7] (fun s5 jj wr2 => ∃ (a : Nat) (z : Int), a ≤ n + 1 ∧ s5 = .int .i64 z ∧ jj = .int .i64 a ∧ z = bestP next b a ∧ Hid (Below wr.heap.size wr wr2)) (fun _ jj _ => n + 1 - (intOf jj).toNat)
    case atStart => exact ⟨0, -1, Nat.zero_le _, rfl, rfl, rfl, Lib.hid (Below.refl _ _)⟩
    case round =>
      obtain ⟨a, z, ha, rfl, rfl, hz, hB2⟩ := hrel
      by_cases hlt : a ≤ n
      case neg =>
        obtain rfl : a = n + 1 := by omega
        have q2 : (((n + 1 : Nat) : Int) ≤ (n : Int)) = False := eq_false (by omega)
        have q2a : ((n : Int) + 1 ≤ (n : Int)) = False := eq_false (by omega)
        have q2' : (n + 1 ≤ n) = False := eq_false (by omega)
        have hO := Lib.hid (owns_below HOo.out hB2.out)
        have hB := Lib.hid (HBo.out.trans (hB2.out.mono HBo.out.size))
        have hsz := hB.out.size
        have HZ := Lib.hid (show nearL next (b + 1) = nearL next b ++ [z] by rw [nearL_succ, hz, HN.out])
        clear hz hlt ha
        go_wp2_with (first | (at_builtin; go_loud (refine wpList_append_src rfl (.tmp 50) (.tmp 52) 25 rfl w.heap.size 3 i2 (.int .i64 0) 1 8 Try.underlying25 hi2 hz2 hsize2 hby2 rfl (by omega) _ b _ rfl (owns_below hO.out ((Below.refl _ _).alloc (Nat.le_refl _) _)) _ 1 [.int .i64 z] rfl (src_new _ _ _) rfl (by intro u hu; simp at hu; rw [hu]; rfl) (by have := HNB.out; have := HBb.out; unfold maxLen; omega) (by have := HNB.out; have := HBb.out; omega) (by simp; omega) ?_; intro v6 w6 hO6 hG6; have HB6 := Lib.hid (grown3 (hB.out.alloc hsz _) (by simp; omega) (owns_below hO.out ((Below.refl _ _).alloc (Nat.le_refl _) _)) hG6); have HO6 := Lib.hid hO6; clear hO6 hG6)) | fail)
        go_roundw
        case rel => exact ⟨b + 1, by have := HBb.out; omega, by simp, Lib.hid (by rw [HZ.out, iV_app]; exact HO6.out), HB6⟩
        case measure => have := HBb.out; first | (simp [intOf]; done) | (simp [intOf]; omega)
      have q2 : ((a : Int) ≤ (n : Int)) = True := eq_true (by omega)
      have q2' : (a ≤ n) = True := eq_true hlt
      have ha62 : a ≤ 9223372036854775806 := by omega
      have HAa := Lib.hid hlt
      have HZl := Lib.hid (bestP_le (next := next) (b := b) a)
      have HZs := Lib.hid (show bestP next b (a + 1) = if a ≠ b ∧ thrF next a b = true ∧ (bestP next b a < 0 ∨ bestP next b a = (n : Int) ∨ (a ≠ n ∧ thrF next (bestP next b a).toNat a = true)) then (a : Int) else bestP next b a by rw [← HN.out]; rfl)
      rw [← hz] at HZl HZs
      clear hz hlt ha
      by_cases hab : a = b
      · subst hab
        have eab : ((a : Int) != (a : Int)) = false := by simp
        have HR := Lib.hid (show z = bestP next a (a + 1) by rw [HZs.out, if_neg (fun h => h.1 rfl)])
        go_wp2_with fail
        go_roundw
        case rel => exact ⟨a + 1, z, by have := HAa.out; omega, rfl, by simp, HR.out, hB2⟩
        case measure => have := HAa.out; first | (simp [intOf]; done) | (simp [intOf]; omega)
      have eab : ((a : Int) != (b : Int)) = true := by have : ¬ (a : Int) = (b : Int) := by omega
                                                       simpa using this
      have HBB := Lib.hid (HBo.out.trans (hB2.out.mono HBo.out.size))
      have HD1 := Lib.hid (HD.out a b wr HBB.out HAa.out (Nat.le_of_lt HBb.out))
      cases hd : thrF next a b
      · rw [hd] at HD1
        have HR := Lib.hid (show z = bestP next b (a + 1) by rw [HZs.out, if_neg (fun h => by rw [hd] at h; cases h.2.1)])
        clear hd hab
        go_wp2_with fail
        refine HD1.out.mono ?_; rintro r w2 ⟨rfl, hb⟩
        have HB3 := Lib.hid (hB2.out.trans (hb.mono hB2.out.size))
        clear hb
        go_wp2_with fail
        go_roundw
        case rel => exact ⟨a + 1, z, by have := HAa.out; omega, rfl, by simp, HR.out, HB3⟩
        case measure => have := HAa.out; first | (simp [intOf]; done) | (simp [intOf]; omega)
      rw [hd] at HD1
      by_cases hz0 : z < 0
      · have q3 : (z < 0) = True := eq_true hz0
        have HR := Lib.hid (show (a : Int) = bestP next b (a + 1) by rw [HZs.out, if_pos ⟨hab, hd, .inl hz0⟩])
        clear hd hab hz0
        go_wp2_with fail
        refine HD1.out.mono ?_; rintro r w2 ⟨rfl, hb⟩
        have HB3 := Lib.hid (hB2.out.trans (hb.mono hB2.out.size))
        clear hb
        go_wp2_with fail
        go_roundw
        case rel => exact ⟨a + 1, (a : Int), by have := HAa.out; omega, rfl, by simp, HR.out, HB3⟩
        case measure => have := HAa.out; first | (simp [intOf]; done) | (simp [intOf]; omega)
      have hc : ∃ c : Nat, z = (c : Int) ∧ c < a := by
        rcases HZl.out with h | ⟨c, h, hcn⟩
        · omega
        · exact ⟨c, h, hcn⟩
      obtain ⟨c, rfl, hcn⟩ := hc
      have q3 : ((c : Int) < 0) = False := eq_false hz0
      have HCN := Lib.hid hcn
      have HAn := HAa.out
      have q5 : ((c : Int) == (n : Int)) = false := by have : ¬ (c : Int) = (n : Int) := by omega
                                                       simpa using this
      by_cases han : a = n
      · have q6 : ((a : Int) != (n : Int)) = false := by rw [han]; simp
        have HR := Lib.hid (show (c : Int) = bestP next b (a + 1) by rw [HZs.out, if_neg (fun h => by rcases h.2.2 with h | h | h; exact hz0 h; omega; exact h.1 han)])
        clear hd hab hz0 HZs HZl hcn han
        go_wp2_with fail
        refine HD1.out.mono ?_; rintro r w2 ⟨rfl, hb⟩
        have HB3 := Lib.hid (hB2.out.trans (hb.mono hB2.out.size))
        clear hb
        go_wp2_with fail
        go_roundw
        case rel => exact ⟨a + 1, (c : Int), by have := HAa.out; omega, rfl, by simp, HR.out, HB3⟩
        case measure => have := HAa.out; first | (simp [intOf]; done) | (simp [intOf]; omega)
      have q6 : ((a : Int) != (n : Int)) = true := by have : ¬ (a : Int) = (n : Int) := by omega
                                                      simpa using this
      have HZs2 := Lib.hid (show bestP next b (a + 1) = if thrF next c a = true then (a : Int) else (c : Int) by
        rw [HZs.out, Int.toNat_natCast]
        by_cases hx : thrF next c a = true
        · rw [if_pos ⟨hab, hd, .inr (.inr ⟨han, hx⟩)⟩, if_pos hx]
        · rw [if_neg (fun h => by rcases h.2.2 with h | h | h; exact hz0 h; omega; exact hx h.2), if_neg hx])
      clear hd hab hz0 HZs HZl hcn han HAn
      go_wp2_with fail
      refine HD1.out.mono ?_; rintro r w2 ⟨rfl, hb⟩
      have HB3 := Lib.hid (hB2.out.trans (hb.mono hB2.out.size))
      have HBB3 := Lib.hid (HBB.out.trans (hb.mono HBB.out.size))
      have HD2 := Lib.hid (HD.out c a w2 HBB3.out (Nat.le_trans (Nat.le_of_lt HCN.out) HAa.out) HAa.out)
      clear hb HD1
      go_wp2_with fail
      cases hx : thrF next c a
      · rw [hx] at HD2
        have HR := Lib.hid (show (c : Int) = bestP next b (a + 1) by rw [HZs2.out, hx, if_neg (by simp)])
        clear hx
        refine HD2.out.mono ?_; rintro r w3 ⟨rfl, hb⟩
        have HB4 := Lib.hid (HB3.out.trans (hb.mono HB3.out.size))
        clear hb
        go_wp2_with fail
        go_roundw
        case rel => exact ⟨a + 1, (c : Int), by have := HAa.out; omega, rfl, by simp, HR.out, HB4⟩
        case measure => have := HAa.out; first | (simp [intOf]; done) | (simp [intOf]; omega)
      · rw [hx] at HD2
        have HR := Lib.hid (show (a : Int) = bestP next b (a + 1) by rw [HZs2.out, hx, if_pos rfl])
        clear hx
        refine HD2.out.mono ?_; rintro r w3 ⟨rfl, hb⟩
        have HB4 := Lib.hid (HB3.out.trans (hb.mono HB3.out.size))
        clear hb
        go_wp2_with fail
        go_roundw
        case rel => exact ⟨a + 1, (a : Int), by have := HAa.out; omega, rfl, by simp, HR.out, HB4⟩
        case measure => have := HAa.out; first | (simp [intOf]; done) | (simp [intOf]; omega)
end Go.Proofs.Ytkjafkegkllbiaa
