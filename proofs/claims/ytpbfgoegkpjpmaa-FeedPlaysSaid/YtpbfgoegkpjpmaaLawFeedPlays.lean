/- Layer 51: the walk of FeedPlays. -/
import Derived.Test.YtpbfgoegkpjpmaaFeedPl
import Derived.Test.YtpbfgoegkpjpmaaInts
import Derived.RegionCalls
import Derived.Deep.Cut
import Derived.Deep.CutRange
import Derived.Deep.CutBlock
namespace Go.Proofs.Ytpbfgoegkpjpmaa
open Go.RowKit Go.Conc
set_option linter.unusedSimpArgs false
set_option linter.unusedVariables false
def StepAt (W : World) (b o : Nat) (a : Value) (s : Sm) : Prop :=
  W.cell? ⟨b, o, none⟩ = some (.int .u64 s.kind) ∧ W.cell? ⟨b, o + 1, none⟩ = some a ∧ W.cell? ⟨b, o + 2, none⟩ = some (.int .i64 s.dt) ∧ RowR 1 intR W a s.L
theorem step_at {w : World} {a : Option Addr} {n cap : Nat} {S : List Sm} (hv : RowR 3 stepR w (.slice a n cap) S) {k : Nat} (hk : k < S.length) :
    ∃ b off, a = some ⟨b, off, none⟩ ∧ b < w.heap.size ∧ ∀ i s, S[i]? = some s → ∃ r : Value, (∀ W, Below w.heap.size w W → StepAt W b (off + i * 3) r s) ∧ 0 ≤ s.kind ∧ s.kind ≤ 18446744073709551615 ∧ I64 s.dt := by
  obtain ⟨b, off, h1, h2, h3⟩ := row_at hv hk
  refine ⟨b, off, h1, h2, fun i s hs => ?_⟩
  obtain ⟨C, g1, g2, r, g3, g4, g5, g6, g7⟩ := h3 i s hs
  subst g3
  exact ⟨r, fun W hb => ⟨(hb.cell (p := ⟨b, _, none⟩) h2).trans (g2 0 _ rfl), (hb.cell (p := ⟨b, _, none⟩) h2).trans (g2 1 _ rfl), (hb.cell (p := ⟨b, _, none⟩) h2).trans (g2 2 _ rfl), g4.below intR_stable hb⟩, g5, g6, g7⟩
set_option maxRecDepth 100000 in
set_option maxHeartbeats 8000000 in
theorem feedPlays_walk (n : Int) (v : Value) (S : List Sm) (w : World) (hn : I64 n) (hv : RowR 3 stepR w v S) :
    Calls Try.prog 3 #[.int .i64 n, v] w fun e w' => e = .returned (.bool true) ∧ Below w.heap.size w w' := by
  have hAw := law51_awake
  obtain ⟨sv, cv, rfl⟩ := row_get hv
  obtain ⟨N, hN⟩ : ∃ N, S.length = N := ⟨_, rfl⟩
  have HN := Lib.hid hN
  rw [hN] at hv ⊢
  clear hN
  by_cases h60 : 60 < N
  · have q1 : (60 < (N : Int)) = True := eq_true (by omega)
    go_enter Try.func3, Try.ntmps3
    go_wp2_with fail
    refine (hAw _).mono ?_; rintro e w2 ⟨rfl, hb2⟩
    go_wp2_with fail
    go_ret
    exact ⟨rfl, hb2⟩
  have q1 : (60 < (N : Int)) = False := eq_false (by omega)
  obtain ⟨cap, hcap⟩ : ∃ cap, (min (max n 0) 1024).toNat = cap := ⟨_, rfl⟩
  have hF := feed_New n w hn
  have hR := fun W => ref51_New n W hn
  rw [hcap] at hF hR
  clear hcap hn
  go_enter Try.func3, Try.ntmps3
  go_wp2_with fail
  refine hF.mono ?_; rintro e w1 ⟨p, c, rfl, hp, hc, hF1, hb1⟩
  go_wp2_with fail
  refine (hR w1).mono ?_; rintro e w2 ⟨q, rfl, hq, hR2, hb2⟩
  have hz1 := hb1.size
  have HP0 := Lib.hid (show Plays S w.heap.size w2 p c q cap #[] (.slice none 0 0) [] false from ⟨hF1.keep hb2, hR2, World.ownsRow_nil w2 _ _ _, rfl, fun i j h => by simp at h, hp, hc, by omega⟩)
  have HB0 := Lib.hid (hb1.trans (hb2.mono hz1))
  clear hF1 hR2 hb1 hb2 hF hR hp hc hq hz1
  go_wp2_with fail
  go_loopw [7] (fun jj wr => ∃ (k : Nat) (X : List Nat) (buf : Array Value) (lv : Value) (sh : Bool), k ≤ N ∧ jj = .int .i64 k ∧ X.length ≤ k ∧ Hid (Plays S w.heap.size wr p c q cap buf lv X sh) ∧ Hid (Below w.heap.size w wr)) (fun jj _ => N - (intOf jj).toNat)
  case atStart => exact ⟨0, [], #[], _, false, by omega, rfl, by simp, HP0, HB0⟩
  case round =>
    clear HP0 HB0
    obtain ⟨k, X, buf, lv, sh, hk, rfl, hX, HP, HB⟩ := hrel
    by_cases hkn : k < N
    · have qk : ((k : Int) < (N : Int)) = True := eq_true (by omega)
      obtain ⟨b, off, rfl, hbw, hst⟩ := step_at hv (k := k) (by rw [HN.out]; omega)
      obtain ⟨s, hs⟩ : ∃ s, S[k]? = some s := get_some (by rw [HN.out]; omega)
      obtain ⟨r, hat, k0, k1, hdt⟩ := hst k s hs
      have HT := Lib.hid hst
      have HA := Lib.hid hat
      have HS := Lib.hid hs
      clear hst hat hs
      obtain ⟨c0, c1, c2, hr⟩ := HA.out wr HB.out
      obtain ⟨ar, cr, rfl⟩ := row_get hr
      by_cases h50 : 50 < s.L.length
      · have q2 : (50 < (s.L.length : Int)) = True := eq_true (by omega)
        go_wp2_with fail
        refine (hAw _).mono ?_; rintro e w11 ⟨rfl, hb11⟩
        go_wp2_with fail
        go_ret
        exact ⟨rfl, HB.out.trans (hb11.mono HB.out.size)⟩
      have q2 : (50 < (s.L.length : Int)) = False := eq_false (by omega)
      go_upto_block 2 with fail
      go_cut [8, 9, 10, 11] from 20 to 142 (fun s8 s9 s10 s11 wx => ∃ (X' : List Nat) (buf' : Array Value) (lv' : Value) (sh' : Bool), X'.length ≤ k + 1 ∧ Hid (Plays S w.heap.size wx p c q cap buf' lv' X' sh') ∧ Hid (Below w.heap.size w wx))
      case first =>
        have k4 : s.kind % 4 = 0 ∨ s.kind % 4 = 1 ∨ s.kind % 4 = 2 ∨ s.kind % 4 = 3 := by omega
        clear k0 k1
        rcases k4 with k4 | k4 | k4 | k4
        · rw [k4]
          have K4 := Lib.hid k4
          cases sh with
          | true =>
            go_wp2_with fail
            refine (feed_Offer_shut p c cap buf _ s.dt wr HP.out.feed).mono ?_; rintro e v1 ⟨rfl, hb1⟩
            have HP1 := Lib.hid (HP.out.keep hb1)
            have HB1 := Lib.hid (HB.out.trans (hb1.mono HB.out.size))
            obtain ⟨al, cl, rfl⟩ := owns_form HP1.out.own
            go_wp2_with fail
            refine (ref51_Offer_shut q cap X.length _ _ k v1 HP1.out.ref).mono ?_; rintro e v2 ⟨rfl, hb2⟩
            have HP2 := Lib.hid (HP1.out.keep hb2)
            have HB2 := Lib.hid (HB1.out.trans (hb2.mono HB1.out.size))
            clear hb1 hb2
            go_wp2_with fail
            go_meet
            case rel => exact ⟨X, buf, _, true, by omega, HP2, HB2⟩
          | false =>
            by_cases hroom : X.length < cap
            · go_wp2_with fail
              refine (feed_Offer_room p c cap buf _ s.L s.dt wr HP.out.feed (by rw [HP.out.len]; exact hroom) hr (by omega)).mono ?_; rintro e v1 ⟨rr, rfl, hO1, hF1, hG1⟩
              obtain ⟨hR1, hL1⟩ := HP.out.sent hG1
              have hsz1 := hG1.size
              have hszr := HB.out.size
              have HB1 := Lib.hid (grown_low HB.out hG1 HP.out.base.2.1 hszr)
              have HO1 := Lib.hid hO1
              have HF1 := Lib.hid hF1
              have HG1 := Lib.hid hG1
              clear hO1 hF1 hG1
              have hOf := ref51_Offer_yes q w.heap.size cap X.length lv (iN X) k v1 (by omega) HP.out.base.2.2 hR1 hL1 hroom (by omega)
              clear hR1 hL1
              go_wp2_with fail
              refine hOf.mono ?_; rintro e v2 ⟨rfl, lv2, hO2, hR2, hat2, hf2, hb2⟩
              have HP2 := Lib.hid (HP.out.more HG1.out HF1.out HO1.out HS.out (row_ints hr) (by omega) hszr hO2 hR2 hat2 hf2)
              have HB2 := Lib.hid (HB1.out.trans hb2)
              clear hO2 hR2 hat2 hf2 hb2
              go_wp2_with fail
              go_meet
              case rel => exact ⟨X ++ [k], _, _, false, by simp; omega, HP2, HB2⟩
            · go_wp2_with fail
              refine (feed_Offer_full p c cap buf _ s.L s.dt wr HP.out.feed (by rw [HP.out.len]; omega) hr (by omega)).mono ?_; rintro e v1 ⟨rfl, hb1⟩
              have HP1 := Lib.hid (HP.out.keep hb1)
              have HB1 := Lib.hid (HB.out.trans (hb1.mono HB.out.size))
              obtain ⟨al, cl, rfl⟩ := owns_form HP1.out.own
              go_wp2_with fail
              refine (ref51_Offer_full q cap X.length _ _ k v1 HP1.out.ref (by omega)).mono ?_; rintro e v2 ⟨rfl, hb2⟩
              have HP2 := Lib.hid (HP1.out.keep hb2)
              have HB2 := Lib.hid (HB1.out.trans (hb2.mono HB1.out.size))
              clear hb1 hb2
              go_wp2_with fail
              go_meet
              case rel => exact ⟨X, buf, _, false, by omega, HP2, HB2⟩
        · rw [k4]
          have K4 := Lib.hid k4
          cases sh with
          | true =>
            go_wp2_with fail
            refine (feed_Offer_shut p c cap buf _ s.dt wr HP.out.feed).mono ?_; rintro e v1 ⟨rfl, hb1⟩
            have HP1 := Lib.hid (HP.out.keep hb1)
            have HB1 := Lib.hid (HB.out.trans (hb1.mono HB.out.size))
            obtain ⟨al, cl, rfl⟩ := owns_form HP1.out.own
            go_wp2_with fail
            refine (ref51_Offer_shut q cap X.length _ _ k v1 HP1.out.ref).mono ?_; rintro e v2 ⟨rfl, hb2⟩
            have HP2 := Lib.hid (HP1.out.keep hb2)
            have HB2 := Lib.hid (HB1.out.trans (hb2.mono HB1.out.size))
            clear hb1 hb2
            go_wp2_with fail
            go_meet
            case rel => exact ⟨X, buf, _, true, by omega, HP2, HB2⟩
          | false =>
            by_cases hroom : X.length < cap
            · go_wp2_with fail
              refine (feed_Offer_room p c cap buf _ s.L s.dt wr HP.out.feed (by rw [HP.out.len]; exact hroom) hr (by omega)).mono ?_; rintro e v1 ⟨rr, rfl, hO1, hF1, hG1⟩
              obtain ⟨hR1, hL1⟩ := HP.out.sent hG1
              have hsz1 := hG1.size
              have hszr := HB.out.size
              have HB1 := Lib.hid (grown_low HB.out hG1 HP.out.base.2.1 hszr)
              have HO1 := Lib.hid hO1
              have HF1 := Lib.hid hF1
              have HG1 := Lib.hid hG1
              clear hO1 hF1 hG1
              have hOf := ref51_Offer_yes q w.heap.size cap X.length lv (iN X) k v1 (by omega) HP.out.base.2.2 hR1 hL1 hroom (by omega)
              clear hR1 hL1
              go_wp2_with fail
              refine hOf.mono ?_; rintro e v2 ⟨rfl, lv2, hO2, hR2, hat2, hf2, hb2⟩
              have HP2 := Lib.hid (HP.out.more HG1.out HF1.out HO1.out HS.out (row_ints hr) (by omega) hszr hO2 hR2 hat2 hf2)
              have HB2 := Lib.hid (HB1.out.trans hb2)
              clear hO2 hR2 hat2 hf2 hb2
              go_wp2_with fail
              go_meet
              case rel => exact ⟨X ++ [k], _, _, false, by simp; omega, HP2, HB2⟩
            · go_wp2_with fail
              refine (feed_Offer_full p c cap buf _ s.L s.dt wr HP.out.feed (by rw [HP.out.len]; omega) hr (by omega)).mono ?_; rintro e v1 ⟨rfl, hb1⟩
              have HP1 := Lib.hid (HP.out.keep hb1)
              have HB1 := Lib.hid (HB.out.trans (hb1.mono HB.out.size))
              obtain ⟨al, cl, rfl⟩ := owns_form HP1.out.own
              go_wp2_with fail
              refine (ref51_Offer_full q cap X.length _ _ k v1 HP1.out.ref (by omega)).mono ?_; rintro e v2 ⟨rfl, hb2⟩
              have HP2 := Lib.hid (HP1.out.keep hb2)
              have HB2 := Lib.hid (HB1.out.trans (hb2.mono HB1.out.size))
              clear hb1 hb2
              go_wp2_with fail
              go_meet
              case rel => exact ⟨X, buf, _, false, by omega, HP2, HB2⟩
        · rw [k4]
          have K4 := Lib.hid k4
          cases X with
          | nil =>
            obtain rfl : buf = #[] := Array.eq_empty_of_size_eq_zero HP.out.len
            go_wp2_with fail
            refine (feed_Next_none p c cap _ wr HP.out.feed).mono ?_; rintro e v1 ⟨rfl, hb1⟩
            have hP1 := HP.out.keep hb1
            have hB1 := HB.out.trans (hb1.mono HB.out.size)
            clear hb1
            obtain ⟨v2, hv2⟩ : ∃ v2, v2 = v1.alloc (.cells #[.slice none 0 0, .int .i64 0] 30) := ⟨_, rfl⟩
            have hb2 : Below v1.heap.size v1 v2 := by rw [hv2]; exact by (repeat' (first | (with_reducible exact Below.refl _ _) | (with_reducible assumption) | (with_reducible refine below_drewN ?_ _) | (with_reducible refine Below.alloc ?_ ?_ _) | (with_reducible refine Below.drew ?_) | (with_reducible refine Below.setCell ?_ ?_ _) | go_size))
            have hj2 : v2.heap[v1.heap.size]? = some (.cells #[.slice none 0 0, .int .i64 0] 30) := by rw [hv2]; exact get_last rfl
            have HV2 := Lib.hid hv2
            have HP2 := Lib.hid (hP1.keep hb2)
            have HB2 := Lib.hid (hB1.trans (hb2.mono hB1.size))
            have x0 := obj_cell hj2 (i := 0) rfl
            have x1 := obj_cell hj2 (i := 1) rfl
            clear hv2 hP1 hB1 hb2 hj2
            obtain ⟨al, cl, rfl⟩ := owns_form HP2.out.own
            go_upto_region 20 with fail
            rw [← HV2.out]
            go_wp2_with fail
            refine (ref51_Next_none q _ _ _ _ v2 HP2.out.ref).mono ?_; rintro e v3 ⟨rfl, rfl⟩
            go_upto_region 23 with fail
            go_quiet (fail)
            have HP3 := Lib.hid (HP2.out.keep (Below_drewN _ _ nq))
            have HB3 := Lib.hid (HB2.out.trans ((Below_drewN _ _ nq : Below v3.heap.size v3 (v3.drewN nq)).mono HB2.out.size))
            go_wp2_with fail
            go_meet
            case rel => exact ⟨[], #[], _, sh, by simp, HP3, HB3⟩
          | cons g X =>
            obtain ⟨s', rv, hs', hb0, hfst, hrow, h50'⟩ := HP.out.first
            obtain ⟨r', hat', k0', k1', hdt'⟩ := HT.out g s' hs'
            have hgN : g < N := by rw [← HN.out]; exact lt_of_get hs'
            have qg : (0 ≤ (g : Int)) = True := eq_true (by omega)
            clear k0' k1' hdt' hs'
            go_wp2_with fail
            refine (feed_Next_some p c cap buf _ rv s'.L s'.dt wr HP.out.feed hb0 hfst hrow (by omega)).mono ?_; rintro e v1 ⟨ry, rfl, hO1, hF1, hG1⟩
            have hsz1 := hG1.size
            have hszr := HB.out.size
            have hB1 := grown_low HB.out hG1 HP.out.base.2.1 hszr
            obtain ⟨hR1, hL1⟩ := HP.out.sent hG1
            obtain ⟨ay, cy, rfl⟩ := owns_form hO1
            obtain ⟨v2, hv2⟩ : ∃ v2, v2 = v1.alloc (.cells #[.slice ay s'.L.length cy, .int .i64 s'.dt] 30) := ⟨_, rfl⟩
            have hb2 : Below v1.heap.size v1 v2 := by rw [hv2]; exact by (repeat' (first | (with_reducible exact Below.refl _ _) | (with_reducible assumption) | (with_reducible refine below_drewN ?_ _) | (with_reducible refine Below.alloc ?_ ?_ _) | (with_reducible refine Below.drew ?_) | (with_reducible refine Below.setCell ?_ ?_ _) | go_size))
            have hz2 : v2.heap.size = v1.heap.size + 1 := by rw [hv2]; simp
            have hj2 : v2.heap[v1.heap.size]? = some (.cells #[.slice ay s'.L.length cy, .int .i64 s'.dt] 30) := by rw [hv2]; exact get_last rfl
            have HV2 := Lib.hid hv2
            have hB2 := hB1.trans (hb2.mono (by omega))
            have hR2 := obj_below hR1 hb2 (obj_lt hR1)
            have hL2 := owns_below hL1 hb2
            have hF2 := hF1.keep hb2
            have hG2 : wr.grownBy v2 (some c) := ⟨hb2.os.trans hG1.os, hb2.tape.trans hG1.tape, hb2.output.trans hG1.output, by omega, fun i hi hne => (hb2.block i (by omega)).trans (hG1.block i hi hne)⟩
            have HG2 := Lib.hid hG2
            have HF2 := Lib.hid hF2
            have HB2 := Lib.hid hB2
            have HY2 := Lib.hid (owns_below hO1 hb2)
            have HI := Lib.hid (row_ints hrow)
            have HA' := Lib.hid hat'
            have HPw := Lib.hid HP.out
            have hN := ref51_Next_some q w.heap.size X.length _ _ lv (iN X) g v2 (by omega) HP.out.base.2.2 hR2 hL2 (by simp at hX; omega) (iN_one X)
            clear hv2 hB1 hB2 hR1 hR2 hL1 hL2 hF1 hF2 hG1 hG2 hO1 hrow hat' hb2 hfst
            go_upto_region 20 with fail
            rw [← HV2.out]
            go_wp2_with fail
            refine hN.mono ?_; rintro e v3 ⟨rfl, lv3, hO3, hR3, hf3, hb3⟩
            have HP3 := Lib.hid (HPw.out.less HG2.out HF2.out hszr hO3 hR3 hf3)
            have HB3 := Lib.hid (HB2.out.trans hb3)
            have hne : v1.heap.size ≠ q := by have := HPw.out.ne.2.2.1; omega
            have hj3 := (hf3 v1.heap.size (by omega) hne).trans hj2
            have x0 := obj_cell hj3 (i := 0) rfl
            have x1 := obj_cell hj3 (i := 1) rfl
            obtain ⟨d0, d1, d2, hr3⟩ := HA'.out v3 HB3.out
            have hrow3 := row_of_owns (owns_cong HY2.out (fun i hi => by obtain ⟨i1, i2⟩ := owns_lt HY2.out hi; exact hf3 i i2 (fun e => by have := HPw.out.ne.2.2.1; omega))) HI.out
            have HIn := fun W (hW : Below v3.heap.size v3 W) => ref15_Ints _ _ s'.L s'.L W (hrow3.below intR_stable hW) (hr3.below intR_stable hW)
            obtain ⟨ar3, cr3, rfl⟩ := row_get hr3
            have z1 : v1.heap.size < v3.heap.size := obj_lt hj3
            have zb : b < v3.heap.size := by have := HB3.out.size; omega
            have HIn := Lib.hid HIn
            clear hN hO3 hR3 hf3 hb3 hj2 hj3 hr3 hrow3
            go_upto_region 23 with fail
            refine wp_region_held_drew (S := (fun w' => Below v3.heap.size v3 w')) (by kernel_rfl) ?_ (fun hHeld => ?_)
            · (try dsimp only); first | assumption | exact Below.alloc hHeld hHeld.size _ | exact (Below.refl _ _).drew | exact Below.drew (Below.refl _ _) | exact Below_drewN _ _ _ | exact Below.refl _ _ | (trace_state; fail)
            refine wpAnyH_take (i := 0) (oi := { dst := some 94, op := Op.move (Operand.tmp 9), type := 4, pos := _, after := #[], guard := none }) (v := ?_) rfl (by kernel_rfl) (by kernel_rfl) (by kernel_rfl) (fun _ _ _ h => h) (Or.inl ⟨by rfl, ?_⟩) (by assumption) ?_
            rotate_left
            · intro wt hSw; (try dsimp only at hSw); have x0 := cellB hSw x0 z1; have x1 := cellB hSw x1 z1; have d0 := cellB hSw d0 zb; have d1 := cellB hSw d1 zb; have d2 := cellB hSw d2 zb; first | (go_simp; done) | (go_simp; with_reducible rfl) | (trace_state; fail)
            try simp only [Act.put, List.setIfInBounds_toArray, List.set_cons_zero, List.set_cons_succ]
            refine wpAnyH_take (i := 1) (oi := { dst := some 95, op := Op.move (Operand.tmp 94), type := 4, pos := _, after := #[{ on := 0, ground := Ground.data }], guard := none }) (v := ?_) rfl (by kernel_rfl) (by kernel_rfl) (by kernel_rfl) (fun _ _ _ h => h) (Or.inl ⟨by rfl, ?_⟩) (by assumption) ?_
            rotate_left
            · intro wt hSw; (try dsimp only at hSw); have x0 := cellB hSw x0 z1; have x1 := cellB hSw x1 z1; have d0 := cellB hSw d0 zb; have d1 := cellB hSw d1 zb; have d2 := cellB hSw d2 zb; first | (go_simp; done) | (go_simp; with_reducible rfl) | (trace_state; fail)
            try simp only [Act.put, List.setIfInBounds_toArray, List.set_cons_zero, List.set_cons_succ]
            refine wpAnyH_take (i := 2) (oi := { dst := some 96, op := Op.fieldAddr 30 (Operand.tmp 8) 1, type := 0, pos := _, after := #[{ on := 1, ground := Ground.guard }], guard := some (1, true) }) (v := ?_) rfl (by kernel_rfl) (by kernel_rfl) (by kernel_rfl) (fun _ _ _ h => h) (Or.inl ⟨by rfl, ?_⟩) (by assumption) ?_
            rotate_left
            · intro wt hSw; (try dsimp only at hSw); have x0 := cellB hSw x0 z1; have x1 := cellB hSw x1 z1; have d0 := cellB hSw d0 zb; have d1 := cellB hSw d1 zb; have d2 := cellB hSw d2 zb; first | (go_simp; done) | (go_simp; with_reducible rfl) | (trace_state; fail)
            try simp only [Act.put, List.setIfInBounds_toArray, List.set_cons_zero, List.set_cons_succ]
            refine wpAnyH_take (i := 3) (oi := { dst := some 97, op := Op.load 3 (Operand.tmp 96), type := 3, pos := _, after := #[{ on := 2, ground := Ground.data }, { on := 1, ground := Ground.guard }], guard := some (1, true) }) (v := ?_) rfl (by kernel_rfl) (by kernel_rfl) (by kernel_rfl) (fun _ _ _ h => h) (Or.inl ⟨by rfl, ?_⟩) (by assumption) ?_
            rotate_left
            · intro wt hSw; (try dsimp only at hSw); have x0 := cellB hSw x0 z1; have x1 := cellB hSw x1 z1; have d0 := cellB hSw d0 zb; have d1 := cellB hSw d1 zb; have d2 := cellB hSw d2 zb; first | (go_simp; done) | (go_simp; with_reducible rfl) | (trace_state; fail)
            try simp only [Act.put, List.setIfInBounds_toArray, List.set_cons_zero, List.set_cons_succ]
            refine wpAnyH_take (i := 4) (oi := { dst := some 98, op := Op.move (Operand.tmp 1), type := 22, pos := _, after := #[{ on := 1, ground := Ground.guard }], guard := some (1, true) }) (v := ?_) rfl (by kernel_rfl) (by kernel_rfl) (by kernel_rfl) (fun _ _ _ h => h) (Or.inl ⟨by rfl, ?_⟩) (by assumption) ?_
            rotate_left
            · intro wt hSw; (try dsimp only at hSw); have x0 := cellB hSw x0 z1; have x1 := cellB hSw x1 z1; have d0 := cellB hSw d0 zb; have d1 := cellB hSw d1 zb; have d2 := cellB hSw d2 zb; first | (go_simp; done) | (go_simp; with_reducible rfl) | (trace_state; fail)
            try simp only [Act.put, List.setIfInBounds_toArray, List.set_cons_zero, List.set_cons_succ]
            refine wpAnyH_take (i := 5) (oi := { dst := some 99, op := Op.move (Operand.tmp 10), type := 3, pos := _, after := #[{ on := 1, ground := Ground.guard }], guard := some (1, true) }) (v := ?_) rfl (by kernel_rfl) (by kernel_rfl) (by kernel_rfl) (fun _ _ _ h => h) (Or.inl ⟨by rfl, ?_⟩) (by assumption) ?_
            rotate_left
            · intro wt hSw; (try dsimp only at hSw); have x0 := cellB hSw x0 z1; have x1 := cellB hSw x1 z1; have d0 := cellB hSw d0 zb; have d1 := cellB hSw d1 zb; have d2 := cellB hSw d2 zb; first | (go_simp; done) | (go_simp; with_reducible rfl) | (trace_state; fail)
            try simp only [Act.put, List.setIfInBounds_toArray, List.set_cons_zero, List.set_cons_succ]
            refine wpAnyH_take (i := 6) (oi := { dst := some 100, op := Op.indexAddr 22 (Operand.tmp 98) (Operand.tmp 99), type := 0, pos := _, after := #[{ on := 4, ground := Ground.data }, { on := 5, ground := Ground.data }, { on := 1, ground := Ground.guard }], guard := some (1, true) }) (v := ?_) rfl (by kernel_rfl) (by kernel_rfl) (by kernel_rfl) (fun _ _ _ h => h) (Or.inl ⟨by rfl, ?_⟩) (by assumption) ?_
            rotate_left
            · intro wt hSw; (try dsimp only at hSw); have x0 := cellB hSw x0 z1; have x1 := cellB hSw x1 z1; have d0 := cellB hSw d0 zb; have d1 := cellB hSw d1 zb; have d2 := cellB hSw d2 zb; first | (go_simp; done) | (go_simp; with_reducible rfl) | (trace_state; fail)
            try simp only [Act.put, List.setIfInBounds_toArray, List.set_cons_zero, List.set_cons_succ]
            refine wpAnyH_take (i := 7) (oi := { dst := some 101, op := Op.fieldAddr 33 (Operand.tmp 100) 1, type := 0, pos := _, after := #[{ on := 6, ground := Ground.data }, { on := 1, ground := Ground.guard }], guard := some (1, true) }) (v := ?_) rfl (by kernel_rfl) (by kernel_rfl) (by kernel_rfl) (fun _ _ _ h => h) (Or.inl ⟨by rfl, ?_⟩) (by assumption) ?_
            rotate_left
            · intro wt hSw; (try dsimp only at hSw); have x0 := cellB hSw x0 z1; have x1 := cellB hSw x1 z1; have d0 := cellB hSw d0 zb; have d1 := cellB hSw d1 zb; have d2 := cellB hSw d2 zb; first | (go_simp; done) | (go_simp; with_reducible rfl) | (trace_state; fail)
            try simp only [Act.put, List.setIfInBounds_toArray, List.set_cons_zero, List.set_cons_succ]
            refine wpAnyH_take (i := 8) (oi := { dst := some 102, op := Op.fieldAddr 30 (Operand.tmp 101) 1, type := 0, pos := _, after := #[{ on := 7, ground := Ground.data }, { on := 1, ground := Ground.guard }], guard := some (1, true) }) (v := ?_) rfl (by kernel_rfl) (by kernel_rfl) (by kernel_rfl) (fun _ _ _ h => h) (Or.inl ⟨by rfl, ?_⟩) (by assumption) ?_
            rotate_left
            · intro wt hSw; (try dsimp only at hSw); have x0 := cellB hSw x0 z1; have x1 := cellB hSw x1 z1; have d0 := cellB hSw d0 zb; have d1 := cellB hSw d1 zb; have d2 := cellB hSw d2 zb; first | (go_simp; done) | (go_simp; with_reducible rfl) | (trace_state; fail)
            try simp only [Act.put, List.setIfInBounds_toArray, List.set_cons_zero, List.set_cons_succ]
            refine wpAnyH_take (i := 9) (oi := { dst := some 103, op := Op.load 3 (Operand.tmp 102), type := 3, pos := _, after := #[{ on := 8, ground := Ground.data }, { on := 1, ground := Ground.guard }], guard := some (1, true) }) (v := ?_) rfl (by kernel_rfl) (by kernel_rfl) (by kernel_rfl) (fun _ _ _ h => h) (Or.inl ⟨by rfl, ?_⟩) (by assumption) ?_
            rotate_left
            · intro wt hSw; (try dsimp only at hSw); have x0 := cellB hSw x0 z1; have x1 := cellB hSw x1 z1; have d0 := cellB hSw d0 zb; have d1 := cellB hSw d1 zb; have d2 := cellB hSw d2 zb; first | (go_simp; done) | (go_simp; with_reducible rfl) | (trace_state; fail)
            try simp only [Act.put, List.setIfInBounds_toArray, List.set_cons_zero, List.set_cons_succ]
            refine wpAnyH_take (i := 10) (oi := { dst := some 104, op := Op.binOp BinOp.neq 3 (Operand.tmp 97) (Operand.tmp 103) 3, type := 4, pos := _, after := #[{ on := 3, ground := Ground.data }, { on := 9, ground := Ground.data }, { on := 1, ground := Ground.guard }], guard := some (1, true) }) (v := ?_) rfl (by kernel_rfl) (by kernel_rfl) (by kernel_rfl) (fun _ _ _ h => h) (Or.inl ⟨by rfl, ?_⟩) (by assumption) ?_
            rotate_left
            · intro wt hSw; (try dsimp only at hSw); have x0 := cellB hSw x0 z1; have x1 := cellB hSw x1 z1; have d0 := cellB hSw d0 zb; have d1 := cellB hSw d1 zb; have d2 := cellB hSw d2 zb; first | (go_simp; done) | (go_simp; with_reducible rfl) | (trace_state; fail)
            try simp only [Act.put, List.setIfInBounds_toArray, List.set_cons_zero, List.set_cons_succ]
            refine wpAnyH_take (i := 11) (oi := { dst := some 105, op := Op.move (Operand.tmp 104), type := 4, pos := _, after := #[{ on := 10, ground := Ground.data }, { on := 1, ground := Ground.chain }, { on := 1, ground := Ground.guard }], guard := some (1, true) }) (v := ?_) rfl (by kernel_rfl) (by kernel_rfl) (by kernel_rfl) (fun _ _ _ h => h) (Or.inl ⟨by rfl, ?_⟩) (by assumption) ?_
            rotate_left
            · intro wt hSw; (try dsimp only at hSw); have x0 := cellB hSw x0 z1; have x1 := cellB hSw x1 z1; have d0 := cellB hSw d0 zb; have d1 := cellB hSw d1 zb; have d2 := cellB hSw d2 zb; first | (go_simp; done) | (go_simp; with_reducible rfl) | (trace_state; fail)
            try simp only [Act.put, List.setIfInBounds_toArray, List.set_cons_zero, List.set_cons_succ]
            refine wpAnyH_take (i := 12) (oi := { dst := some 106, op := Op.fieldAddr 30 (Operand.tmp 8) 0, type := 0, pos := _, after := #[{ on := 11, ground := Ground.guard }], guard := some (11, false) }) (v := ?_) rfl (by kernel_rfl) (by kernel_rfl) (by kernel_rfl) (fun _ _ _ h => h) (Or.inl ⟨by rfl, ?_⟩) (by assumption) ?_
            rotate_left
            · intro wt hSw; (try dsimp only at hSw); have x0 := cellB hSw x0 z1; have x1 := cellB hSw x1 z1; have d0 := cellB hSw d0 zb; have d1 := cellB hSw d1 zb; have d2 := cellB hSw d2 zb; first | (go_simp; done) | (go_simp; with_reducible rfl) | (trace_state; fail)
            try simp only [Act.put, List.setIfInBounds_toArray, List.set_cons_zero, List.set_cons_succ]
            refine wpAnyH_take (i := 13) (oi := { dst := some 107, op := Op.load 28 (Operand.tmp 106), type := 28, pos := _, after := #[{ on := 12, ground := Ground.data }, { on := 11, ground := Ground.guard }], guard := some (11, false) }) (v := ?_) rfl (by kernel_rfl) (by kernel_rfl) (by kernel_rfl) (fun _ _ _ h => h) (Or.inl ⟨by rfl, ?_⟩) (by assumption) ?_
            rotate_left
            · intro wt hSw; (try dsimp only at hSw); have x0 := cellB hSw x0 z1; have x1 := cellB hSw x1 z1; have d0 := cellB hSw d0 zb; have d1 := cellB hSw d1 zb; have d2 := cellB hSw d2 zb; first | (go_simp; done) | (go_simp; with_reducible rfl) | (trace_state; fail)
            try simp only [Act.put, List.setIfInBounds_toArray, List.set_cons_zero, List.set_cons_succ]
            refine wpAnyH_take (i := 14) (oi := { dst := some 108, op := Op.move (Operand.tmp 1), type := 22, pos := _, after := #[{ on := 11, ground := Ground.guard }], guard := some (11, false) }) (v := ?_) rfl (by kernel_rfl) (by kernel_rfl) (by kernel_rfl) (fun _ _ _ h => h) (Or.inl ⟨by rfl, ?_⟩) (by assumption) ?_
            rotate_left
            · intro wt hSw; (try dsimp only at hSw); have x0 := cellB hSw x0 z1; have x1 := cellB hSw x1 z1; have d0 := cellB hSw d0 zb; have d1 := cellB hSw d1 zb; have d2 := cellB hSw d2 zb; first | (go_simp; done) | (go_simp; with_reducible rfl) | (trace_state; fail)
            try simp only [Act.put, List.setIfInBounds_toArray, List.set_cons_zero, List.set_cons_succ]
            refine wpAnyH_take (i := 15) (oi := { dst := some 109, op := Op.move (Operand.tmp 10), type := 3, pos := _, after := #[{ on := 11, ground := Ground.guard }], guard := some (11, false) }) (v := ?_) rfl (by kernel_rfl) (by kernel_rfl) (by kernel_rfl) (fun _ _ _ h => h) (Or.inl ⟨by rfl, ?_⟩) (by assumption) ?_
            rotate_left
            · intro wt hSw; (try dsimp only at hSw); have x0 := cellB hSw x0 z1; have x1 := cellB hSw x1 z1; have d0 := cellB hSw d0 zb; have d1 := cellB hSw d1 zb; have d2 := cellB hSw d2 zb; first | (go_simp; done) | (go_simp; with_reducible rfl) | (trace_state; fail)
            try simp only [Act.put, List.setIfInBounds_toArray, List.set_cons_zero, List.set_cons_succ]
            refine wpAnyH_take (i := 16) (oi := { dst := some 110, op := Op.indexAddr 22 (Operand.tmp 108) (Operand.tmp 109), type := 0, pos := _, after := #[{ on := 14, ground := Ground.data }, { on := 15, ground := Ground.data }, { on := 11, ground := Ground.guard }], guard := some (11, false) }) (v := ?_) rfl (by kernel_rfl) (by kernel_rfl) (by kernel_rfl) (fun _ _ _ h => h) (Or.inl ⟨by rfl, ?_⟩) (by assumption) ?_
            rotate_left
            · intro wt hSw; (try dsimp only at hSw); have x0 := cellB hSw x0 z1; have x1 := cellB hSw x1 z1; have d0 := cellB hSw d0 zb; have d1 := cellB hSw d1 zb; have d2 := cellB hSw d2 zb; first | (go_simp; done) | (go_simp; with_reducible rfl) | (trace_state; fail)
            try simp only [Act.put, List.setIfInBounds_toArray, List.set_cons_zero, List.set_cons_succ]
            refine wpAnyH_take (i := 17) (oi := { dst := some 111, op := Op.fieldAddr 33 (Operand.tmp 110) 1, type := 0, pos := _, after := #[{ on := 16, ground := Ground.data }, { on := 11, ground := Ground.guard }], guard := some (11, false) }) (v := ?_) rfl (by kernel_rfl) (by kernel_rfl) (by kernel_rfl) (fun _ _ _ h => h) (Or.inl ⟨by rfl, ?_⟩) (by assumption) ?_
            rotate_left
            · intro wt hSw; (try dsimp only at hSw); have x0 := cellB hSw x0 z1; have x1 := cellB hSw x1 z1; have d0 := cellB hSw d0 zb; have d1 := cellB hSw d1 zb; have d2 := cellB hSw d2 zb; first | (go_simp; done) | (go_simp; with_reducible rfl) | (trace_state; fail)
            try simp only [Act.put, List.setIfInBounds_toArray, List.set_cons_zero, List.set_cons_succ]
            refine wpAnyH_take (i := 18) (oi := { dst := some 112, op := Op.fieldAddr 30 (Operand.tmp 111) 0, type := 0, pos := _, after := #[{ on := 17, ground := Ground.data }, { on := 11, ground := Ground.guard }], guard := some (11, false) }) (v := ?_) rfl (by kernel_rfl) (by kernel_rfl) (by kernel_rfl) (fun _ _ _ h => h) (Or.inl ⟨by rfl, ?_⟩) (by assumption) ?_
            rotate_left
            · intro wt hSw; (try dsimp only at hSw); have x0 := cellB hSw x0 z1; have x1 := cellB hSw x1 z1; have d0 := cellB hSw d0 zb; have d1 := cellB hSw d1 zb; have d2 := cellB hSw d2 zb; first | (go_simp; done) | (go_simp; with_reducible rfl) | (trace_state; fail)
            try simp only [Act.put, List.setIfInBounds_toArray, List.set_cons_zero, List.set_cons_succ]
            refine wpAnyH_take (i := 19) (oi := { dst := some 113, op := Op.load 28 (Operand.tmp 112), type := 28, pos := _, after := #[{ on := 18, ground := Ground.data }, { on := 11, ground := Ground.guard }], guard := some (11, false) }) (v := ?_) rfl (by kernel_rfl) (by kernel_rfl) (by kernel_rfl) (fun _ _ _ h => h) (Or.inl ⟨by rfl, ?_⟩) (by assumption) ?_
            rotate_left
            · intro wt hSw; (try dsimp only at hSw); have x0 := cellB hSw x0 z1; have x1 := cellB hSw x1 z1; have d0 := cellB hSw d0 zb; have d1 := cellB hSw d1 zb; have d2 := cellB hSw d2 zb; first | (go_simp; done) | (go_simp; with_reducible rfl) | (trace_state; fail)
            try simp only [Act.put, List.setIfInBounds_toArray, List.set_cons_zero, List.set_cons_succ]
            refine wpAnyH_ready (rs := [20]) (by kernel_rfl) (by simp) ?_
            refine AllReadyH.cons (o := { dst := some 114, op := Op.call { callee := Callee.value (Operand.func 12), args := #[Operand.tmp 107, Operand.tmp 113], argTypes := #[28, 28] }, type := 4, pos := _, after := #[{ on := 13, ground := Ground.data }, { on := 19, ground := Ground.data }, { on := 11, ground := Ground.chain }, { on := 11, ground := Ground.guard }], guard := some (11, false) }) rfl (fun K hK => ?_) AllReadyH.nil
            go_simp
            refine (HIn.out _ hHeld).mono ?_; rintro e v4 ⟨rfl, m4, rfl⟩; have hHeld := hHeld.trans ((Below_drewN _ _ m4).mono hHeld.size)
            go_wp2_with fail
            refine hK.out _ _ ?_ (fun hHeld => ?_)
            · (try dsimp only); first | assumption | exact Below.alloc hHeld hHeld.size _ | exact (Below.refl _ _).drew | exact Below.drew (Below.refl _ _) | exact Below_drewN _ _ _ | exact Below.refl _ _ | (trace_state; fail)
            clear hK K
            try simp only [Act.put, List.setIfInBounds_toArray, List.set_cons_zero, List.set_cons_succ]
            refine wpAnyH_take (i := 21) (oi := { dst := some 115, op := Op.unOp UnOp.not 4 (Operand.tmp 114), type := 4, pos := _, after := #[{ on := 20, ground := Ground.data }, { on := 11, ground := Ground.guard }], guard := some (11, false) }) (v := ?_) rfl (by kernel_rfl) (by kernel_rfl) (by kernel_rfl) (fun _ _ _ h => h) (Or.inl ⟨by rfl, ?_⟩) (by assumption) ?_
            rotate_left
            · intro wt hSw; (try dsimp only at hSw); have x0 := cellB hSw x0 z1; have x1 := cellB hSw x1 z1; have d0 := cellB hSw d0 zb; have d1 := cellB hSw d1 zb; have d2 := cellB hSw d2 zb; first | (go_simp; done) | (go_simp; with_reducible rfl) | (trace_state; fail)
            try simp only [Act.put, List.setIfInBounds_toArray, List.set_cons_zero, List.set_cons_succ]
            refine wpAnyH_take (i := 22) (oi := { dst := some 116, op := Op.pick (Operand.tmp 105) (Operand.const (Value.bool true)) (Operand.tmp 115), type := 4, pos := _, after := #[{ on := 11, ground := Ground.data }, { on := 21, ground := Ground.data }, { on := 1, ground := Ground.guard }], guard := some (1, true) }) (v := ?_) rfl (by kernel_rfl) (by kernel_rfl) (by kernel_rfl) (fun _ _ _ h => h) (Or.inl ⟨by rfl, ?_⟩) (by assumption) ?_
            rotate_left
            · intro wt hSw; (try dsimp only at hSw); have x0 := cellB hSw x0 z1; have x1 := cellB hSw x1 z1; have d0 := cellB hSw d0 zb; have d1 := cellB hSw d1 zb; have d2 := cellB hSw d2 zb; first | (go_simp; done) | (go_simp; with_reducible rfl) | (trace_state; fail)
            try simp only [Act.put, List.setIfInBounds_toArray, List.set_cons_zero, List.set_cons_succ]
            refine wpAnyH_take (i := 23) (oi := { dst := some 117, op := Op.pick (Operand.tmp 95) (Operand.tmp 116) (Operand.const (Value.bool false)), type := 4, pos := _, after := #[{ on := 1, ground := Ground.data }, { on := 22, ground := Ground.data }], guard := none }) (v := ?_) rfl (by kernel_rfl) (by kernel_rfl) (by kernel_rfl) (fun _ _ _ h => h) (Or.inl ⟨by rfl, ?_⟩) (by assumption) ?_
            rotate_left
            · intro wt hSw; (try dsimp only at hSw); have x0 := cellB hSw x0 z1; have x1 := cellB hSw x1 z1; have d0 := cellB hSw d0 zb; have d1 := cellB hSw d1 zb; have d2 := cellB hSw d2 zb; first | (go_simp; done) | (go_simp; with_reducible rfl) | (trace_state; fail)
            try simp only [Act.put, List.setIfInBounds_toArray, List.set_cons_zero, List.set_cons_succ]
            refine wpAnyH_done (by kernel_rfl) ?_ _
            have HP4 := Lib.hid (HP3.out.keep hHeld)
            have HB4 := Lib.hid (HB3.out.trans (hHeld.mono HB3.out.size))
            go_wp2_with fail
            go_meet
            case rel => exact ⟨X, _, _, sh, by simp at hX; omega, HP4, HB4⟩
        · rw [k4]
          have K4 := Lib.hid k4
          have c2' := obj_cell HP.out.ref (i := 2) rfl
          have z2' := obj_frozen HP.out.ref 2
          obtain ⟨n1, n2, n3, n4, n5, n6⟩ := HP.out.ne
          obtain ⟨v1, hv1⟩ : ∃ v1, v1 = wr.setCell ⟨q, 2, none⟩ (.bool true) := ⟨_, rfl⟩
          have hF1 : FeedAt v1 p c cap buf (if sh then 1 else 0) := by
            obtain ⟨s0, r0, hch⟩ := HP.out.feed.chan
            rw [hv1]
            exact ⟨(get_set (by simpa using fun e => n5 e.symm)).trans HP.out.feed.obj, s0, r0, (get_set (by simpa using fun e => n6 e.symm)).trans hch⟩
          have HB1 := Lib.hid (show Below w.heap.size w v1 by rw [hv1]; exact HB.out.setCell (p := ⟨q, 2, none⟩) HP.out.base.2.2 _)
          have hSh := feed_Shut p c cap buf _ v1 (by cases sh <;> simp) hF1
          have HV1 := Lib.hid hv1
          clear hv1 hF1
          cases sh with
          | true =>
            go_upto_region 12 with fail
            rw [← HV1.out]
            go_wp2_with fail
            refine hSh.mono ?_; rintro e v2 ⟨rfl, hF2, hB2, hf2⟩
            have HP2 := Lib.hid (HP.out.shut hF2 (fun i hi => by rw [hf2 i hi, HV1.out]))
            have HB2 := Lib.hid (HB1.out.trans (hB2 _ HP.out.base.1 HB1.out.size))
            clear hF2 hB2 hf2
            go_wp2_with fail
            go_meet
            case rel => exact ⟨X, buf, lv, true, by omega, HP2, HB2⟩
          | false =>
            go_upto_region 12 with fail
            rw [← HV1.out]
            go_wp2_with fail
            refine hSh.mono ?_; rintro e v2 ⟨rfl, hF2, hB2, hf2⟩
            have HP2 := Lib.hid (HP.out.shut hF2 (fun i hi => by rw [hf2 i hi, HV1.out]))
            have HB2 := Lib.hid (HB1.out.trans (hB2 _ HP.out.base.1 HB1.out.size))
            clear hF2 hB2 hf2
            go_wp2_with fail
            go_meet
            case rel => exact ⟨X, buf, lv, true, by omega, HP2, HB2⟩
      case rest =>
        obtain ⟨X', buf', lv', sh', hX', HP', HB'⟩ := hcut
        have hLe := fun W hW => feed_Len p c cap buf' _ W (HP'.out.feed.keep hW)
        have hOv := fun W hW => feed_Over p c cap buf' _ W (HP'.out.feed.keep hW)
        have HLe := Lib.hid hLe
        have HOv := Lib.hid hOv
        have e1 := obj_cell HP'.out.ref (i := 1) rfl
        have e2 := obj_cell HP'.out.ref (i := 2) rfl
        have zq := obj_lt HP'.out.ref
        obtain ⟨al, cl, rfl⟩ := owns_form HP'.out.own
        have hbl := HP'.out.len
        rw [hbl] at HLe HOv
        clear hLe hOv hbl
        have HN' := Lib.hid HN.out
        cases sh' with
        | true =>
          go_wp2_with fail
          refine wp_region_held_drew (S := (fun w' => Below wc.heap.size wc w')) (by kernel_rfl) ?_ (fun hHeld => ?_)
          · (try dsimp only); first | assumption | exact Below.alloc hHeld hHeld.size _ | exact (Below.refl _ _).drew | exact Below.drew (Below.refl _ _) | exact Below_drewN _ _ _ | exact Below.refl _ _ | (trace_state; fail)
          refine wpAnyH_take (i := 0) (oi := { dst := some 118, op := Op.move (Operand.tmp 5), type := 24, pos := _, after := #[], guard := none }) (v := ?_) rfl (by kernel_rfl) (by kernel_rfl) (by kernel_rfl) (fun _ _ _ h => h) (Or.inl ⟨by rfl, ?_⟩) (by assumption) ?_
          rotate_left
          · intro wt hSw; (try dsimp only at hSw); have e1 := cellB hSw e1 zq; have e2 := cellB hSw e2 zq; first | (go_simp; done) | (go_simp; with_reducible rfl) | (trace_state; fail)
          try simp only [Act.put, List.setIfInBounds_toArray, List.set_cons_zero, List.set_cons_succ]
          refine wpAnyH_take (i := 2) (oi := { dst := some 120, op := Op.move (Operand.tmp 6), type := 26, pos := _, after := #[], guard := none }) (v := ?_) rfl (by kernel_rfl) (by kernel_rfl) (by kernel_rfl) (fun _ _ _ h => h) (Or.inl ⟨by rfl, ?_⟩) (by assumption) ?_
          rotate_left
          · intro wt hSw; (try dsimp only at hSw); have e1 := cellB hSw e1 zq; have e2 := cellB hSw e2 zq; first | (go_simp; done) | (go_simp; with_reducible rfl) | (trace_state; fail)
          try simp only [Act.put, List.setIfInBounds_toArray, List.set_cons_zero, List.set_cons_succ]
          refine wpAnyH_take (i := 3) (oi := { dst := some 121, op := Op.nilCheck (Operand.tmp 120), type := 0, pos := _, after := #[{ on := 2, ground := Ground.data }], guard := none }) (v := ?_) rfl (by kernel_rfl) (by kernel_rfl) (by kernel_rfl) (fun _ _ _ h => h) (Or.inl ⟨by rfl, ?_⟩) (by assumption) ?_
          rotate_left
          · intro wt hSw; (try dsimp only at hSw); have e1 := cellB hSw e1 zq; have e2 := cellB hSw e2 zq; first | (go_simp; done) | (go_simp; with_reducible rfl) | (trace_state; fail)
          try simp only [Act.put, List.setIfInBounds_toArray, List.set_cons_zero, List.set_cons_succ]
          refine wpAnyH_take (i := 4) (oi := { dst := some 122, op := Op.fieldAddr 41 (Operand.tmp 121) 1, type := 0, pos := _, after := #[{ on := 3, ground := Ground.data }], guard := none }) (v := ?_) rfl (by kernel_rfl) (by kernel_rfl) (by kernel_rfl) (fun _ _ _ h => h) (Or.inl ⟨by rfl, ?_⟩) (by assumption) ?_
          rotate_left
          · intro wt hSw; (try dsimp only at hSw); have e1 := cellB hSw e1 zq; have e2 := cellB hSw e2 zq; first | (go_simp; done) | (go_simp; with_reducible rfl) | (trace_state; fail)
          try simp only [Act.put, List.setIfInBounds_toArray, List.set_cons_zero, List.set_cons_succ]
          refine wpAnyH_take (i := 5) (oi := { dst := some 123, op := Op.load 28 (Operand.tmp 122), type := 28, pos := _, after := #[{ on := 4, ground := Ground.data }], guard := none }) (v := ?_) rfl (by kernel_rfl) (by kernel_rfl) (by kernel_rfl) (fun _ _ _ h => h) (Or.inl ⟨by rfl, ?_⟩) (by assumption) ?_
          rotate_left
          · intro wt hSw; (try dsimp only at hSw); have e1 := cellB hSw e1 zq; have e2 := cellB hSw e2 zq; first | (go_simp; done) | (go_simp; with_reducible rfl) | (trace_state; fail)
          try simp only [Act.put, List.setIfInBounds_toArray, List.set_cons_zero, List.set_cons_succ]
          refine wpAnyH_take (i := 6) (oi := { dst := some 124, op := Op.call { callee := Callee.builtin Builtin.len, args := #[Operand.tmp 123], argTypes := #[28] }, type := 3, pos := _, after := #[{ on := 5, ground := Ground.data }], guard := none }) (v := ?_) rfl (by kernel_rfl) (by kernel_rfl) (by kernel_rfl) (fun _ _ _ h => h) (Or.inl ⟨by rfl, ?_⟩) (by assumption) ?_
          rotate_left
          · intro wt hSw; (try dsimp only at hSw); have e1 := cellB hSw e1 zq; have e2 := cellB hSw e2 zq; first | (go_simp; done) | (go_simp; with_reducible rfl) | (trace_state; fail)
          try simp only [Act.put, List.setIfInBounds_toArray, List.set_cons_zero, List.set_cons_succ]
          refine wpAnyH_ready (rs := [1]) (by kernel_rfl) (by simp) ?_
          refine AllReadyH.cons (o := { dst := some 119, op := Op.call { callee := Callee.value (Operand.func 14), args := #[Operand.tmp 118], argTypes := #[24] }, type := 3, pos := _, after := #[{ on := 0, ground := Ground.data }], guard := none }) rfl (fun K hK => ?_) AllReadyH.nil
          go_simp
          refine (HLe.out _ hHeld).mono ?_; rintro e v4 ⟨rfl, rfl⟩
          go_wp2_with fail
          refine hK.out _ _ ?_ (fun hHeld => ?_)
          · (try dsimp only); first | assumption | exact Below.alloc hHeld hHeld.size _ | exact (Below.refl _ _).drew | exact Below.drew (Below.refl _ _) | exact Below_drewN _ _ _ | exact Below.refl _ _ | (trace_state; fail)
          clear hK K
          try simp only [Act.put, List.setIfInBounds_toArray, List.set_cons_zero, List.set_cons_succ]
          refine wpAnyH_take (i := 7) (oi := { dst := some 125, op := Op.binOp BinOp.neq 3 (Operand.tmp 119) (Operand.tmp 124) 3, type := 4, pos := _, after := #[{ on := 1, ground := Ground.data }, { on := 6, ground := Ground.data }], guard := none }) (v := ?_) rfl (by kernel_rfl) (by kernel_rfl) (by kernel_rfl) (fun _ _ _ h => h) (Or.inl ⟨by rfl, ?_⟩) (by assumption) ?_
          rotate_left
          · intro wt hSw; (try dsimp only at hSw); have e1 := cellB hSw e1 zq; have e2 := cellB hSw e2 zq; first | (go_simp; done) | (go_simp; with_reducible rfl) | (trace_state; fail)
          try simp only [Act.put, List.setIfInBounds_toArray, List.set_cons_zero, List.set_cons_succ]
          refine wpAnyH_take (i := 8) (oi := { dst := some 126, op := Op.move (Operand.tmp 125), type := 4, pos := _, after := #[{ on := 7, ground := Ground.data }, { on := 1, ground := Ground.chain }], guard := none }) (v := ?_) rfl (by kernel_rfl) (by kernel_rfl) (by kernel_rfl) (fun _ _ _ h => h) (Or.inl ⟨by rfl, ?_⟩) (by assumption) ?_
          rotate_left
          · intro wt hSw; (try dsimp only at hSw); have e1 := cellB hSw e1 zq; have e2 := cellB hSw e2 zq; first | (go_simp; done) | (go_simp; with_reducible rfl) | (trace_state; fail)
          try simp only [Act.put, List.setIfInBounds_toArray, List.set_cons_zero, List.set_cons_succ]
          refine wpAnyH_take (i := 9) (oi := { dst := some 127, op := Op.move (Operand.tmp 5), type := 24, pos := _, after := #[{ on := 8, ground := Ground.guard }], guard := some (8, false) }) (v := ?_) rfl (by kernel_rfl) (by kernel_rfl) (by kernel_rfl) (fun _ _ _ h => h) (Or.inl ⟨by rfl, ?_⟩) (by assumption) ?_
          rotate_left
          · intro wt hSw; (try dsimp only at hSw); have e1 := cellB hSw e1 zq; have e2 := cellB hSw e2 zq; first | (go_simp; done) | (go_simp; with_reducible rfl) | (trace_state; fail)
          try simp only [Act.put, List.setIfInBounds_toArray, List.set_cons_zero, List.set_cons_succ]
          refine wpAnyH_take (i := 11) (oi := { dst := some 129, op := Op.move (Operand.tmp 6), type := 26, pos := _, after := #[{ on := 8, ground := Ground.guard }], guard := some (8, false) }) (v := ?_) rfl (by kernel_rfl) (by kernel_rfl) (by kernel_rfl) (fun _ _ _ h => h) (Or.inl ⟨by rfl, ?_⟩) (by assumption) ?_
          rotate_left
          · intro wt hSw; (try dsimp only at hSw); have e1 := cellB hSw e1 zq; have e2 := cellB hSw e2 zq; first | (go_simp; done) | (go_simp; with_reducible rfl) | (trace_state; fail)
          try simp only [Act.put, List.setIfInBounds_toArray, List.set_cons_zero, List.set_cons_succ]
          refine wpAnyH_take (i := 12) (oi := { dst := some 130, op := Op.nilCheck (Operand.tmp 129), type := 0, pos := _, after := #[{ on := 11, ground := Ground.data }, { on := 8, ground := Ground.guard }], guard := some (8, false) }) (v := ?_) rfl (by kernel_rfl) (by kernel_rfl) (by kernel_rfl) (fun _ _ _ h => h) (Or.inl ⟨by rfl, ?_⟩) (by assumption) ?_
          rotate_left
          · intro wt hSw; (try dsimp only at hSw); have e1 := cellB hSw e1 zq; have e2 := cellB hSw e2 zq; first | (go_simp; done) | (go_simp; with_reducible rfl) | (trace_state; fail)
          try simp only [Act.put, List.setIfInBounds_toArray, List.set_cons_zero, List.set_cons_succ]
          refine wpAnyH_take (i := 13) (oi := { dst := some 131, op := Op.fieldAddr 41 (Operand.tmp 130) 2, type := 0, pos := _, after := #[{ on := 12, ground := Ground.data }, { on := 8, ground := Ground.guard }], guard := some (8, false) }) (v := ?_) rfl (by kernel_rfl) (by kernel_rfl) (by kernel_rfl) (fun _ _ _ h => h) (Or.inl ⟨by rfl, ?_⟩) (by assumption) ?_
          rotate_left
          · intro wt hSw; (try dsimp only at hSw); have e1 := cellB hSw e1 zq; have e2 := cellB hSw e2 zq; first | (go_simp; done) | (go_simp; with_reducible rfl) | (trace_state; fail)
          try simp only [Act.put, List.setIfInBounds_toArray, List.set_cons_zero, List.set_cons_succ]
          refine wpAnyH_take (i := 14) (oi := { dst := some 132, op := Op.load 4 (Operand.tmp 131), type := 4, pos := _, after := #[{ on := 13, ground := Ground.data }, { on := 8, ground := Ground.guard }], guard := some (8, false) }) (v := ?_) rfl (by kernel_rfl) (by kernel_rfl) (by kernel_rfl) (fun _ _ _ h => h) (Or.inl ⟨by rfl, ?_⟩) (by assumption) ?_
          rotate_left
          · intro wt hSw; (try dsimp only at hSw); have e1 := cellB hSw e1 zq; have e2 := cellB hSw e2 zq; first | (go_simp; done) | (go_simp; with_reducible rfl) | (trace_state; fail)
          try simp only [Act.put, List.setIfInBounds_toArray, List.set_cons_zero, List.set_cons_succ]
          refine wpAnyH_ready (rs := [10]) (by kernel_rfl) (by simp) ?_
          refine AllReadyH.cons (o := { dst := some 128, op := Op.call { callee := Callee.value (Operand.func 15), args := #[Operand.tmp 127], argTypes := #[24] }, type := 4, pos := _, after := #[{ on := 9, ground := Ground.data }, { on := 8, ground := Ground.chain }, { on := 8, ground := Ground.guard }], guard := some (8, false) }) rfl (fun K hK => ?_) AllReadyH.nil
          go_simp
          refine (HOv.out _ hHeld).mono ?_; rintro e v4 ⟨rfl, rfl⟩
          go_wp2_with fail
          refine hK.out _ _ ?_ (fun hHeld => ?_)
          · (try dsimp only); first | assumption | exact Below.alloc hHeld hHeld.size _ | exact (Below.refl _ _).drew | exact Below.drew (Below.refl _ _) | exact Below_drewN _ _ _ | exact Below.refl _ _ | (trace_state; fail)
          clear hK K
          try simp only [Act.put, List.setIfInBounds_toArray, List.set_cons_zero, List.set_cons_succ]
          refine wpAnyH_take (i := 15) (oi := { dst := some 133, op := Op.move (Operand.tmp 132), type := 4, pos := _, after := #[{ on := 14, ground := Ground.data }, { on := 10, ground := Ground.chain }, { on := 8, ground := Ground.guard }], guard := some (8, false) }) (v := ?_) rfl (by kernel_rfl) (by kernel_rfl) (by kernel_rfl) (fun _ _ _ h => h) (Or.inl ⟨by rfl, ?_⟩) (by assumption) ?_
          rotate_left
          · intro wt hSw; (try dsimp only at hSw); have e1 := cellB hSw e1 zq; have e2 := cellB hSw e2 zq; first | (go_simp; done) | (go_simp; with_reducible rfl) | (trace_state; fail)
          try simp only [Act.put, List.setIfInBounds_toArray, List.set_cons_zero, List.set_cons_succ]
          refine wpAnyH_take (i := 16) (oi := { dst := some 134, op := Op.move (Operand.tmp 6), type := 26, pos := _, after := #[{ on := 15, ground := Ground.guard }], guard := some (15, true) }) (v := ?_) rfl (by kernel_rfl) (by kernel_rfl) (by kernel_rfl) (fun _ _ _ h => h) (Or.inl ⟨by rfl, ?_⟩) (by assumption) ?_
          rotate_left
          · intro wt hSw; (try dsimp only at hSw); have e1 := cellB hSw e1 zq; have e2 := cellB hSw e2 zq; first | (go_simp; done) | (go_simp; with_reducible rfl) | (trace_state; fail)
          try simp only [Act.put, List.setIfInBounds_toArray, List.set_cons_zero, List.set_cons_succ]
          refine wpAnyH_take (i := 17) (oi := { dst := some 135, op := Op.nilCheck (Operand.tmp 134), type := 0, pos := _, after := #[{ on := 16, ground := Ground.data }, { on := 15, ground := Ground.guard }], guard := some (15, true) }) (v := ?_) rfl (by kernel_rfl) (by kernel_rfl) (by kernel_rfl) (fun _ _ _ h => h) (Or.inl ⟨by rfl, ?_⟩) (by assumption) ?_
          rotate_left
          · intro wt hSw; (try dsimp only at hSw); have e1 := cellB hSw e1 zq; have e2 := cellB hSw e2 zq; first | (go_simp; done) | (go_simp; with_reducible rfl) | (trace_state; fail)
          try simp only [Act.put, List.setIfInBounds_toArray, List.set_cons_zero, List.set_cons_succ]
          refine wpAnyH_take (i := 18) (oi := { dst := some 136, op := Op.fieldAddr 41 (Operand.tmp 135) 1, type := 0, pos := _, after := #[{ on := 17, ground := Ground.data }, { on := 15, ground := Ground.guard }], guard := some (15, true) }) (v := ?_) rfl (by kernel_rfl) (by kernel_rfl) (by kernel_rfl) (fun _ _ _ h => h) (Or.inl ⟨by rfl, ?_⟩) (by assumption) ?_
          rotate_left
          · intro wt hSw; (try dsimp only at hSw); have e1 := cellB hSw e1 zq; have e2 := cellB hSw e2 zq; first | (go_simp; done) | (go_simp; with_reducible rfl) | (trace_state; fail)
          try simp only [Act.put, List.setIfInBounds_toArray, List.set_cons_zero, List.set_cons_succ]
          refine wpAnyH_take (i := 19) (oi := { dst := some 137, op := Op.load 28 (Operand.tmp 136), type := 28, pos := _, after := #[{ on := 18, ground := Ground.data }, { on := 15, ground := Ground.guard }], guard := some (15, true) }) (v := ?_) rfl (by kernel_rfl) (by kernel_rfl) (by kernel_rfl) (fun _ _ _ h => h) (Or.inl ⟨by rfl, ?_⟩) (by assumption) ?_
          rotate_left
          · intro wt hSw; (try dsimp only at hSw); have e1 := cellB hSw e1 zq; have e2 := cellB hSw e2 zq; first | (go_simp; done) | (go_simp; with_reducible rfl) | (trace_state; fail)
          try simp only [Act.put, List.setIfInBounds_toArray, List.set_cons_zero, List.set_cons_succ]
          refine wpAnyH_take (i := 20) (oi := { dst := some 138, op := Op.call { callee := Callee.builtin Builtin.len, args := #[Operand.tmp 137], argTypes := #[28] }, type := 3, pos := _, after := #[{ on := 19, ground := Ground.data }, { on := 15, ground := Ground.guard }], guard := some (15, true) }) (v := ?_) rfl (by kernel_rfl) (by kernel_rfl) (by kernel_rfl) (fun _ _ _ h => h) (Or.inl ⟨by rfl, ?_⟩) (by assumption) ?_
          rotate_left
          · intro wt hSw; (try dsimp only at hSw); have e1 := cellB hSw e1 zq; have e2 := cellB hSw e2 zq; first | (go_simp; done) | (go_simp; with_reducible rfl) | (trace_state; fail)
          try simp only [Act.put, List.setIfInBounds_toArray, List.set_cons_zero, List.set_cons_succ]
          refine wpAnyH_take (i := 21) (oi := { dst := some 139, op := Op.binOp BinOp.eql 3 (Operand.tmp 138) (Operand.const (Value.int IntKind.i64 0)) 3, type := 4, pos := _, after := #[{ on := 20, ground := Ground.data }, { on := 15, ground := Ground.guard }], guard := some (15, true) }) (v := ?_) rfl (by kernel_rfl) (by kernel_rfl) (by kernel_rfl) (fun _ _ _ h => h) (Or.inl ⟨by rfl, ?_⟩) (by assumption) ?_
          rotate_left
          · intro wt hSw; (try dsimp only at hSw); have e1 := cellB hSw e1 zq; have e2 := cellB hSw e2 zq; first | (go_simp; done) | (go_simp; with_reducible rfl) | (trace_state; fail)
          try simp only [Act.put, List.setIfInBounds_toArray, List.set_cons_zero, List.set_cons_succ]
          refine wpAnyH_take (i := 22) (oi := { dst := some 140, op := Op.pick (Operand.tmp 133) (Operand.tmp 139) (Operand.const (Value.bool false)), type := 4, pos := _, after := #[{ on := 15, ground := Ground.data }, { on := 21, ground := Ground.data }, { on := 8, ground := Ground.guard }], guard := some (8, false) }) (v := ?_) rfl (by kernel_rfl) (by kernel_rfl) (by kernel_rfl) (fun _ _ _ h => h) (Or.inl ⟨by rfl, ?_⟩) (by assumption) ?_
          rotate_left
          · intro wt hSw; (try dsimp only at hSw); have e1 := cellB hSw e1 zq; have e2 := cellB hSw e2 zq; first | (go_simp; done) | (go_simp; with_reducible rfl) | (trace_state; fail)
          try simp only [Act.put, List.setIfInBounds_toArray, List.set_cons_zero, List.set_cons_succ]
          refine wpAnyH_take (i := 23) (oi := { dst := some 141, op := Op.binOp BinOp.neq 4 (Operand.tmp 128) (Operand.tmp 140) 4, type := 4, pos := _, after := #[{ on := 10, ground := Ground.data }, { on := 22, ground := Ground.data }, { on := 8, ground := Ground.guard }], guard := some (8, false) }) (v := ?_) rfl (by kernel_rfl) (by kernel_rfl) (by kernel_rfl) (fun _ _ _ h => h) (Or.inl ⟨by rfl, ?_⟩) (by assumption) ?_
          rotate_left
          · intro wt hSw; (try dsimp only at hSw); have e1 := cellB hSw e1 zq; have e2 := cellB hSw e2 zq; first | (go_simp; done) | (go_simp; with_reducible rfl) | (trace_state; fail)
          try simp only [Act.put, List.setIfInBounds_toArray, List.set_cons_zero, List.set_cons_succ]
          refine wpAnyH_take (i := 24) (oi := { dst := some 142, op := Op.pick (Operand.tmp 126) (Operand.const (Value.bool true)) (Operand.tmp 141), type := 4, pos := _, after := #[{ on := 8, ground := Ground.data }, { on := 23, ground := Ground.data }], guard := none }) (v := ?_) rfl (by kernel_rfl) (by kernel_rfl) (by kernel_rfl) (fun _ _ _ h => h) (Or.inl ⟨by rfl, ?_⟩) (by assumption) ?_
          rotate_left
          · intro wt hSw; (try dsimp only at hSw); have e1 := cellB hSw e1 zq; have e2 := cellB hSw e2 zq; first | (go_simp; done) | (go_simp; with_reducible rfl) | (trace_state; fail)
          try simp only [Act.put, List.setIfInBounds_toArray, List.set_cons_zero, List.set_cons_succ]
          refine wpAnyH_done (by kernel_rfl) ?_ _
          have HP2 := Lib.hid (HP'.out.keep hHeld)
          have HB2 := Lib.hid (HB'.out.trans (hHeld.mono HB'.out.size))
          go_wp2_with fail
          go_roundw
          case rel => exact ⟨k + 1, X', buf', _, true, by omega, by simp, hX', HP2, HB2⟩
          case measure => first | (simp [intOf]; done) | (simp [intOf]; omega)
        | false =>
          go_wp2_with fail
          refine wp_region_held_drew (S := (fun w' => Below wc.heap.size wc w')) (by kernel_rfl) ?_ (fun hHeld => ?_)
          · (try dsimp only); first | assumption | exact Below.alloc hHeld hHeld.size _ | exact (Below.refl _ _).drew | exact Below.drew (Below.refl _ _) | exact Below_drewN _ _ _ | exact Below.refl _ _ | (trace_state; fail)
          refine wpAnyH_take (i := 0) (oi := { dst := some 118, op := Op.move (Operand.tmp 5), type := 24, pos := _, after := #[], guard := none }) (v := ?_) rfl (by kernel_rfl) (by kernel_rfl) (by kernel_rfl) (fun _ _ _ h => h) (Or.inl ⟨by rfl, ?_⟩) (by assumption) ?_
          rotate_left
          · intro wt hSw; (try dsimp only at hSw); have e1 := cellB hSw e1 zq; have e2 := cellB hSw e2 zq; first | (go_simp; done) | (go_simp; with_reducible rfl) | (trace_state; fail)
          try simp only [Act.put, List.setIfInBounds_toArray, List.set_cons_zero, List.set_cons_succ]
          refine wpAnyH_take (i := 2) (oi := { dst := some 120, op := Op.move (Operand.tmp 6), type := 26, pos := _, after := #[], guard := none }) (v := ?_) rfl (by kernel_rfl) (by kernel_rfl) (by kernel_rfl) (fun _ _ _ h => h) (Or.inl ⟨by rfl, ?_⟩) (by assumption) ?_
          rotate_left
          · intro wt hSw; (try dsimp only at hSw); have e1 := cellB hSw e1 zq; have e2 := cellB hSw e2 zq; first | (go_simp; done) | (go_simp; with_reducible rfl) | (trace_state; fail)
          try simp only [Act.put, List.setIfInBounds_toArray, List.set_cons_zero, List.set_cons_succ]
          refine wpAnyH_take (i := 3) (oi := { dst := some 121, op := Op.nilCheck (Operand.tmp 120), type := 0, pos := _, after := #[{ on := 2, ground := Ground.data }], guard := none }) (v := ?_) rfl (by kernel_rfl) (by kernel_rfl) (by kernel_rfl) (fun _ _ _ h => h) (Or.inl ⟨by rfl, ?_⟩) (by assumption) ?_
          rotate_left
          · intro wt hSw; (try dsimp only at hSw); have e1 := cellB hSw e1 zq; have e2 := cellB hSw e2 zq; first | (go_simp; done) | (go_simp; with_reducible rfl) | (trace_state; fail)
          try simp only [Act.put, List.setIfInBounds_toArray, List.set_cons_zero, List.set_cons_succ]
          refine wpAnyH_take (i := 4) (oi := { dst := some 122, op := Op.fieldAddr 41 (Operand.tmp 121) 1, type := 0, pos := _, after := #[{ on := 3, ground := Ground.data }], guard := none }) (v := ?_) rfl (by kernel_rfl) (by kernel_rfl) (by kernel_rfl) (fun _ _ _ h => h) (Or.inl ⟨by rfl, ?_⟩) (by assumption) ?_
          rotate_left
          · intro wt hSw; (try dsimp only at hSw); have e1 := cellB hSw e1 zq; have e2 := cellB hSw e2 zq; first | (go_simp; done) | (go_simp; with_reducible rfl) | (trace_state; fail)
          try simp only [Act.put, List.setIfInBounds_toArray, List.set_cons_zero, List.set_cons_succ]
          refine wpAnyH_take (i := 5) (oi := { dst := some 123, op := Op.load 28 (Operand.tmp 122), type := 28, pos := _, after := #[{ on := 4, ground := Ground.data }], guard := none }) (v := ?_) rfl (by kernel_rfl) (by kernel_rfl) (by kernel_rfl) (fun _ _ _ h => h) (Or.inl ⟨by rfl, ?_⟩) (by assumption) ?_
          rotate_left
          · intro wt hSw; (try dsimp only at hSw); have e1 := cellB hSw e1 zq; have e2 := cellB hSw e2 zq; first | (go_simp; done) | (go_simp; with_reducible rfl) | (trace_state; fail)
          try simp only [Act.put, List.setIfInBounds_toArray, List.set_cons_zero, List.set_cons_succ]
          refine wpAnyH_take (i := 6) (oi := { dst := some 124, op := Op.call { callee := Callee.builtin Builtin.len, args := #[Operand.tmp 123], argTypes := #[28] }, type := 3, pos := _, after := #[{ on := 5, ground := Ground.data }], guard := none }) (v := ?_) rfl (by kernel_rfl) (by kernel_rfl) (by kernel_rfl) (fun _ _ _ h => h) (Or.inl ⟨by rfl, ?_⟩) (by assumption) ?_
          rotate_left
          · intro wt hSw; (try dsimp only at hSw); have e1 := cellB hSw e1 zq; have e2 := cellB hSw e2 zq; first | (go_simp; done) | (go_simp; with_reducible rfl) | (trace_state; fail)
          try simp only [Act.put, List.setIfInBounds_toArray, List.set_cons_zero, List.set_cons_succ]
          refine wpAnyH_ready (rs := [1]) (by kernel_rfl) (by simp) ?_
          refine AllReadyH.cons (o := { dst := some 119, op := Op.call { callee := Callee.value (Operand.func 14), args := #[Operand.tmp 118], argTypes := #[24] }, type := 3, pos := _, after := #[{ on := 0, ground := Ground.data }], guard := none }) rfl (fun K hK => ?_) AllReadyH.nil
          go_simp
          refine (HLe.out _ hHeld).mono ?_; rintro e v4 ⟨rfl, rfl⟩
          go_wp2_with fail
          refine hK.out _ _ ?_ (fun hHeld => ?_)
          · (try dsimp only); first | assumption | exact Below.alloc hHeld hHeld.size _ | exact (Below.refl _ _).drew | exact Below.drew (Below.refl _ _) | exact Below_drewN _ _ _ | exact Below.refl _ _ | (trace_state; fail)
          clear hK K
          try simp only [Act.put, List.setIfInBounds_toArray, List.set_cons_zero, List.set_cons_succ]
          refine wpAnyH_take (i := 7) (oi := { dst := some 125, op := Op.binOp BinOp.neq 3 (Operand.tmp 119) (Operand.tmp 124) 3, type := 4, pos := _, after := #[{ on := 1, ground := Ground.data }, { on := 6, ground := Ground.data }], guard := none }) (v := ?_) rfl (by kernel_rfl) (by kernel_rfl) (by kernel_rfl) (fun _ _ _ h => h) (Or.inl ⟨by rfl, ?_⟩) (by assumption) ?_
          rotate_left
          · intro wt hSw; (try dsimp only at hSw); have e1 := cellB hSw e1 zq; have e2 := cellB hSw e2 zq; first | (go_simp; done) | (go_simp; with_reducible rfl) | (trace_state; fail)
          try simp only [Act.put, List.setIfInBounds_toArray, List.set_cons_zero, List.set_cons_succ]
          refine wpAnyH_take (i := 8) (oi := { dst := some 126, op := Op.move (Operand.tmp 125), type := 4, pos := _, after := #[{ on := 7, ground := Ground.data }, { on := 1, ground := Ground.chain }], guard := none }) (v := ?_) rfl (by kernel_rfl) (by kernel_rfl) (by kernel_rfl) (fun _ _ _ h => h) (Or.inl ⟨by rfl, ?_⟩) (by assumption) ?_
          rotate_left
          · intro wt hSw; (try dsimp only at hSw); have e1 := cellB hSw e1 zq; have e2 := cellB hSw e2 zq; first | (go_simp; done) | (go_simp; with_reducible rfl) | (trace_state; fail)
          try simp only [Act.put, List.setIfInBounds_toArray, List.set_cons_zero, List.set_cons_succ]
          refine wpAnyH_take (i := 9) (oi := { dst := some 127, op := Op.move (Operand.tmp 5), type := 24, pos := _, after := #[{ on := 8, ground := Ground.guard }], guard := some (8, false) }) (v := ?_) rfl (by kernel_rfl) (by kernel_rfl) (by kernel_rfl) (fun _ _ _ h => h) (Or.inl ⟨by rfl, ?_⟩) (by assumption) ?_
          rotate_left
          · intro wt hSw; (try dsimp only at hSw); have e1 := cellB hSw e1 zq; have e2 := cellB hSw e2 zq; first | (go_simp; done) | (go_simp; with_reducible rfl) | (trace_state; fail)
          try simp only [Act.put, List.setIfInBounds_toArray, List.set_cons_zero, List.set_cons_succ]
          refine wpAnyH_take (i := 11) (oi := { dst := some 129, op := Op.move (Operand.tmp 6), type := 26, pos := _, after := #[{ on := 8, ground := Ground.guard }], guard := some (8, false) }) (v := ?_) rfl (by kernel_rfl) (by kernel_rfl) (by kernel_rfl) (fun _ _ _ h => h) (Or.inl ⟨by rfl, ?_⟩) (by assumption) ?_
          rotate_left
          · intro wt hSw; (try dsimp only at hSw); have e1 := cellB hSw e1 zq; have e2 := cellB hSw e2 zq; first | (go_simp; done) | (go_simp; with_reducible rfl) | (trace_state; fail)
          try simp only [Act.put, List.setIfInBounds_toArray, List.set_cons_zero, List.set_cons_succ]
          refine wpAnyH_take (i := 12) (oi := { dst := some 130, op := Op.nilCheck (Operand.tmp 129), type := 0, pos := _, after := #[{ on := 11, ground := Ground.data }, { on := 8, ground := Ground.guard }], guard := some (8, false) }) (v := ?_) rfl (by kernel_rfl) (by kernel_rfl) (by kernel_rfl) (fun _ _ _ h => h) (Or.inl ⟨by rfl, ?_⟩) (by assumption) ?_
          rotate_left
          · intro wt hSw; (try dsimp only at hSw); have e1 := cellB hSw e1 zq; have e2 := cellB hSw e2 zq; first | (go_simp; done) | (go_simp; with_reducible rfl) | (trace_state; fail)
          try simp only [Act.put, List.setIfInBounds_toArray, List.set_cons_zero, List.set_cons_succ]
          refine wpAnyH_take (i := 13) (oi := { dst := some 131, op := Op.fieldAddr 41 (Operand.tmp 130) 2, type := 0, pos := _, after := #[{ on := 12, ground := Ground.data }, { on := 8, ground := Ground.guard }], guard := some (8, false) }) (v := ?_) rfl (by kernel_rfl) (by kernel_rfl) (by kernel_rfl) (fun _ _ _ h => h) (Or.inl ⟨by rfl, ?_⟩) (by assumption) ?_
          rotate_left
          · intro wt hSw; (try dsimp only at hSw); have e1 := cellB hSw e1 zq; have e2 := cellB hSw e2 zq; first | (go_simp; done) | (go_simp; with_reducible rfl) | (trace_state; fail)
          try simp only [Act.put, List.setIfInBounds_toArray, List.set_cons_zero, List.set_cons_succ]
          refine wpAnyH_take (i := 14) (oi := { dst := some 132, op := Op.load 4 (Operand.tmp 131), type := 4, pos := _, after := #[{ on := 13, ground := Ground.data }, { on := 8, ground := Ground.guard }], guard := some (8, false) }) (v := ?_) rfl (by kernel_rfl) (by kernel_rfl) (by kernel_rfl) (fun _ _ _ h => h) (Or.inl ⟨by rfl, ?_⟩) (by assumption) ?_
          rotate_left
          · intro wt hSw; (try dsimp only at hSw); have e1 := cellB hSw e1 zq; have e2 := cellB hSw e2 zq; first | (go_simp; done) | (go_simp; with_reducible rfl) | (trace_state; fail)
          try simp only [Act.put, List.setIfInBounds_toArray, List.set_cons_zero, List.set_cons_succ]
          refine wpAnyH_ready (rs := [10]) (by kernel_rfl) (by simp) ?_
          refine AllReadyH.cons (o := { dst := some 128, op := Op.call { callee := Callee.value (Operand.func 15), args := #[Operand.tmp 127], argTypes := #[24] }, type := 4, pos := _, after := #[{ on := 9, ground := Ground.data }, { on := 8, ground := Ground.chain }, { on := 8, ground := Ground.guard }], guard := some (8, false) }) rfl (fun K hK => ?_) AllReadyH.nil
          go_simp
          refine (HOv.out _ hHeld).mono ?_; rintro e v4 ⟨rfl, rfl⟩
          go_wp2_with fail
          refine hK.out _ _ ?_ (fun hHeld => ?_)
          · (try dsimp only); first | assumption | exact Below.alloc hHeld hHeld.size _ | exact (Below.refl _ _).drew | exact Below.drew (Below.refl _ _) | exact Below_drewN _ _ _ | exact Below.refl _ _ | (trace_state; fail)
          clear hK K
          try simp only [Act.put, List.setIfInBounds_toArray, List.set_cons_zero, List.set_cons_succ]
          refine wpAnyH_take (i := 15) (oi := { dst := some 133, op := Op.move (Operand.tmp 132), type := 4, pos := _, after := #[{ on := 14, ground := Ground.data }, { on := 10, ground := Ground.chain }, { on := 8, ground := Ground.guard }], guard := some (8, false) }) (v := ?_) rfl (by kernel_rfl) (by kernel_rfl) (by kernel_rfl) (fun _ _ _ h => h) (Or.inl ⟨by rfl, ?_⟩) (by assumption) ?_
          rotate_left
          · intro wt hSw; (try dsimp only at hSw); have e1 := cellB hSw e1 zq; have e2 := cellB hSw e2 zq; first | (go_simp; done) | (go_simp; with_reducible rfl) | (trace_state; fail)
          try simp only [Act.put, List.setIfInBounds_toArray, List.set_cons_zero, List.set_cons_succ]
          refine wpAnyH_take (i := 16) (oi := { dst := some 134, op := Op.move (Operand.tmp 6), type := 26, pos := _, after := #[{ on := 15, ground := Ground.guard }], guard := some (15, true) }) (v := undef) rfl (by kernel_rfl) (by kernel_rfl) (by kernel_rfl) (fun _ _ _ h => h) (Or.inr ⟨by rfl, rfl⟩) (by assumption) ?_
          try simp only [Act.put, List.setIfInBounds_toArray, List.set_cons_zero, List.set_cons_succ]
          refine wpAnyH_take (i := 17) (oi := { dst := some 135, op := Op.nilCheck (Operand.tmp 134), type := 0, pos := _, after := #[{ on := 16, ground := Ground.data }, { on := 15, ground := Ground.guard }], guard := some (15, true) }) (v := undef) rfl (by kernel_rfl) (by kernel_rfl) (by kernel_rfl) (fun _ _ _ h => h) (Or.inr ⟨by rfl, rfl⟩) (by assumption) ?_
          try simp only [Act.put, List.setIfInBounds_toArray, List.set_cons_zero, List.set_cons_succ]
          refine wpAnyH_take (i := 18) (oi := { dst := some 136, op := Op.fieldAddr 41 (Operand.tmp 135) 1, type := 0, pos := _, after := #[{ on := 17, ground := Ground.data }, { on := 15, ground := Ground.guard }], guard := some (15, true) }) (v := undef) rfl (by kernel_rfl) (by kernel_rfl) (by kernel_rfl) (fun _ _ _ h => h) (Or.inr ⟨by rfl, rfl⟩) (by assumption) ?_
          try simp only [Act.put, List.setIfInBounds_toArray, List.set_cons_zero, List.set_cons_succ]
          refine wpAnyH_take (i := 19) (oi := { dst := some 137, op := Op.load 28 (Operand.tmp 136), type := 28, pos := _, after := #[{ on := 18, ground := Ground.data }, { on := 15, ground := Ground.guard }], guard := some (15, true) }) (v := undef) rfl (by kernel_rfl) (by kernel_rfl) (by kernel_rfl) (fun _ _ _ h => h) (Or.inr ⟨by rfl, rfl⟩) (by assumption) ?_
          try simp only [Act.put, List.setIfInBounds_toArray, List.set_cons_zero, List.set_cons_succ]
          refine wpAnyH_take (i := 20) (oi := { dst := some 138, op := Op.call { callee := Callee.builtin Builtin.len, args := #[Operand.tmp 137], argTypes := #[28] }, type := 3, pos := _, after := #[{ on := 19, ground := Ground.data }, { on := 15, ground := Ground.guard }], guard := some (15, true) }) (v := undef) rfl (by kernel_rfl) (by kernel_rfl) (by kernel_rfl) (fun _ _ _ h => h) (Or.inr ⟨by rfl, rfl⟩) (by assumption) ?_
          try simp only [Act.put, List.setIfInBounds_toArray, List.set_cons_zero, List.set_cons_succ]
          refine wpAnyH_take (i := 21) (oi := { dst := some 139, op := Op.binOp BinOp.eql 3 (Operand.tmp 138) (Operand.const (Value.int IntKind.i64 0)) 3, type := 4, pos := _, after := #[{ on := 20, ground := Ground.data }, { on := 15, ground := Ground.guard }], guard := some (15, true) }) (v := undef) rfl (by kernel_rfl) (by kernel_rfl) (by kernel_rfl) (fun _ _ _ h => h) (Or.inr ⟨by rfl, rfl⟩) (by assumption) ?_
          try simp only [Act.put, List.setIfInBounds_toArray, List.set_cons_zero, List.set_cons_succ]
          refine wpAnyH_take (i := 22) (oi := { dst := some 140, op := Op.pick (Operand.tmp 133) (Operand.tmp 139) (Operand.const (Value.bool false)), type := 4, pos := _, after := #[{ on := 15, ground := Ground.data }, { on := 21, ground := Ground.data }, { on := 8, ground := Ground.guard }], guard := some (8, false) }) (v := ?_) rfl (by kernel_rfl) (by kernel_rfl) (by kernel_rfl) (fun _ _ _ h => h) (Or.inl ⟨by rfl, ?_⟩) (by assumption) ?_
          rotate_left
          · intro wt hSw; (try dsimp only at hSw); have e1 := cellB hSw e1 zq; have e2 := cellB hSw e2 zq; first | (go_simp; done) | (go_simp; with_reducible rfl) | (trace_state; fail)
          try simp only [Act.put, List.setIfInBounds_toArray, List.set_cons_zero, List.set_cons_succ]
          refine wpAnyH_take (i := 23) (oi := { dst := some 141, op := Op.binOp BinOp.neq 4 (Operand.tmp 128) (Operand.tmp 140) 4, type := 4, pos := _, after := #[{ on := 10, ground := Ground.data }, { on := 22, ground := Ground.data }, { on := 8, ground := Ground.guard }], guard := some (8, false) }) (v := ?_) rfl (by kernel_rfl) (by kernel_rfl) (by kernel_rfl) (fun _ _ _ h => h) (Or.inl ⟨by rfl, ?_⟩) (by assumption) ?_
          rotate_left
          · intro wt hSw; (try dsimp only at hSw); have e1 := cellB hSw e1 zq; have e2 := cellB hSw e2 zq; first | (go_simp; done) | (go_simp; with_reducible rfl) | (trace_state; fail)
          try simp only [Act.put, List.setIfInBounds_toArray, List.set_cons_zero, List.set_cons_succ]
          refine wpAnyH_take (i := 24) (oi := { dst := some 142, op := Op.pick (Operand.tmp 126) (Operand.const (Value.bool true)) (Operand.tmp 141), type := 4, pos := _, after := #[{ on := 8, ground := Ground.data }, { on := 23, ground := Ground.data }], guard := none }) (v := ?_) rfl (by kernel_rfl) (by kernel_rfl) (by kernel_rfl) (fun _ _ _ h => h) (Or.inl ⟨by rfl, ?_⟩) (by assumption) ?_
          rotate_left
          · intro wt hSw; (try dsimp only at hSw); have e1 := cellB hSw e1 zq; have e2 := cellB hSw e2 zq; first | (go_simp; done) | (go_simp; with_reducible rfl) | (trace_state; fail)
          try simp only [Act.put, List.setIfInBounds_toArray, List.set_cons_zero, List.set_cons_succ]
          refine wpAnyH_done (by kernel_rfl) ?_ _
          have HP2 := Lib.hid (HP'.out.keep hHeld)
          have HB2 := Lib.hid (HB'.out.trans (hHeld.mono HB'.out.size))
          go_wp2_with fail
          go_roundw
          case rel => exact ⟨k + 1, X', buf', _, false, by omega, by simp, hX', HP2, HB2⟩
          case measure => first | (simp [intOf]; done) | (simp [intOf]; omega)
    · obtain rfl : k = N := by omega
      have qk : ((k : Int) < (k : Int)) = False := eq_false (by omega)
      go_wp2_with fail
      refine (hAw _).mono ?_; rintro e w11 ⟨rfl, hb11⟩
      go_wp2_with fail
      go_ret
      exact ⟨rfl, HB.out.trans (hb11.mono HB.out.size)⟩
end Go.Proofs.Ytpbfgoegkpjpmaa
