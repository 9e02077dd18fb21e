/- Layer 32: the walk of PdomNearest. -/
import Derived.Test.YtkjafkegkllbiaaPdAw
import Derived.Test.YtkjafkegkllbiaaFew31
import Derived.Test.YtkjafkegkllbiaaInts
namespace Go.Proofs.Ytkjafkegkllbiaa
open Go.RowKit
set_option linter.unusedSimpArgs false
set_option linter.unusedVariables false
open DM (turnF endF nearP lastB rowN)
theorem row_at2 {w : World} {a : Option Addr} {m cap : Nat} {G : List (List Int)} (h : RowR 1 gridR w (.slice a m cap) G) {k : Nat} (hk : k < G.length) : ∃ b off s sc, a = some ⟨b, off, none⟩ ∧ b < w.heap.size ∧ m ≤ cap ∧ cap ≤ 9223372036854775807 ∧ w.cell? ⟨b, off + k, none⟩ = some (.slice s (rowN G k).length sc) ∧ RowR 1 intR w (.slice s (rowN G k).length sc) (rowN G k) := by
  obtain ⟨l, hl⟩ := get_some (L := G) (n := k) hk
  have hr : rowN G k = l := by unfold rowN; simp [List.getD, hl]
  rw [hr]
  exact grid_at h hl
theorem ends_get {NP : List Int} {i : Nat} (hi : i < NP.length) : (NP.map fun z => decide (0 ≤ z)).getD i false = decide (0 ≤ NP.getD i 0) := by
  simp [List.getD, hi]
set_option maxRecDepth 100000 in
set_option maxHeartbeats 8000000 in
theorem pdomNearest_walk (v : Value) (next : List (List Int)) (w : World) (hv : RowR 1 gridR w v next) :
    Calls Try.prog 3 #[v] w fun r w' => r = .returned (.bool true) ∧ Below w.heap.size w w' := by
  have HF := Lib.hid (ref31_Few v next 20 w hv)
  have HA0 := Lib.hid (fun W => law32_awake W)
  cases hf : few31 next 20
  · rw [hf] at HF
    obtain ⟨ad, cap, rfl⟩ := row_get hv
    clear hv hf
    go_enter Try.func3, Try.ntmps3
    go_wp2_with fail
    refine HF.out.mono ?_; rintro r w2 ⟨rfl, rfl⟩
    go_wp2_with fail
    refine (HA0.out _).mono ?_; rintro r w3 ⟨rfl, hb⟩
    go_wp2_with fail
    go_ret
    exact ⟨rfl, hb⟩
  rw [hf] at HF
  obtain ⟨hn, hl⟩ : next.length ≤ 20 ∧ ∀ l ∈ next, l.length ≤ 40 := by
    unfold few31 at hf
    rw [Bool.and_eq_true, decide_eq_true_iff, List.all_eq_true] at hf
    exact ⟨by have := hf.1; omega, fun l hl => of_decide_eq_true (hf.2 l hl)⟩
  have H1 := Lib.hid (fun W (h : Below w.heap.size w W) => pdom_Nearest v next W (hv.below gridR_stable h) hn hl)
  have H2 := Lib.hid (fun W (h : Below w.heap.size w W) => ref32_Nearest v next W (hv.below gridR_stable h) (by omega) (fun l h' => by have := hl l h'; omega))
  have H3 := Lib.hid (fun W (h : Below w.heap.size w W) => pdom_Ends v next W (hv.below gridR_stable h) hn hl)
  have H4 := Lib.hid (fun W (h : Below w.heap.size w W) => pdom_Turned 40 v next W (hv.below gridR_stable h) (by omega) (by omega) hl)
  have H5 := Lib.hid (fun W (h : Below w.heap.size w W) => ref32_Ended v next W (hv.below gridR_stable h) (by omega) (fun l h' => by have := hl l h'; omega))
  have HV := Lib.hid (fun W (h : Below w.heap.size w W) => hv.below gridR_stable h)
  obtain ⟨ad, cap, rfl⟩ := row_get hv
  obtain ⟨n, hN⟩ : ∃ n, next.length = n := ⟨_, rfl⟩
  have hnl := DM.near_len next
  have htl := DM.turn_len next
  have hel := DM.end_len next
  have HE1 := Lib.hid (fun i (hi : i < next.length) => has_ends (next := next) hi)
  have HE2 := Lib.hid (fun i (hi : i < next.length) => has_end2 (next := next) hi)
  have HE3 := Lib.hid (fun i j (hi : i < next.length) (hj : j < next.length) => has_turn (next := next) hi hj)
  have H2 := Lib.hid (show ∀ W, Below w.heap.size w W → Calls Try.prog 8 #[.slice ad n cap] W fun r w' => ∃ u, r = .returned u ∧ w'.ownsRow W.heap.size 3 1 u n (iV (nearP next)) ∧ Below W.heap.size W w' by
    have h := H2.out; unfold nearL at h; unfold nearP; rw [hN] at h ⊢; exact h)
  rw [hN] at hn hnl htl hel HF H1 H3 H4 H5 HV HE1 HE2 HE3 ⊢
  have HN := Lib.hid hN
  obtain ⟨NP, hNP⟩ : ∃ X, nearP next = X := ⟨_, rfl⟩
  rw [hNP] at H1 H2 H3 hnl
  have HLs := Lib.hid (And.intro hn (And.intro hnl (And.intro htl hel)))
  have hn62 : n ≤ 9223372036854775806 := by omega
  clear hv hf hn hl hN hnl htl hel hNP
  go_enter Try.func3, Try.ntmps3
  go_wp2_with fail
  refine HF.out.mono ?_; rintro r w2 ⟨rfl, rfl⟩
  go_wp2_with fail
  refine (H1.out _ (Below.refl _ _)).mono ?_; rintro r w2 ⟨u1, rfl, hO1, hb1, hI1⟩
  have HI := Lib.hid hI1
  have HR1 := Lib.hid (row_of_owns (own_owns hO1 HLs.out.2.1.symm rfl) hI1)
  obtain ⟨a1, c1, rfl⟩ := owns_form hO1
  have HB1 := Lib.hid hb1
  clear hO1 hb1 hI1
  go_wp2_with fail
  refine (H2.out _ HB1.out).mono ?_; rintro r w3 ⟨u2, rfl, hO2, hb2⟩
  have HR2 := Lib.hid (row_of_owns (own_owns hO2 HLs.out.2.1.symm rfl) HI.out)
  have HR1 := Lib.hid (HR1.out.below intR_stable hb2)
  obtain ⟨a2, c2, rfl⟩ := owns_form hO2
  have HB2 := Lib.hid (HB1.out.trans (hb2.mono HB1.out.size))
  clear hO2 hb2
  go_wp2_with fail
  refine (H3.out _ HB2.out).mono ?_; rintro r w4 ⟨u3, rfl, hO3, hb3⟩
  have hbl : n = (NP.map fun z => decide (0 ≤ z)).length := by rw [List.length_map]; exact HLs.out.2.1.symm
  have HR3 := Lib.hid (bools_of_owns (own_owns hO3 hbl rfl))
  have HR1 := Lib.hid (HR1.out.below intR_stable hb3)
  have HR2 := Lib.hid (HR2.out.below intR_stable hb3)
  obtain ⟨a3, c3, rfl⟩ := owns_form hO3
  have HB3 := Lib.hid (HB2.out.trans (hb3.mono HB2.out.size))
  clear hO3 hb3 hbl
  go_wp2_with fail
  refine (H4.out _ HB3.out).mono ?_; rintro r w5 ⟨u4, rfl, hR4, hb4, _⟩
  have HR4 := Lib.hid hR4
  have HR1 := Lib.hid (HR1.out.below intR_stable hb4)
  have HR2 := Lib.hid (HR2.out.below intR_stable hb4)
  have HR3 := Lib.hid (HR3.out.below boolR_stable hb4)
  have HB4 := Lib.hid (HB3.out.trans (hb4.mono HB3.out.size))
  obtain ⟨a4, c4, rfl⟩ := row_get hR4
  rw [HLs.out.2.2.1] at HR4
  rw [HLs.out.2.2.1]
  clear hR4 hb4
  go_wp2_with fail
  refine (H5.out _ HB4.out).mono ?_; rintro r w6 ⟨u5, rfl, hR5, hb5⟩
  have HR5 := Lib.hid hR5
  have HR1 := Lib.hid (HR1.out.below intR_stable hb5)
  have HR2 := Lib.hid (HR2.out.below intR_stable hb5)
  have HR3 := Lib.hid (HR3.out.below boolR_stable hb5)
  have HR4 := Lib.hid (HR4.out.below gridR_stable hb5)
  have HB5 := Lib.hid (HB4.out.trans (hb5.mono HB4.out.size))
  obtain ⟨a5, c5, rfl⟩ := row_get hR5
  rw [HLs.out.2.2.2] at HR5
  rw [HLs.out.2.2.2]
  clear hR5 hb5
  have HIn := Lib.hid (ref15_Ints _ _ NP NP w6 HR1.out HR2.out)
  rw [show decide (NP = NP) = true from decide_eq_true rfl] at HIn
  go_wp2_with fail
  refine HIn.out.mono ?_; rintro r w7 ⟨rfl, q, rfl⟩
  have hbD : Below w6.heap.size w6 (w6.drewN q) := Below_drewN _ _ _
  have HB6 := Lib.hid (HB5.out.trans (hbD.mono HB5.out.size))
  have HR2 := Lib.hid (HR2.out.below intR_stable hbD)
  have HR3 := Lib.hid (HR3.out.below boolR_stable hbD)
  have HR4 := Lib.hid (HR4.out.below gridR_stable hbD)
  have HR5 := Lib.hid (HR5.out.below gridR_stable hbD)
  have HV6 := Lib.hid (HV.out _ HB6.out)
  generalize w6.drewN q = S at *
  clear hbD HIn HR1 H1 H2 H3 H4 H5
  go_wp2_with fail
  go_loopw [8] (fun jj wr => ∃ i : Nat, jj = .int .i64 i ∧ i ≤ n ∧ Hid (Below S.heap.size S wr)) (fun jj _ => n - (intOf jj).toNat)
  case atStart => exact ⟨0, rfl, Nat.zero_le _, Lib.hid (Below.refl _ _)⟩
  case round =>
    obtain ⟨i, rfl, hi, hB⟩ := hrel
    by_cases hlt : i < n
    case neg =>
      obtain rfl : n = i := by omega
      have q1 : ((n : Int) < (n : Int)) = False := eq_false (by omega)
      have q1' : (n < n) = False := eq_false (by omega)
      have HBo := Lib.hid (HB6.out.trans (hB.out.mono HB6.out.size))
      clear hlt hi hB
      go_wp2_with fail
      refine (HA0.out _).mono ?_; rintro r w8 ⟨rfl, hb⟩
      have HBp := Lib.hid (HBo.out.trans (hb.mono HBo.out.size))
      clear hb
      go_wp2_with fail
      go_ret
      exact ⟨rfl, HBp.out⟩
    have q1 : ((i : Int) < (n : Int)) = True := eq_true (by omega)
    have q1' : (i < n) = True := eq_true hlt
    have hi62 : i ≤ 9223372036854775806 := by omega
    have HI' := Lib.hid hlt
    obtain ⟨b2, o2, rfl, k2, m2, e2, y2, _⟩ := int_at (HR2.out.below intR_stable hB.out) (k := i) (by rw [HLs.out.2.1]; exact hlt)
    obtain ⟨b3, o3, rfl, k3, m3, e3, y3⟩ := bools_at (HR3.out.below boolR_stable hB.out) (k := i) (by rw [List.length_map, HLs.out.2.1]; exact hlt)
    have y3 := y3 i (by rw [List.length_map, HLs.out.2.1]; exact hlt)
    rw [ends_get (by rw [HLs.out.2.1]; exact hlt)] at y3
    obtain ⟨b4, o4, s4, d4, rfl, k4, m4, e4, y4, r4⟩ := row_at2 (HR4.out.below gridR_stable hB.out) (k := 0) (by rw [HLs.out.2.2.1]; omega)
    obtain ⟨b5, o5, s5, d5, rfl, k5, m5, e5, y5, r5⟩ := row_at2 (HR5.out.below gridR_stable hB.out) (k := i) (by rw [HLs.out.2.2.2]; omega)
    have HH1 := Lib.hid (fun W (h : Below wr.heap.size wr W) => ref30_Has _ (rowN (turnF next) 0) ((i : Int) + 1) W (r4.below intR_stable h))
    have HH2 := Lib.hid (fun W (h : Below wr.heap.size wr W) => ref30_Has _ (rowN (endF next) i) (n : Int) W (r5.below intR_stable h))
    rw [HE1.out i hlt] at HH1
    rw [HE2.out i hlt] at HH2
    have HVi := Lib.hid (fun W (h : Below S.heap.size S W) => row_at2 (HV6.out.below gridR_stable h) (k := i) (by rw [HN.out]; exact hlt))
    have hi5 : (i < n + 1) = True := eq_true (by omega)
    have hi5' : ((i : Int) < (n : Int) + 1) = True := eq_true (by omega)
    have hp5 : ((0 : Int) < (n : Int) + 1) = True := eq_true (by omega)
    rw [Nat.add_zero] at y4
    have hw1 : IntKind.i64.wrap ((i : Int) + 1) = (i : Int) + 1 := IntWalk.i64_in _ (by have := HLs.out.1; omega)
    generalize NP.getD i 0 = z at *
    generalize lastB next i = lb at *
    generalize (rowN (turnF next) 0).length = l4 at *
    generalize (rowN (endF next) i).length = l5 at *
    clear hlt hi r4 r5
    go_wp2_with fail
    refine wp_region_held_drew (S := (fun w' => Below wr.heap.size wr w')) (by kernel_rfl) ?_ (fun hHeld => ?_)
    · (try dsimp only); first | assumption | exact Below.alloc hHeld hHeld.size _ | exact (Below.refl _ _).drew | exact Below.drew (Below.refl _ _) | exact Below_drewN _ _ _ | exact Below.refl _ _ | (trace_state; fail)
    refine wpAnyH_take (i := 0) (oi := { dst := some 49, op := Op.move (Operand.tmp 5), type := 27, pos := _, after := #[], guard := none }) (v := ?_) rfl (by kernel_rfl) (by kernel_rfl) (by kernel_rfl) (fun _ _ _ h => h) (Or.inl ⟨by rfl, ?_⟩) (by assumption) ?_
    rotate_left
    · intro wt hSw; (try dsimp only at hSw); have y2 := cellB hSw y2 k2; have y3 := cellB hSw y3 k3; have y4 := cellB hSw y4 k4; have y5 := cellB hSw y5 k5; first | (go_simp; done) | (go_simp; with_reducible rfl) | (trace_state; fail)
    try simp only [Act.put, List.setIfInBounds_toArray, List.set_cons_zero, List.set_cons_succ]
    refine wpAnyH_take (i := 1) (oi := { dst := some 50, op := Op.move (Operand.tmp 8), type := 3, pos := _, after := #[], guard := none }) (v := ?_) rfl (by kernel_rfl) (by kernel_rfl) (by kernel_rfl) (fun _ _ _ h => h) (Or.inl ⟨by rfl, ?_⟩) (by assumption) ?_
    rotate_left
    · intro wt hSw; (try dsimp only at hSw); have y2 := cellB hSw y2 k2; have y3 := cellB hSw y3 k3; have y4 := cellB hSw y4 k4; have y5 := cellB hSw y5 k5; first | (go_simp; done) | (go_simp; with_reducible rfl) | (trace_state; fail)
    try simp only [Act.put, List.setIfInBounds_toArray, List.set_cons_zero, List.set_cons_succ]
    refine wpAnyH_take (i := 2) (oi := { dst := some 51, op := Op.indexAddr 27 (Operand.tmp 49) (Operand.tmp 50), type := 0, pos := _, after := #[{ on := 0, ground := Ground.data }, { on := 1, ground := Ground.data }], guard := none }) (v := ?_) rfl (by kernel_rfl) (by kernel_rfl) (by kernel_rfl) (fun _ _ _ h => h) (Or.inl ⟨by rfl, ?_⟩) (by assumption) ?_
    rotate_left
    · intro wt hSw; (try dsimp only at hSw); have y2 := cellB hSw y2 k2; have y3 := cellB hSw y3 k3; have y4 := cellB hSw y4 k4; have y5 := cellB hSw y5 k5; first | (go_simp; done) | (go_simp; with_reducible rfl) | (trace_state; fail)
    try simp only [Act.put, List.setIfInBounds_toArray, List.set_cons_zero, List.set_cons_succ]
    refine wpAnyH_take (i := 3) (oi := { dst := some 52, op := Op.load 4 (Operand.tmp 51), type := 4, pos := _, after := #[{ on := 2, ground := Ground.data }], guard := none }) (v := ?_) rfl (by kernel_rfl) (by kernel_rfl) (by kernel_rfl) (fun _ _ _ h => h) (Or.inl ⟨by rfl, ?_⟩) (by assumption) ?_
    rotate_left
    · intro wt hSw; (try dsimp only at hSw); have y2 := cellB hSw y2 k2; have y3 := cellB hSw y3 k3; have y4 := cellB hSw y4 k4; have y5 := cellB hSw y5 k5; first | (go_simp; done) | (go_simp; with_reducible rfl) | (trace_state; fail)
    try simp only [Act.put, List.setIfInBounds_toArray, List.set_cons_zero, List.set_cons_succ]
    refine wpAnyH_take (i := 4) (oi := { dst := some 53, op := Op.move (Operand.tmp 4), type := 25, pos := _, after := #[], guard := none }) (v := ?_) rfl (by kernel_rfl) (by kernel_rfl) (by kernel_rfl) (fun _ _ _ h => h) (Or.inl ⟨by rfl, ?_⟩) (by assumption) ?_
    rotate_left
    · intro wt hSw; (try dsimp only at hSw); have y2 := cellB hSw y2 k2; have y3 := cellB hSw y3 k3; have y4 := cellB hSw y4 k4; have y5 := cellB hSw y5 k5; first | (go_simp; done) | (go_simp; with_reducible rfl) | (trace_state; fail)
    try simp only [Act.put, List.setIfInBounds_toArray, List.set_cons_zero, List.set_cons_succ]
    refine wpAnyH_take (i := 5) (oi := { dst := some 54, op := Op.move (Operand.tmp 8), type := 3, pos := _, after := #[], guard := none }) (v := ?_) rfl (by kernel_rfl) (by kernel_rfl) (by kernel_rfl) (fun _ _ _ h => h) (Or.inl ⟨by rfl, ?_⟩) (by assumption) ?_
    rotate_left
    · intro wt hSw; (try dsimp only at hSw); have y2 := cellB hSw y2 k2; have y3 := cellB hSw y3 k3; have y4 := cellB hSw y4 k4; have y5 := cellB hSw y5 k5; first | (go_simp; done) | (go_simp; with_reducible rfl) | (trace_state; fail)
    try simp only [Act.put, List.setIfInBounds_toArray, List.set_cons_zero, List.set_cons_succ]
    refine wpAnyH_take (i := 6) (oi := { dst := some 55, op := Op.indexAddr 25 (Operand.tmp 53) (Operand.tmp 54), type := 0, pos := _, after := #[{ on := 4, ground := Ground.data }, { on := 5, ground := Ground.data }], guard := none }) (v := ?_) rfl (by kernel_rfl) (by kernel_rfl) (by kernel_rfl) (fun _ _ _ h => h) (Or.inl ⟨by rfl, ?_⟩) (by assumption) ?_
    rotate_left
    · intro wt hSw; (try dsimp only at hSw); have y2 := cellB hSw y2 k2; have y3 := cellB hSw y3 k3; have y4 := cellB hSw y4 k4; have y5 := cellB hSw y5 k5; first | (go_simp; done) | (go_simp; with_reducible rfl) | (trace_state; fail)
    try simp only [Act.put, List.setIfInBounds_toArray, List.set_cons_zero, List.set_cons_succ]
    refine wpAnyH_take (i := 7) (oi := { dst := some 56, op := Op.load 3 (Operand.tmp 55), type := 3, pos := _, after := #[{ on := 6, ground := Ground.data }], guard := none }) (v := ?_) rfl (by kernel_rfl) (by kernel_rfl) (by kernel_rfl) (fun _ _ _ h => h) (Or.inl ⟨by rfl, ?_⟩) (by assumption) ?_
    rotate_left
    · intro wt hSw; (try dsimp only at hSw); have y2 := cellB hSw y2 k2; have y3 := cellB hSw y3 k3; have y4 := cellB hSw y4 k4; have y5 := cellB hSw y5 k5; first | (go_simp; done) | (go_simp; with_reducible rfl) | (trace_state; fail)
    try simp only [Act.put, List.setIfInBounds_toArray, List.set_cons_zero, List.set_cons_succ]
    refine wpAnyH_take (i := 8) (oi := { dst := some 57, op := Op.binOp BinOp.geq 3 (Operand.tmp 56) (Operand.const (Value.int IntKind.i64 0)) 3, type := 4, pos := _, after := #[{ on := 7, ground := Ground.data }], guard := none }) (v := ?_) rfl (by kernel_rfl) (by kernel_rfl) (by kernel_rfl) (fun _ _ _ h => h) (Or.inl ⟨by rfl, ?_⟩) (by assumption) ?_
    rotate_left
    · intro wt hSw; (try dsimp only at hSw); have y2 := cellB hSw y2 k2; have y3 := cellB hSw y3 k3; have y4 := cellB hSw y4 k4; have y5 := cellB hSw y5 k5; first | (go_simp; done) | (go_simp; with_reducible rfl) | (trace_state; fail)
    try simp only [Act.put, List.setIfInBounds_toArray, List.set_cons_zero, List.set_cons_succ]
    refine wpAnyH_take (i := 9) (oi := { dst := some 58, op := Op.binOp BinOp.neq 4 (Operand.tmp 52) (Operand.tmp 57) 4, type := 4, pos := _, after := #[{ on := 3, ground := Ground.data }, { on := 8, ground := Ground.data }], guard := none }) (v := ?_) rfl (by kernel_rfl) (by kernel_rfl) (by kernel_rfl) (fun _ _ _ h => h) (Or.inl ⟨by rfl, ?_⟩) (by assumption) ?_
    rotate_left
    · intro wt hSw; (try dsimp only at hSw); have y2 := cellB hSw y2 k2; have y3 := cellB hSw y3 k3; have y4 := cellB hSw y4 k4; have y5 := cellB hSw y5 k5; first | (go_simp; done) | (go_simp; with_reducible rfl) | (trace_state; fail)
    try simp only [Act.put, List.setIfInBounds_toArray, List.set_cons_zero, List.set_cons_succ]
    refine wpAnyH_take (i := 10) (oi := { dst := some 59, op := Op.move (Operand.tmp 58), type := 4, pos := _, after := #[{ on := 9, ground := Ground.data }], guard := none }) (v := ?_) rfl (by kernel_rfl) (by kernel_rfl) (by kernel_rfl) (fun _ _ _ h => h) (Or.inl ⟨by rfl, ?_⟩) (by assumption) ?_
    rotate_left
    · intro wt hSw; (try dsimp only at hSw); have y2 := cellB hSw y2 k2; have y3 := cellB hSw y3 k3; have y4 := cellB hSw y4 k4; have y5 := cellB hSw y5 k5; first | (go_simp; done) | (go_simp; with_reducible rfl) | (trace_state; fail)
    try simp only [Act.put, List.setIfInBounds_toArray, List.set_cons_zero, List.set_cons_succ]
    refine wpAnyH_take (i := 11) (oi := { dst := some 60, op := Op.move (Operand.tmp 6), type := 22, pos := _, after := #[{ on := 10, ground := Ground.guard }], guard := some (10, false) }) (v := ?_) rfl (by kernel_rfl) (by kernel_rfl) (by kernel_rfl) (fun _ _ _ h => h) (Or.inl ⟨by rfl, ?_⟩) (by assumption) ?_
    rotate_left
    · intro wt hSw; (try dsimp only at hSw); have y2 := cellB hSw y2 k2; have y3 := cellB hSw y3 k3; have y4 := cellB hSw y4 k4; have y5 := cellB hSw y5 k5; first | (go_simp; done) | (go_simp; with_reducible rfl) | (trace_state; fail)
    try simp only [Act.put, List.setIfInBounds_toArray, List.set_cons_zero, List.set_cons_succ]
    refine wpAnyH_take (i := 12) (oi := { dst := some 61, op := Op.indexAddr 22 (Operand.tmp 60) (Operand.const (Value.int IntKind.i64 0)), type := 0, pos := _, after := #[{ on := 11, ground := Ground.data }, { on := 10, ground := Ground.guard }], guard := some (10, false) }) (v := ?_) rfl (by kernel_rfl) (by kernel_rfl) (by kernel_rfl) (fun _ _ _ h => h) (Or.inl ⟨by rfl, ?_⟩) (by assumption) ?_
    rotate_left
    · intro wt hSw; (try dsimp only at hSw); have y2 := cellB hSw y2 k2; have y3 := cellB hSw y3 k3; have y4 := cellB hSw y4 k4; have y5 := cellB hSw y5 k5; first | (go_simp; done) | (go_simp; with_reducible rfl) | (trace_state; fail)
    try simp only [Act.put, List.setIfInBounds_toArray, List.set_cons_zero, List.set_cons_succ]
    refine wpAnyH_take (i := 13) (oi := { dst := some 62, op := Op.load 25 (Operand.tmp 61), type := 25, pos := _, after := #[{ on := 12, ground := Ground.data }, { on := 10, ground := Ground.guard }], guard := some (10, false) }) (v := ?_) rfl (by kernel_rfl) (by kernel_rfl) (by kernel_rfl) (fun _ _ _ h => h) (Or.inl ⟨by rfl, ?_⟩) (by assumption) ?_
    rotate_left
    · intro wt hSw; (try dsimp only at hSw); have y2 := cellB hSw y2 k2; have y3 := cellB hSw y3 k3; have y4 := cellB hSw y4 k4; have y5 := cellB hSw y5 k5; first | (go_simp; done) | (go_simp; with_reducible rfl) | (trace_state; fail)
    try simp only [Act.put, List.setIfInBounds_toArray, List.set_cons_zero, List.set_cons_succ]
    refine wpAnyH_take (i := 14) (oi := { dst := some 63, op := Op.move (Operand.tmp 8), type := 3, pos := _, after := #[{ on := 10, ground := Ground.guard }], guard := some (10, false) }) (v := ?_) rfl (by kernel_rfl) (by kernel_rfl) (by kernel_rfl) (fun _ _ _ h => h) (Or.inl ⟨by rfl, ?_⟩) (by assumption) ?_
    rotate_left
    · intro wt hSw; (try dsimp only at hSw); have y2 := cellB hSw y2 k2; have y3 := cellB hSw y3 k3; have y4 := cellB hSw y4 k4; have y5 := cellB hSw y5 k5; first | (go_simp; done) | (go_simp; with_reducible rfl) | (trace_state; fail)
    try simp only [Act.put, List.setIfInBounds_toArray, List.set_cons_zero, List.set_cons_succ]
    refine wpAnyH_take (i := 15) (oi := { dst := some 64, op := Op.binOp BinOp.add 3 (Operand.tmp 63) (Operand.const (Value.int IntKind.i64 1)) 3, type := 3, pos := _, after := #[{ on := 14, ground := Ground.data }, { on := 10, ground := Ground.guard }], guard := some (10, false) }) (v := ?_) rfl (by kernel_rfl) (by kernel_rfl) (by kernel_rfl) (fun _ _ _ h => h) (Or.inl ⟨by rfl, ?_⟩) (by assumption) ?_
    rotate_left
    · intro wt hSw; (try dsimp only at hSw); have y2 := cellB hSw y2 k2; have y3 := cellB hSw y3 k3; have y4 := cellB hSw y4 k4; have y5 := cellB hSw y5 k5; first | (go_simp; done) | (go_simp; with_reducible rfl) | (trace_state; fail)
    try simp only [Act.put, List.setIfInBounds_toArray, List.set_cons_zero, List.set_cons_succ]
    refine wpAnyH_take (i := 17) (oi := { dst := some 66, op := Op.move (Operand.tmp 7), type := 22, pos := _, after := #[{ on := 10, ground := Ground.guard }], guard := some (10, false) }) (v := ?_) rfl (by kernel_rfl) (by kernel_rfl) (by kernel_rfl) (fun _ _ _ h => h) (Or.inl ⟨by rfl, ?_⟩) (by assumption) ?_
    rotate_left
    · intro wt hSw; (try dsimp only at hSw); have y2 := cellB hSw y2 k2; have y3 := cellB hSw y3 k3; have y4 := cellB hSw y4 k4; have y5 := cellB hSw y5 k5; first | (go_simp; done) | (go_simp; with_reducible rfl) | (trace_state; fail)
    try simp only [Act.put, List.setIfInBounds_toArray, List.set_cons_zero, List.set_cons_succ]
    refine wpAnyH_take (i := 18) (oi := { dst := some 67, op := Op.move (Operand.tmp 8), type := 3, pos := _, after := #[{ on := 10, ground := Ground.guard }], guard := some (10, false) }) (v := ?_) rfl (by kernel_rfl) (by kernel_rfl) (by kernel_rfl) (fun _ _ _ h => h) (Or.inl ⟨by rfl, ?_⟩) (by assumption) ?_
    rotate_left
    · intro wt hSw; (try dsimp only at hSw); have y2 := cellB hSw y2 k2; have y3 := cellB hSw y3 k3; have y4 := cellB hSw y4 k4; have y5 := cellB hSw y5 k5; first | (go_simp; done) | (go_simp; with_reducible rfl) | (trace_state; fail)
    try simp only [Act.put, List.setIfInBounds_toArray, List.set_cons_zero, List.set_cons_succ]
    refine wpAnyH_take (i := 19) (oi := { dst := some 68, op := Op.indexAddr 22 (Operand.tmp 66) (Operand.tmp 67), type := 0, pos := _, after := #[{ on := 17, ground := Ground.data }, { on := 18, ground := Ground.data }, { on := 10, ground := Ground.guard }], guard := some (10, false) }) (v := ?_) rfl (by kernel_rfl) (by kernel_rfl) (by kernel_rfl) (fun _ _ _ h => h) (Or.inl ⟨by rfl, ?_⟩) (by assumption) ?_
    rotate_left
    · intro wt hSw; (try dsimp only at hSw); have y2 := cellB hSw y2 k2; have y3 := cellB hSw y3 k3; have y4 := cellB hSw y4 k4; have y5 := cellB hSw y5 k5; first | (go_simp; done) | (go_simp; with_reducible rfl) | (trace_state; fail)
    try simp only [Act.put, List.setIfInBounds_toArray, List.set_cons_zero, List.set_cons_succ]
    refine wpAnyH_take (i := 20) (oi := { dst := some 69, op := Op.load 25 (Operand.tmp 68), type := 25, pos := _, after := #[{ on := 19, ground := Ground.data }, { on := 10, ground := Ground.guard }], guard := some (10, false) }) (v := ?_) rfl (by kernel_rfl) (by kernel_rfl) (by kernel_rfl) (fun _ _ _ h => h) (Or.inl ⟨by rfl, ?_⟩) (by assumption) ?_
    rotate_left
    · intro wt hSw; (try dsimp only at hSw); have y2 := cellB hSw y2 k2; have y3 := cellB hSw y3 k3; have y4 := cellB hSw y4 k4; have y5 := cellB hSw y5 k5; first | (go_simp; done) | (go_simp; with_reducible rfl) | (trace_state; fail)
    try simp only [Act.put, List.setIfInBounds_toArray, List.set_cons_zero, List.set_cons_succ]
    refine wpAnyH_take (i := 21) (oi := { dst := some 70, op := Op.move (Operand.tmp 0), type := 22, pos := _, after := #[{ on := 10, ground := Ground.guard }], guard := some (10, false) }) (v := ?_) rfl (by kernel_rfl) (by kernel_rfl) (by kernel_rfl) (fun _ _ _ h => h) (Or.inl ⟨by rfl, ?_⟩) (by assumption) ?_
    rotate_left
    · intro wt hSw; (try dsimp only at hSw); have y2 := cellB hSw y2 k2; have y3 := cellB hSw y3 k3; have y4 := cellB hSw y4 k4; have y5 := cellB hSw y5 k5; first | (go_simp; done) | (go_simp; with_reducible rfl) | (trace_state; fail)
    try simp only [Act.put, List.setIfInBounds_toArray, List.set_cons_zero, List.set_cons_succ]
    refine wpAnyH_take (i := 22) (oi := { dst := some 71, op := Op.call { callee := Callee.builtin Builtin.len, args := #[Operand.tmp 70], argTypes := #[22] }, type := 3, pos := _, after := #[{ on := 21, ground := Ground.data }, { on := 10, ground := Ground.guard }], guard := some (10, false) }) (v := ?_) rfl (by kernel_rfl) (by kernel_rfl) (by kernel_rfl) (fun _ _ _ h => h) (Or.inl ⟨by rfl, ?_⟩) (by assumption) ?_
    rotate_left
    · intro wt hSw; (try dsimp only at hSw); have y2 := cellB hSw y2 k2; have y3 := cellB hSw y3 k3; have y4 := cellB hSw y4 k4; have y5 := cellB hSw y5 k5; first | (go_simp; done) | (go_simp; with_reducible rfl) | (trace_state; fail)
    try simp only [Act.put, List.setIfInBounds_toArray, List.set_cons_zero, List.set_cons_succ]
    refine wpAnyH_ready (rs := [16]) (by kernel_rfl) (by simp) ?_
    refine AllReadyH.cons (o := { dst := some 65, op := Op.call { callee := Callee.value (Operand.func 13), args := #[Operand.tmp 62, Operand.tmp 64], argTypes := #[25, 3] }, type := 4, pos := _, after := #[{ on := 13, ground := Ground.data }, { on := 15, ground := Ground.data }, { on := 10, ground := Ground.chain }, { on := 10, ground := Ground.guard }], guard := some (10, false) }) rfl (fun K hK => ?_) AllReadyH.nil
    go_simp
    refine (HH1.out _ hHeld).mono ?_; rintro e v1 ⟨rfl, rfl⟩
    go_wp2_with fail
    refine hK.out _ _ ?_ (fun hHeld => ?_)
    · (try dsimp only); first | assumption | exact Below.alloc hHeld hHeld.size _ | exact (Below.refl _ _).drew | exact Below.drew (Below.refl _ _) | exact Below_drewN _ _ _ | exact Below.refl _ _ | (trace_state; fail)
    clear hK K
    try simp only [Act.put, List.setIfInBounds_toArray, List.set_cons_zero, List.set_cons_succ]
    refine wpAnyH_ready (rs := [23]) (by kernel_rfl) (by simp) ?_
    refine AllReadyH.cons (o := { dst := some 72, op := Op.call { callee := Callee.value (Operand.func 13), args := #[Operand.tmp 69, Operand.tmp 71], argTypes := #[25, 3] }, type := 4, pos := _, after := #[{ on := 20, ground := Ground.data }, { on := 22, ground := Ground.data }, { on := 16, ground := Ground.chain }, { on := 10, ground := Ground.guard }], guard := some (10, false) }) rfl (fun K hK => ?_) AllReadyH.nil
    go_simp
    refine (HH2.out _ hHeld).mono ?_; rintro e v1 ⟨rfl, rfl⟩
    go_wp2_with fail
    refine hK.out _ _ ?_ (fun hHeld => ?_)
    · (try dsimp only); first | assumption | exact Below.alloc hHeld hHeld.size _ | exact (Below.refl _ _).drew | exact Below.drew (Below.refl _ _) | exact Below_drewN _ _ _ | exact Below.refl _ _ | (trace_state; fail)
    clear hK K
    try simp only [Act.put, List.setIfInBounds_toArray, List.set_cons_zero, List.set_cons_succ]
    refine wpAnyH_take (i := 24) (oi := { dst := some 73, op := Op.binOp BinOp.neq 4 (Operand.tmp 65) (Operand.tmp 72) 4, type := 4, pos := _, after := #[{ on := 16, ground := Ground.data }, { on := 23, ground := Ground.data }, { on := 10, ground := Ground.guard }], guard := some (10, false) }) (v := ?_) rfl (by kernel_rfl) (by kernel_rfl) (by kernel_rfl) (fun _ _ _ h => h) (Or.inl ⟨by rfl, ?_⟩) (by assumption) ?_
    rotate_left
    · intro wt hSw; (try dsimp only at hSw); have y2 := cellB hSw y2 k2; have y3 := cellB hSw y3 k3; have y4 := cellB hSw y4 k4; have y5 := cellB hSw y5 k5; first | (go_simp; done) | (go_simp; with_reducible rfl) | (trace_state; fail)
    try simp only [Act.put, List.setIfInBounds_toArray, List.set_cons_zero, List.set_cons_succ]
    refine wpAnyH_take (i := 25) (oi := { dst := some 74, op := Op.pick (Operand.tmp 59) (Operand.const (Value.bool true)) (Operand.tmp 73), type := 4, pos := _, after := #[{ on := 10, ground := Ground.data }, { on := 24, ground := Ground.data }], guard := none }) (v := ?_) rfl (by kernel_rfl) (by kernel_rfl) (by kernel_rfl) (fun _ _ _ h => h) (Or.inl ⟨by rfl, ?_⟩) (by assumption) ?_
    rotate_left
    · intro wt hSw; (try dsimp only at hSw); have y2 := cellB hSw y2 k2; have y3 := cellB hSw y3 k3; have y4 := cellB hSw y4 k4; have y5 := cellB hSw y5 k5; first | (go_simp; done) | (go_simp; with_reducible rfl) | (trace_state; fail)
    try simp only [Act.put, List.setIfInBounds_toArray, List.set_cons_zero, List.set_cons_succ]
    refine wpAnyH_done (by kernel_rfl) ?_ _
    have HBi := Lib.hid (hB.out.trans (hHeld.mono hB.out.size))
    clear hHeld hi5 hi5' hp5 hB
    clear HH1 HH2 y2 y3 y4 y5
    go_wp2_with fail
    go_loopw [9] (fun jj wr2 => ∃ j : Nat, jj = .int .i64 j ∧ j ≤ n ∧ Hid (Below S.heap.size S wr2)) (fun jj _ => n - (intOf jj).toNat)
    case atStart => exact ⟨0, rfl, Nat.zero_le _, HBi⟩
    case round =>
      obtain ⟨j, rfl, hj, hB⟩ := hrel
      by_cases hlt : j < n
      case neg =>
        obtain rfl : n = j := by omega
        have q3 : ((n : Int) < (n : Int)) = False := eq_false (by omega)
        have q3' : (n < n) = False := eq_false (by omega)
        clear hlt hj
        go_wp2_with fail
        go_roundw
        case rel => exact ⟨i + 1, by simp, by have := HI'.out; omega, hB⟩
        case measure => have := HI'.out; first | (simp [intOf]; done) | (simp [intOf]; omega)
      have q3 : ((j : Int) < (n : Int)) = True := eq_true (by omega)
      have q3' : (j < n) = True := eq_true hlt
      have hj62 : j ≤ 9223372036854775806 := by omega
      have HJ' := Lib.hid hlt
      obtain ⟨b6, o6, s6, d6, h6, k6, m6, e6, y6, r6⟩ := row_at2 (HR4.out.below gridR_stable hB.out) (k := j + 1) (by rw [HLs.out.2.2.1]; omega)
      cases h6
      obtain ⟨b7, o7, s7, d7, rfl, k7, m7, e7, y7, r7⟩ := row_at2 (HV6.out.below gridR_stable hB.out) (k := i) (by rw [HN.out]; exact HI'.out)
      have HH1 := Lib.hid (fun W (h : Below wr.heap.size wr W) => ref30_Has _ (rowN (turnF next) (j + 1)) ((i : Int) + 1) W (r6.below intR_stable h))
      have HH2 := Lib.hid (fun W (h : Below wr.heap.size wr W) => ref30_Has _ (rowN next i) (j : Int) W (r7.below intR_stable h))
      rw [HE3.out i j HI'.out hlt] at HH1
      have hj5 : (j < n) = True := eq_true (by omega)
      have hj5' : ((j : Int) + 1 < (n : Int) + 1) = True := eq_true (by omega)
      have hp6 : (0 ≤ (j : Int) + 1) = True := eq_true (by omega)
      have hw2 : IntKind.i64.wrap ((j : Int) + 1) = (j : Int) + 1 := IntWalk.i64_in _ (by have := HLs.out.1; omega)
      generalize decide ((j : Int) ∈ rowN next i) = lb2 at *
      generalize (rowN (turnF next) (j + 1)).length = l6 at *
      generalize (rowN next i).length = l7 at *
      clear hlt hj r6 r7
      go_wp2_with fail
      refine wp_region_held_drew (S := (fun w' => Below wr.heap.size wr w')) (by kernel_rfl) ?_ (fun hHeld => ?_)
      · (try dsimp only); first | assumption | exact Below.alloc hHeld hHeld.size _ | exact (Below.refl _ _).drew | exact Below.drew (Below.refl _ _) | exact Below_drewN _ _ _ | exact Below.refl _ _ | (trace_state; fail)
      refine wpAnyH_take (i := 0) (oi := { dst := some 81, op := Op.move (Operand.tmp 6), type := 22, pos := _, after := #[], guard := none }) (v := ?_) rfl (by kernel_rfl) (by kernel_rfl) (by kernel_rfl) (fun _ _ _ h => h) (Or.inl ⟨by rfl, ?_⟩) (by assumption) ?_
      rotate_left
      · intro wt hSw; (try dsimp only at hSw); have y6 := cellB hSw y6 k6; have y7 := cellB hSw y7 k7; first | (go_simp; done) | (go_simp; with_reducible rfl) | (trace_state; fail)
      try simp only [Act.put, List.setIfInBounds_toArray, List.set_cons_zero, List.set_cons_succ]
      refine wpAnyH_take (i := 1) (oi := { dst := some 82, op := Op.move (Operand.tmp 9), type := 3, pos := _, after := #[], guard := none }) (v := ?_) rfl (by kernel_rfl) (by kernel_rfl) (by kernel_rfl) (fun _ _ _ h => h) (Or.inl ⟨by rfl, ?_⟩) (by assumption) ?_
      rotate_left
      · intro wt hSw; (try dsimp only at hSw); have y6 := cellB hSw y6 k6; have y7 := cellB hSw y7 k7; first | (go_simp; done) | (go_simp; with_reducible rfl) | (trace_state; fail)
      try simp only [Act.put, List.setIfInBounds_toArray, List.set_cons_zero, List.set_cons_succ]
      refine wpAnyH_take (i := 2) (oi := { dst := some 83, op := Op.binOp BinOp.add 3 (Operand.tmp 82) (Operand.const (Value.int IntKind.i64 1)) 3, type := 3, pos := _, after := #[{ on := 1, ground := Ground.data }], guard := none }) (v := ?_) rfl (by kernel_rfl) (by kernel_rfl) (by kernel_rfl) (fun _ _ _ h => h) (Or.inl ⟨by rfl, ?_⟩) (by assumption) ?_
      rotate_left
      · intro wt hSw; (try dsimp only at hSw); have y6 := cellB hSw y6 k6; have y7 := cellB hSw y7 k7; first | (go_simp; done) | (go_simp; with_reducible rfl) | (trace_state; fail)
      try simp only [Act.put, List.setIfInBounds_toArray, List.set_cons_zero, List.set_cons_succ]
      refine wpAnyH_take (i := 3) (oi := { dst := some 84, op := Op.indexAddr 22 (Operand.tmp 81) (Operand.tmp 83), type := 0, pos := _, after := #[{ on := 0, ground := Ground.data }, { on := 2, ground := Ground.data }], guard := none }) (v := ?_) rfl (by kernel_rfl) (by kernel_rfl) (by kernel_rfl) (fun _ _ _ h => h) (Or.inl ⟨by rfl, ?_⟩) (by assumption) ?_
      rotate_left
      · intro wt hSw; (try dsimp only at hSw); have y6 := cellB hSw y6 k6; have y7 := cellB hSw y7 k7; first | (go_simp; done) | (go_simp; with_reducible rfl) | (trace_state; fail)
      try simp only [Act.put, List.setIfInBounds_toArray, List.set_cons_zero, List.set_cons_succ]
      refine wpAnyH_take (i := 4) (oi := { dst := some 85, op := Op.load 25 (Operand.tmp 84), type := 25, pos := _, after := #[{ on := 3, ground := Ground.data }], guard := none }) (v := ?_) rfl (by kernel_rfl) (by kernel_rfl) (by kernel_rfl) (fun _ _ _ h => h) (Or.inl ⟨by rfl, ?_⟩) (by assumption) ?_
      rotate_left
      · intro wt hSw; (try dsimp only at hSw); have y6 := cellB hSw y6 k6; have y7 := cellB hSw y7 k7; first | (go_simp; done) | (go_simp; with_reducible rfl) | (trace_state; fail)
      try simp only [Act.put, List.setIfInBounds_toArray, List.set_cons_zero, List.set_cons_succ]
      refine wpAnyH_take (i := 5) (oi := { dst := some 86, op := Op.move (Operand.tmp 8), type := 3, pos := _, after := #[], guard := none }) (v := ?_) rfl (by kernel_rfl) (by kernel_rfl) (by kernel_rfl) (fun _ _ _ h => h) (Or.inl ⟨by rfl, ?_⟩) (by assumption) ?_
      rotate_left
      · intro wt hSw; (try dsimp only at hSw); have y6 := cellB hSw y6 k6; have y7 := cellB hSw y7 k7; first | (go_simp; done) | (go_simp; with_reducible rfl) | (trace_state; fail)
      try simp only [Act.put, List.setIfInBounds_toArray, List.set_cons_zero, List.set_cons_succ]
      refine wpAnyH_take (i := 6) (oi := { dst := some 87, op := Op.binOp BinOp.add 3 (Operand.tmp 86) (Operand.const (Value.int IntKind.i64 1)) 3, type := 3, pos := _, after := #[{ on := 5, ground := Ground.data }], guard := none }) (v := ?_) rfl (by kernel_rfl) (by kernel_rfl) (by kernel_rfl) (fun _ _ _ h => h) (Or.inl ⟨by rfl, ?_⟩) (by assumption) ?_
      rotate_left
      · intro wt hSw; (try dsimp only at hSw); have y6 := cellB hSw y6 k6; have y7 := cellB hSw y7 k7; first | (go_simp; done) | (go_simp; with_reducible rfl) | (trace_state; fail)
      try simp only [Act.put, List.setIfInBounds_toArray, List.set_cons_zero, List.set_cons_succ]
      refine wpAnyH_take (i := 8) (oi := { dst := some 89, op := Op.move (Operand.tmp 0), type := 22, pos := _, after := #[], guard := none }) (v := ?_) rfl (by kernel_rfl) (by kernel_rfl) (by kernel_rfl) (fun _ _ _ h => h) (Or.inl ⟨by rfl, ?_⟩) (by assumption) ?_
      rotate_left
      · intro wt hSw; (try dsimp only at hSw); have y6 := cellB hSw y6 k6; have y7 := cellB hSw y7 k7; first | (go_simp; done) | (go_simp; with_reducible rfl) | (trace_state; fail)
      try simp only [Act.put, List.setIfInBounds_toArray, List.set_cons_zero, List.set_cons_succ]
      refine wpAnyH_take (i := 9) (oi := { dst := some 90, op := Op.move (Operand.tmp 8), type := 3, pos := _, after := #[], guard := none }) (v := ?_) rfl (by kernel_rfl) (by kernel_rfl) (by kernel_rfl) (fun _ _ _ h => h) (Or.inl ⟨by rfl, ?_⟩) (by assumption) ?_
      rotate_left
      · intro wt hSw; (try dsimp only at hSw); have y6 := cellB hSw y6 k6; have y7 := cellB hSw y7 k7; first | (go_simp; done) | (go_simp; with_reducible rfl) | (trace_state; fail)
      try simp only [Act.put, List.setIfInBounds_toArray, List.set_cons_zero, List.set_cons_succ]
      refine wpAnyH_take (i := 10) (oi := { dst := some 91, op := Op.indexAddr 22 (Operand.tmp 89) (Operand.tmp 90), type := 0, pos := _, after := #[{ on := 8, ground := Ground.data }, { on := 9, ground := Ground.data }], guard := none }) (v := ?_) rfl (by kernel_rfl) (by kernel_rfl) (by kernel_rfl) (fun _ _ _ h => h) (Or.inl ⟨by rfl, ?_⟩) (by assumption) ?_
      rotate_left
      · intro wt hSw; (try dsimp only at hSw); have y6 := cellB hSw y6 k6; have y7 := cellB hSw y7 k7; first | (go_simp; done) | (go_simp; with_reducible rfl) | (trace_state; fail)
      try simp only [Act.put, List.setIfInBounds_toArray, List.set_cons_zero, List.set_cons_succ]
      refine wpAnyH_take (i := 11) (oi := { dst := some 92, op := Op.load 25 (Operand.tmp 91), type := 25, pos := _, after := #[{ on := 10, ground := Ground.data }], guard := none }) (v := ?_) rfl (by kernel_rfl) (by kernel_rfl) (by kernel_rfl) (fun _ _ _ h => h) (Or.inl ⟨by rfl, ?_⟩) (by assumption) ?_
      rotate_left
      · intro wt hSw; (try dsimp only at hSw); have y6 := cellB hSw y6 k6; have y7 := cellB hSw y7 k7; first | (go_simp; done) | (go_simp; with_reducible rfl) | (trace_state; fail)
      try simp only [Act.put, List.setIfInBounds_toArray, List.set_cons_zero, List.set_cons_succ]
      refine wpAnyH_take (i := 12) (oi := { dst := some 93, op := Op.move (Operand.tmp 9), type := 3, pos := _, after := #[], guard := none }) (v := ?_) rfl (by kernel_rfl) (by kernel_rfl) (by kernel_rfl) (fun _ _ _ h => h) (Or.inl ⟨by rfl, ?_⟩) (by assumption) ?_
      rotate_left
      · intro wt hSw; (try dsimp only at hSw); have y6 := cellB hSw y6 k6; have y7 := cellB hSw y7 k7; first | (go_simp; done) | (go_simp; with_reducible rfl) | (trace_state; fail)
      try simp only [Act.put, List.setIfInBounds_toArray, List.set_cons_zero, List.set_cons_succ]
      refine wpAnyH_ready (rs := [7]) (by kernel_rfl) (by simp) ?_
      refine AllReadyH.cons (o := { dst := some 88, op := Op.call { callee := Callee.value (Operand.func 13), args := #[Operand.tmp 85, Operand.tmp 87], argTypes := #[25, 3] }, type := 4, pos := _, after := #[{ on := 4, ground := Ground.data }, { on := 6, ground := Ground.data }], guard := none }) rfl (fun K hK => ?_) AllReadyH.nil
      go_simp
      refine (HH1.out _ hHeld).mono ?_; rintro e v1 ⟨rfl, rfl⟩
      go_wp2_with fail
      refine hK.out _ _ ?_ (fun hHeld => ?_)
      · (try dsimp only); first | assumption | exact Below.alloc hHeld hHeld.size _ | exact (Below.refl _ _).drew | exact Below.drew (Below.refl _ _) | exact Below_drewN _ _ _ | exact Below.refl _ _ | (trace_state; fail)
      clear hK K
      try simp only [Act.put, List.setIfInBounds_toArray, List.set_cons_zero, List.set_cons_succ]
      refine wpAnyH_ready (rs := [13]) (by kernel_rfl) (by simp) ?_
      refine AllReadyH.cons (o := { dst := some 94, op := Op.call { callee := Callee.value (Operand.func 13), args := #[Operand.tmp 92, Operand.tmp 93], argTypes := #[25, 3] }, type := 4, pos := _, after := #[{ on := 11, ground := Ground.data }, { on := 12, ground := Ground.data }, { on := 7, ground := Ground.chain }], guard := none }) rfl (fun K hK => ?_) AllReadyH.nil
      go_simp
      refine (HH2.out _ hHeld).mono ?_; rintro e v1 ⟨rfl, rfl⟩
      go_wp2_with fail
      refine hK.out _ _ ?_ (fun hHeld => ?_)
      · (try dsimp only); first | assumption | exact Below.alloc hHeld hHeld.size _ | exact (Below.refl _ _).drew | exact Below.drew (Below.refl _ _) | exact Below_drewN _ _ _ | exact Below.refl _ _ | (trace_state; fail)
      clear hK K
      try simp only [Act.put, List.setIfInBounds_toArray, List.set_cons_zero, List.set_cons_succ]
      refine wpAnyH_take (i := 14) (oi := { dst := some 95, op := Op.binOp BinOp.neq 4 (Operand.tmp 88) (Operand.tmp 94) 4, type := 4, pos := _, after := #[{ on := 7, ground := Ground.data }, { on := 13, ground := Ground.data }], guard := none }) (v := ?_) rfl (by kernel_rfl) (by kernel_rfl) (by kernel_rfl) (fun _ _ _ h => h) (Or.inl ⟨by rfl, ?_⟩) (by assumption) ?_
      rotate_left
      · intro wt hSw; (try dsimp only at hSw); have y6 := cellB hSw y6 k6; have y7 := cellB hSw y7 k7; first | (go_simp; done) | (go_simp; with_reducible rfl) | (trace_state; fail)
      try simp only [Act.put, List.setIfInBounds_toArray, List.set_cons_zero, List.set_cons_succ]
      refine wpAnyH_done (by kernel_rfl) ?_ _
      have HBj := Lib.hid (hB.out.trans (hHeld.mono hB.out.size))
      clear hHeld hj5 hj5' hB
      go_wp2_with fail
      go_roundw
      case rel => exact ⟨j + 1, by simp, by have := HJ'.out; omega, HBj⟩
      case measure => have := HJ'.out; first | (simp [intOf]; done) | (simp [intOf]; omega)
end Go.Proofs.Ytkjafkegkllbiaa
