/- Merged texts: LawUnitBack, LaidFlat, LawThirteenFacts, RepOpen, OpenUnit, Open. -/
import Derived.Test.YtpeogdbfhfkngaaDoorMg2
import Derived.Test.YtpeogdbfhfkngaaDoorLaid
import Derived.Test.YtpeogdbfhfkngaaDoorMg1
import Derived.Test.YtpeogdbfhfkngaaDoorBase
import Derived.Test.YtpeogdbfhfkngaaDoorMg0
import Derived.Deep.Slices
import Derived.ChangeSame
import Derived.Deep.Grids
/- Layer 15: the walk of UnitBack. -/
namespace Go.Proofs.YtpeogdbfhfkngaaDoor
open Go.RowKit
set_option linter.unusedSimpArgs false
set_option linter.unusedVariables false
theorem getU_small {B : List UInt8} {u : Un} {e : Int} (h : GetU B u e) (hB : B.length ≤ 2000) : u.params.length ≤ 1000 ∧ u.locals.length ≤ 4000 ∧ u.code.length ≤ 1000 := by
  by_cases he : e = 0
  · subst he
    obtain ⟨h1, h2⟩ := getU_forth h
    obtain ⟨⟨_, f1, f2, _⟩, _, _, _, g⟩ := fitU_is h1
    have hl := congrArg List.length h2
    have h3 : (encO u.code).length = 5 * u.code.length := by rw [encO_yes g, enc_len]
    have h4 : (encO u.code).length ≤ (putU u).length := by unfold putU; rw [List.length_append]; omega
    omega
  · have hz : u = unZ := by
      rcases h with ⟨_, _, h⟩ | ⟨_, _, _, _, _, hc⟩
      · exact h
      · rcases hc with ⟨_, _, h⟩ | ⟨_, _, _, h⟩ | ⟨_, _, h, _⟩
        · exact h
        · exact h
        · exact absurd h he
    rw [hz]; simp [unZ]
set_option maxHeartbeats 8000000 in
theorem unitBack_walk (a b c bv : Value) (x : Un) (B : List UInt8) (w : World) (h : UnAt w a b c x) (hbv : RowAt w bv B.length (byteV B)) (hT : STab w) :
    Calls Tryd.prog 5 #[.agg #[.string ⟨x.name.toArray⟩, a, .int .i64 x.result, b, c], bv] w fun e w' => e = .returned (.bool true) ∧ Below w.heap.size w w' := by
  have HA := Lib.hid (fun W (hb : Below w.heap.size w W) => law15_awake W (hT.below hb))
  have HF1 := Lib.hid (fun W (hb : Below w.heap.size w W) => law15_Few a b c x W (h.below hb))
  have HP1 := Lib.hid (fun (hf : fewU x = true) W (hb : Below w.heap.size w W) => unit_Put a b c x W (hT.below hb) (h.below hb) (by have := (of_decide_eq_true hf : x.name.length ≤ 300 ∧ x.params.length ≤ 20 ∧ x.locals.length ≤ 1100 ∧ x.code.length ≤ 300); omega))
  have HPL := Lib.hid (fun (hf : fewU x = true) => (show (putO x).length ≤ 5000 by
    have hq := (of_decide_eq_true hf : x.name.length ≤ 300 ∧ x.params.length ≤ 20 ∧ x.locals.length ≤ 1100 ∧ x.code.length ≤ 300)
    cases hft : fitU x
    · rw [putO_no hft]; simp
    · rw [putO_yes hft]
      unfold putU
      rw [encO_yes (fitU_is hft).2.2.2.2]
      simp only [List.length_append, List.length_cons, List.length_nil, List.length_map, putL_len, enc_len]
      omega))
  have HG1 := Lib.hid (fun (hl : (putO x).length ≤ 5000) v W (hW : Below w.heap.size w W) (hv : RowAt W v (putO x).length (byteV (putO x))) => unit_Get v (putO x) W (hT.below hW) hv hl)
  have HBK := Lib.hid (fun (hft : fitU x = true) u e (hg : GetU (putO x) u e) => getU_back hft (by rw [← putO_yes hft]; exact hg))
  have HSm := Lib.hid (fun (hf : fewU x = true) a' b' c' W (hb : Below w.heap.size w W) (g : UnAt W a' b' c' x) => ref15_Same a b c a' b' c' x x W (h.below hb) g (by have := (of_decide_eq_true hf : x.name.length ≤ 300 ∧ x.params.length ≤ 20 ∧ x.locals.length ≤ 1100 ∧ x.code.length ≤ 300); omega))
  rw [sameU_self] at HSm
  have HB := Lib.hid (fun W (hb : Below w.heap.size w W) => hbv.below hb)
  have HG2 := Lib.hid (fun (hl : B.length ≤ 2000) W (hb : Below w.heap.size w W) => unit_Get bv B W (hT.below hb) (hbv.below hb) (by omega))
  have HT := Lib.hid hT
  have hbl := hbv.le
  have hnn : (⟨x.name.toArray⟩ : ByteArray).size = x.name.length := by simp [ByteArray.size]
  obtain ⟨ba, bc, ebv⟩ := bytes_get hbv
  subst ebv
  obtain ⟨W0, hW0⟩ : ∃ W0, W0 = w.alloc (.cells #[.string ⟨x.name.toArray⟩, a, .int .i64 x.result, b, c] 25) := ⟨_, rfl⟩
  have k0 : Below w.heap.size w W0 := by rw [hW0]; exact (Below.refl _ _).alloc (Nat.le_refl _) _
  have z0 : w.heap.size < W0.heap.size := by rw [hW0]; simp
  have K0 := Lib.hid (show Boxed W0 w.heap.size [.string ⟨x.name.toArray⟩, a, .int .i64 x.result, b, c] by rw [hW0]; exact Boxed.new w _ _ (Below.refl _ _))
  have HW0 := Lib.hid hW0
  clear hW0 h hbv hT hnn
  have HBL0 := Lib.hid (show B.length = B.length from rfl)
  cases hf : fewU x
  · rw [hf] at HF1
    clear hf HP1 HG1 HBK HSm HPL
    generalize (⟨x.name.toArray⟩ : ByteArray) = nm at *
    generalize x.result = rs at *
    go_enter Tryd.func5, Tryd.ntmps5
    go_wp2_with fail
    refine (HF1.out _ (by rw [← HW0.out]; exact k0)).mono ?_; rintro e w1 ⟨rfl, hb1⟩
    rw [← HW0.out] at hb1
    have hB1 := k0.trans (hb1.mono k0.size)
    go_wp2_with fail
    refine (HA.out _ hB1).mono ?_; rintro e w2 ⟨rfl, hb2⟩
    have hB2 := hB1.trans (hb2.mono hB1.size)
    go_wp2_with fail
    go_ret
    exact ⟨rfl, hB2⟩
  rw [hf] at HF1
  have HP1 := Lib.hid (HP1.out hf)
  have HSm := Lib.hid (HSm.out hf)
  have HG1 := Lib.hid (HG1.out (HPL.out hf))
  clear hf HPL
  by_cases hl : B.length ≤ 2000
  case neg =>
    clear HG1 HBK HSm HG2 HP1
    generalize (⟨x.name.toArray⟩ : ByteArray) = nm at *
    generalize x.result = rs at *
    generalize B.length = bl at *
    have q0 : (2000 < (bl : Int)) = True := eq_true (by omega)
    clear hl
    go_enter Tryd.func5, Tryd.ntmps5
    go_wp2_with fail
    refine (HF1.out _ (by rw [← HW0.out]; exact k0)).mono ?_; rintro e w1 ⟨rfl, hb1⟩
    rw [← HW0.out] at hb1
    have hB1 := k0.trans (hb1.mono k0.size)
    go_wp2_with fail
    refine (HA.out _ hB1).mono ?_; rintro e w2 ⟨rfl, hb2⟩
    have hB2 := hB1.trans (hb2.mono hB1.size)
    go_wp2_with fail
    go_ret
    exact ⟨rfl, hB2⟩
  have HG2' := Lib.hid (HG2.out hl)
  have HBL := Lib.hid hl
  have q0 : (2000 < (B.length : Int)) = False := eq_false (by omega)
  clear HG2
  have HG2 := Lib.hid HG2'.out
  clear HG2' hl HBL0
  generalize hbln : B.length = bl at *
  have HBLN := Lib.hid hbln
  have HB := Lib.hid (fun W (hb : Below w.heap.size w W) => (show RowAt W (.slice ba bl bc) B.length (byteV B) by rw [HBLN.out]; exact HB.out W hb))
  have HBL := Lib.hid (show B.length ≤ 2000 by rw [hbln]; exact HBL.out)
  clear hbln HBLN
  cases hft : fitU x
  · rw [hft] at HP1
    clear hft HG1 HBK HSm
    generalize putO x = PO at *
    generalize (⟨x.name.toArray⟩ : ByteArray) = nm at *
    generalize x.result = rs at *
    go_enter Tryd.func5, Tryd.ntmps5
    go_wp2_with fail
    refine (HF1.out _ (by rw [← HW0.out]; exact k0)).mono ?_; rintro e w1 ⟨rfl, hb1⟩
    rw [← HW0.out] at hb1
    have hB1 := k0.trans (hb1.mono k0.size)
    have a0 := (K0.out.keep z0 hb1) 0 _ rfl
    have a1 := (K0.out.keep z0 hb1) 1 _ rfl
    have a2 := (K0.out.keep z0 hb1) 2 _ rfl
    have a3 := (K0.out.keep z0 hb1) 3 _ rfl
    have a4 := (K0.out.keep z0 hb1) 4 _ rfl
    go_wp2_with fail
    refine (HP1.out _ hB1).mono ?_; rintro e W5 ⟨r5, rfl, hr5, hb5⟩
    have hB5 := hB1.trans (hb5.mono hB1.size)
    clear hr5 hb5 a0 a1 a2 a3 a4 HP1 HF1 hb1 K0 HW0
    go_wp2_with fail
    have z5 : W5.heap.size = W5.heap.size := rfl
    refine (HG2.out _ hB5).mono ?_; rintro e w6 ⟨a6, b6, c6, u6, e6, rfl, hu6, hg6, hb6⟩
    have hB6 := hB5.trans (hb6.mono hB5.size)
    obtain ⟨s61, s62, ea⟩ := row_get hu6.ps
    obtain ⟨s63, s64, eb⟩ := row_get hu6.ls
    obtain ⟨s65, s66, ec⟩ := row_get hu6.cs
    subst ea eb ec
    have hsm := getU_small hg6 HBL.out
    have HP6 := Lib.hid (fun W (hW : Below w6.heap.size w6 W) => unit_Put _ _ _ u6 W (HT.out.below (hB6.trans (hW.mono hB6.size))) (hu6.below hW) hsm)
    have HU := Lib.hid (fun e0 : e6 = 0 => getU_forth (show GetU B u6 0 by rw [← e0]; exact hg6))
    have HPY := Lib.hid (fun q => putO_yes (x := u6) q)
    have HN6 := Lib.hid (show (⟨u6.name.toArray⟩ : ByteArray) = ⟨u6.name.toArray⟩ from rfl)
    clear hu6 hg6 hsm
    generalize (⟨u6.name.toArray⟩ : ByteArray) = nm6 at *
    generalize u6.result = rs6 at *
    generalize u6.params.length = k61 at *
    generalize u6.locals.length = k63 at *
    generalize u6.code.length = k65 at *
    obtain ⟨W7, hW7⟩ : ∃ W7, W7 = w6.alloc (.cells #[.string nm6, .slice s61 k61 s62, .int .i64 rs6, .slice s63 k63 s64, .slice s65 k65 s66] 25) := ⟨_, rfl⟩
    have hB7 : Below w6.heap.size w6 W7 := by rw [hW7]; exact (Below.refl _ _).alloc (Nat.le_refl _) _
    have HW7 := Lib.hid hW7
    clear hW7 HG2
    go_wp2_with fail
    rw [← HW7.out]
    refine (HP6.out _ hB7).mono ?_; rintro e w8 ⟨r8, rfl, hr8, hb8⟩
    have hB8 := (hB6.trans (hB7.mono hB6.size)).trans (hb8.mono (hB6.trans (hB7.mono hB6.size)).size)
    have HR8 := Lib.hid hr8
    have HRB := Lib.hid (HB.out _ hB8)
    have hc8 := conv_row (P := Tryd.prog) (src := 28) (dst := 9) (e := 5) Tryd.underlying28 Tryd.underlying5 Tryd.underlying9 HR8.out
    have hcb := conv_row (P := Tryd.prog) (src := 28) (dst := 9) (e := 5) Tryd.underlying28 Tryd.underlying5 Tryd.underlying9 HRB.out
    clear hr8 hb8
    by_cases h6 : e6 = 0
    · obtain ⟨hfu, hpu⟩ := HU.out h6
      have hpo := (HPY.out hfu).trans hpu
      rw [hpo] at hc8
      rw [hfu]
      subst h6
      clear HU HPY hfu hpu hpo HR8 HP6
      go_wp2_with fail
      refine (HA.out _ hB8).mono ?_; rintro e w9 ⟨rfl, hb9⟩
      go_wp2_with fail
      go_ret
      exact ⟨rfl, hB8.trans (hb9.mono hB8.size)⟩
    · have q6 : (e6 != 0) = true := by simpa using h6
      clear HU HPY HP6 h6
      go_wp2_with fail
      refine (HA.out _ hB8).mono ?_; rintro e w9 ⟨rfl, hb9⟩
      go_wp2_with fail
      go_ret
      exact ⟨rfl, hB8.trans (hb9.mono hB8.size)⟩
  · rw [hft] at HP1
    have HBK := Lib.hid (HBK.out hft)
    clear hft
    have hnn : Hid (∀ u : Un, u = x → (⟨u.name.toArray⟩ : ByteArray) = ⟨x.name.toArray⟩ ∧ u.result = x.result) := Lib.hid (fun u h => by rw [h]; exact ⟨rfl, rfl⟩)
    generalize putO x = PO at *
    generalize (⟨x.name.toArray⟩ : ByteArray) = nm at *
    generalize x.result = rs at *
    go_enter Tryd.func5, Tryd.ntmps5
    go_wp2_with fail
    refine (HF1.out _ (by rw [← HW0.out]; exact k0)).mono ?_; rintro e w1 ⟨rfl, hb1⟩
    rw [← HW0.out] at hb1
    have hB1 := k0.trans (hb1.mono k0.size)
    have a0 := (K0.out.keep z0 hb1) 0 _ rfl
    have a1 := (K0.out.keep z0 hb1) 1 _ rfl
    have a2 := (K0.out.keep z0 hb1) 2 _ rfl
    have a3 := (K0.out.keep z0 hb1) 3 _ rfl
    have a4 := (K0.out.keep z0 hb1) 4 _ rfl
    go_wp2_with fail
    refine (HP1.out _ hB1).mono ?_; rintro e w2 ⟨r5, rfl, hr5, hb2⟩
    have hB2 := hB1.trans (hb2.mono hB1.size)
    have hb2 := hb1.trans (hb2.mono hb1.size)
    have R5 := Lib.hid hr5
    clear hr5 a0 a1 a2 a3 a4 HP1 HF1 hb1 HW0
    go_wp2_with fail
    refine (HG1.out _ _ hB2 R5.out).mono ?_; rintro e w3 ⟨a3, b3, c3, u3, e3, rfl, hu3, hg3, hb3⟩
    obtain ⟨hux, he3⟩ := HBK.out u3 e3 hg3
    obtain ⟨y1, y2⟩ := hnn.out u3 hux
    rw [y1, y2, he3]
    have hu3 : UnAt w3 a3 b3 c3 x := by rw [← hux]; exact hu3
    have hB3 := hB2.trans (hb3.mono hB2.size)
    have hb3 := hb2.trans (hb3.mono hb2.size)
    have hu3c := hu3
    obtain ⟨s31, s32, ea⟩ := row_get hu3c.ps
    obtain ⟨s33, s34, eb⟩ := row_get hu3c.ls
    obtain ⟨s35, s36, ec⟩ := row_get hu3c.cs
    subst ea eb ec
    clear hu3c hux he3 y1 y2 hg3 HG1 HBK hnn R5
    have HU3 := Lib.hid hu3
    clear hu3
    generalize x.params.length = k31 at *
    generalize x.locals.length = k33 at *
    generalize x.code.length = k35 at *
    obtain ⟨W4, hW4⟩ : ∃ W4, W4 = w3.alloc (.cells #[.string nm, .slice s31 k31 s32, .int .i64 rs, .slice s33 k33 s34, .slice s35 k35 s36] 25) := ⟨_, rfl⟩
    have hD : Below w3.heap.size w3 W4 := by rw [hW4]; exact (Below.refl _ _).alloc (Nat.le_refl _) _
    have hB4 := hB3.trans (hD.mono hB3.size)
    have hb4 := hb3.trans (hD.mono hb3.size)
    have HU4 := Lib.hid (HU3.out.below hD)
    rw [hW4] at hb4
    have a0 := (K0.out.keep z0 hb4) 0 _ rfl
    have a1 := (K0.out.keep z0 hb4) 1 _ rfl
    have a2 := (K0.out.keep z0 hb4) 2 _ rfl
    have a3 := (K0.out.keep z0 hb4) 3 _ rfl
    have a4 := (K0.out.keep z0 hb4) 4 _ rfl
    have HW4 := Lib.hid hW4
    clear hW4 hD hb4 HU3 hb3 hb2
    go_wp2_with fail
    rw [← HW4.out]
    refine (HSm.out _ _ _ _ hB4 HU4.out).mono ?_; rintro e W5 ⟨rfl, hb5⟩
    have hB5 := hB4.trans (hb5.mono hB4.size)
    clear a0 a1 a2 a3 a4 HSm HU4 HW4 K0 hb5
    go_wp2_with fail
    have z5 : W5.heap.size = W5.heap.size := rfl
    refine (HG2.out _ hB5).mono ?_; rintro e w6 ⟨a6, b6, c6, u6, e6, rfl, hu6, hg6, hb6⟩
    have hB6 := hB5.trans (hb6.mono hB5.size)
    obtain ⟨s61, s62, ea⟩ := row_get hu6.ps
    obtain ⟨s63, s64, eb⟩ := row_get hu6.ls
    obtain ⟨s65, s66, ec⟩ := row_get hu6.cs
    subst ea eb ec
    have hsm := getU_small hg6 HBL.out
    have HP6 := Lib.hid (fun W (hW : Below w6.heap.size w6 W) => unit_Put _ _ _ u6 W (HT.out.below (hB6.trans (hW.mono hB6.size))) (hu6.below hW) hsm)
    have HU := Lib.hid (fun e0 : e6 = 0 => getU_forth (show GetU B u6 0 by rw [← e0]; exact hg6))
    have HPY := Lib.hid (fun q => putO_yes (x := u6) q)
    have HN6 := Lib.hid (show (⟨u6.name.toArray⟩ : ByteArray) = ⟨u6.name.toArray⟩ from rfl)
    clear hu6 hg6 hsm
    generalize (⟨u6.name.toArray⟩ : ByteArray) = nm6 at *
    generalize u6.result = rs6 at *
    generalize u6.params.length = k61 at *
    generalize u6.locals.length = k63 at *
    generalize u6.code.length = k65 at *
    obtain ⟨W7, hW7⟩ : ∃ W7, W7 = w6.alloc (.cells #[.string nm6, .slice s61 k61 s62, .int .i64 rs6, .slice s63 k63 s64, .slice s65 k65 s66] 25) := ⟨_, rfl⟩
    have hB7 : Below w6.heap.size w6 W7 := by rw [hW7]; exact (Below.refl _ _).alloc (Nat.le_refl _) _
    have HW7 := Lib.hid hW7
    clear hW7 HG2
    go_wp2_with fail
    rw [← HW7.out]
    refine (HP6.out _ hB7).mono ?_; rintro e w8 ⟨r8, rfl, hr8, hb8⟩
    have hB8 := (hB6.trans (hB7.mono hB6.size)).trans (hb8.mono (hB6.trans (hB7.mono hB6.size)).size)
    have HR8 := Lib.hid hr8
    have HRB := Lib.hid (HB.out _ hB8)
    have hc8 := conv_row (P := Tryd.prog) (src := 28) (dst := 9) (e := 5) Tryd.underlying28 Tryd.underlying5 Tryd.underlying9 HR8.out
    have hcb := conv_row (P := Tryd.prog) (src := 28) (dst := 9) (e := 5) Tryd.underlying28 Tryd.underlying5 Tryd.underlying9 HRB.out
    clear hr8 hb8
    by_cases h6 : e6 = 0
    · obtain ⟨hfu, hpu⟩ := HU.out h6
      have hpo := (HPY.out hfu).trans hpu
      rw [hpo] at hc8
      rw [hfu]
      subst h6
      clear HU HPY hfu hpu hpo HR8 HP6
      go_wp2_with fail
      refine (HA.out _ hB8).mono ?_; rintro e w9 ⟨rfl, hb9⟩
      go_wp2_with fail
      go_ret
      exact ⟨rfl, hB8.trans (hb9.mono hB8.size)⟩
    · have q6 : (e6 != 0) = true := by simpa using h6
      clear HU HPY HP6 h6
      go_wp2_with fail
      refine (HA.out _ hB8).mono ?_; rintro e w9 ⟨rfl, hb9⟩
      go_wp2_with fail
      go_ret
      exact ⟨rfl, hB8.trans (hb9.mono hB8.size)⟩
end Go.Proofs.YtpeogdbfhfkngaaDoor

/- Tables of structs and arrays: their cells, one behind the other. -/
namespace Go.Proofs.YtpeogdbfhfkngaaDoor
open Go.ChangeShapes Go.WideShapes Go.ChangeAt Go.RowKit
section
variable {P : Program}
def flatF {H : Type} : Nat → DataW H → List Value
  | _, .lit l => [leafVal (.lit l : DataW H)]
  | n + 1, .agg ds => ds.flatMap fun d => flatF n d
  | _, _ => []
theorem flatF_lit {H : Type} (n : Nat) (l : Lit) : flatF n (.lit l : DataW H) = [leafVal (.lit l : DataW H)] := by cases n <;> simp [flatF]
/-- a type of m cells that reads as what they hold -/
def FlatAt (P : Program) (t : TypeId) (n m : Nat) : Prop := ∀ {H : Type} (enc : TypeId × Value → H) (w : World) (base : Nat) (sp : Nat → Bool) (held : Bool) (fuel : Nat) (cs : List Value) (x : DataW H × List MemPlace),
  DataW.trod enc P w base sp held fuel t cs = some x → cs.length = m ∧ cs = flatF n x.1
theorem flatAt_int {e : TypeId} {k : IntKind} {n : Nat} (he : P.underlying e = some (.int k)) : FlatAt P e n 1 := by
  intro H enc w base sp held fuel cs x h
  obtain ⟨z, rfl, rfl, _⟩ := DataW.trod_int he h
  exact ⟨rfl, by simp [flatF_lit, leafVal]⟩
theorem flatAt_string {e : TypeId} {n : Nat} (he : P.underlying e = some .string) : FlatAt P e n 1 := by
  intro H enc w base sp held fuel cs x h
  obtain ⟨s, rfl, rfl, _⟩ := DataW.trod_string he h
  exact ⟨rfl, by simp [flatF_lit, leafVal]⟩
theorem cut_rows {H : Type} (f : DataW H → List Value) (m : Nat) : ∀ (n : Nat) (cs : List Value) (ys : List (DataW H)), cs.length = n * m → ys.length = n → (∀ i, i < n → ∃ y, ys[i]? = some y ∧ (cs.drop (i * m)).take m = f y) → cs = ys.flatMap f := by
  intro n
  induction n with
  | zero =>
    intro cs ys h1 h2 _
    obtain rfl : cs = [] := List.length_eq_zero_iff.1 (by omega)
    obtain rfl : ys = [] := List.length_eq_zero_iff.1 h2
    rfl
  | succ n ih =>
    intro cs ys h1 h2 h
    cases ys with
    | nil => simp at h2
    | cons y ys =>
      have h0 := h 0 (by omega)
      obtain ⟨y', hy, hc⟩ := h0
      obtain rfl : y = y' := by simpa using hy
      have hl : cs.length = n * m + m := by rw [h1]; rw [Nat.succ_mul]
      have hr := ih (cs.drop m) ys (by rw [List.length_drop]; omega) (by simpa using h2) (fun i hi => by
        obtain ⟨y'', hy, hc⟩ := h (i + 1) (by omega)
        refine ⟨y'', by simpa using hy, ?_⟩
        rw [List.drop_drop, ← hc]
        congr 2
        rw [Nat.succ_mul]; omega)
      rw [List.flatMap_cons, ← hr, ← hc]
      simp
theorem flatAt_array {t e : TypeId} {n m q : Nat} (ht : P.underlying t = some (.array n e)) (he : FlatAt P e q m) (hce : P.cellsOf e = m) (hct : P.cellsOf t = n * m) : FlatAt P t (q + 1) (n * m) := by
  intro H enc w base sp held fuel cs x h
  obtain ⟨xs, k, rfl, rfl, hl, hn, hall⟩ := DataW.trod_array ht h
  rw [hct] at hl
  refine ⟨hl, ?_⟩
  simp only [flatF]
  refine cut_rows _ m n cs _ hl (by simp [hn]) (fun i hi => ?_)
  have h1 := hall i hi
  obtain ⟨b, hb⟩ : ∃ b, xs[i]? = some b := ⟨xs[i], by simp [hn, hi]⟩
  rw [hb, hce] at h1
  exact ⟨b.1, by simp [hb], (he _ _ _ _ _ _ _ _ h1).2⟩
theorem flatAt_struct {t : TypeId} {fs : Array Field} {q : Nat} (ht : P.underlying t = some (.struct fs)) (hct : P.cellsOf t = fs.size)
    (hf : ∀ (i : Nat) (f : Field), fs[i]? = some f → FlatAt P f.type q 1 ∧ f.offset = i ∧ P.cellsOf f.type = 1) : FlatAt P t (q + 1) fs.size := by
  intro H enc w base sp held fuel cs x h
  obtain ⟨xs, k, rfl, rfl, hl, hn, hall⟩ := DataW.trod_struct ht h
  rw [hct] at hl
  refine ⟨hl, ?_⟩
  simp only [flatF]
  refine cut_rows _ 1 fs.size cs _ (by rw [hl]; omega) (by simp [hn]) (fun i hi => ?_)
  obtain ⟨f, hfi⟩ : ∃ f, fs[i]? = some f := ⟨fs[i], by simp [hi]⟩
  obtain ⟨h1, h2, h3⟩ := hf i f hfi
  have h4 := hall i f hfi
  obtain ⟨b, hb⟩ : ∃ b, xs[i]? = some b := ⟨xs[i], by simp [hn, hi]⟩
  rw [hb, h3, h2] at h4
  exact ⟨b.1, by simp [hb], by rw [Nat.mul_one]; exact (h1 _ _ _ _ _ _ _ _ h4).2⟩
/-- the cells of a table that stands first on the list -/
theorem laid_flat {W : World} {name : String} {d : DataW Unit} {rest : List (String × DataW Unit)} {g : Nat} {t : TypeId} {q m : Nat}
    (hg : P.globalNamed name = some g) (hty : (P.globals[g]?).map (·.type) = some t) (ht : FlatAt P t q m) (h : laidMet P ((name, d) :: rest) W) (i : Nat) : W.cell? ⟨g, i, none⟩ = (flatF q d)[i]? := by
  obtain ⟨ps, ⟨g', t', cs, fuel, p, r, hg', ht', hvar, hd, _, _⟩, _⟩ := h
  obtain rfl := Option.some.inj (hg.symm.trans hg')
  obtain rfl := Option.some.inj (hty.symm.trans ht')
  have := World.var?_cell hg hvar i
  rw [this, ← Array.getElem?_toList, (ht _ _ _ _ _ _ _ _ hd).2]
end
end Go.Proofs.YtpeogdbfhfkngaaDoor

/- Layer 13: what the rows' lists give. -/
namespace Go.Proofs.YtpeogdbfhfkngaaDoor
open Go.RowKit
theorem laidMet_of_H {l : List (String × DataW Unit)} {W : World} (h : laidMetH Tryd.prog l W) (hp : (l.all fun x => x.2.handleName?.isNone) = true) : laidMet Tryd.prog l W := (Go.MakeChecks.laidMetH_plain _ _ _ hp) ▸ h
theorem sTab_of {W : World} {rest : List (String × DataW Unit)} (h : laidMet Tryd.prog (("ladderback/op.shapes", Rows.laid_ladderback_op_shapes) :: rest) W) : STab W := by
  have d := laid_flat (g := 0) (t := 76) (q := 3) (by kernel_rfl) (by kernel_rfl) (flatAt_array (n := 38) (m := 2) Tryd.underlying76 (flatAt_array (n := 2) (m := 1) Tryd.underlying75 (flatAt_int Tryd.underlying3) (by kernel_rfl) (by kernel_rfl)) (by kernel_rfl) (by kernel_rfl)) h
  have ed : flatF 3 (Rows.laid_ladderback_op_shapes : DataW Unit) = shapesV := by kernel_rfl
  rw [ed] at d
  exact ⟨d, big_of_cell (d 0)⟩
end Go.Proofs.YtpeogdbfhfkngaaDoor

/- Arguments of nested types, opened. -/
namespace Go.Proofs.YtpeogdbfhfkngaaDoor
open Go.ChangeShapes Go.WideShapes Go.ChangeAt Go.RowKit Go.Deep
set_option linter.unusedSimpArgs false
set_option linter.unusedVariables false
def Opens {α : Type} (P : Program) (t : TypeId) (q : Nat) (R : Rep α) : Prop := P.cellsOf t = q ∧ ∀ {H : Type} (enc : TypeId × Value → H) (W : World) (sp : Nat → Bool) (held : Bool) (fuel : Nat) (cs : List Value) (x : DataW H × List MemPlace),
  DataW.trod enc P W 0 sp held fuel t cs = some x → ∃ a, R W cs a
theorem opens_int {P : Program} {t : TypeId} (ht : P.underlying t = some (.int .i64)) (hq : P.cellsOf t = 1) : Opens P t 1 intR := ⟨hq, fun enc W sp held fuel cs x h => by
  obtain ⟨z, rfl, _, hw⟩ := DataW.trod_int ht h
  exact ⟨z, rfl, bounds_i64 hw⟩⟩
theorem opens_string {P : Program} {t : TypeId} (ht : P.underlying t = some .string) (hq : P.cellsOf t = 1) : Opens P t 1 strR := ⟨hq, fun enc W sp held fuel cs x h => by
  obtain ⟨s, hs, hx, hw⟩ := DataW.trod_string ht h
  refine ⟨s.data.toList, by simpa using hs, ?_⟩
  have e : s.data.toList.length = s.size := by simp
  unfold maxLen at hw
  omega⟩
theorem choose_list {α : Type} {p : Nat → α → Prop} : ∀ n, (∀ i, i < n → ∃ a, p i a) → ∃ L : List α, L.length = n ∧ ∀ i x, L[i]? = some x → p i x := by
  intro n
  induction n with
  | zero => intro _; exact ⟨[], rfl, fun i x h => by simp at h⟩
  | succ n ih =>
    intro h
    obtain ⟨L, h1, h2⟩ := ih (fun i hi => h i (by omega))
    obtain ⟨a, ha⟩ := h n (by omega)
    refine ⟨L ++ [a], by simp [h1], fun i x hx => ?_⟩
    by_cases hi : i < n
    · rw [List.getElem?_append_left (by omega)] at hx
      exact h2 i x hx
    · have hin : i = n := by
        by_cases he : i = n
        · exact he
        · rw [List.getElem?_eq_none (by simp; omega)] at hx; cases hx
      subst hin
      rw [List.getElem?_append_right (by omega), h1] at hx
      simp at hx
      rw [← hx]
      exact ha
theorem opens_slice {P : Program} {t e : TypeId} {q : Nat} {α : Type} {R : Rep α} (ht : P.underlying t = some (.slice e)) (hq1 : P.cellsOf t = 1) (hq0 : 0 < q) (he : Opens P e q R) : Opens P t 1 (sliceR q R) := ⟨hq1, fun enc W sp held fuel cs x h => by
  obtain ⟨hq, he⟩ := he
  rcases open_slice ht h with ⟨rfl, hx⟩ | ⟨a, len, cap, m, k, D, Pl, rfl, _, hl, hm, hmm, hx, hi⟩
  · exact ⟨[], _, rfl, Or.inl ⟨_, _, rfl, rfl, fun _ => rfl⟩⟩
  · have hlm : len ≤ m := by rw [hmm]; split <;> omega
    have key : ∀ i, i < len → ∃ y : α, ∃ C : List Value, C.length = q ∧ (∀ j u, C[j]? = some u → W.cell? ((a.add (i * q)).add j) = some u) ∧ R W C y := by
      intro i hin
      obtain ⟨cs', hc, ht'⟩ := hi i (by omega)
      rw [hq] at hc
      obtain ⟨_, hcl, hat⟩ := World.cells?_some hc
      obtain ⟨y, hy⟩ := he enc W sp held k cs' _ ht'
      refine ⟨y, cs', hcl, fun j u hu => ?_, hy⟩
      have hj : j < q := by
        by_cases hj : j < q
        · exact hj
        · rw [List.getElem?_eq_none (by omega)] at hu; cases hu
      rw [hat j hj, hu]
    obtain ⟨L, hL, hLL⟩ := choose_list len key
    refine ⟨L, _, rfl, ?_⟩
    by_cases h0 : len = 0
    · subst h0
      exact Or.inl ⟨_, _, rfl, List.length_eq_zero_iff.1 hL, fun h => by cases h⟩
    obtain ⟨b, off, spot⟩ := a
    obtain ⟨C0, g1, g2, _⟩ := hLL 0 (L[0]'(by omega)) (by simp [show 0 < L.length by omega])
    have hz := g2 0 (C0[0]'(by omega)) (by simp [show 0 < C0.length by omega])
    have hspot : spot = none := by
      have := World.cell?_spot hz
      simpa [Addr.add] using this
    subst hspot
    have hblk := World.block_lt_of_cell? W _ hz
    have adr : ∀ j, (⟨b, off, none⟩ : Addr).add j = ⟨b, off + j, none⟩ := by
      intro j; unfold Addr.add; by_cases hj : j = 0 <;> simp [hj]
    rw [← hL]
    refine Or.inr ⟨b, off, cap, rfl, by omega, by omega, hm, by simpa [add_add, adr] using hblk, fun i x hx => ?_⟩
    obtain ⟨C, g1, g2, g3⟩ := hLL i x hx
    refine ⟨C, g1, fun j u hu => ?_, g3⟩
    have := g2 j u hu
    rw [add_add, adr] at this
    rw [show off + i * q + j = off + (i * q + j) by omega]
    exact this⟩
/-- the cells of a struct's field -/
theorem opens_field {H : Type} {P : Program} {t : TypeId} {fs : Array Field} {enc : TypeId × Value → H} {W : World} {sp : Nat → Bool} {held : Bool} {fuel : Nat} {cs : List Value} {x : DataW H × List MemPlace} (ht : P.underlying t = some (.struct fs))
    (h : DataW.trod enc P W 0 sp held fuel t cs = some x) (i : Nat) (u : TypeId) (o q : Nat) {α : Type} {R : Rep α} (hf : (fs[i]?.map fun f => (f.type, f.offset)) = some (u, o)) (hu : Opens P u q R) : ∃ a, R W ((cs.drop o).take q) a := by
  obtain ⟨xs, n, rfl, hx, hl, hlen, hall⟩ := DataW.trod_struct ht h
  obtain ⟨f, hf0, hf1⟩ := Option.map_eq_some_iff.1 hf
  have h1 := hall i f hf0
  have ht : f.type = u := congrArg Prod.fst hf1
  have ho : f.offset = o := congrArg Prod.snd hf1
  rw [ht, ho, hu.1] at h1
  have hi : i < fs.size := by
    by_cases hi : i < fs.size
    · exact hi
    · rw [Array.getElem?_eq_none (by omega)] at hf0; cases hf0
  obtain ⟨b, hb⟩ : ∃ b, xs[i]? = some b := ⟨xs[i]'(by omega), by simp [hlen, hi]⟩
  rw [hb] at h1
  exact hu.2 enc W sp held n _ _ h1
theorem opens_ins : Opens Tryd.prog 40 3 insR := ⟨by kernel_rfl, fun enc W sp held fuel cs x h => by
  have hu : Tryd.prog.underlying 40 = some (.struct (Tryd.prog.fieldsOf 40)) := by kernel_rfl
  have hi := opens_int (P := Tryd.prog) Tryd.underlying3 (by kernel_rfl)
  have hl : cs.length = 3 := by
    obtain ⟨xs, n, _, _, hl, _, _⟩ := DataW.trod_struct hu h
    exact hl.trans (by kernel_rfl)
  obtain ⟨o, h0, w0⟩ := opens_field hu h 0 3 0 1 (by kernel_rfl) hi
  obtain ⟨a, h1, w1⟩ := opens_field hu h 1 3 1 1 (by kernel_rfl) hi
  obtain ⟨b, h2, w2⟩ := opens_field hu h 2 3 2 1 (by kernel_rfl) hi
  refine ⟨(o, a, b), ?_, w0, w1, w2⟩
  match cs, hl with
  | [x, y, z], _ =>
    simp at h0 h1 h2
    rw [h0, h1, h2]⟩
theorem open_code {H : Type} {enc : TypeId × Value → H} {W : World} {r : Reach} {b0 : Nat} {v : Value} {d : DataW H} {ps : List MemPlace} {sp : Nat → Bool} {held : Bool}
    (hval : Value.okWide Tryd.prog W r b0 23 v) (h : DataW.Trod enc Tryd.prog W 0 sp held 23 v d ps) : ∃ L, RowR 3 insR W v L := by
  obtain ⟨a0, len, cap, rfl⟩ := okWide_slice Tryd.underlying23 hval
  obtain ⟨fuel, hf⟩ := h
  obtain ⟨L, v', hv, hr⟩ := (opens_slice Tryd.underlying23 (by kernel_rfl) (by omega) opens_ins).2 enc W sp held fuel _ _ hf
  simp [Value.cells] at hv
  subst hv
  exact ⟨L, hr⟩
end Go.Proofs.YtpeogdbfhfkngaaDoor

/- An argument of type api.Unit, opened. -/
namespace Go.Proofs.YtpeogdbfhfkngaaDoor
open Go.ChangeShapes Go.WideShapes Go.ChangeAt Go.RowKit
theorem opens_unit : Opens Tryd.prog 25 5 unitR := ⟨by kernel_rfl, fun enc W sp held fuel cs x h => by
  have hu : Tryd.prog.underlying 25 = some (.struct (Tryd.prog.fieldsOf 25)) := by kernel_rfl
  have hi := opens_int (P := Tryd.prog) Tryd.underlying3 (by kernel_rfl)
  have hs := opens_string (P := Tryd.prog) Tryd.underlying9 (by kernel_rfl)
  have hn := opens_slice (P := Tryd.prog) Tryd.underlying22 (by kernel_rfl) (by omega) hi
  have hc := opens_slice (P := Tryd.prog) Tryd.underlying23 (by kernel_rfl) (by omega) opens_ins
  have hl : cs.length = 5 := by
    obtain ⟨xs, n, _, _, hl, _, _⟩ := DataW.trod_struct hu h
    exact hl.trans (by kernel_rfl)
  obtain ⟨o, h0, w0⟩ := opens_field hu h 0 9 0 1 (by kernel_rfl) hs
  obtain ⟨a, v1, h1, w1⟩ := opens_field hu h 1 22 1 1 (by kernel_rfl) hn
  obtain ⟨b, h2, w2⟩ := opens_field hu h 2 3 2 1 (by kernel_rfl) hi
  obtain ⟨c, v3, h3, w3⟩ := opens_field hu h 3 22 3 1 (by kernel_rfl) hn
  obtain ⟨d, v4, h4, w4⟩ := opens_field hu h 4 23 4 1 (by kernel_rfl) hc
  refine ⟨⟨o, a, b, c, d⟩, v1, v3, v4, ?_, w1, w3, w4, w0, w2⟩
  match cs, hl with
  | [x, y, z, t, u], _ =>
    simp at h0 h1 h2 h3 h4
    rw [h0, h1, h2, h3, h4]⟩
theorem open_unit {H : Type} {enc : TypeId × Value → H} {W : World} {r : Reach} {b0 : Nat} {v : Value} {d : DataW H} {ps : List MemPlace} {sp : Nat → Bool} {held : Bool}
    (hval : Value.okWide Tryd.prog W r b0 25 v) (h : DataW.Trod enc Tryd.prog W 0 sp held 25 v d ps) :
    ∃ (a b c : Value) (x : Un), v = .agg #[.string ⟨x.name.toArray⟩, a, .int .i64 x.result, b, c] ∧ UnAt W a b c x := by
  have hu : Tryd.prog.underlying 25 = some (.struct (Tryd.prog.fieldsOf 25)) := by kernel_rfl
  obtain ⟨cs, rfl, hsz⟩ := okWide_struct hu hval
  obtain ⟨fuel, hf⟩ := h
  obtain ⟨x, a, b, c, h0, h1⟩ := opens_unit.2 enc W sp held fuel _ _ hf
  obtain ⟨l⟩ := cs
  simp only [Value.cells] at h0
  subst h0
  exact ⟨a, b, c, x, rfl, h1⟩
end Go.Proofs.YtpeogdbfhfkngaaDoor

/- Arguments opened: slices of bytes, of bools, of ints. -/
namespace Go.Proofs.YtpeogdbfhfkngaaDoor
open Go.ChangeShapes Go.WideShapes Go.ChangeAt Go.RowKit
section
variable {H : Type} {enc : TypeId × Value → H} {P : Program} {W : World} {r : Reach} {b0 : Nat} {t e : TypeId} {v : Value} {d : DataW H} {ps : List MemPlace}
theorem rowAt_of {a : Addr} {len cap : Nat} {f : Nat → Value} (hl : len ≤ cap) (hm : cap ≤ maxLen) (hcell : ∀ i, i < len → W.cell? (a.add i) = some (f i)) : RowAt W (.slice (some a) len cap) len f := by
  by_cases h0 : len = 0
  · subst h0; exact Or.inl ⟨_, _, rfl, rfl, fun h => by cases h⟩
  · obtain ⟨b, off, spot⟩ := a
    have hspot : spot = none := by simpa [Addr.add] using World.cell?_spot (hcell 0 (by omega))
    subst hspot
    refine Or.inr ⟨b, off, cap, rfl, by omega, hl, hm, World.block_lt_of_cell? W _ (hcell 0 (by omega)), fun i hi => ?_⟩
    have := hcell i hi
    unfold Addr.add at this
    by_cases hi0 : i = 0
    · subst hi0; simpa using this
    · simpa [hi0] using this
/-- a slice of integers of kind k -/
theorem open_intsK {k : IntKind} (ht : P.underlying t = some (.slice e)) (he : P.underlying e = some (.int k)) (hc : P.cellsOf e = 1) (hval : Value.okWide P W r b0 t v) (h : DataW.Trod enc P W 0 (fun _ => true) true t v d ps) :
    ∃ l : List Int, RowAt W v l.length (fun i => .int k (l.getD i 0)) ∧ ∀ z ∈ l, (Lit.int k z).wf = true := by
  obtain ⟨a0, len, cap, rfl⟩ := okWide_slice ht hval
  obtain ⟨fuel, hf⟩ := h
  rcases open_ints ht he hc hf with ⟨hcs, hx⟩ | ⟨a, len', cap', zs, hcs, _, hl, hm, hz, hx, hcell, hwz⟩
  · simp [Value.cells] at hcs
    obtain ⟨rfl, rfl, rfl⟩ := hcs
    exact ⟨[], Or.inl ⟨_, _, rfl, rfl, fun _ => rfl⟩, by simp⟩
  · simp [Value.cells] at hcs
    obtain ⟨rfl, rfl, rfl⟩ := hcs
    simp only [if_true] at hz
    refine ⟨zs.take len, ?_, fun z hz => hwz z (List.mem_of_mem_take hz)⟩
    have hlen : (zs.take len).length = len := by simp; omega
    have := rowAt_of (f := fun i => .int k ((zs.take len).getD i 0)) hl hm (fun i hi => by
      rw [hcell i (by omega)]
      simp [List.getD, hi])
    simpa [hlen] using this
theorem open_bytes (ht : P.underlying t = some (.slice e)) (he : P.underlying e = some (.int .u8)) (hc : P.cellsOf e = 1) (hval : Value.okWide P W r b0 t v) (h : DataW.Trod enc P W 0 (fun _ => true) true t v d ps) :
    ∃ l : List UInt8, RowAt W v l.length (byteV l) := by
  obtain ⟨zs, hr, hw⟩ := open_intsK ht he hc hval h
  refine ⟨zs.map fun z => UInt8.ofNat z.toNat, ?_⟩
  rw [List.length_map]
  have e1 : ∀ i, i < zs.length → (Value.int .u8 (zs.getD i 0)) = byteV (zs.map fun z => UInt8.ofNat z.toNat) i := by
    intro i hi
    have hb := bounds_u8 (hw zs[i] (by simp))
    have hx : zs.getD i 0 = zs[i] := by simp [List.getD, hi]
    rw [hx]
    unfold byteV
    have hy : (zs.map fun z => UInt8.ofNat z.toNat).getD i 0 = UInt8.ofNat zs[i].toNat := by simp [List.getD, hi]
    rw [hy, UInt8.toNat_ofNat']
    congr 1
    omega
  rcases hr with h | ⟨b, off, cap, h1, h2, h3, h4, h5, h6⟩
  · exact Or.inl h
  · exact Or.inr ⟨b, off, cap, h1, h2, h3, h4, h5, fun i hi => (h6 i hi).trans (congrArg some (e1 i hi))⟩
theorem open_intsI (ht : P.underlying t = some (.slice e)) (he : P.underlying e = some (.int .i64)) (hc : P.cellsOf e = 1) (hval : Value.okWide P W r b0 t v) (h : DataW.Trod enc P W 0 (fun _ => true) true t v d ps) :
    ∃ l : List Int, RowAt W v l.length (intV l) ∧ ∀ z ∈ l, -9223372036854775808 ≤ z ∧ z ≤ 9223372036854775807 := by
  obtain ⟨l, h1, h2⟩ := open_intsK ht he hc hval h
  exact ⟨l, h1, fun z hz => bounds_i64 (h2 z hz)⟩
theorem open_bools (ht : P.underlying t = some (.slice e)) (he : P.underlying e = some .bool) (hc : P.cellsOf e = 1) (hval : Value.okWide P W r b0 t v) (h : DataW.Trod enc P W 0 (fun _ => true) true t v d ps) :
    ∃ l : List Bool, RowAt W v l.length (boolV l) := by
  obtain ⟨a0, len, cap, rfl⟩ := okWide_slice ht hval
  obtain ⟨fuel, hf⟩ := h
  rcases Deep.open_bools ht he hc hf with ⟨hcs, hx⟩ | ⟨a, len', cap', B, hcs, _, hl, hm, hx, hcell⟩
  · simp [Value.cells] at hcs
    obtain ⟨rfl, rfl, rfl⟩ := hcs
    exact ⟨[], Or.inl ⟨_, _, rfl, rfl, fun _ => rfl⟩⟩
  · simp [Value.cells] at hcs
    obtain ⟨rfl, rfl, rfl⟩ := hcs
    refine ⟨(List.range len).map B, ?_⟩
    have := rowAt_of (f := boolV ((List.range len).map B)) hl hm (fun i hi => by
      rw [hcell i (by omega)]
      simp [boolV, List.getD, hi])
    simpa using this
end
end Go.Proofs.YtpeogdbfhfkngaaDoor
