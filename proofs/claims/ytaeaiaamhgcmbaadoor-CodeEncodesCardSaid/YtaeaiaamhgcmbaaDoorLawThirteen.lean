/- Layer 13: the laws CodeDecodes and CodeBack: their walks. -/
import Derived.Test.YtaeaiaamhgcmbaaDoorCodeDecRef
namespace Go.Proofs.YtaeaiaamhgcmbaaDoor
open Go.RowKit
set_option linter.unusedSimpArgs false
set_option linter.unusedVariables false
theorem aw_all : [((35, 2, 258) : Ins)].all rI = true := by decide +kernel
theorem aw_enc : encO [((35, 2, 258) : Ins)] = [35, 2, 0, 2, 1] := by decide +kernel
set_option maxHeartbeats 1000000 in
theorem law13_awake (w : World) (hT : STab w) : Calls Tryd.prog 6 #[] w fun e w' => e = .returned (.bool true) ∧ Below w.heap.size w w' := by
  have h1 := aw_all
  have h2 := aw_enc
  go_enter Tryd.func6, Tryd.ntmps6
  go_wp2_with fail
  have hrow : RowR 3 insR (w.alloc (.cells #[.int .i64 35, .int .i64 2, .int .i64 258] 36)) (.slice (some ⟨w.heap.size, 0, none⟩) 1 1) [((35, 2, 258) : Ins)] :=
    Or.inr ⟨w.heap.size, 0, 1, rfl, by simp, by simp, by unfold maxLen; omega, by simp, fun i x hx => by
      cases i with
      | zero =>
        obtain rfl : ((35, 2, 258) : Ins) = x := by simpa using hx
        refine ⟨_, rfl, fun j u hu => ?_, rfl, by show I64 35; unfold I64; omega, by show I64 2; unfold I64; omega, by show I64 258; unfold I64; omega⟩
        rw [cell_at rfl]
        simpa using hu
      | succ i => simp at hx⟩
  refine (code_Encode _ _ _ (hT.below (by (repeat' (first | (with_reducible exact Below.refl _ _) | (with_reducible assumption) | (with_reducible refine below_drewN ?_ _) | (with_reducible refine Below.alloc ?_ ?_ _) | (with_reducible refine Below.drew ?_) | (with_reducible refine Below.setCell ?_ ?_ _) | go_size)))) hrow (by simp)).mono ?_; rintro e w1 ⟨r, rfl, hr, hb⟩
  rw [h2] at hr
  rw [h1]
  have hcv := conv_row (P := Tryd.prog) (src := 24) (dst := 9) (e := 5) Tryd.underlying24 Tryd.underlying5 Tryd.underlying9 hr
  have hB : Below w.heap.size w w1 := Below.trans (by (repeat' (first | (with_reducible exact Below.refl _ _) | (with_reducible assumption) | (with_reducible refine below_drewN ?_ _) | (with_reducible refine Below.alloc ?_ ?_ _) | (with_reducible refine Below.drew ?_) | (with_reducible refine Below.setCell ?_ ?_ _) | go_size))) (hb.mono (by simp))
  clear hr hrow hb h1 h2
  go_wp2_with fail
  go_ret
  exact ⟨rfl, hB⟩
set_option maxHeartbeats 2000000 in
theorem codeDecodes_walk (v : Value) (B : List UInt8) (w : World) (hT : STab w) (hv : RowAt w v B.length (byteV B)) :
    Calls Tryd.prog 4 #[v] w fun e w' => e = .returned (.bool true) ∧ Below w.heap.size w w' := by
  obtain ⟨sa, cap, rfl⟩ := bytes_get hv
  by_cases hl : 1000 < B.length
  · go_enter Tryd.func4, Tryd.ntmps4
    go_wp2_with fail
    refine (law13_awake _ hT).mono ?_; rintro e w1 ⟨rfl, hb⟩
    go_wp2_with fail
    go_ret
    exact ⟨rfl, hb⟩
  · have hn : B.length ≤ 1000 := by omega
    clear hl
    have hD1 := fun W (hb : Below w.heap.size w W) => code_Decode _ B W (hT.below hb) (hv.below hb) (by omega)
    have hD2 := fun W (hb : Below w.heap.size w W) => ref13_Decode _ B W (hv.below hb) (by omega)
    go_enter Tryd.func4, Tryd.ntmps4
    go_wp2_with fail
    refine (hD1 _ (Below.refl _ _)).mono ?_; rintro e w1 ⟨r1, L1, a1, e1, rfl, d1, hr1, hb1⟩
    go_wp2_with fail
    refine (hD2 _ hb1).mono ?_; rintro e w2 ⟨r2, L2, a2, e2, rfl, d2, hr2, hb2⟩
    obtain ⟨rfl, rfl, rfl⟩ := d1.unique d2
    have hB2 := hb1.trans (hb2.mono hb1.size)
    have hr1 := hr1.below insR_stable hb2
    have hdl : L1.length ≤ 1000000000 := by
      rcases d1 with ⟨k, _, _, _, _, h, _⟩ | ⟨k, hg, h1, h, _⟩
      · rw [h]; simp
      · rw [h, decL_len]
        by_cases hk : k = 0
        · omega
        · have := (hg (k - 1) (by omega)).1; omega
    have hS := ref13_Same r1 r2 L1 L1 w2 hr1 hr2 hdl
    rw [decide_eq_true rfl] at hS
    clear d1 d2 hD1 hD2 hr1 hr2
    go_wp2_with fail
    refine hS.mono ?_; rintro e w3 ⟨rfl, m, rfl⟩
    go_wp2_with fail
    refine (law13_awake _ (hT.below (below_drewN hB2 m))).mono ?_; rintro e w4 ⟨rfl, hb4⟩
    have hB4 := (below_drewN hB2 m).trans (hb4.mono (below_drewN hB2 m).size)
    go_wp2_with fail
    go_ret
    exact ⟨rfl, hB4⟩
theorem dec_few {B : List UInt8} {L : List Ins} {a e : Int} (d : DecR B L a e) (hn : B.length ≤ 1000) : L.length ≤ 1000 := by
  rcases d with ⟨k, _, _, _, _, h, _⟩ | ⟨k, hg, h1, h, _⟩
  · rw [h]; simp
  · rw [h, decL_len]
    by_cases hk : k = 0
    · omega
    · have := (hg (k - 1) (by omega)).1; omega
end Go.Proofs.YtaeaiaamhgcmbaaDoor
