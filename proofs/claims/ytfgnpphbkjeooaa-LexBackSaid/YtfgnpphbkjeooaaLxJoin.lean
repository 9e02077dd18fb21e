/- Layer 47: lex.Join. -/
import Derived.Test.YtfgnpphbkjeooaaLxBld
import Derived.Test.YtfgnpphbkjeooaaLxG
import Derived.Test.YtfgnpphbkjeooaaObj
namespace Go.Proofs.Ytfgnpphbkjeooaa
open Go.RowKit
set_option linter.unusedSimpArgs false
set_option linter.unusedVariables false
theorem bldU_below {B b : Nat} {l : List UInt8} {w w' : World} (h : BldU B b l w) (hb : Below w.heap.size w w') : BldU B b l w' := by
  obtain ⟨hB, v, hbk, hown, hne⟩ := h
  exact ⟨hB, v, obj_below hbk hb (heap_lt hbk), owns_below hown hb, hne⟩
theorem kept_obj {b g : Nat} {w w' : World} (h : Kept b w w') (hg : g ≠ b) {A : Array Value} {t : TypeId} {fz : Nat × Nat} (ho : w.heap[g]? = some (.cells A t fz)) (ht : t ≠ 5) : w'.heap[g]? = some (.cells A t fz) :=
  h g _ ho (by simpa using hg) (by intro c f e; cases e; exact ht rfl)
/-- a builder, fresh or used, with the joined texts of the first k -/
def JSt (b : Nat) (N : List LX.Tk) (k : Nat) (w : World) : Prop := (k = 0 ∧ w.heap[b]? = some (.cells #[.pointer none, .slice none 0 0] 37 (0, 0))) ∨ (0 < k ∧ BldU b b (LX.J (N.take k)) w)
theorem JSt.below {b : Nat} {N : List LX.Tk} {k : Nat} {w w' : World} (h : JSt b N k w) (hb : Below w.heap.size w w') : JSt b N k w' := by
  rcases h with ⟨h0, h⟩ | ⟨h0, h⟩
  · exact Or.inl ⟨h0, obj_below h hb (heap_lt h)⟩
  · exact Or.inr ⟨h0, bldU_below h hb⟩
theorem JSt.bld {b : Nat} {N : List LX.Tk} {k : Nat} {w : World} (h : JSt b N k w) : Bld b b (LX.J (N.take k)) w := by
  rcases h with ⟨rfl, h⟩ | ⟨h0, h⟩
  · exact Or.inl ⟨Nat.le_refl _, _, h, World.ownsRow_nil _ _ _ _, by simp [Value.ownBlock]⟩
  · exact Or.inr h
theorem sumL_take : ∀ (N : List LX.Tk) (k : Nat), LX.sumL (N.take k) ≤ LX.sumL N := fun N k => by
  have h := LX.sumL_app (N.take k) (N.drop k)
  rw [List.take_append_drop] at h
  omega
set_option maxHeartbeats 4000000 in
set_option maxRecDepth 100000 in
theorem lex_Join (N : List LX.Tk) (v : Value) (w : World) (hv : TkAt w v N) (hp : ∀ x ∈ N, LX.Good x) (hs : LX.sumL N ≤ 1000) :
    Calls Try.prog 9 #[v] w fun e w' => e = .returned (.string ⟨(LX.J N).toArray⟩) ∧ Below w.heap.size w w' := by
  have hn : N.length ≤ 1000 := Nat.le_trans (LX.len_sum N hp) hs
  have HP := Lib.hid hp
  have HS := Lib.hid hs
  have HT := Lib.hid hv
  obtain ⟨a, c, rfl, hcx⟩ := hv
  clear hcx
  obtain ⟨n, hN⟩ : ∃ n, N.length = n := ⟨_, rfl⟩
  have HN := Lib.hid hN
  rw [hN] at hn HT ⊢
  clear hp hs hN
  go_enter Try.func9, Try.ntmps9
  go_wp2_with fail
  obtain ⟨W1, hW1⟩ : ∃ W, W = w.alloc (.cells #[.pointer none, .slice none 0 0] 37) := ⟨_, rfl⟩
  rw [← hW1]
  have HB1 := Lib.hid (show Below w.heap.size w W1 by rw [hW1]; exact (Below.refl _ _).alloc (Nat.le_refl _) _)
  have HJ1 := Lib.hid (show JSt w.heap.size N 0 W1 from Or.inl ⟨rfl, by rw [hW1]; exact get_last rfl⟩)
  have HH1 := Lib.hid (show w.heap.size < W1.heap.size by rw [hW1]; simp)
  clear hW1
  go_loopw [4, 5, 8, 9, 10, 11, 12, 13, 14, 15, 16, 17, 18, 19] (fun _ _ jj _ _ _ _ _ _ _ _ _ _ _ wr => ∃ k : Nat, k ≤ n ∧ jj = .int .i64 k ∧ Hid (JSt w.heap.size N k wr) ∧ Hid (Below w.heap.size w wr ∧ w.heap.size < wr.heap.size)) (fun _ _ jj _ _ _ _ _ _ _ _ _ _ _ _ => n - (intOf jj).toNat)
  case atStart => exact ⟨0, Nat.zero_le _, rfl, HJ1, Lib.hid ⟨HB1.out, HH1.out⟩⟩
  case round =>
    obtain ⟨k, hk, rfl, hJ, hB⟩ := hrel
    rename World => W2
    obtain ⟨hB2, hlt2⟩ := hB.out
    have HB2 := Lib.hid hB2
    have HJ := hJ
    have HH2 := Lib.hid hlt2
    clear hB hB2 hJ hlt2
    by_cases hlt : k < n
    case neg =>
      obtain rfl : n = k := by omega
      have q1 : ((n : Int) < (n : Int)) = False := eq_false (by omega)
      have q1' : (n < n) = False := eq_false (by omega)
      have htk : N.take n = N := List.take_of_length_le (by rw [HN.out]; exact Nat.le_refl _)
      clear hlt hk
      rcases HJ.out with ⟨h0, hbk⟩ | ⟨h0, hU⟩
      · have HF := Lib.hid (bld_none w.heap.size w.heap.size _ W2 hbk)
        have HZ := Lib.hid (show LX.J N = [] by have : N = [] := List.length_eq_zero_iff.1 (HN.out.trans h0); rw [this]; rfl)
        clear hbk h0 htk
        go_wp2_with fail
        refine HF.out.mono ?_; rintro e w3 ⟨rfl, hb3⟩
        have HB3 := Lib.hid (HB2.out.trans (hb3.mono (Nat.le_refl _)))
        clear hb3
        go_wp2_with fail
        go_ret
        exact ⟨by rw [HZ.out]; rfl, HB3.out⟩
      · rw [htk] at hU
        have HF := Lib.hid (bld_text hU (fun h => by
          have h1 := LX.T_joined N HP.out
          rw [h] at h1
          have h2 : (some ([] : List LX.Tk), 0) = (some (N.map fun x => ⟨x.kind, 1, x.text⟩), 0) := h1
          simp at h2
          rw [h2] at HN
          have := HN.out
          simp at this
          omega))
        clear hU h0 htk
        go_wp2_with fail
        refine HF.out.mono ?_; rintro e w3 ⟨rfl, hb3⟩
        have HB3 := Lib.hid (HB2.out.trans hb3)
        clear hb3
        go_wp2_with fail
        go_ret
        exact ⟨rfl, HB3.out⟩
    have q1 : ((k : Int) < (n : Int)) = True := eq_true (by omega)
    have q1' : (k < n) = True := eq_true hlt
    have hk62 : k ≤ 9223372036854775806 := by omega
    have HK := Lib.hid hlt
    obtain ⟨x, hx⟩ := get_some (L := N) (n := k) (by rw [HN.out]; exact hlt)
    obtain ⟨b1, c1, e1, hc⟩ := HT.out
    injection e1 with ea en ec
    subst ea
    clear en ec
    obtain ⟨g, rfl, hg, g0, g1, g2⟩ := hc k x hx
    have g0 := (HB2.out.cell (p := ⟨g, k * 3, none⟩) hg).trans g0
    have g1 := (HB2.out.cell (p := ⟨g, k * 3 + 1, none⟩) hg).trans g1
    have g2 := (HB2.out.cell (p := ⟨g, k * 3 + 2, none⟩) hg).trans g2
    have HX := Lib.hid (HP.out x (List.mem_of_getElem? hx))
    have HTk := Lib.hid (take_snoc hx)
    have HXl := Lib.hid (show x.text.length ≤ 1000000 by
      have h1 := LX.sumL_app (N.take k) [x]
      rw [← take_snoc hx] at h1
      have h2 := sumL_take N (k + 1)
      have h3 := HS.out
      have : LX.sumL [x] = x.text.length := by simp [LX.sumL]
      omega)
    have HJl := Lib.hid (show (LX.J (N.take k)).length + 1 ≤ 1000000 by
      have h1 := LX.J_len (N.take k)
      have h2 := sumL_take N k
      have h3 := HS.out
      have : (N.take k).length ≤ k := by rw [List.length_take]; omega
      omega)
    obtain ⟨kd, hkd⟩ : ∃ z : Int, (x.kind : Int) = z := ⟨_, rfl⟩
    obtain ⟨li, hli⟩ : ∃ z : Int, (x.line : Int) = z := ⟨_, rfl⟩
    obtain ⟨tx, htx⟩ : ∃ z, x.text = z := ⟨_, rfl⟩
    rw [hkd] at g0
    rw [hli] at g1
    rw [htx] at g2 HXl
    have HTx := Lib.hid htx
    clear hc hg hkd hli htx hx hlt hk
    by_cases hk0 : k = 0
    · subst hk0
      have q2 : ((0 : Int) < ((0 : Nat) : Int)) = False := eq_false (by omega)
      go_wp2_with fail
      obtain ⟨W3, hW3⟩ : ∃ W, W = W2.alloc (.cells #[.int .i64 kd, .int .i64 li, .string ⟨tx.toArray⟩] 29) := ⟨_, rfl⟩
      have hb3 : Below W2.heap.size W2 W3 := by rw [hW3]; exact (Below.refl _ _).alloc (Nat.le_refl _) _
      have hs3 : w.heap.size < W3.heap.size := Nat.lt_of_lt_of_le HH2.out hb3.size
      rw [← hW3]
      have HB3 := Lib.hid (HB2.out.trans (hb3.mono (Nat.le_of_lt HH2.out)))
      have HF := Lib.hid (bld_string tx (HJ.out.below hb3).bld (by have := HJl.out; omega) HXl.out HB3.out.size)
      clear hb3 hW3
      refine HF.out.mono ?_; rintro e w4 ⟨⟨v4, rfl⟩, hU, hb4, hk4⟩
      have HB4 := Lib.hid (HB3.out.trans hb4)
      have HJ4 := Lib.hid (show JSt w.heap.size N (0 + 1) w4 from Or.inr ⟨Nat.zero_lt_succ _, by rw [HTk.out, show N.take 0 = [] from rfl, LX.J_snoc, if_pos rfl, HTx.out]; exact hU⟩)
      have HH4 := Lib.hid (Nat.lt_of_lt_of_le hs3 hb4.size)
      clear hU hb4 hk4 hs3
      go_wp2_with fail
      go_roundw
      case rel => exact ⟨0 + 1, by have := HK.out; omega, rfl, HJ4, Lib.hid ⟨HB4.out, HH4.out⟩⟩
      case measure => have := HK.out; show n - (1 : Int).toNat < n - ((0 : Nat) : Int).toNat; omega
    · have q2 : ((0 : Int) < (k : Int)) = True := eq_true (by omega)
      have q2' : (0 < k) = True := eq_true (by omega)
      have HK0 := Lib.hid hk0
      clear hk0
      go_wp2_with fail
      obtain ⟨W3, hW3⟩ : ∃ W, W = W2.alloc (.cells #[.int .i64 kd, .int .i64 li, .string ⟨tx.toArray⟩] 29) := ⟨_, rfl⟩
      have hb3 : Below W2.heap.size W2 W3 := by rw [hW3]; exact (Below.refl _ _).alloc (Nat.le_refl _) _
      have hs3 : w.heap.size < W3.heap.size := Nat.lt_of_lt_of_le HH2.out hb3.size
      have ho3 : W3.heap[W2.heap.size]? = some (.cells #[.int .i64 kd, .int .i64 li, .string ⟨tx.toArray⟩] 29) := by rw [hW3]; exact get_last rfl
      rw [← hW3]
      have HB3 := Lib.hid (HB2.out.trans (hb3.mono (Nat.le_of_lt HH2.out)))
      have HF := Lib.hid (bld_byte 32 (HJ.out.below hb3).bld (by have := HJl.out; omega) HB3.out.size)
      clear hb3 hW3
      refine HF.out.mono ?_; rintro e w4 ⟨rfl, hU, hb4, hk4⟩
      have HB4 := Lib.hid (HB3.out.trans hb4)
      have ho4 : w4.cell? ⟨W2.heap.size, 2, none⟩ = some (.string ⟨tx.toArray⟩) := obj_cell (kept_obj hk4 (Nat.ne_of_gt HH2.out) ho3 (by decide)) rfl
      have HG := Lib.hid (bld_string tx (Or.inr hU) (by have := HJl.out; simp; omega) HXl.out HB4.out.size)
      have hs4 : w.heap.size < w4.heap.size := Nat.lt_of_lt_of_le hs3 hb4.size
      clear hU hb4 hk4 ho3 hs3
      go_wp2_with fail
      refine HG.out.mono ?_; rintro e w5 ⟨⟨v5, rfl⟩, hU, hb5, hk5⟩
      have HB5 := Lib.hid (HB4.out.trans hb5)
      have HJ5 := Lib.hid (show JSt w.heap.size N (k + 1) w5 from Or.inr ⟨Nat.succ_pos _, by
        rw [HTk.out, LX.J_snoc, if_neg (by intro h; have h1 := congrArg List.length h; rw [List.length_take, HN.out] at h1; have := HK.out; have := HK0.out; simp at h1; omega), HTx.out]
        have h := hU
        rw [List.append_assoc] at h
        exact h⟩)
      have HH5 := Lib.hid (Nat.lt_of_lt_of_le hs4 hb5.size)
      clear hU hb5 hk5 hs4 ho4
      go_wp2_with fail
      go_roundw
      case rel => exact ⟨k + 1, by have := HK.out; omega, by simp, HJ5, Lib.hid ⟨HB5.out, HH5.out⟩⟩
      case measure => have := HK.out; first | (simp [intOf]; done) | (simp [intOf]; omega)
end Go.Proofs.Ytfgnpphbkjeooaa
