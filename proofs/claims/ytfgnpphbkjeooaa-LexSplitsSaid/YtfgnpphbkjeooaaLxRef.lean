/- Layer 47: the reference's Split. -/
import Derived.Test.YtfgnpphbkjeooaaLxSplit
import Derived.Test.YtfgnpphbkjeooaaLxPart
import Derived.Test.YtfgnpphbkjeooaaLxB
import Derived.Test.YtfgnpphbkjeooaaLxS
import Derived.Test.YtfgnpphbkjeooaaKeep
import Derived.Test.YtfgnpphbkjeooaaHeldTill
import Derived.Deep.RegionHeld3
import Derived.Laws.Concat
namespace Go.Proofs.Ytfgnpphbkjeooaa
open Go.RowKit
set_option linter.unusedSimpArgs false
set_option linter.unusedVariables false
open LX (At)
theorem tkV_get : ∀ (N : List LX.Tk) (x : LX.Tk), (tkV (N ++ [x]))[N.length * 3 + 2]? = some (.string ⟨x.text.toArray⟩) := fun N x => by
  rw [tkV_snoc, List.getElem?_append_right (by rw [tkV_len]; omega), tkV_len, show N.length * 3 + 2 - N.length * 3 = 2 by omega]
  rfl
theorem tkV_set (N : List LX.Tk) (a b : Nat) (t u : List UInt8) : (tkV (N ++ [⟨a, b, t⟩])).set (N.length * 3 + 2) (.string ⟨u.toArray⟩) = tkV (N ++ [⟨a, b, u⟩]) := by
  rw [tkV_snoc, tkV_snoc, List.set_append_right _ _ (by rw [tkV_len]; omega), tkV_len, show N.length * 3 + 2 - N.length * 3 = 2 by omega]
  rfl
theorem str_app (a b : List UInt8) : (⟨a.toArray⟩ : ByteArray) ++ (⟨b.toArray⟩ : ByteArray) = ⟨(a ++ b).toArray⟩ := by
  have h : ((⟨a.toArray⟩ : ByteArray) ++ (⟨b.toArray⟩ : ByteArray)).data = (a ++ b).toArray := by simp
  generalize (⟨a.toArray⟩ : ByteArray) ++ (⟨b.toArray⟩ : ByteArray) = E at h ⊢
  obtain ⟨e⟩ := E
  simp only at h
  rw [h]
theorem run_string_op_t (a b : List UInt8) (W : World) (ha : a.length ≤ 1000) (hb : b.length ≤ 1000) : (Op.stringOp .add ⟨a.toArray⟩ ⟨b.toArray⟩).run Try.prog W = .ok (.string ((⟨a.toArray⟩ : ByteArray) ++ ⟨b.toArray⟩)) W := by
  have h1 : (⟨a.toArray⟩ : ByteArray).size = a.length := List.size_toArray
  have h2 : (⟨b.toArray⟩ : ByteArray).size = b.length := List.size_toArray
  exact run_string_add_sum (P := Try.prog) (w := W) ⟨a.toArray⟩ ⟨b.toArray⟩ (by omega)
theorem run_string_add_t (a b : List UInt8) (W : World) (ha : a.length ≤ 1000) (hb : b.length ≤ 1000) : (binOp .add 9 (.string ⟨a.toArray⟩) (.string ⟨b.toArray⟩)).run Try.prog W = .ok (.string ((⟨a.toArray⟩ : ByteArray) ++ ⟨b.toArray⟩)) W := by
  have h1 : (⟨a.toArray⟩ : ByteArray).size = a.length := List.size_toArray
  have h2 : (⟨b.toArray⟩ : ByteArray).size = b.length := List.size_toArray
  have hs := run_string_add_sum (P := Try.prog) (w := W) ⟨a.toArray⟩ ⟨b.toArray⟩ (by omega)
  have ht := Try.underlying9
  simp [binOp, hs, ht]
set_option maxRecDepth 100000 in
set_option maxHeartbeats 16000000 in
theorem ref47_Split (l : List UInt8) (w : World) (hl : l.length ≤ 1000) : Calls Try.prog 7 #[.string ⟨l.toArray⟩] w (SplitQ l w) := by
  obtain ⟨i4, hi4, hz4, hsize4, hby4⟩ : ∃ i, Try.prog.info? 29 = some i ∧ i.zero = some (.agg #[.int .i64 0, .int .i64 0, .string ⟨#[]⟩]) ∧ i.size = 3 ∧ i.bytes = 32 := ⟨(Try.prog.info? 29).get!, by kernel_rfl, by kernel_rfl, by kernel_rfl, by kernel_rfl⟩
  have HIx := Lib.hid (fun (k : Nat) (h : k < l.length) W => idx_atI (P := Try.prog) (t := 9) Try.underlying9 W h)
  have HSl := Lib.hid (fun (a b : Nat) (hab : a ≤ b) (hb : b ≤ l.length) W => slice_atI l a b W hab hb)
  have HPt := Lib.hid (fun (c d : UInt8) W => ref47_part c d W)
  have HIn := Lib.hid (fun (c : UInt8) W => ref47_in LX.signs c W (by decide))
  have HQn := Lib.hid (fun (w' : World) (ln : Nat) (h1 : Below w.heap.size w w') (h2 : LX.T l l.length 0 1 [] = (none, ln)) => (show SplitQ l w (.returned (.tuple #[.slice none 0 0, .int .i64 (ln : Int)])) w' from ⟨h1, Or.inl ⟨ln, h2, rfl⟩⟩))
  have HQs := Lib.hid (fun (w' : World) (out : List LX.Tk) (u : Value) (h1 : Below w.heap.size w w') (h2 : LX.T l l.length 0 1 [] = (some out, 0)) (h3 : out.length ≤ l.length) (h4 : w'.ownsRow w.heap.size 29 3 u out.length (tkV out)) => (show SplitQ l w (.returned (.tuple #[u, .int .i64 0])) w' from ⟨h1, Or.inr ⟨out, u, h2, rfl, h3, h4⟩⟩))
  obtain ⟨R, hR⟩ : ∃ R, LX.T l l.length 0 1 [] = R := ⟨_, rfl⟩
  have HR := Lib.hid hR
  obtain ⟨N, hN⟩ : ∃ N, l.length = N := ⟨_, rfl⟩
  have HN := Lib.hid hN
  have hlen : (⟨l.toArray⟩ : ByteArray).size = N := by rw [← hN]; exact List.size_toArray
  obtain ⟨S, hS⟩ : ∃ S : ByteArray, (⟨l.toArray⟩ : ByteArray) = S := ⟨_, rfl⟩
  rw [hS] at hlen HIx HSl ⊢
  rw [hN] at hl
  clear hR hN hS
  go_enter Try.func7, Try.ntmps7
  go_wp2_with fail
  go_loopw [4, 5, 6, 7] (fun oo ll bb jj wr => ∃ (k ln : Nat) (o : Bool) (out : List LX.Tk), jj = .int .i64 k ∧ ll = .int .i64 ln ∧ bb = .bool o ∧ k ≤ N ∧ ln ≤ k + 1 ∧ Hid (At l R k ln o out ∧ out.length ≤ k) ∧ Hid (wr.ownsRow w.heap.size 29 3 oo out.length (tkV out)) ∧ Hid (Below w.heap.size w wr)) (fun _ _ _ jj _ => N - (intOf jj).toNat)
  case atStart => exact ⟨0, 1, false, [], rfl, rfl, rfl, Nat.zero_le _, Nat.le_refl _, Lib.hid ⟨.shut _ _ HR.out (by omega), Nat.le_refl _⟩, Lib.hid (World.ownsRow_nil _ _ _ _), Lib.hid (Below.refl _ _)⟩
  case round =>
    obtain ⟨k, ln, o, out, rfl, rfl, rfl, hk, hln, hT, hO, hB⟩ := hrel
    rename World => W1
    by_cases hlt : k < N
    case neg =>
      obtain rfl : N = k := by omega
      have q1 : ((N : Int) < (N : Int)) = False := eq_false (by omega)
      have q1' : (N < N) = False := eq_false (by omega)
      have HRs := Lib.hid (show R = (some out, 0) by
        obtain ⟨f, h, _⟩ := hT.out.1.close (by rw [HN.out]; exact Nat.le_refl _) (fun _ h => by have := h.1; rw [HN.out] at this; omega)
        rw [← h]
        cases f with
        | zero => rfl
        | succ f => unfold LX.T; rw [if_neg (by rw [HN.out]; omega)])
      have HOO := hO
      have HBB := hB
      have HLe := Lib.hid hT.out.2
      clear hT hO hB hlt hk hln
      go_wp2_with fail
      go_returns
      exact HQs.out _ out _ HBB.out (HR.out.trans HRs.out) (by rw [HN.out]; exact HLe.out) HOO.out
    have q1 : ((k : Int) < (N : Int)) = True := eq_true (by omega)
    have q1' : (k < N) = True := eq_true hlt
    have hk62 : k ≤ 9223372036854775806 := by omega
    have hl62 : ln ≤ 9223372036854775806 := by omega
    have HK := Lib.hid (And.intro hlt hln)
    have hi1 := HIx.out k (by rw [HN.out]; exact hlt)
    have HAt := hT
    have HOO := hO
    have HBB := hB
    have hsl := fun W => (show (Instr.slice 9 (.string S) (some (.int .i64 (k : Int))) (some (.int .i64 ((k : Int) + 1))) none).run Try.prog W = .ok (.string ⟨[l.getD k 0].toArray⟩) W by
      have h := HSl.out k (k + 1) (by omega) (by rw [HN.out]; omega) W
      rw [LX.cut_one l k (by rw [HN.out]; exact hlt)] at h
      exact h)
    cases o
    case true =>
      have hk0 : 0 < k := by
        have h := HAt.out.1
        cases h with
        | word f b out h hf hb hg => omega
      have hi2 := fun W => (show (Instr.index 9 (.string S) (.int .i64 ((k : Int) - 1))).run Try.prog W = .ok (.int .u8 ((l.getD (k - 1) 0).toNat : Int)) W by
        have h1 := HIx.out (k - 1) (by rw [HN.out]; omega) W
        rwa [show ((k - 1 : Nat) : Int) = (k : Int) - 1 by omega] at h1)
      have hwr : wrap64 ((k : Int) - 1) = (k : Int) - 1 := by unfold wrap64; omega
      have HPk := Lib.hid (HPt.out (l.getD k 0) (l.getD (k - 1) 0))
      cases hg : (LX.wordC (l.getD k 0) || (decide (l.getD k 0 = 45) && decide (l.getD (k - 1) 0 = 35)))
      case true =>
        rw [hg] at HPk
        obtain ⟨o2, x, ho2, hA2, hx1, hx2, hx3⟩ := HAt.out.1.more (by rw [HN.out]; exact hlt) hg
        subst ho2
        obtain ⟨xk, xl, xt⟩ := x
        simp only at hx1 hx2 hx3 hA2
        subst hx1 hx2
        obtain ⟨q, hq⟩ : ∃ q, o2.length = q := ⟨_, rfl⟩
        have HA2 := Lib.hid (And.intro hA2 HAt.out.2)
        have hO2 := HOO.out
        rw [List.length_append, hq] at hO2
        obtain ⟨ga, gc, rfl⟩ := owns_form hO2
        rcases hO2.2 with ⟨h1, h0⟩ | ⟨g, cap, cur, h1, hBg, hgl, h2, h3, _⟩
        · simp at h0
        cases h1
        have hgB := Lib.hid hBg
        have hO3 := Lib.hid hO2
        have hq62 : q ≤ 9223372036854775806 := by
          have h := HAt.out.2
          rw [List.length_append, hq] at h
          omega
        have HSt := Lib.hid (fun u => tkV_set o2 1 xl xt u)
        have hap := str_app xt [l.getD k 0]
        have hso := fun W => run_string_op_t xt [l.getD k 0] W (by rw [HN.out] at hx3; omega) (by simp)
        have hadd := fun W => run_string_add_t xt [l.getD k 0] W (by rw [HN.out] at hx3; omega) (by simp)
        obtain ⟨cn, hcn⟩ : ∃ n : Int, ((l.getD k 0).toNat : Int) = n := ⟨_, rfl⟩
        obtain ⟨dn, hdn⟩ : ∃ n : Int, ((l.getD (k - 1) 0).toNat : Int) = n := ⟨_, rfl⟩
        rw [hcn] at hi1 HPk
        rw [hdn] at hi2 HPk
        obtain ⟨XT, hXT⟩ : ∃ X : ByteArray, (⟨xt.toArray⟩ : ByteArray) = X := ⟨_, rfl⟩
        obtain ⟨CT, hCT⟩ : ∃ X : ByteArray, (⟨[l.getD k 0].toArray⟩ : ByteArray) = X := ⟨_, rfl⟩
        have HXT := Lib.hid hXT
        rw [hXT] at hap hadd hso
        rw [hCT] at hsl hap hadd hso
        rw [hap] at hadd hso
        have HQl := Lib.hid hq
        clear hx3 hT hO hB hlt hk hln hg hA2 hq hcn hdn hXT hCT HAt HOO hO2 hk0 hgl hBg
        go_wp2_with fail
        refine (HPk.out _).mono ?_; rintro e w1 ⟨rfl, md, rfl⟩
        go_wp2_with fail
        obtain ⟨W4, hW4⟩ : ∃ W, W = W1.drewN md := ⟨_, rfl⟩
        have hb4 : Below W1.heap.size W1 W4 := by rw [hW4]; exact Below_drewN _ _ md
        rw [← hW4]
        have hO4 := owns_below hO3.out hb4
        have HB4 := Lib.hid (HBB.out.trans (hb4.mono HBB.out.size))
        have e0 := hO4.cellAt (q * 3 + 2) (by simp; omega)
        have e0g := tkV_get o2 ⟨1, xl, xt⟩
        rw [HQl.out] at e0g
        rw [e0g, HXT.out] at e0
        have f0 := hO4.frozenAt (q * 3 + 2)
        have z0 : g < W4.heap.size := big_cell e0
        have HOs := Lib.hid (fun (v : Value) => (hO4.stored (q * 3 + 2) v).1)
        have HBs := Lib.hid (fun (v : Value) => HB4.out.setCell (p := ⟨g, q * 3 + 2, none⟩) hgB.out v)
        have hwq : IntKind.i64.wrap (q : Int) = (q : Int) := IntWalk.i64_in _ (by omega)
        have hwk : IntKind.i64.wrap ((k : Int) + 1) = (k : Int) + 1 := IntWalk.i64_in _ (by omega)
        have r1 : ((q : Int) < (q : Int) + 1) = True := eq_true (by omega)
        have r2 : (0 ≤ (k : Int) + 1) = True := eq_true (by omega)
        clear hW4 hb4 hO4 e0g
        refine wp_region_till (S := (fun (L : Array Bool) (w' : World) => L.getD 19 true = false → Below W4.heap.size W4 w')) (by kernel_rfl) ?_ (fun hHeld => ?_)
        · (try dsimp only); exact fun _ => (Below.refl _ _).drew
        refine till_take 19 (fun _ => True) (i := 0) (oi := { dst := some 35, op := Op.move (Operand.tmp 4), type := 23, pos := _, after := #[], guard := none }) (u := ?_) rfl (by kernel_rfl) (by kernel_rfl) (by kernel_rfl) (by kernel_rfl) (by kernel_rfl) (by decide) (fun L v hL h => trivial) (fun L v => by simp only [getD_set_ne true (show 0 ≠ 19 by decide)]) (fun _ _ _ h => h) (Or.inl ⟨by rfl, ?_⟩) hHeld ?_
        rotate_left
        · intro wt _; first | (go_simp; done) | (go_simp; with_reducible rfl) | (trace_state; fail)
        clear hHeld; intro hHeld
        try simp only [Act.put, List.setIfInBounds_toArray, List.set_cons_zero, List.set_cons_succ]
        refine till_take 19 (fun _ => True) (i := 1) (oi := { dst := some 36, op := Op.move (Operand.tmp 4), type := 23, pos := _, after := #[], guard := none }) (u := ?_) rfl (by kernel_rfl) (by kernel_rfl) (by kernel_rfl) (by kernel_rfl) (by kernel_rfl) (by decide) (fun L v hL h => trivial) (fun L v => by simp only [getD_set_ne true (show 1 ≠ 19 by decide)]) (fun _ _ _ h => h) (Or.inl ⟨by rfl, ?_⟩) hHeld ?_
        rotate_left
        · intro wt _; first | (go_simp; done) | (go_simp; with_reducible rfl) | (trace_state; fail)
        clear hHeld; intro hHeld
        try simp only [Act.put, List.setIfInBounds_toArray, List.set_cons_zero, List.set_cons_succ]
        refine till_take 19 (fun _ => True) (i := 2) (oi := { dst := some 37, op := Op.call { callee := Callee.builtin Builtin.len, args := #[Operand.tmp 36], argTypes := #[23] }, type := 3, pos := _, after := #[{ on := 1, ground := Ground.data }], guard := none }) (u := ?_) rfl (by kernel_rfl) (by kernel_rfl) (by kernel_rfl) (by kernel_rfl) (by kernel_rfl) (by decide) (fun L v hL h => trivial) (fun L v => by simp only [getD_set_ne true (show 2 ≠ 19 by decide)]) (fun _ _ _ h => h) (Or.inl ⟨by rfl, ?_⟩) hHeld ?_
        rotate_left
        · intro wt _; first | (go_simp; done) | (go_simp; with_reducible rfl) | (trace_state; fail)
        clear hHeld; intro hHeld
        try simp only [Act.put, List.setIfInBounds_toArray, List.set_cons_zero, List.set_cons_succ]
        refine till_take 19 (fun _ => True) (i := 3) (oi := { dst := some 38, op := Op.binOp BinOp.sub 3 (Operand.tmp 37) (Operand.const (Value.int IntKind.i64 1)) 3, type := 3, pos := _, after := #[{ on := 2, ground := Ground.data }], guard := none }) (u := ?_) rfl (by kernel_rfl) (by kernel_rfl) (by kernel_rfl) (by kernel_rfl) (by kernel_rfl) (by decide) (fun L v hL h => trivial) (fun L v => by simp only [getD_set_ne true (show 3 ≠ 19 by decide)]) (fun _ _ _ h => h) (Or.inl ⟨by rfl, ?_⟩) hHeld ?_
        rotate_left
        · intro wt _; first | (go_simp; done) | (go_simp; with_reducible rfl) | (trace_state; fail)
        clear hHeld; intro hHeld
        try simp only [Act.put, List.setIfInBounds_toArray, List.set_cons_zero, List.set_cons_succ]
        refine till_take 19 (fun _ => True) (i := 4) (oi := { dst := some 39, op := Op.move (Operand.tmp 4), type := 23, pos := _, after := #[], guard := none }) (u := ?_) rfl (by kernel_rfl) (by kernel_rfl) (by kernel_rfl) (by kernel_rfl) (by kernel_rfl) (by decide) (fun L v hL h => trivial) (fun L v => by simp only [getD_set_ne true (show 4 ≠ 19 by decide)]) (fun _ _ _ h => h) (Or.inl ⟨by rfl, ?_⟩) hHeld ?_
        rotate_left
        · intro wt _; first | (go_simp; done) | (go_simp; with_reducible rfl) | (trace_state; fail)
        clear hHeld; intro hHeld
        try simp only [Act.put, List.setIfInBounds_toArray, List.set_cons_zero, List.set_cons_succ]
        refine till_take 19 (fun _ => True) (i := 5) (oi := { dst := some 40, op := Op.move (Operand.tmp 4), type := 23, pos := _, after := #[], guard := none }) (u := ?_) rfl (by kernel_rfl) (by kernel_rfl) (by kernel_rfl) (by kernel_rfl) (by kernel_rfl) (by decide) (fun L v hL h => trivial) (fun L v => by simp only [getD_set_ne true (show 5 ≠ 19 by decide)]) (fun _ _ _ h => h) (Or.inl ⟨by rfl, ?_⟩) hHeld ?_
        rotate_left
        · intro wt _; first | (go_simp; done) | (go_simp; with_reducible rfl) | (trace_state; fail)
        clear hHeld; intro hHeld
        try simp only [Act.put, List.setIfInBounds_toArray, List.set_cons_zero, List.set_cons_succ]
        refine till_take 19 (fun _ => True) (i := 6) (oi := { dst := some 41, op := Op.call { callee := Callee.builtin Builtin.len, args := #[Operand.tmp 40], argTypes := #[23] }, type := 3, pos := _, after := #[{ on := 5, ground := Ground.data }], guard := none }) (u := ?_) rfl (by kernel_rfl) (by kernel_rfl) (by kernel_rfl) (by kernel_rfl) (by kernel_rfl) (by decide) (fun L v hL h => trivial) (fun L v => by simp only [getD_set_ne true (show 6 ≠ 19 by decide)]) (fun _ _ _ h => h) (Or.inl ⟨by rfl, ?_⟩) hHeld ?_
        rotate_left
        · intro wt _; first | (go_simp; done) | (go_simp; with_reducible rfl) | (trace_state; fail)
        clear hHeld; intro hHeld
        try simp only [Act.put, List.setIfInBounds_toArray, List.set_cons_zero, List.set_cons_succ]
        refine till_take 19 (fun _ => True) (i := 7) (oi := { dst := some 42, op := Op.binOp BinOp.sub 3 (Operand.tmp 41) (Operand.const (Value.int IntKind.i64 1)) 3, type := 3, pos := _, after := #[{ on := 6, ground := Ground.data }], guard := none }) (u := ?_) rfl (by kernel_rfl) (by kernel_rfl) (by kernel_rfl) (by kernel_rfl) (by kernel_rfl) (by decide) (fun L v hL h => trivial) (fun L v => by simp only [getD_set_ne true (show 7 ≠ 19 by decide)]) (fun _ _ _ h => h) (Or.inl ⟨by rfl, ?_⟩) hHeld ?_
        rotate_left
        · intro wt _; first | (go_simp; done) | (go_simp; with_reducible rfl) | (trace_state; fail)
        clear hHeld; intro hHeld
        try simp only [Act.put, List.setIfInBounds_toArray, List.set_cons_zero, List.set_cons_succ]
        refine till_take 19 (fun _ => True) (i := 8) (oi := { dst := some 43, op := Op.indexAddr 23 (Operand.tmp 39) (Operand.tmp 42), type := 0, pos := _, after := #[{ on := 4, ground := Ground.data }, { on := 7, ground := Ground.data }], guard := none }) (u := ?_) rfl (by kernel_rfl) (by kernel_rfl) (by kernel_rfl) (by kernel_rfl) (by kernel_rfl) (by decide) (fun L v hL h => trivial) (fun L v => by simp only [getD_set_ne true (show 8 ≠ 19 by decide)]) (fun _ _ _ h => h) (Or.inl ⟨by rfl, ?_⟩) hHeld ?_
        rotate_left
        · intro wt _; first | (go_simp; done) | (go_simp; with_reducible rfl) | (trace_state; fail)
        clear hHeld; intro hHeld
        try simp only [Act.put, List.setIfInBounds_toArray, List.set_cons_zero, List.set_cons_succ]
        refine till_take 19 (fun _ => True) (i := 9) (oi := { dst := some 44, op := Op.fieldAddr 29 (Operand.tmp 43) 2, type := 0, pos := _, after := #[{ on := 8, ground := Ground.data }], guard := none }) (u := ?_) rfl (by kernel_rfl) (by kernel_rfl) (by kernel_rfl) (by kernel_rfl) (by kernel_rfl) (by decide) (fun L v hL h => trivial) (fun L v => by simp only [getD_set_ne true (show 9 ≠ 19 by decide)]) (fun _ _ _ h => h) (Or.inl ⟨by rfl, ?_⟩) hHeld ?_
        rotate_left
        · intro wt _; first | (go_simp; done) | (go_simp; with_reducible rfl) | (trace_state; fail)
        clear hHeld; intro hHeld
        try simp only [Act.put, List.setIfInBounds_toArray, List.set_cons_zero, List.set_cons_succ]
        refine till_take 19 (fun w' => Below W4.heap.size W4 w') (i := 10) (oi := { dst := some 45, op := Op.load 9 (Operand.tmp 44), type := 9, pos := _, after := #[{ on := 9, ground := Ground.data }], guard := none }) (u := ?_) rfl (by kernel_rfl) (by kernel_rfl) (by kernel_rfl) (by kernel_rfl) (by kernel_rfl) (by decide) (fun L v hL h => h hL) (fun L v => by simp only [getD_set_ne true (show 10 ≠ 19 by decide)]) (fun _ _ _ h => h) (Or.inl ⟨by rfl, ?_⟩) hHeld ?_
        rotate_left
        · intro wt hSw; (try dsimp only at hSw); have e0 := cellB hSw e0 z0; clear hSw; first | (go_simp; done) | (go_simp; with_reducible rfl) | (trace_state; fail)
        clear hHeld; intro hHeld
        try simp only [Act.put, List.setIfInBounds_toArray, List.set_cons_zero, List.set_cons_succ]
        refine till_take 19 (fun _ => True) (i := 11) (oi := { dst := some 46, op := Op.move (Operand.tmp 0), type := 9, pos := _, after := #[], guard := none }) (u := ?_) rfl (by kernel_rfl) (by kernel_rfl) (by kernel_rfl) (by kernel_rfl) (by kernel_rfl) (by decide) (fun L v hL h => trivial) (fun L v => by simp only [getD_set_ne true (show 11 ≠ 19 by decide)]) (fun _ _ _ h => h) (Or.inl ⟨by rfl, ?_⟩) hHeld ?_
        rotate_left
        · intro wt _; first | (go_simp; done) | (go_simp; with_reducible rfl) | (trace_state; fail)
        clear hHeld; intro hHeld
        try simp only [Act.put, List.setIfInBounds_toArray, List.set_cons_zero, List.set_cons_succ]
        refine till_take 19 (fun _ => True) (i := 12) (oi := { dst := some 47, op := Op.move (Operand.tmp 7), type := 3, pos := _, after := #[], guard := none }) (u := ?_) rfl (by kernel_rfl) (by kernel_rfl) (by kernel_rfl) (by kernel_rfl) (by kernel_rfl) (by decide) (fun L v hL h => trivial) (fun L v => by simp only [getD_set_ne true (show 12 ≠ 19 by decide)]) (fun _ _ _ h => h) (Or.inl ⟨by rfl, ?_⟩) hHeld ?_
        rotate_left
        · intro wt _; first | (go_simp; done) | (go_simp; with_reducible rfl) | (trace_state; fail)
        clear hHeld; intro hHeld
        try simp only [Act.put, List.setIfInBounds_toArray, List.set_cons_zero, List.set_cons_succ]
        refine till_take 19 (fun _ => True) (i := 13) (oi := { dst := some 48, op := Op.move (Operand.tmp 7), type := 3, pos := _, after := #[], guard := none }) (u := ?_) rfl (by kernel_rfl) (by kernel_rfl) (by kernel_rfl) (by kernel_rfl) (by kernel_rfl) (by decide) (fun L v hL h => trivial) (fun L v => by simp only [getD_set_ne true (show 13 ≠ 19 by decide)]) (fun _ _ _ h => h) (Or.inl ⟨by rfl, ?_⟩) hHeld ?_
        rotate_left
        · intro wt _; first | (go_simp; done) | (go_simp; with_reducible rfl) | (trace_state; fail)
        clear hHeld; intro hHeld
        try simp only [Act.put, List.setIfInBounds_toArray, List.set_cons_zero, List.set_cons_succ]
        refine till_take 19 (fun _ => True) (i := 14) (oi := { dst := some 49, op := Op.binOp BinOp.add 3 (Operand.tmp 48) (Operand.const (Value.int IntKind.i64 1)) 3, type := 3, pos := _, after := #[{ on := 13, ground := Ground.data }], guard := none }) (u := ?_) rfl (by kernel_rfl) (by kernel_rfl) (by kernel_rfl) (by kernel_rfl) (by kernel_rfl) (by decide) (fun L v hL h => trivial) (fun L v => by simp only [getD_set_ne true (show 14 ≠ 19 by decide)]) (fun _ _ _ h => h) (Or.inl ⟨by rfl, ?_⟩) hHeld ?_
        rotate_left
        · intro wt _; first | (go_simp; done) | (go_simp; with_reducible rfl) | (trace_state; fail)
        clear hHeld; intro hHeld
        try simp only [Act.put, List.setIfInBounds_toArray, List.set_cons_zero, List.set_cons_succ]
        refine till_take 19 (fun _ => True) (i := 15) (oi := { dst := some 50, op := Op.slice 9 (Operand.tmp 46) (some (Operand.tmp 47)) (some (Operand.tmp 49)) none, type := 9, pos := _, after := #[{ on := 11, ground := Ground.data }, { on := 12, ground := Ground.data }, { on := 14, ground := Ground.data }], guard := none }) (u := ?_) rfl (by kernel_rfl) (by kernel_rfl) (by kernel_rfl) (by kernel_rfl) (by kernel_rfl) (by decide) (fun L v hL h => trivial) (fun L v => by simp only [getD_set_ne true (show 15 ≠ 19 by decide)]) (fun _ _ _ h => h) (Or.inl ⟨by rfl, ?_⟩) hHeld ?_
        rotate_left
        · intro wt _; first | (go_simp; done) | (go_simp; with_reducible rfl) | (trace_state; fail)
        clear hHeld; intro hHeld
        try simp only [Act.put, List.setIfInBounds_toArray, List.set_cons_zero, List.set_cons_succ]
        refine till_take 19 (fun _ => True) (i := 16) (oi := { dst := some 51, op := Op.binOp BinOp.add 9 (Operand.tmp 45) (Operand.tmp 50) 9, type := 9, pos := _, after := #[{ on := 10, ground := Ground.data }, { on := 15, ground := Ground.data }], guard := none }) (u := ?_) rfl (by kernel_rfl) (by kernel_rfl) (by kernel_rfl) (by kernel_rfl) (by kernel_rfl) (by decide) (fun L v hL h => trivial) (fun L v => by simp only [getD_set_ne true (show 16 ≠ 19 by decide)]) (fun _ _ _ h => h) (Or.inl ⟨by rfl, ?_⟩) hHeld ?_
        rotate_left
        · intro wt _; first | (go_simp; done) | (go_simp; with_reducible rfl) | (trace_state; fail)
        clear hHeld; intro hHeld
        try simp only [Act.put, List.setIfInBounds_toArray, List.set_cons_zero, List.set_cons_succ]
        refine till_take 18 (fun _ => True) (i := 17) (oi := { dst := some 52, op := Op.indexAddr 23 (Operand.tmp 35) (Operand.tmp 38), type := 0, pos := _, after := #[{ on := 0, ground := Ground.data }, { on := 3, ground := Ground.data }, { on := 0, ground := Ground.phase }, { on := 1, ground := Ground.phase }, { on := 2, ground := Ground.phase }, { on := 3, ground := Ground.phase }, { on := 4, ground := Ground.phase }, { on := 5, ground := Ground.phase }, { on := 6, ground := Ground.phase }, { on := 7, ground := Ground.phase }, { on := 8, ground := Ground.phase }, { on := 9, ground := Ground.phase }, { on := 10, ground := Ground.phase }, { on := 11, ground := Ground.phase }, { on := 12, ground := Ground.phase }, { on := 13, ground := Ground.phase }, { on := 14, ground := Ground.phase }, { on := 15, ground := Ground.phase }, { on := 16, ground := Ground.phase }], guard := none }) (u := ?_) rfl (by kernel_rfl) (by kernel_rfl) (by kernel_rfl) (by kernel_rfl) (by kernel_rfl) (by decide) (fun L v hL h => trivial) (fun L v => by simp only [getD_set_ne true (show 17 ≠ 19 by decide)]) (fun _ _ _ h => h) (Or.inl ⟨by rfl, ?_⟩) hHeld ?_
        rotate_left
        · intro wt _; first | (go_simp; done) | (go_simp; with_reducible rfl) | (trace_state; fail)
        clear hHeld; intro hHeld
        try simp only [Act.put, List.setIfInBounds_toArray, List.set_cons_zero, List.set_cons_succ]
        refine till_take 19 (fun _ => True) (i := 18) (oi := { dst := some 53, op := Op.fieldAddr 29 (Operand.tmp 52) 2, type := 0, pos := _, after := #[{ on := 17, ground := Ground.data }, { on := 0, ground := Ground.phase }, { on := 1, ground := Ground.phase }, { on := 2, ground := Ground.phase }, { on := 3, ground := Ground.phase }, { on := 4, ground := Ground.phase }, { on := 5, ground := Ground.phase }, { on := 6, ground := Ground.phase }, { on := 7, ground := Ground.phase }, { on := 8, ground := Ground.phase }, { on := 9, ground := Ground.phase }, { on := 10, ground := Ground.phase }, { on := 11, ground := Ground.phase }, { on := 12, ground := Ground.phase }, { on := 13, ground := Ground.phase }, { on := 14, ground := Ground.phase }, { on := 15, ground := Ground.phase }, { on := 16, ground := Ground.phase }], guard := none }) (u := ?_) rfl (by kernel_rfl) (by kernel_rfl) (by kernel_rfl) (by kernel_rfl) (by kernel_rfl) (by decide) (fun L v hL h => trivial) (fun L v => by simp only [getD_set_ne true (show 18 ≠ 19 by decide)]) (fun _ _ _ h => h) (Or.inl ⟨by rfl, ?_⟩) hHeld ?_
        rotate_left
        · intro wt _; first | (go_simp; done) | (go_simp; with_reducible rfl) | (trace_state; fail)
        clear hHeld; intro hHeld
        try simp only [Act.put, List.setIfInBounds_toArray, List.set_cons_zero, List.set_cons_succ]
        refine till_one (i := 19) (o := { dst := none, op := Op.store 9 (Operand.tmp 53) (Operand.tmp 51), type := 0, pos := _, after := #[{ on := 18, ground := Ground.data }, { on := 16, ground := Ground.data }, { on := 0, ground := Ground.phase }, { on := 1, ground := Ground.phase }, { on := 2, ground := Ground.phase }, { on := 3, ground := Ground.phase }, { on := 4, ground := Ground.phase }, { on := 5, ground := Ground.phase }, { on := 6, ground := Ground.phase }, { on := 7, ground := Ground.phase }, { on := 8, ground := Ground.phase }, { on := 9, ground := Ground.phase }, { on := 10, ground := Ground.phase }, { on := 11, ground := Ground.phase }, { on := 12, ground := Ground.phase }, { on := 13, ground := Ground.phase }, { on := 14, ground := Ground.phase }, { on := 15, ground := Ground.phase }, { on := 16, ground := Ground.phase }], guard := none }) (by kernel_rfl) rfl (fun K hK => ?_)
        go_simp
        refine hK.out _ _ ?_ (fun hHeld => ?_)
        · (try dsimp only); exact fun h => absurd h (by decide)
        clear hK K
        try simp only [Act.put, List.setIfInBounds_toArray, List.set_cons_zero, List.set_cons_succ]
        refine till_done (by kernel_rfl) ?_ _
        go_wp2_with fail
        go_roundw
        case rel => exact ⟨k + 1, xl, true, o2 ++ [⟨1, xl, xt ++ [l.getD k 0]⟩], by simp, rfl, rfl, by have := HK.out; omega, by have := HK.out; omega, Lib.hid ⟨HA2.out.1, by have := HA2.out.2; simp at this ⊢; omega⟩, Lib.hid (by rw [← HSt.out (xt ++ [l.getD k 0]), List.length_append, HQl.out]; exact HOs.out _), Lib.hid (HBs.out _).drew⟩
        case measure => have := HK.out; first | (simp [intOf]; done) | (simp [intOf]; omega)

      obtain ⟨f0, hT0, hf0⟩ := HAt.out.1.close (by rw [HN.out]; exact hk) (fun _ h => by rw [hg] at h; exact absurd h.2 (by decide))
      have hw : LX.wordC (l.getD k 0) = false := (Bool.or_eq_false_iff.1 hg).1
      rw [hg] at HPk
      have HF := Lib.hid (show out.length ≤ k from HAt.out.2)
      have HOO := HOO
      have HBB := HBB
      obtain ⟨f, rfl⟩ : ∃ g, f0 = g + 1 := ⟨f0 - 1, by rw [HN.out] at hf0; omega⟩
      have Hf0 := Lib.hid (show N - (k + 1) ≤ f by rw [HN.out] at hf0; omega)
      have HT := Lib.hid (show (if LX.blanks.contains (l.getD k 0) = true then LX.T l f (k + 1) (if l.getD k 0 = 10 then ln + 1 else ln) out
        else if LX.signE l k = k then (none, ln) else LX.T l f (LX.signE l k) ln (out ++ [⟨2, ln, LX.cut l k (LX.signE l k)⟩])) = R by
          have h := hT0
          unfold LX.T at h
          rwa [if_pos (show k < l.length by rw [HN.out]; exact hlt), LX.wordE_none (by rw [HN.out]; exact hlt) hw, if_pos rfl] at h)
      clear hT0 hf0 hw hg hT hO hB HAt
      by_cases c10 : l.getD k 0 = 10
      ·
        as_aux_lemma =>
          have HV := Lib.hid (show LX.T l f (k + 1) (ln + 1) out = R by have h := HT.out; rw [c10] at h; exact h)
          rw [c10] at hi1 HPk
          rw [show ((((10 : UInt8)).toNat : Nat) : Int) = 10 from rfl] at hi1 HPk
          clear HT hlt hk hln hsl c10
          go_wp2_with fail
          refine (HPk.out _).mono ?_; rintro e w1 ⟨rfl, md, rfl⟩
          obtain ⟨W3, hW3⟩ : ∃ W, W = W1.drewN md := ⟨_, rfl⟩
          have hb3 : Below W1.heap.size W1 W3 := by rw [hW3]; exact Below_drewN _ _ md
          rw [← hW3]
          have HO4 := Lib.hid (owns_below HOO.out hb3)
          have HB4 := Lib.hid (HBB.out.trans (hb3.mono HBB.out.size))
          clear hW3 hb3
          go_wp2_with fail
          go_roundw
          case rel => exact ⟨k + 1, ln + 1, false, out, by simp, by simp, rfl, by have := HK.out; omega, by have := HK.out; omega, Lib.hid ⟨.shut f _ HV.out (by rw [HN.out]; exact Hf0.out), by have := HF.out; omega⟩, HO4, HB4⟩
          case measure => have := HK.out; first | (simp [intOf]; done) | (simp [intOf]; omega)
      by_cases c32 : l.getD k 0 = 32
      ·
        as_aux_lemma =>
          have HV := Lib.hid (show LX.T l f (k + 1) ln out = R by have h := HT.out; rw [c32] at h; exact h)
          rw [c32] at hi1 HPk
          rw [show ((((32 : UInt8)).toNat : Nat) : Int) = 32 from rfl] at hi1 HPk
          clear HT hlt hk hln hsl c10 c32
          go_wp2_with fail
          refine (HPk.out _).mono ?_; rintro e w1 ⟨rfl, md, rfl⟩
          obtain ⟨W3, hW3⟩ : ∃ W, W = W1.drewN md := ⟨_, rfl⟩
          have hb3 : Below W1.heap.size W1 W3 := by rw [hW3]; exact Below_drewN _ _ md
          rw [← hW3]
          have HO4 := Lib.hid (owns_below HOO.out hb3)
          have HB4 := Lib.hid (HBB.out.trans (hb3.mono HBB.out.size))
          clear hW3 hb3
          go_wp2_with fail
          go_roundw
          case rel => exact ⟨k + 1, ln, false, out, by simp, rfl, rfl, by have := HK.out; omega, by have := HK.out; omega, Lib.hid ⟨.shut f _ HV.out (by rw [HN.out]; exact Hf0.out), by have := HF.out; omega⟩, HO4, HB4⟩
          case measure => have := HK.out; first | (simp [intOf]; done) | (simp [intOf]; omega)
      by_cases c9 : l.getD k 0 = 9
      ·
        as_aux_lemma =>
          have HV := Lib.hid (show LX.T l f (k + 1) ln out = R by have h := HT.out; rw [c9] at h; exact h)
          rw [c9] at hi1 HPk
          rw [show ((((9 : UInt8)).toNat : Nat) : Int) = 9 from rfl] at hi1 HPk
          clear HT hlt hk hln hsl c10 c32 c9
          go_wp2_with fail
          refine (HPk.out _).mono ?_; rintro e w1 ⟨rfl, md, rfl⟩
          obtain ⟨W3, hW3⟩ : ∃ W, W = W1.drewN md := ⟨_, rfl⟩
          have hb3 : Below W1.heap.size W1 W3 := by rw [hW3]; exact Below_drewN _ _ md
          rw [← hW3]
          have HO4 := Lib.hid (owns_below HOO.out hb3)
          have HB4 := Lib.hid (HBB.out.trans (hb3.mono HBB.out.size))
          clear hW3 hb3
          go_wp2_with fail
          go_roundw
          case rel => exact ⟨k + 1, ln, false, out, by simp, rfl, rfl, by have := HK.out; omega, by have := HK.out; omega, Lib.hid ⟨.shut f _ HV.out (by rw [HN.out]; exact Hf0.out), by have := HF.out; omega⟩, HO4, HB4⟩
          case measure => have := HK.out; first | (simp [intOf]; done) | (simp [intOf]; omega)
      by_cases c13 : l.getD k 0 = 13
      ·
        as_aux_lemma =>
          have HV := Lib.hid (show LX.T l f (k + 1) ln out = R by have h := HT.out; rw [c13] at h; exact h)
          rw [c13] at hi1 HPk
          rw [show ((((13 : UInt8)).toNat : Nat) : Int) = 13 from rfl] at hi1 HPk
          clear HT hlt hk hln hsl c10 c32 c9 c13
          go_wp2_with fail
          refine (HPk.out _).mono ?_; rintro e w1 ⟨rfl, md, rfl⟩
          obtain ⟨W3, hW3⟩ : ∃ W, W = W1.drewN md := ⟨_, rfl⟩
          have hb3 : Below W1.heap.size W1 W3 := by rw [hW3]; exact Below_drewN _ _ md
          rw [← hW3]
          have HO4 := Lib.hid (owns_below HOO.out hb3)
          have HB4 := Lib.hid (HBB.out.trans (hb3.mono HBB.out.size))
          clear hW3 hb3
          go_wp2_with fail
          go_roundw
          case rel => exact ⟨k + 1, ln, false, out, by simp, rfl, rfl, by have := HK.out; omega, by have := HK.out; omega, Lib.hid ⟨.shut f _ HV.out (by rw [HN.out]; exact Hf0.out), by have := HF.out; omega⟩, HO4, HB4⟩
          case measure => have := HK.out; first | (simp [intOf]; done) | (simp [intOf]; omega)
      have HT2 := Lib.hid (show (if LX.signE l k = k then (none, ln) else LX.T l f (LX.signE l k) ln (out ++ [⟨2, ln, LX.cut l k (LX.signE l k)⟩])) = R by
          have h := HT.out
          rwa [if_neg (by simp only [LX.blanks, List.contains_eq_mem, List.mem_cons, List.not_mem_nil, or_false, decide_eq_true_eq]; exact fun h => h.elim c32 fun h => h.elim c9 fun h => h.elim c13 c10)] at h)
      have HE := Lib.hid (fun (d : UInt8) (v : UInt8) => (show ((d.toNat : Nat) : Int) = ((v.toNat : Nat) : Int) ↔ d = v from ⟨fun h => UInt8.toNat_inj.1 (by omega), fun h => by rw [h]⟩))
      have HIc := Lib.hid (fun W => HIn.out (l.getD k 0) W)
      have n10 : ((((l.getD k 0).toNat : Nat) : Int) == 10) = false := by simpa using fun h => c10 ((HE.out (l.getD k 0) 10).1 h)
      have n32 : ((((l.getD k 0).toNat : Nat) : Int) == 32) = false := by simpa using fun h => c32 ((HE.out (l.getD k 0) 32).1 h)
      have n9 : ((((l.getD k 0).toNat : Nat) : Int) == 9) = false := by simpa using fun h => c9 ((HE.out (l.getD k 0) 9).1 h)
      have n13 : ((((l.getD k 0).toNat : Nat) : Int) == 13) = false := by simpa using fun h => c13 ((HE.out (l.getD k 0) 13).1 h)
      clear HT c10 c32 c9 c13
      cases hs : LX.signs.contains (l.getD k 0)
      case false =>
        as_aux_lemma =>
          rw [hs] at HIc
          have HV := Lib.hid (show (none, ln) = R by have h := HT2.out; rwa [if_pos (LX.signE_none hs)] at h)
          obtain ⟨cn, hcn⟩ : ∃ n : Int, ((l.getD k 0).toNat : Int) = n := ⟨_, rfl⟩
          rw [hcn] at hi1 HPk HIc n10 n32 n9 n13
          clear HT2 hlt hk hln hsl hs hcn
          go_wp2_with fail
          refine (HPk.out _).mono ?_; rintro e w1 ⟨rfl, md, rfl⟩
          obtain ⟨W3, hW3⟩ : ∃ W, W = W1.drewN md := ⟨_, rfl⟩
          have hb3 : Below W1.heap.size W1 W3 := by rw [hW3]; exact Below_drewN _ _ md
          rw [← hW3]
          have HB4 := Lib.hid (HBB.out.trans (hb3.mono HBB.out.size))
          clear hW3 hb3
          go_wp2_with fail
          refine (HIc.out _).mono ?_; rintro e w1 ⟨rfl, m5, rfl⟩
          obtain ⟨W5, hW5⟩ : ∃ W, W = W3.drewN m5 := ⟨_, rfl⟩
          have hb5 : Below W3.heap.size W3 W5 := by rw [hW5]; exact Below_drewN _ _ m5
          rw [← hW5]
          have HB5 := Lib.hid (HB4.out.trans (hb5.mono HB4.out.size))
          clear hW5 hb5
          go_wp2_with fail
          go_returns
          exact HQn.out _ ln HB5.out (HR.out.trans HV.out.symm)
      rw [hs] at HIc
      obtain ⟨m, hmm⟩ : ∃ m, out.length = m := ⟨_, rfl⟩
      have HM := Lib.hid hmm
      rw [hmm] at HOO HF
      have hm1000 : m ≤ 1000 := by have := HF.out; omega
      have HM3 := Lib.hid hm1000
      clear hmm hm1000
      by_cases k2 : k + 1 < N
      case neg =>
        have r1 : ((k : Int) + 1 < (N : Int)) = False := eq_false (by omega)
        have HKx := Lib.hid (show k + 1 ≤ N by omega)
        have HV := Lib.hid (show LX.T l f (k + 1) ln (out ++ [⟨2, ln, LX.cut l k (k + 1)⟩]) = R by have h := HT2.out; rwa [LX.signE_one hs (by rw [HN.out]; exact fun h => k2 h.1), if_neg (by omega)] at h)
        rw [← LX.cut_one l k (by rw [HN.out]; exact hlt)] at hsl
        as_aux_lemma =>
          obtain ⟨cn, hcn⟩ : ∃ n : Int, ((l.getD k 0).toNat : Int) = n := ⟨_, rfl⟩
          rw [hcn] at hi1 HPk HIc n10 n32 n9 n13
          clear hcn HT2 hlt hk hln hs k2
          go_wp2_with fail
          refine (HPk.out _).mono ?_; rintro e w1 ⟨rfl, md, rfl⟩
          obtain ⟨W3, hW3⟩ : ∃ W, W = W1.drewN md := ⟨_, rfl⟩
          have hb3 : Below W1.heap.size W1 W3 := by rw [hW3]; exact Below_drewN _ _ md
          rw [← hW3]
          have HO4 := Lib.hid (owns_below HOO.out hb3)
          have HB4 := Lib.hid (HBB.out.trans (hb3.mono HBB.out.size))
          clear hW3 hb3
          go_wp2_with fail
          refine (HIc.out _).mono ?_; rintro e w1 ⟨rfl, m5, rfl⟩
          obtain ⟨W5, hW5⟩ : ∃ W, W = W3.drewN m5 := ⟨_, rfl⟩
          have hb5 : Below W3.heap.size W3 W5 := by rw [hW5]; exact Below_drewN _ _ m5
          rw [← hW5]
          have HO5 := Lib.hid (owns_below HO4.out hb5)
          have HB5 := Lib.hid (HB4.out.trans (hb5.mono HB4.out.size))
          clear hW5 hb5 HO4 HB4
          go_wp2_with (first | (at_builtin; go_loud (refine wpList_append_src rfl (.tmp 123) (.tmp 132) 23 rfl w.heap.size 29 i4 _ 3 32 Try.underlying23 hi4 hz4 hsize4 hby4 rfl (by omega) _ m _ rfl (owns_below HO5.out ((Below.refl _ _).alloc (Nat.le_refl _) _)) _ 1 [.int .i64 2, .int .i64 (ln : Int), .string ⟨(LX.cut l k (k + 1)).toArray⟩] rfl (src_newT _ _ _ (by simp)) rfl (by intro u hu; simp at hu; rcases hu with rfl | rfl | rfl <;> rfl) (by have := HM3.out; unfold maxLen; omega) (by have := HM3.out; omega) (by have h1 := HB5.out.size; simp; omega) ?_; intro v5 W6 hO6 hG6; have HO6 := Lib.hid hO6; have HB6 := Lib.hid (grown3 (HB5.out.alloc HB5.out.size _) (by have h1 := HB5.out.size; simp; omega) (owns_below HO5.out ((Below.refl _ _).alloc (Nat.le_refl _) _)) hG6); clear hO6 hG6)) | fail)
          go_roundw
          case rel => exact ⟨k + 1, ln, false, out ++ [⟨2, ln, LX.cut l k (k + 1)⟩], by simp, rfl, rfl, by have := HK.out; have := HKx.out; omega, by have := HK.out; omega, Lib.hid ⟨.shut f _ HV.out (by rw [HN.out]; have := Hf0.out; omega), by rw [List.length_append, HM.out]; have := HF.out; simp; omega⟩, Lib.hid (by rw [tkV_snoc, List.length_append, HM.out]; exact HO6.out), HB6⟩
          case measure => have := HK.out; have := HKx.out; first | (simp [intOf]; done) | (simp [intOf]; omega)
      have r1 : ((k : Int) + 1 < (N : Int)) = True := eq_true (by omega)
      have hi3 := fun W => (show (Instr.index 9 (.string S) (.int .i64 ((k : Int) + 1))).run Try.prog W = .ok (.int .u8 ((l.getD (k + 1) 0).toNat : Int)) W by have h := HIx.out (k + 1) (by rw [HN.out]; exact k2) W; rwa [show ((k + 1 : Nat) : Int) = (k : Int) + 1 by omega] at h)
      have hsl2 := fun W => (show (Instr.slice 9 (.string S) (some (.int .i64 (k : Int))) (some (.int .i64 ((k : Int) + 1 + 1))) none).run Try.prog W = .ok (.string ⟨(LX.cut l k (k + 2)).toArray⟩) W by have h := HSl.out k (k + 2) (by omega) (by rw [HN.out]; omega) W; rwa [show ((k + 2 : Nat) : Int) = (k : Int) + 1 + 1 by omega] at h)
      have HKx := Lib.hid (show k + 2 ≤ N by omega)
      have hw2 : wrap64 ((k : Int) + 1 + 1) = (k : Int) + 1 + 1 := by unfold wrap64; omega
      have HSg := Lib.hid (And.intro (@LX.signE_one l k hs) (@LX.signE_two l k (by rw [HN.out]; exact k2)))
      obtain ⟨d, hd⟩ : ∃ d, l.getD (k + 1) 0 = d := ⟨_, rfl⟩
      rw [hd] at hi3 HSg
      by_cases c58 : l.getD k 0 = 58
      · skip
        by_cases d61 : d = 61
        · have HV := Lib.hid (show LX.T l f (k + 2) ln (out ++ [⟨2, ln, LX.cut l k (k + 2)⟩]) = R by have h := HT2.out; rwa [HSg.out.2 (by rw [c58, d61]; unfold LX.two; decide), if_neg (by omega)] at h)
          rw [d61, show ((((61 : UInt8)).toNat : Nat) : Int) = 61 from rfl] at hi3
          as_aux_lemma =>
            rw [c58, show ((((58 : UInt8)).toNat : Nat) : Int) = 58 from rfl] at hi1 HPk HIc
            clear n10 n32 n9 n13 HT2 HSg hlt hk hln hs k2 hd hsl d61 c58
            go_wp2_with fail
            refine (HPk.out _).mono ?_; rintro e w1 ⟨rfl, md, rfl⟩
            obtain ⟨W3, hW3⟩ : ∃ W, W = W1.drewN md := ⟨_, rfl⟩
            have hb3 : Below W1.heap.size W1 W3 := by rw [hW3]; exact Below_drewN _ _ md
            rw [← hW3]
            have HO4 := Lib.hid (owns_below HOO.out hb3)
            have HB4 := Lib.hid (HBB.out.trans (hb3.mono HBB.out.size))
            clear hW3 hb3
            go_wp2_with fail
            refine (HIc.out _).mono ?_; rintro e w1 ⟨rfl, m5, rfl⟩
            obtain ⟨W5, hW5⟩ : ∃ W, W = W3.drewN m5 := ⟨_, rfl⟩
            have hb5 : Below W3.heap.size W3 W5 := by rw [hW5]; exact Below_drewN _ _ m5
            rw [← hW5]
            have HO5 := Lib.hid (owns_below HO4.out hb5)
            have HB5 := Lib.hid (HB4.out.trans (hb5.mono HB4.out.size))
            clear hW5 hb5 HO4 HB4
            go_wp2_with (first | (at_builtin; go_loud (refine wpList_append_src rfl (.tmp 123) (.tmp 132) 23 rfl w.heap.size 29 i4 _ 3 32 Try.underlying23 hi4 hz4 hsize4 hby4 rfl (by omega) _ m _ rfl (owns_below HO5.out ((Below.refl _ _).alloc (Nat.le_refl _) _)) _ 1 [.int .i64 2, .int .i64 (ln : Int), .string ⟨(LX.cut l k (k + 2)).toArray⟩] rfl (src_newT _ _ _ (by simp)) rfl (by intro u hu; simp at hu; rcases hu with rfl | rfl | rfl <;> rfl) (by have := HM3.out; unfold maxLen; omega) (by have := HM3.out; omega) (by have h1 := HB5.out.size; simp; omega) ?_; intro v5 W6 hO6 hG6; have HO6 := Lib.hid hO6; have HB6 := Lib.hid (grown3 (HB5.out.alloc HB5.out.size _) (by have h1 := HB5.out.size; simp; omega) (owns_below HO5.out ((Below.refl _ _).alloc (Nat.le_refl _) _)) hG6); clear hO6 hG6)) | fail)
            go_roundw
            case rel => exact ⟨k + 2, ln, false, out ++ [⟨2, ln, LX.cut l k (k + 2)⟩], by simp; omega, rfl, rfl, by have := HK.out; have := HKx.out; omega, by have := HK.out; omega, Lib.hid ⟨.shut f _ HV.out (by rw [HN.out]; have := Hf0.out; omega), by rw [List.length_append, HM.out]; have := HF.out; simp; omega⟩, Lib.hid (by rw [tkV_snoc, List.length_append, HM.out]; exact HO6.out), HB6⟩
            case measure => have h1 := HK.out; have h2 := HKx.out; rw [hw2]; show N - ((k : Int) + 1 + 1).toNat < N - ((k : Int)).toNat; omega
        have HV := Lib.hid (show LX.T l f (k + 1) ln (out ++ [⟨2, ln, LX.cut l k (k + 1)⟩]) = R by have h := HT2.out; rwa [HSg.out.1 (by rw [c58]; unfold LX.two; rintro ⟨_, h⟩; rcases h with ⟨h1, h2⟩ | ⟨h1, h2⟩ | ⟨h1, h2⟩ | ⟨h1, h2⟩ <;> first | exact absurd h1 (by decide) | exact d61 h2), if_neg (by omega)] at h)
        have nd61 : (((d.toNat : Nat) : Int) == 61) = false := by simpa using fun h => d61 ((HE.out d 61).1 h)
        obtain ⟨dn, hdn⟩ : ∃ n : Int, (d.toNat : Int) = n := ⟨_, rfl⟩
        rw [hdn] at hi3 nd61
        rw [← LX.cut_one l k (by rw [HN.out]; exact hlt)] at hsl
        as_aux_lemma =>
          rw [c58, show ((((58 : UInt8)).toNat : Nat) : Int) = 58 from rfl] at hi1 HPk HIc
          clear n10 n32 n9 n13 HT2 HSg hdn hlt hk hln hs k2 hd hsl2 c58 d61
          go_wp2_with fail
          refine (HPk.out _).mono ?_; rintro e w1 ⟨rfl, md, rfl⟩
          obtain ⟨W3, hW3⟩ : ∃ W, W = W1.drewN md := ⟨_, rfl⟩
          have hb3 : Below W1.heap.size W1 W3 := by rw [hW3]; exact Below_drewN _ _ md
          rw [← hW3]
          have HO4 := Lib.hid (owns_below HOO.out hb3)
          have HB4 := Lib.hid (HBB.out.trans (hb3.mono HBB.out.size))
          clear hW3 hb3
          go_wp2_with fail
          refine (HIc.out _).mono ?_; rintro e w1 ⟨rfl, m5, rfl⟩
          obtain ⟨W5, hW5⟩ : ∃ W, W = W3.drewN m5 := ⟨_, rfl⟩
          have hb5 : Below W3.heap.size W3 W5 := by rw [hW5]; exact Below_drewN _ _ m5
          rw [← hW5]
          have HO5 := Lib.hid (owns_below HO4.out hb5)
          have HB5 := Lib.hid (HB4.out.trans (hb5.mono HB4.out.size))
          clear hW5 hb5 HO4 HB4
          go_wp2_with (first | (at_builtin; go_loud (refine wpList_append_src rfl (.tmp 123) (.tmp 132) 23 rfl w.heap.size 29 i4 _ 3 32 Try.underlying23 hi4 hz4 hsize4 hby4 rfl (by omega) _ m _ rfl (owns_below HO5.out ((Below.refl _ _).alloc (Nat.le_refl _) _)) _ 1 [.int .i64 2, .int .i64 (ln : Int), .string ⟨(LX.cut l k (k + 1)).toArray⟩] rfl (src_newT _ _ _ (by simp)) rfl (by intro u hu; simp at hu; rcases hu with rfl | rfl | rfl <;> rfl) (by have := HM3.out; unfold maxLen; omega) (by have := HM3.out; omega) (by have h1 := HB5.out.size; simp; omega) ?_; intro v5 W6 hO6 hG6; have HO6 := Lib.hid hO6; have HB6 := Lib.hid (grown3 (HB5.out.alloc HB5.out.size _) (by have h1 := HB5.out.size; simp; omega) (owns_below HO5.out ((Below.refl _ _).alloc (Nat.le_refl _) _)) hG6); clear hO6 hG6)) | fail)
          go_roundw
          case rel => exact ⟨k + 1, ln, false, out ++ [⟨2, ln, LX.cut l k (k + 1)⟩], by simp, rfl, rfl, by have := HK.out; have := HKx.out; omega, by have := HK.out; omega, Lib.hid ⟨.shut f _ HV.out (by rw [HN.out]; have := Hf0.out; omega), by rw [List.length_append, HM.out]; have := HF.out; simp; omega⟩, Lib.hid (by rw [tkV_snoc, List.length_append, HM.out]; exact HO6.out), HB6⟩
          case measure => have := HK.out; have := HKx.out; first | (simp [intOf]; done) | (simp [intOf]; omega)
      by_cases c60 : l.getD k 0 = 60
      · skip
        by_cases d61 : d = 61
        · have HV := Lib.hid (show LX.T l f (k + 2) ln (out ++ [⟨2, ln, LX.cut l k (k + 2)⟩]) = R by have h := HT2.out; rwa [HSg.out.2 (by rw [c60, d61]; unfold LX.two; decide), if_neg (by omega)] at h)
          rw [d61, show ((((61 : UInt8)).toNat : Nat) : Int) = 61 from rfl] at hi3
          as_aux_lemma =>
            rw [c60, show ((((60 : UInt8)).toNat : Nat) : Int) = 60 from rfl] at hi1 HPk HIc
            clear n10 n32 n9 n13 HT2 HSg hlt hk hln hs k2 hd hsl d61 c60
            go_wp2_with fail
            refine (HPk.out _).mono ?_; rintro e w1 ⟨rfl, md, rfl⟩
            obtain ⟨W3, hW3⟩ : ∃ W, W = W1.drewN md := ⟨_, rfl⟩
            have hb3 : Below W1.heap.size W1 W3 := by rw [hW3]; exact Below_drewN _ _ md
            rw [← hW3]
            have HO4 := Lib.hid (owns_below HOO.out hb3)
            have HB4 := Lib.hid (HBB.out.trans (hb3.mono HBB.out.size))
            clear hW3 hb3
            go_wp2_with fail
            refine (HIc.out _).mono ?_; rintro e w1 ⟨rfl, m5, rfl⟩
            obtain ⟨W5, hW5⟩ : ∃ W, W = W3.drewN m5 := ⟨_, rfl⟩
            have hb5 : Below W3.heap.size W3 W5 := by rw [hW5]; exact Below_drewN _ _ m5
            rw [← hW5]
            have HO5 := Lib.hid (owns_below HO4.out hb5)
            have HB5 := Lib.hid (HB4.out.trans (hb5.mono HB4.out.size))
            clear hW5 hb5 HO4 HB4
            go_wp2_with (first | (at_builtin; go_loud (refine wpList_append_src rfl (.tmp 123) (.tmp 132) 23 rfl w.heap.size 29 i4 _ 3 32 Try.underlying23 hi4 hz4 hsize4 hby4 rfl (by omega) _ m _ rfl (owns_below HO5.out ((Below.refl _ _).alloc (Nat.le_refl _) _)) _ 1 [.int .i64 2, .int .i64 (ln : Int), .string ⟨(LX.cut l k (k + 2)).toArray⟩] rfl (src_newT _ _ _ (by simp)) rfl (by intro u hu; simp at hu; rcases hu with rfl | rfl | rfl <;> rfl) (by have := HM3.out; unfold maxLen; omega) (by have := HM3.out; omega) (by have h1 := HB5.out.size; simp; omega) ?_; intro v5 W6 hO6 hG6; have HO6 := Lib.hid hO6; have HB6 := Lib.hid (grown3 (HB5.out.alloc HB5.out.size _) (by have h1 := HB5.out.size; simp; omega) (owns_below HO5.out ((Below.refl _ _).alloc (Nat.le_refl _) _)) hG6); clear hO6 hG6)) | fail)
            go_roundw
            case rel => exact ⟨k + 2, ln, false, out ++ [⟨2, ln, LX.cut l k (k + 2)⟩], by simp; omega, rfl, rfl, by have := HK.out; have := HKx.out; omega, by have := HK.out; omega, Lib.hid ⟨.shut f _ HV.out (by rw [HN.out]; have := Hf0.out; omega), by rw [List.length_append, HM.out]; have := HF.out; simp; omega⟩, Lib.hid (by rw [tkV_snoc, List.length_append, HM.out]; exact HO6.out), HB6⟩
            case measure => have h1 := HK.out; have h2 := HKx.out; rw [hw2]; show N - ((k : Int) + 1 + 1).toNat < N - ((k : Int)).toNat; omega
        by_cases d62 : d = 62
        · have HV := Lib.hid (show LX.T l f (k + 2) ln (out ++ [⟨2, ln, LX.cut l k (k + 2)⟩]) = R by have h := HT2.out; rwa [HSg.out.2 (by rw [c60, d62]; unfold LX.two; decide), if_neg (by omega)] at h)
          rw [d62, show ((((62 : UInt8)).toNat : Nat) : Int) = 62 from rfl] at hi3
          as_aux_lemma =>
            rw [c60, show ((((60 : UInt8)).toNat : Nat) : Int) = 60 from rfl] at hi1 HPk HIc
            clear n10 n32 n9 n13 HT2 HSg hlt hk hln hs k2 hd hsl d62 c60 d61
            go_wp2_with fail
            refine (HPk.out _).mono ?_; rintro e w1 ⟨rfl, md, rfl⟩
            obtain ⟨W3, hW3⟩ : ∃ W, W = W1.drewN md := ⟨_, rfl⟩
            have hb3 : Below W1.heap.size W1 W3 := by rw [hW3]; exact Below_drewN _ _ md
            rw [← hW3]
            have HO4 := Lib.hid (owns_below HOO.out hb3)
            have HB4 := Lib.hid (HBB.out.trans (hb3.mono HBB.out.size))
            clear hW3 hb3
            go_wp2_with fail
            refine (HIc.out _).mono ?_; rintro e w1 ⟨rfl, m5, rfl⟩
            obtain ⟨W5, hW5⟩ : ∃ W, W = W3.drewN m5 := ⟨_, rfl⟩
            have hb5 : Below W3.heap.size W3 W5 := by rw [hW5]; exact Below_drewN _ _ m5
            rw [← hW5]
            have HO5 := Lib.hid (owns_below HO4.out hb5)
            have HB5 := Lib.hid (HB4.out.trans (hb5.mono HB4.out.size))
            clear hW5 hb5 HO4 HB4
            go_wp2_with (first | (at_builtin; go_loud (refine wpList_append_src rfl (.tmp 123) (.tmp 132) 23 rfl w.heap.size 29 i4 _ 3 32 Try.underlying23 hi4 hz4 hsize4 hby4 rfl (by omega) _ m _ rfl (owns_below HO5.out ((Below.refl _ _).alloc (Nat.le_refl _) _)) _ 1 [.int .i64 2, .int .i64 (ln : Int), .string ⟨(LX.cut l k (k + 2)).toArray⟩] rfl (src_newT _ _ _ (by simp)) rfl (by intro u hu; simp at hu; rcases hu with rfl | rfl | rfl <;> rfl) (by have := HM3.out; unfold maxLen; omega) (by have := HM3.out; omega) (by have h1 := HB5.out.size; simp; omega) ?_; intro v5 W6 hO6 hG6; have HO6 := Lib.hid hO6; have HB6 := Lib.hid (grown3 (HB5.out.alloc HB5.out.size _) (by have h1 := HB5.out.size; simp; omega) (owns_below HO5.out ((Below.refl _ _).alloc (Nat.le_refl _) _)) hG6); clear hO6 hG6)) | fail)
            go_roundw
            case rel => exact ⟨k + 2, ln, false, out ++ [⟨2, ln, LX.cut l k (k + 2)⟩], by simp; omega, rfl, rfl, by have := HK.out; have := HKx.out; omega, by have := HK.out; omega, Lib.hid ⟨.shut f _ HV.out (by rw [HN.out]; have := Hf0.out; omega), by rw [List.length_append, HM.out]; have := HF.out; simp; omega⟩, Lib.hid (by rw [tkV_snoc, List.length_append, HM.out]; exact HO6.out), HB6⟩
            case measure => have h1 := HK.out; have h2 := HKx.out; rw [hw2]; show N - ((k : Int) + 1 + 1).toNat < N - ((k : Int)).toNat; omega
        have HV := Lib.hid (show LX.T l f (k + 1) ln (out ++ [⟨2, ln, LX.cut l k (k + 1)⟩]) = R by have h := HT2.out; rwa [HSg.out.1 (by rw [c60]; unfold LX.two; rintro ⟨_, h⟩; rcases h with ⟨h1, h2⟩ | ⟨h1, h2⟩ | ⟨h1, h2⟩ | ⟨h1, h2⟩ <;> first | exact absurd h1 (by decide) | exact d61 h2 | exact d62 h2), if_neg (by omega)] at h)
        have nd61 : (((d.toNat : Nat) : Int) == 61) = false := by simpa using fun h => d61 ((HE.out d 61).1 h)
        have nd62 : (((d.toNat : Nat) : Int) == 62) = false := by simpa using fun h => d62 ((HE.out d 62).1 h)
        obtain ⟨dn, hdn⟩ : ∃ n : Int, (d.toNat : Int) = n := ⟨_, rfl⟩
        rw [hdn] at hi3 nd61 nd62
        rw [← LX.cut_one l k (by rw [HN.out]; exact hlt)] at hsl
        as_aux_lemma =>
          rw [c60, show ((((60 : UInt8)).toNat : Nat) : Int) = 60 from rfl] at hi1 HPk HIc
          clear n10 n32 n9 n13 HT2 HSg hdn hlt hk hln hs k2 hd hsl2 c60 d61 d62
          go_wp2_with fail
          refine (HPk.out _).mono ?_; rintro e w1 ⟨rfl, md, rfl⟩
          obtain ⟨W3, hW3⟩ : ∃ W, W = W1.drewN md := ⟨_, rfl⟩
          have hb3 : Below W1.heap.size W1 W3 := by rw [hW3]; exact Below_drewN _ _ md
          rw [← hW3]
          have HO4 := Lib.hid (owns_below HOO.out hb3)
          have HB4 := Lib.hid (HBB.out.trans (hb3.mono HBB.out.size))
          clear hW3 hb3
          go_wp2_with fail
          refine (HIc.out _).mono ?_; rintro e w1 ⟨rfl, m5, rfl⟩
          obtain ⟨W5, hW5⟩ : ∃ W, W = W3.drewN m5 := ⟨_, rfl⟩
          have hb5 : Below W3.heap.size W3 W5 := by rw [hW5]; exact Below_drewN _ _ m5
          rw [← hW5]
          have HO5 := Lib.hid (owns_below HO4.out hb5)
          have HB5 := Lib.hid (HB4.out.trans (hb5.mono HB4.out.size))
          clear hW5 hb5 HO4 HB4
          go_wp2_with (first | (at_builtin; go_loud (refine wpList_append_src rfl (.tmp 123) (.tmp 132) 23 rfl w.heap.size 29 i4 _ 3 32 Try.underlying23 hi4 hz4 hsize4 hby4 rfl (by omega) _ m _ rfl (owns_below HO5.out ((Below.refl _ _).alloc (Nat.le_refl _) _)) _ 1 [.int .i64 2, .int .i64 (ln : Int), .string ⟨(LX.cut l k (k + 1)).toArray⟩] rfl (src_newT _ _ _ (by simp)) rfl (by intro u hu; simp at hu; rcases hu with rfl | rfl | rfl <;> rfl) (by have := HM3.out; unfold maxLen; omega) (by have := HM3.out; omega) (by have h1 := HB5.out.size; simp; omega) ?_; intro v5 W6 hO6 hG6; have HO6 := Lib.hid hO6; have HB6 := Lib.hid (grown3 (HB5.out.alloc HB5.out.size _) (by have h1 := HB5.out.size; simp; omega) (owns_below HO5.out ((Below.refl _ _).alloc (Nat.le_refl _) _)) hG6); clear hO6 hG6)) | fail)
          go_roundw
          case rel => exact ⟨k + 1, ln, false, out ++ [⟨2, ln, LX.cut l k (k + 1)⟩], by simp, rfl, rfl, by have := HK.out; have := HKx.out; omega, by have := HK.out; omega, Lib.hid ⟨.shut f _ HV.out (by rw [HN.out]; have := Hf0.out; omega), by rw [List.length_append, HM.out]; have := HF.out; simp; omega⟩, Lib.hid (by rw [tkV_snoc, List.length_append, HM.out]; exact HO6.out), HB6⟩
          case measure => have := HK.out; have := HKx.out; first | (simp [intOf]; done) | (simp [intOf]; omega)
      by_cases c62 : l.getD k 0 = 62
      · skip
        by_cases d61 : d = 61
        · have HV := Lib.hid (show LX.T l f (k + 2) ln (out ++ [⟨2, ln, LX.cut l k (k + 2)⟩]) = R by have h := HT2.out; rwa [HSg.out.2 (by rw [c62, d61]; unfold LX.two; decide), if_neg (by omega)] at h)
          rw [d61, show ((((61 : UInt8)).toNat : Nat) : Int) = 61 from rfl] at hi3
          as_aux_lemma =>
            rw [c62, show ((((62 : UInt8)).toNat : Nat) : Int) = 62 from rfl] at hi1 HPk HIc
            clear n10 n32 n9 n13 HT2 HSg hlt hk hln hs k2 hd hsl d61 c62
            go_wp2_with fail
            refine (HPk.out _).mono ?_; rintro e w1 ⟨rfl, md, rfl⟩
            obtain ⟨W3, hW3⟩ : ∃ W, W = W1.drewN md := ⟨_, rfl⟩
            have hb3 : Below W1.heap.size W1 W3 := by rw [hW3]; exact Below_drewN _ _ md
            rw [← hW3]
            have HO4 := Lib.hid (owns_below HOO.out hb3)
            have HB4 := Lib.hid (HBB.out.trans (hb3.mono HBB.out.size))
            clear hW3 hb3
            go_wp2_with fail
            refine (HIc.out _).mono ?_; rintro e w1 ⟨rfl, m5, rfl⟩
            obtain ⟨W5, hW5⟩ : ∃ W, W = W3.drewN m5 := ⟨_, rfl⟩
            have hb5 : Below W3.heap.size W3 W5 := by rw [hW5]; exact Below_drewN _ _ m5
            rw [← hW5]
            have HO5 := Lib.hid (owns_below HO4.out hb5)
            have HB5 := Lib.hid (HB4.out.trans (hb5.mono HB4.out.size))
            clear hW5 hb5 HO4 HB4
            go_wp2_with (first | (at_builtin; go_loud (refine wpList_append_src rfl (.tmp 123) (.tmp 132) 23 rfl w.heap.size 29 i4 _ 3 32 Try.underlying23 hi4 hz4 hsize4 hby4 rfl (by omega) _ m _ rfl (owns_below HO5.out ((Below.refl _ _).alloc (Nat.le_refl _) _)) _ 1 [.int .i64 2, .int .i64 (ln : Int), .string ⟨(LX.cut l k (k + 2)).toArray⟩] rfl (src_newT _ _ _ (by simp)) rfl (by intro u hu; simp at hu; rcases hu with rfl | rfl | rfl <;> rfl) (by have := HM3.out; unfold maxLen; omega) (by have := HM3.out; omega) (by have h1 := HB5.out.size; simp; omega) ?_; intro v5 W6 hO6 hG6; have HO6 := Lib.hid hO6; have HB6 := Lib.hid (grown3 (HB5.out.alloc HB5.out.size _) (by have h1 := HB5.out.size; simp; omega) (owns_below HO5.out ((Below.refl _ _).alloc (Nat.le_refl _) _)) hG6); clear hO6 hG6)) | fail)
            go_roundw
            case rel => exact ⟨k + 2, ln, false, out ++ [⟨2, ln, LX.cut l k (k + 2)⟩], by simp; omega, rfl, rfl, by have := HK.out; have := HKx.out; omega, by have := HK.out; omega, Lib.hid ⟨.shut f _ HV.out (by rw [HN.out]; have := Hf0.out; omega), by rw [List.length_append, HM.out]; have := HF.out; simp; omega⟩, Lib.hid (by rw [tkV_snoc, List.length_append, HM.out]; exact HO6.out), HB6⟩
            case measure => have h1 := HK.out; have h2 := HKx.out; rw [hw2]; show N - ((k : Int) + 1 + 1).toNat < N - ((k : Int)).toNat; omega
        have HV := Lib.hid (show LX.T l f (k + 1) ln (out ++ [⟨2, ln, LX.cut l k (k + 1)⟩]) = R by have h := HT2.out; rwa [HSg.out.1 (by rw [c62]; unfold LX.two; rintro ⟨_, h⟩; rcases h with ⟨h1, h2⟩ | ⟨h1, h2⟩ | ⟨h1, h2⟩ | ⟨h1, h2⟩ <;> first | exact absurd h1 (by decide) | exact d61 h2), if_neg (by omega)] at h)
        have nd61 : (((d.toNat : Nat) : Int) == 61) = false := by simpa using fun h => d61 ((HE.out d 61).1 h)
        obtain ⟨dn, hdn⟩ : ∃ n : Int, (d.toNat : Int) = n := ⟨_, rfl⟩
        rw [hdn] at hi3 nd61
        rw [← LX.cut_one l k (by rw [HN.out]; exact hlt)] at hsl
        as_aux_lemma =>
          rw [c62, show ((((62 : UInt8)).toNat : Nat) : Int) = 62 from rfl] at hi1 HPk HIc
          clear n10 n32 n9 n13 HT2 HSg hdn hlt hk hln hs k2 hd hsl2 c62 d61
          go_wp2_with fail
          refine (HPk.out _).mono ?_; rintro e w1 ⟨rfl, md, rfl⟩
          obtain ⟨W3, hW3⟩ : ∃ W, W = W1.drewN md := ⟨_, rfl⟩
          have hb3 : Below W1.heap.size W1 W3 := by rw [hW3]; exact Below_drewN _ _ md
          rw [← hW3]
          have HO4 := Lib.hid (owns_below HOO.out hb3)
          have HB4 := Lib.hid (HBB.out.trans (hb3.mono HBB.out.size))
          clear hW3 hb3
          go_wp2_with fail
          refine (HIc.out _).mono ?_; rintro e w1 ⟨rfl, m5, rfl⟩
          obtain ⟨W5, hW5⟩ : ∃ W, W = W3.drewN m5 := ⟨_, rfl⟩
          have hb5 : Below W3.heap.size W3 W5 := by rw [hW5]; exact Below_drewN _ _ m5
          rw [← hW5]
          have HO5 := Lib.hid (owns_below HO4.out hb5)
          have HB5 := Lib.hid (HB4.out.trans (hb5.mono HB4.out.size))
          clear hW5 hb5 HO4 HB4
          go_wp2_with (first | (at_builtin; go_loud (refine wpList_append_src rfl (.tmp 123) (.tmp 132) 23 rfl w.heap.size 29 i4 _ 3 32 Try.underlying23 hi4 hz4 hsize4 hby4 rfl (by omega) _ m _ rfl (owns_below HO5.out ((Below.refl _ _).alloc (Nat.le_refl _) _)) _ 1 [.int .i64 2, .int .i64 (ln : Int), .string ⟨(LX.cut l k (k + 1)).toArray⟩] rfl (src_newT _ _ _ (by simp)) rfl (by intro u hu; simp at hu; rcases hu with rfl | rfl | rfl <;> rfl) (by have := HM3.out; unfold maxLen; omega) (by have := HM3.out; omega) (by have h1 := HB5.out.size; simp; omega) ?_; intro v5 W6 hO6 hG6; have HO6 := Lib.hid hO6; have HB6 := Lib.hid (grown3 (HB5.out.alloc HB5.out.size _) (by have h1 := HB5.out.size; simp; omega) (owns_below HO5.out ((Below.refl _ _).alloc (Nat.le_refl _) _)) hG6); clear hO6 hG6)) | fail)
          go_roundw
          case rel => exact ⟨k + 1, ln, false, out ++ [⟨2, ln, LX.cut l k (k + 1)⟩], by simp, rfl, rfl, by have := HK.out; have := HKx.out; omega, by have := HK.out; omega, Lib.hid ⟨.shut f _ HV.out (by rw [HN.out]; have := Hf0.out; omega), by rw [List.length_append, HM.out]; have := HF.out; simp; omega⟩, Lib.hid (by rw [tkV_snoc, List.length_append, HM.out]; exact HO6.out), HB6⟩
          case measure => have := HK.out; have := HKx.out; first | (simp [intOf]; done) | (simp [intOf]; omega)
      have HV := Lib.hid (show LX.T l f (k + 1) ln (out ++ [⟨2, ln, LX.cut l k (k + 1)⟩]) = R by have h := HT2.out; rwa [HSg.out.1 (by unfold LX.two; rintro ⟨_, h⟩; rcases h with ⟨h1, _⟩ | ⟨h1, _⟩ | ⟨h1, _⟩ | ⟨h1, _⟩ <;> first | exact c58 h1 | exact c60 h1 | exact c62 h1), if_neg (by omega)] at h)
      have n58 : ((((l.getD k 0).toNat : Nat) : Int) == 58) = false := by simpa using fun h => c58 ((HE.out (l.getD k 0) 58).1 h)
      have n60 : ((((l.getD k 0).toNat : Nat) : Int) == 60) = false := by simpa using fun h => c60 ((HE.out (l.getD k 0) 60).1 h)
      have n62 : ((((l.getD k 0).toNat : Nat) : Int) == 62) = false := by simpa using fun h => c62 ((HE.out (l.getD k 0) 62).1 h)
      obtain ⟨dn, hdn⟩ : ∃ n : Int, (d.toNat : Int) = n := ⟨_, rfl⟩
      rw [hdn] at hi3
      rw [← LX.cut_one l k (by rw [HN.out]; exact hlt)] at hsl
      as_aux_lemma =>
        obtain ⟨cn, hcn⟩ : ∃ n : Int, ((l.getD k 0).toNat : Int) = n := ⟨_, rfl⟩
        rw [hcn] at hi1 HPk HIc n10 n32 n9 n13 n58 n60 n62
        clear hcn HT2 HSg hdn hlt hk hln hs k2 hd hsl2 c58 c60 c62
        go_wp2_with fail
        refine (HPk.out _).mono ?_; rintro e w1 ⟨rfl, md, rfl⟩
        obtain ⟨W3, hW3⟩ : ∃ W, W = W1.drewN md := ⟨_, rfl⟩
        have hb3 : Below W1.heap.size W1 W3 := by rw [hW3]; exact Below_drewN _ _ md
        rw [← hW3]
        have HO4 := Lib.hid (owns_below HOO.out hb3)
        have HB4 := Lib.hid (HBB.out.trans (hb3.mono HBB.out.size))
        clear hW3 hb3
        go_wp2_with fail
        refine (HIc.out _).mono ?_; rintro e w1 ⟨rfl, m5, rfl⟩
        obtain ⟨W5, hW5⟩ : ∃ W, W = W3.drewN m5 := ⟨_, rfl⟩
        have hb5 : Below W3.heap.size W3 W5 := by rw [hW5]; exact Below_drewN _ _ m5
        rw [← hW5]
        have HO5 := Lib.hid (owns_below HO4.out hb5)
        have HB5 := Lib.hid (HB4.out.trans (hb5.mono HB4.out.size))
        clear hW5 hb5 HO4 HB4
        go_wp2_with (first | (at_builtin; go_loud (refine wpList_append_src rfl (.tmp 123) (.tmp 132) 23 rfl w.heap.size 29 i4 _ 3 32 Try.underlying23 hi4 hz4 hsize4 hby4 rfl (by omega) _ m _ rfl (owns_below HO5.out ((Below.refl _ _).alloc (Nat.le_refl _) _)) _ 1 [.int .i64 2, .int .i64 (ln : Int), .string ⟨(LX.cut l k (k + 1)).toArray⟩] rfl (src_newT _ _ _ (by simp)) rfl (by intro u hu; simp at hu; rcases hu with rfl | rfl | rfl <;> rfl) (by have := HM3.out; unfold maxLen; omega) (by have := HM3.out; omega) (by have h1 := HB5.out.size; simp; omega) ?_; intro v5 W6 hO6 hG6; have HO6 := Lib.hid hO6; have HB6 := Lib.hid (grown3 (HB5.out.alloc HB5.out.size _) (by have h1 := HB5.out.size; simp; omega) (owns_below HO5.out ((Below.refl _ _).alloc (Nat.le_refl _) _)) hG6); clear hO6 hG6)) | fail)
        go_roundw
        case rel => exact ⟨k + 1, ln, false, out ++ [⟨2, ln, LX.cut l k (k + 1)⟩], by simp, rfl, rfl, by have := HK.out; have := HKx.out; omega, by have := HK.out; omega, Lib.hid ⟨.shut f _ HV.out (by rw [HN.out]; have := Hf0.out; omega), by rw [List.length_append, HM.out]; have := HF.out; simp; omega⟩, Lib.hid (by rw [tkV_snoc, List.length_append, HM.out]; exact HO6.out), HB6⟩
        case measure => have := HK.out; have := HKx.out; first | (simp [intOf]; done) | (simp [intOf]; omega)
    have HPk := Lib.hid (show ∀ W, Calls Try.prog 13 #[.int .u8 ((l.getD k 0).toNat : Int), .int .u8 0] W fun e w' => e = .returned (.bool (LX.wordC (l.getD k 0))) ∧ ∃ m, w' = W.drewN m from fun W => by
      have h := HPt.out (l.getD k 0) 0 W
      rw [show decide ((0 : UInt8) = 35) = false from rfl, Bool.and_false, Bool.or_false] at h
      exact h)
    cases hg : LX.wordC (l.getD k 0)
    case true =>
      rw [hg] at HPk
      have HA2 := Lib.hid (And.intro (HAt.out.1.begin (by rw [HN.out]; exact hlt) hg) HAt.out.2)
      obtain ⟨q, hq⟩ : ∃ q, out.length = q := ⟨_, rfl⟩
      have HQl := Lib.hid hq
      have hO2 := HOO.out
      rw [hq] at hO2
      have hO3 := Lib.hid hO2
      have hq62 : q ≤ 9223372036854775805 := by have h := HAt.out.2; omega
      have hq1000 : q ≤ 1000 := by have h := HAt.out.2; omega
      have HSt := Lib.hid (fun u => tkV_set out 1 ln [] u)
      have hap := str_app [] [l.getD k 0]
      have hso := fun W => run_string_op_t [] [l.getD k 0] W (by simp) (by simp)
      obtain ⟨cn, hcn⟩ : ∃ n : Int, ((l.getD k 0).toNat : Int) = n := ⟨_, rfl⟩
      rw [hcn] at hi1 HPk
      obtain ⟨XT, hXT⟩ : ∃ X : ByteArray, (⟨([] : List UInt8).toArray⟩ : ByteArray) = X := ⟨_, rfl⟩
      obtain ⟨CT, hCT⟩ : ∃ X : ByteArray, (⟨[l.getD k 0].toArray⟩ : ByteArray) = X := ⟨_, rfl⟩
      have HXT := Lib.hid hXT
      rw [hXT] at hap hso
      rw [hCT] at hsl hap hso
      rw [hap] at hso
      have Hq1000 := Lib.hid hq1000
      clear hT hO hB hlt hk hln hg hq hcn hXT hCT HAt HOO hO2 hq1000
      go_wp2_with fail
      refine (HPk.out _).mono ?_; rintro e w1 ⟨rfl, md, rfl⟩
      obtain ⟨W3, hW3⟩ : ∃ W, W = W1.drewN md := ⟨_, rfl⟩
      have hb3 : Below W1.heap.size W1 W3 := by rw [hW3]; exact Below_drewN _ _ md
      rw [← hW3]
      have HO4 := Lib.hid (owns_below hO3.out hb3)
      have HB4 := Lib.hid (HBB.out.trans (hb3.mono HBB.out.size))
      clear hW3 hb3
      go_wp2_with (first | (at_builtin; go_loud (refine wpList_append_src rfl (.tmp 30) (.tmp 33) 23 rfl w.heap.size 29 i4 _ 3 32 Try.underlying23 hi4 hz4 hsize4 hby4 rfl (by omega) _ q _ rfl (owns_below HO4.out ((Below.refl _ _).alloc (Nat.le_refl _) _)) _ 1 [.int .i64 1, .int .i64 (ln : Int), .string ⟨#[]⟩] rfl (src_newT _ _ _ (by simp)) rfl (by intro u hu; simp at hu; rcases hu with rfl | rfl | rfl <;> rfl) (by have := Hq1000.out; unfold maxLen; omega) (by have := Hq1000.out; omega) (by have h1 := HB4.out.size; simp; omega) ?_; intro v5 W4 hO5 hG5; have HO5 := Lib.hid hO5; have HB5 := Lib.hid (grown3 (HB4.out.alloc HB4.out.size _) (by have h1 := HB4.out.size; simp; omega) (owns_below HO4.out ((Below.refl _ _).alloc (Nat.le_refl _) _)) hG5); have hf5 := owns_form hO5; clear hO5 hG5)) | fail)
      obtain ⟨a5, gc, rfl⟩ := hf5
      have hO6 : W4.ownsRow w.heap.size 29 3 (.slice a5 (q + 1) gc) (q + 1) (tkV (out ++ [⟨1, ln, []⟩])) := by rw [tkV_snoc]; exact HO5.out
      rcases hO6.2 with ⟨h1, h0⟩ | ⟨g, cap, cur, h1, hBg, hgl, h2, h3, _⟩
      · simp at h0
      cases h1
      have e0 := hO6.cellAt (q * 3 + 2) (by omega)
      have e0g := tkV_get out ⟨1, ln, []⟩
      rw [HQl.out] at e0g
      rw [e0g, HXT.out] at e0
      have f0 := hO6.frozenAt (q * 3 + 2)
      have z0 : g < W4.heap.size := big_cell e0
      have HOs := Lib.hid (fun (v : Value) => (hO6.stored (q * 3 + 2) v).1)
      have HBs := Lib.hid (fun (v : Value) => HB5.out.setCell (p := ⟨g, q * 3 + 2, none⟩) hBg v)
      have hwq : IntKind.i64.wrap (q : Int) = (q : Int) := IntWalk.i64_in _ (by omega)
      have hwk : IntKind.i64.wrap ((k : Int) + 1) = (k : Int) + 1 := IntWalk.i64_in _ (by omega)
      have r1 : ((q : Int) < (q : Int) + 1) = True := eq_true (by omega)
      have r2 : (0 ≤ (k : Int) + 1) = True := eq_true (by omega)
      clear hO6 e0g hgl hBg
      refine wp_region_till (S := (fun (L : Array Bool) (w' : World) => L.getD 19 true = false → Below W4.heap.size W4 w')) (by kernel_rfl) ?_ (fun hHeld => ?_)
      · (try dsimp only); exact fun _ => (Below.refl _ _).drew
      refine till_take 19 (fun _ => True) (i := 0) (oi := { dst := some 35, op := Op.move (Operand.tmp 4), type := 23, pos := _, after := #[], guard := none }) (u := ?_) rfl (by kernel_rfl) (by kernel_rfl) (by kernel_rfl) (by kernel_rfl) (by kernel_rfl) (by decide) (fun L v hL h => trivial) (fun L v => by simp only [getD_set_ne true (show 0 ≠ 19 by decide)]) (fun _ _ _ h => h) (Or.inl ⟨by rfl, ?_⟩) hHeld ?_
      rotate_left
      · intro wt _; first | (go_simp; done) | (go_simp; with_reducible rfl) | (trace_state; fail)
      clear hHeld; intro hHeld
      try simp only [Act.put, List.setIfInBounds_toArray, List.set_cons_zero, List.set_cons_succ]
      refine till_take 19 (fun _ => True) (i := 1) (oi := { dst := some 36, op := Op.move (Operand.tmp 4), type := 23, pos := _, after := #[], guard := none }) (u := ?_) rfl (by kernel_rfl) (by kernel_rfl) (by kernel_rfl) (by kernel_rfl) (by kernel_rfl) (by decide) (fun L v hL h => trivial) (fun L v => by simp only [getD_set_ne true (show 1 ≠ 19 by decide)]) (fun _ _ _ h => h) (Or.inl ⟨by rfl, ?_⟩) hHeld ?_
      rotate_left
      · intro wt _; first | (go_simp; done) | (go_simp; with_reducible rfl) | (trace_state; fail)
      clear hHeld; intro hHeld
      try simp only [Act.put, List.setIfInBounds_toArray, List.set_cons_zero, List.set_cons_succ]
      refine till_take 19 (fun _ => True) (i := 2) (oi := { dst := some 37, op := Op.call { callee := Callee.builtin Builtin.len, args := #[Operand.tmp 36], argTypes := #[23] }, type := 3, pos := _, after := #[{ on := 1, ground := Ground.data }], guard := none }) (u := ?_) rfl (by kernel_rfl) (by kernel_rfl) (by kernel_rfl) (by kernel_rfl) (by kernel_rfl) (by decide) (fun L v hL h => trivial) (fun L v => by simp only [getD_set_ne true (show 2 ≠ 19 by decide)]) (fun _ _ _ h => h) (Or.inl ⟨by rfl, ?_⟩) hHeld ?_
      rotate_left
      · intro wt _; first | (go_simp; done) | (go_simp; with_reducible rfl) | (trace_state; fail)
      clear hHeld; intro hHeld
      try simp only [Act.put, List.setIfInBounds_toArray, List.set_cons_zero, List.set_cons_succ]
      refine till_take 19 (fun _ => True) (i := 3) (oi := { dst := some 38, op := Op.binOp BinOp.sub 3 (Operand.tmp 37) (Operand.const (Value.int IntKind.i64 1)) 3, type := 3, pos := _, after := #[{ on := 2, ground := Ground.data }], guard := none }) (u := ?_) rfl (by kernel_rfl) (by kernel_rfl) (by kernel_rfl) (by kernel_rfl) (by kernel_rfl) (by decide) (fun L v hL h => trivial) (fun L v => by simp only [getD_set_ne true (show 3 ≠ 19 by decide)]) (fun _ _ _ h => h) (Or.inl ⟨by rfl, ?_⟩) hHeld ?_
      rotate_left
      · intro wt _; first | (go_simp; done) | (go_simp; with_reducible rfl) | (trace_state; fail)
      clear hHeld; intro hHeld
      try simp only [Act.put, List.setIfInBounds_toArray, List.set_cons_zero, List.set_cons_succ]
      refine till_take 19 (fun _ => True) (i := 4) (oi := { dst := some 39, op := Op.move (Operand.tmp 4), type := 23, pos := _, after := #[], guard := none }) (u := ?_) rfl (by kernel_rfl) (by kernel_rfl) (by kernel_rfl) (by kernel_rfl) (by kernel_rfl) (by decide) (fun L v hL h => trivial) (fun L v => by simp only [getD_set_ne true (show 4 ≠ 19 by decide)]) (fun _ _ _ h => h) (Or.inl ⟨by rfl, ?_⟩) hHeld ?_
      rotate_left
      · intro wt _; first | (go_simp; done) | (go_simp; with_reducible rfl) | (trace_state; fail)
      clear hHeld; intro hHeld
      try simp only [Act.put, List.setIfInBounds_toArray, List.set_cons_zero, List.set_cons_succ]
      refine till_take 19 (fun _ => True) (i := 5) (oi := { dst := some 40, op := Op.move (Operand.tmp 4), type := 23, pos := _, after := #[], guard := none }) (u := ?_) rfl (by kernel_rfl) (by kernel_rfl) (by kernel_rfl) (by kernel_rfl) (by kernel_rfl) (by decide) (fun L v hL h => trivial) (fun L v => by simp only [getD_set_ne true (show 5 ≠ 19 by decide)]) (fun _ _ _ h => h) (Or.inl ⟨by rfl, ?_⟩) hHeld ?_
      rotate_left
      · intro wt _; first | (go_simp; done) | (go_simp; with_reducible rfl) | (trace_state; fail)
      clear hHeld; intro hHeld
      try simp only [Act.put, List.setIfInBounds_toArray, List.set_cons_zero, List.set_cons_succ]
      refine till_take 19 (fun _ => True) (i := 6) (oi := { dst := some 41, op := Op.call { callee := Callee.builtin Builtin.len, args := #[Operand.tmp 40], argTypes := #[23] }, type := 3, pos := _, after := #[{ on := 5, ground := Ground.data }], guard := none }) (u := ?_) rfl (by kernel_rfl) (by kernel_rfl) (by kernel_rfl) (by kernel_rfl) (by kernel_rfl) (by decide) (fun L v hL h => trivial) (fun L v => by simp only [getD_set_ne true (show 6 ≠ 19 by decide)]) (fun _ _ _ h => h) (Or.inl ⟨by rfl, ?_⟩) hHeld ?_
      rotate_left
      · intro wt _; first | (go_simp; done) | (go_simp; with_reducible rfl) | (trace_state; fail)
      clear hHeld; intro hHeld
      try simp only [Act.put, List.setIfInBounds_toArray, List.set_cons_zero, List.set_cons_succ]
      refine till_take 19 (fun _ => True) (i := 7) (oi := { dst := some 42, op := Op.binOp BinOp.sub 3 (Operand.tmp 41) (Operand.const (Value.int IntKind.i64 1)) 3, type := 3, pos := _, after := #[{ on := 6, ground := Ground.data }], guard := none }) (u := ?_) rfl (by kernel_rfl) (by kernel_rfl) (by kernel_rfl) (by kernel_rfl) (by kernel_rfl) (by decide) (fun L v hL h => trivial) (fun L v => by simp only [getD_set_ne true (show 7 ≠ 19 by decide)]) (fun _ _ _ h => h) (Or.inl ⟨by rfl, ?_⟩) hHeld ?_
      rotate_left
      · intro wt _; first | (go_simp; done) | (go_simp; with_reducible rfl) | (trace_state; fail)
      clear hHeld; intro hHeld
      try simp only [Act.put, List.setIfInBounds_toArray, List.set_cons_zero, List.set_cons_succ]
      refine till_take 19 (fun _ => True) (i := 8) (oi := { dst := some 43, op := Op.indexAddr 23 (Operand.tmp 39) (Operand.tmp 42), type := 0, pos := _, after := #[{ on := 4, ground := Ground.data }, { on := 7, ground := Ground.data }], guard := none }) (u := ?_) rfl (by kernel_rfl) (by kernel_rfl) (by kernel_rfl) (by kernel_rfl) (by kernel_rfl) (by decide) (fun L v hL h => trivial) (fun L v => by simp only [getD_set_ne true (show 8 ≠ 19 by decide)]) (fun _ _ _ h => h) (Or.inl ⟨by rfl, ?_⟩) hHeld ?_
      rotate_left
      · intro wt _; first | (go_simp; done) | (go_simp; with_reducible rfl) | (trace_state; fail)
      clear hHeld; intro hHeld
      try simp only [Act.put, List.setIfInBounds_toArray, List.set_cons_zero, List.set_cons_succ]
      refine till_take 19 (fun _ => True) (i := 9) (oi := { dst := some 44, op := Op.fieldAddr 29 (Operand.tmp 43) 2, type := 0, pos := _, after := #[{ on := 8, ground := Ground.data }], guard := none }) (u := ?_) rfl (by kernel_rfl) (by kernel_rfl) (by kernel_rfl) (by kernel_rfl) (by kernel_rfl) (by decide) (fun L v hL h => trivial) (fun L v => by simp only [getD_set_ne true (show 9 ≠ 19 by decide)]) (fun _ _ _ h => h) (Or.inl ⟨by rfl, ?_⟩) hHeld ?_
      rotate_left
      · intro wt _; first | (go_simp; done) | (go_simp; with_reducible rfl) | (trace_state; fail)
      clear hHeld; intro hHeld
      try simp only [Act.put, List.setIfInBounds_toArray, List.set_cons_zero, List.set_cons_succ]
      refine till_take 19 (fun w' => Below W4.heap.size W4 w') (i := 10) (oi := { dst := some 45, op := Op.load 9 (Operand.tmp 44), type := 9, pos := _, after := #[{ on := 9, ground := Ground.data }], guard := none }) (u := ?_) rfl (by kernel_rfl) (by kernel_rfl) (by kernel_rfl) (by kernel_rfl) (by kernel_rfl) (by decide) (fun L v hL h => h hL) (fun L v => by simp only [getD_set_ne true (show 10 ≠ 19 by decide)]) (fun _ _ _ h => h) (Or.inl ⟨by rfl, ?_⟩) hHeld ?_
      rotate_left
      · intro wt hSw; (try dsimp only at hSw); have e0 := cellB hSw e0 z0; clear hSw; first | (go_simp; done) | (go_simp; with_reducible rfl) | (trace_state; fail)
      clear hHeld; intro hHeld
      try simp only [Act.put, List.setIfInBounds_toArray, List.set_cons_zero, List.set_cons_succ]
      refine till_take 19 (fun _ => True) (i := 11) (oi := { dst := some 46, op := Op.move (Operand.tmp 0), type := 9, pos := _, after := #[], guard := none }) (u := ?_) rfl (by kernel_rfl) (by kernel_rfl) (by kernel_rfl) (by kernel_rfl) (by kernel_rfl) (by decide) (fun L v hL h => trivial) (fun L v => by simp only [getD_set_ne true (show 11 ≠ 19 by decide)]) (fun _ _ _ h => h) (Or.inl ⟨by rfl, ?_⟩) hHeld ?_
      rotate_left
      · intro wt _; first | (go_simp; done) | (go_simp; with_reducible rfl) | (trace_state; fail)
      clear hHeld; intro hHeld
      try simp only [Act.put, List.setIfInBounds_toArray, List.set_cons_zero, List.set_cons_succ]
      refine till_take 19 (fun _ => True) (i := 12) (oi := { dst := some 47, op := Op.move (Operand.tmp 7), type := 3, pos := _, after := #[], guard := none }) (u := ?_) rfl (by kernel_rfl) (by kernel_rfl) (by kernel_rfl) (by kernel_rfl) (by kernel_rfl) (by decide) (fun L v hL h => trivial) (fun L v => by simp only [getD_set_ne true (show 12 ≠ 19 by decide)]) (fun _ _ _ h => h) (Or.inl ⟨by rfl, ?_⟩) hHeld ?_
      rotate_left
      · intro wt _; first | (go_simp; done) | (go_simp; with_reducible rfl) | (trace_state; fail)
      clear hHeld; intro hHeld
      try simp only [Act.put, List.setIfInBounds_toArray, List.set_cons_zero, List.set_cons_succ]
      refine till_take 19 (fun _ => True) (i := 13) (oi := { dst := some 48, op := Op.move (Operand.tmp 7), type := 3, pos := _, after := #[], guard := none }) (u := ?_) rfl (by kernel_rfl) (by kernel_rfl) (by kernel_rfl) (by kernel_rfl) (by kernel_rfl) (by decide) (fun L v hL h => trivial) (fun L v => by simp only [getD_set_ne true (show 13 ≠ 19 by decide)]) (fun _ _ _ h => h) (Or.inl ⟨by rfl, ?_⟩) hHeld ?_
      rotate_left
      · intro wt _; first | (go_simp; done) | (go_simp; with_reducible rfl) | (trace_state; fail)
      clear hHeld; intro hHeld
      try simp only [Act.put, List.setIfInBounds_toArray, List.set_cons_zero, List.set_cons_succ]
      refine till_take 19 (fun _ => True) (i := 14) (oi := { dst := some 49, op := Op.binOp BinOp.add 3 (Operand.tmp 48) (Operand.const (Value.int IntKind.i64 1)) 3, type := 3, pos := _, after := #[{ on := 13, ground := Ground.data }], guard := none }) (u := ?_) rfl (by kernel_rfl) (by kernel_rfl) (by kernel_rfl) (by kernel_rfl) (by kernel_rfl) (by decide) (fun L v hL h => trivial) (fun L v => by simp only [getD_set_ne true (show 14 ≠ 19 by decide)]) (fun _ _ _ h => h) (Or.inl ⟨by rfl, ?_⟩) hHeld ?_
      rotate_left
      · intro wt _; first | (go_simp; done) | (go_simp; with_reducible rfl) | (trace_state; fail)
      clear hHeld; intro hHeld
      try simp only [Act.put, List.setIfInBounds_toArray, List.set_cons_zero, List.set_cons_succ]
      refine till_take 19 (fun _ => True) (i := 15) (oi := { dst := some 50, op := Op.slice 9 (Operand.tmp 46) (some (Operand.tmp 47)) (some (Operand.tmp 49)) none, type := 9, pos := _, after := #[{ on := 11, ground := Ground.data }, { on := 12, ground := Ground.data }, { on := 14, ground := Ground.data }], guard := none }) (u := ?_) rfl (by kernel_rfl) (by kernel_rfl) (by kernel_rfl) (by kernel_rfl) (by kernel_rfl) (by decide) (fun L v hL h => trivial) (fun L v => by simp only [getD_set_ne true (show 15 ≠ 19 by decide)]) (fun _ _ _ h => h) (Or.inl ⟨by rfl, ?_⟩) hHeld ?_
      rotate_left
      · intro wt _; first | (go_simp; done) | (go_simp; with_reducible rfl) | (trace_state; fail)
      clear hHeld; intro hHeld
      try simp only [Act.put, List.setIfInBounds_toArray, List.set_cons_zero, List.set_cons_succ]
      refine till_take 19 (fun _ => True) (i := 16) (oi := { dst := some 51, op := Op.binOp BinOp.add 9 (Operand.tmp 45) (Operand.tmp 50) 9, type := 9, pos := _, after := #[{ on := 10, ground := Ground.data }, { on := 15, ground := Ground.data }], guard := none }) (u := ?_) rfl (by kernel_rfl) (by kernel_rfl) (by kernel_rfl) (by kernel_rfl) (by kernel_rfl) (by decide) (fun L v hL h => trivial) (fun L v => by simp only [getD_set_ne true (show 16 ≠ 19 by decide)]) (fun _ _ _ h => h) (Or.inl ⟨by rfl, ?_⟩) hHeld ?_
      rotate_left
      · intro wt _; first | (go_simp; done) | (go_simp; with_reducible rfl) | (trace_state; fail)
      clear hHeld; intro hHeld
      try simp only [Act.put, List.setIfInBounds_toArray, List.set_cons_zero, List.set_cons_succ]
      refine till_take 18 (fun _ => True) (i := 17) (oi := { dst := some 52, op := Op.indexAddr 23 (Operand.tmp 35) (Operand.tmp 38), type := 0, pos := _, after := #[{ on := 0, ground := Ground.data }, { on := 3, ground := Ground.data }, { on := 0, ground := Ground.phase }, { on := 1, ground := Ground.phase }, { on := 2, ground := Ground.phase }, { on := 3, ground := Ground.phase }, { on := 4, ground := Ground.phase }, { on := 5, ground := Ground.phase }, { on := 6, ground := Ground.phase }, { on := 7, ground := Ground.phase }, { on := 8, ground := Ground.phase }, { on := 9, ground := Ground.phase }, { on := 10, ground := Ground.phase }, { on := 11, ground := Ground.phase }, { on := 12, ground := Ground.phase }, { on := 13, ground := Ground.phase }, { on := 14, ground := Ground.phase }, { on := 15, ground := Ground.phase }, { on := 16, ground := Ground.phase }], guard := none }) (u := ?_) rfl (by kernel_rfl) (by kernel_rfl) (by kernel_rfl) (by kernel_rfl) (by kernel_rfl) (by decide) (fun L v hL h => trivial) (fun L v => by simp only [getD_set_ne true (show 17 ≠ 19 by decide)]) (fun _ _ _ h => h) (Or.inl ⟨by rfl, ?_⟩) hHeld ?_
      rotate_left
      · intro wt _; first | (go_simp; done) | (go_simp; with_reducible rfl) | (trace_state; fail)
      clear hHeld; intro hHeld
      try simp only [Act.put, List.setIfInBounds_toArray, List.set_cons_zero, List.set_cons_succ]
      refine till_take 19 (fun _ => True) (i := 18) (oi := { dst := some 53, op := Op.fieldAddr 29 (Operand.tmp 52) 2, type := 0, pos := _, after := #[{ on := 17, ground := Ground.data }, { on := 0, ground := Ground.phase }, { on := 1, ground := Ground.phase }, { on := 2, ground := Ground.phase }, { on := 3, ground := Ground.phase }, { on := 4, ground := Ground.phase }, { on := 5, ground := Ground.phase }, { on := 6, ground := Ground.phase }, { on := 7, ground := Ground.phase }, { on := 8, ground := Ground.phase }, { on := 9, ground := Ground.phase }, { on := 10, ground := Ground.phase }, { on := 11, ground := Ground.phase }, { on := 12, ground := Ground.phase }, { on := 13, ground := Ground.phase }, { on := 14, ground := Ground.phase }, { on := 15, ground := Ground.phase }, { on := 16, ground := Ground.phase }], guard := none }) (u := ?_) rfl (by kernel_rfl) (by kernel_rfl) (by kernel_rfl) (by kernel_rfl) (by kernel_rfl) (by decide) (fun L v hL h => trivial) (fun L v => by simp only [getD_set_ne true (show 18 ≠ 19 by decide)]) (fun _ _ _ h => h) (Or.inl ⟨by rfl, ?_⟩) hHeld ?_
      rotate_left
      · intro wt _; first | (go_simp; done) | (go_simp; with_reducible rfl) | (trace_state; fail)
      clear hHeld; intro hHeld
      try simp only [Act.put, List.setIfInBounds_toArray, List.set_cons_zero, List.set_cons_succ]
      refine till_one (i := 19) (o := { dst := none, op := Op.store 9 (Operand.tmp 53) (Operand.tmp 51), type := 0, pos := _, after := #[{ on := 18, ground := Ground.data }, { on := 16, ground := Ground.data }, { on := 0, ground := Ground.phase }, { on := 1, ground := Ground.phase }, { on := 2, ground := Ground.phase }, { on := 3, ground := Ground.phase }, { on := 4, ground := Ground.phase }, { on := 5, ground := Ground.phase }, { on := 6, ground := Ground.phase }, { on := 7, ground := Ground.phase }, { on := 8, ground := Ground.phase }, { on := 9, ground := Ground.phase }, { on := 10, ground := Ground.phase }, { on := 11, ground := Ground.phase }, { on := 12, ground := Ground.phase }, { on := 13, ground := Ground.phase }, { on := 14, ground := Ground.phase }, { on := 15, ground := Ground.phase }, { on := 16, ground := Ground.phase }], guard := none }) (by kernel_rfl) rfl (fun K hK => ?_)
      go_simp
      refine hK.out _ _ ?_ (fun hHeld => ?_)
      · (try dsimp only); exact fun h => absurd h (by decide)
      clear hK K
      try simp only [Act.put, List.setIfInBounds_toArray, List.set_cons_zero, List.set_cons_succ]
      refine till_done (by kernel_rfl) ?_ _
      go_wp2_with fail
      go_roundw
      case rel => exact ⟨k + 1, ln, true, out ++ [⟨1, ln, [l.getD k 0]⟩], by simp, rfl, rfl, by have := HK.out; omega, by have := HK.out; omega, Lib.hid ⟨HA2.out.1, by have := HA2.out.2; simp; omega⟩, Lib.hid (by rw [← HSt.out [l.getD k 0], List.length_append, HQl.out]; exact HOs.out _), Lib.hid (HBs.out _).drew⟩
      case measure => have := HK.out; first | (simp [intOf]; done) | (simp [intOf]; omega)
    obtain ⟨f0, hT0, hf0⟩ := HAt.out.1.close (by rw [HN.out]; exact hk) (fun h => absurd h (by decide))
    have hw : LX.wordC (l.getD k 0) = false := hg
    rw [hg] at HPk
    have HF := Lib.hid (show out.length ≤ k from HAt.out.2)
    have HOO := HOO
    have HBB := HBB
    obtain ⟨f, rfl⟩ : ∃ g, f0 = g + 1 := ⟨f0 - 1, by rw [HN.out] at hf0; omega⟩
    have Hf0 := Lib.hid (show N - (k + 1) ≤ f by rw [HN.out] at hf0; omega)
    have HT := Lib.hid (show (if LX.blanks.contains (l.getD k 0) = true then LX.T l f (k + 1) (if l.getD k 0 = 10 then ln + 1 else ln) out
      else if LX.signE l k = k then (none, ln) else LX.T l f (LX.signE l k) ln (out ++ [⟨2, ln, LX.cut l k (LX.signE l k)⟩])) = R by
        have h := hT0
        unfold LX.T at h
        rwa [if_pos (show k < l.length by rw [HN.out]; exact hlt), LX.wordE_none (by rw [HN.out]; exact hlt) hw, if_pos rfl] at h)
    clear hT0 hf0 hw hg hT hO hB HAt
    by_cases c10 : l.getD k 0 = 10
    ·
      as_aux_lemma =>
        have HV := Lib.hid (show LX.T l f (k + 1) (ln + 1) out = R by have h := HT.out; rw [c10] at h; exact h)
        rw [c10] at hi1 HPk
        rw [show ((((10 : UInt8)).toNat : Nat) : Int) = 10 from rfl] at hi1 HPk
        clear HT hlt hk hln hsl c10
        go_wp2_with fail
        refine (HPk.out _).mono ?_; rintro e w1 ⟨rfl, md, rfl⟩
        obtain ⟨W3, hW3⟩ : ∃ W, W = W1.drewN md := ⟨_, rfl⟩
        have hb3 : Below W1.heap.size W1 W3 := by rw [hW3]; exact Below_drewN _ _ md
        rw [← hW3]
        have HO4 := Lib.hid (owns_below HOO.out hb3)
        have HB4 := Lib.hid (HBB.out.trans (hb3.mono HBB.out.size))
        clear hW3 hb3
        go_wp2_with fail
        go_roundw
        case rel => exact ⟨k + 1, ln + 1, false, out, by simp, by simp, rfl, by have := HK.out; omega, by have := HK.out; omega, Lib.hid ⟨.shut f _ HV.out (by rw [HN.out]; exact Hf0.out), by have := HF.out; omega⟩, HO4, HB4⟩
        case measure => have := HK.out; first | (simp [intOf]; done) | (simp [intOf]; omega)
    by_cases c32 : l.getD k 0 = 32
    ·
      as_aux_lemma =>
        have HV := Lib.hid (show LX.T l f (k + 1) ln out = R by have h := HT.out; rw [c32] at h; exact h)
        rw [c32] at hi1 HPk
        rw [show ((((32 : UInt8)).toNat : Nat) : Int) = 32 from rfl] at hi1 HPk
        clear HT hlt hk hln hsl c10 c32
        go_wp2_with fail
        refine (HPk.out _).mono ?_; rintro e w1 ⟨rfl, md, rfl⟩
        obtain ⟨W3, hW3⟩ : ∃ W, W = W1.drewN md := ⟨_, rfl⟩
        have hb3 : Below W1.heap.size W1 W3 := by rw [hW3]; exact Below_drewN _ _ md
        rw [← hW3]
        have HO4 := Lib.hid (owns_below HOO.out hb3)
        have HB4 := Lib.hid (HBB.out.trans (hb3.mono HBB.out.size))
        clear hW3 hb3
        go_wp2_with fail
        go_roundw
        case rel => exact ⟨k + 1, ln, false, out, by simp, rfl, rfl, by have := HK.out; omega, by have := HK.out; omega, Lib.hid ⟨.shut f _ HV.out (by rw [HN.out]; exact Hf0.out), by have := HF.out; omega⟩, HO4, HB4⟩
        case measure => have := HK.out; first | (simp [intOf]; done) | (simp [intOf]; omega)
    by_cases c9 : l.getD k 0 = 9
    ·
      as_aux_lemma =>
        have HV := Lib.hid (show LX.T l f (k + 1) ln out = R by have h := HT.out; rw [c9] at h; exact h)
        rw [c9] at hi1 HPk
        rw [show ((((9 : UInt8)).toNat : Nat) : Int) = 9 from rfl] at hi1 HPk
        clear HT hlt hk hln hsl c10 c32 c9
        go_wp2_with fail
        refine (HPk.out _).mono ?_; rintro e w1 ⟨rfl, md, rfl⟩
        obtain ⟨W3, hW3⟩ : ∃ W, W = W1.drewN md := ⟨_, rfl⟩
        have hb3 : Below W1.heap.size W1 W3 := by rw [hW3]; exact Below_drewN _ _ md
        rw [← hW3]
        have HO4 := Lib.hid (owns_below HOO.out hb3)
        have HB4 := Lib.hid (HBB.out.trans (hb3.mono HBB.out.size))
        clear hW3 hb3
        go_wp2_with fail
        go_roundw
        case rel => exact ⟨k + 1, ln, false, out, by simp, rfl, rfl, by have := HK.out; omega, by have := HK.out; omega, Lib.hid ⟨.shut f _ HV.out (by rw [HN.out]; exact Hf0.out), by have := HF.out; omega⟩, HO4, HB4⟩
        case measure => have := HK.out; first | (simp [intOf]; done) | (simp [intOf]; omega)
    by_cases c13 : l.getD k 0 = 13
    ·
      as_aux_lemma =>
        have HV := Lib.hid (show LX.T l f (k + 1) ln out = R by have h := HT.out; rw [c13] at h; exact h)
        rw [c13] at hi1 HPk
        rw [show ((((13 : UInt8)).toNat : Nat) : Int) = 13 from rfl] at hi1 HPk
        clear HT hlt hk hln hsl c10 c32 c9 c13
        go_wp2_with fail
        refine (HPk.out _).mono ?_; rintro e w1 ⟨rfl, md, rfl⟩
        obtain ⟨W3, hW3⟩ : ∃ W, W = W1.drewN md := ⟨_, rfl⟩
        have hb3 : Below W1.heap.size W1 W3 := by rw [hW3]; exact Below_drewN _ _ md
        rw [← hW3]
        have HO4 := Lib.hid (owns_below HOO.out hb3)
        have HB4 := Lib.hid (HBB.out.trans (hb3.mono HBB.out.size))
        clear hW3 hb3
        go_wp2_with fail
        go_roundw
        case rel => exact ⟨k + 1, ln, false, out, by simp, rfl, rfl, by have := HK.out; omega, by have := HK.out; omega, Lib.hid ⟨.shut f _ HV.out (by rw [HN.out]; exact Hf0.out), by have := HF.out; omega⟩, HO4, HB4⟩
        case measure => have := HK.out; first | (simp [intOf]; done) | (simp [intOf]; omega)
    have HT2 := Lib.hid (show (if LX.signE l k = k then (none, ln) else LX.T l f (LX.signE l k) ln (out ++ [⟨2, ln, LX.cut l k (LX.signE l k)⟩])) = R by
        have h := HT.out
        rwa [if_neg (by simp only [LX.blanks, List.contains_eq_mem, List.mem_cons, List.not_mem_nil, or_false, decide_eq_true_eq]; exact fun h => h.elim c32 fun h => h.elim c9 fun h => h.elim c13 c10)] at h)
    have HE := Lib.hid (fun (d : UInt8) (v : UInt8) => (show ((d.toNat : Nat) : Int) = ((v.toNat : Nat) : Int) ↔ d = v from ⟨fun h => UInt8.toNat_inj.1 (by omega), fun h => by rw [h]⟩))
    have HIc := Lib.hid (fun W => HIn.out (l.getD k 0) W)
    have n10 : ((((l.getD k 0).toNat : Nat) : Int) == 10) = false := by simpa using fun h => c10 ((HE.out (l.getD k 0) 10).1 h)
    have n32 : ((((l.getD k 0).toNat : Nat) : Int) == 32) = false := by simpa using fun h => c32 ((HE.out (l.getD k 0) 32).1 h)
    have n9 : ((((l.getD k 0).toNat : Nat) : Int) == 9) = false := by simpa using fun h => c9 ((HE.out (l.getD k 0) 9).1 h)
    have n13 : ((((l.getD k 0).toNat : Nat) : Int) == 13) = false := by simpa using fun h => c13 ((HE.out (l.getD k 0) 13).1 h)
    clear HT c10 c32 c9 c13
    cases hs : LX.signs.contains (l.getD k 0)
    case false =>
      as_aux_lemma =>
        rw [hs] at HIc
        have HV := Lib.hid (show (none, ln) = R by have h := HT2.out; rwa [if_pos (LX.signE_none hs)] at h)
        obtain ⟨cn, hcn⟩ : ∃ n : Int, ((l.getD k 0).toNat : Int) = n := ⟨_, rfl⟩
        rw [hcn] at hi1 HPk HIc n10 n32 n9 n13
        clear HT2 hlt hk hln hsl hs hcn
        go_wp2_with fail
        refine (HPk.out _).mono ?_; rintro e w1 ⟨rfl, md, rfl⟩
        obtain ⟨W3, hW3⟩ : ∃ W, W = W1.drewN md := ⟨_, rfl⟩
        have hb3 : Below W1.heap.size W1 W3 := by rw [hW3]; exact Below_drewN _ _ md
        rw [← hW3]
        have HB4 := Lib.hid (HBB.out.trans (hb3.mono HBB.out.size))
        clear hW3 hb3
        go_wp2_with fail
        refine (HIc.out _).mono ?_; rintro e w1 ⟨rfl, m5, rfl⟩
        obtain ⟨W5, hW5⟩ : ∃ W, W = W3.drewN m5 := ⟨_, rfl⟩
        have hb5 : Below W3.heap.size W3 W5 := by rw [hW5]; exact Below_drewN _ _ m5
        rw [← hW5]
        have HB5 := Lib.hid (HB4.out.trans (hb5.mono HB4.out.size))
        clear hW5 hb5
        go_wp2_with fail
        go_returns
        exact HQn.out _ ln HB5.out (HR.out.trans HV.out.symm)
    rw [hs] at HIc
    obtain ⟨m, hmm⟩ : ∃ m, out.length = m := ⟨_, rfl⟩
    have HM := Lib.hid hmm
    rw [hmm] at HOO HF
    have hm1000 : m ≤ 1000 := by have := HF.out; omega
    have HM3 := Lib.hid hm1000
    clear hmm hm1000
    by_cases k2 : k + 1 < N
    case neg =>
      have r1 : ((k : Int) + 1 < (N : Int)) = False := eq_false (by omega)
      have HKx := Lib.hid (show k + 1 ≤ N by omega)
      have HV := Lib.hid (show LX.T l f (k + 1) ln (out ++ [⟨2, ln, LX.cut l k (k + 1)⟩]) = R by have h := HT2.out; rwa [LX.signE_one hs (by rw [HN.out]; exact fun h => k2 h.1), if_neg (by omega)] at h)
      rw [← LX.cut_one l k (by rw [HN.out]; exact hlt)] at hsl
      as_aux_lemma =>
        obtain ⟨cn, hcn⟩ : ∃ n : Int, ((l.getD k 0).toNat : Int) = n := ⟨_, rfl⟩
        rw [hcn] at hi1 HPk HIc n10 n32 n9 n13
        clear hcn HT2 hlt hk hln hs k2
        go_wp2_with fail
        refine (HPk.out _).mono ?_; rintro e w1 ⟨rfl, md, rfl⟩
        obtain ⟨W3, hW3⟩ : ∃ W, W = W1.drewN md := ⟨_, rfl⟩
        have hb3 : Below W1.heap.size W1 W3 := by rw [hW3]; exact Below_drewN _ _ md
        rw [← hW3]
        have HO4 := Lib.hid (owns_below HOO.out hb3)
        have HB4 := Lib.hid (HBB.out.trans (hb3.mono HBB.out.size))
        clear hW3 hb3
        go_wp2_with fail
        refine (HIc.out _).mono ?_; rintro e w1 ⟨rfl, m5, rfl⟩
        obtain ⟨W5, hW5⟩ : ∃ W, W = W3.drewN m5 := ⟨_, rfl⟩
        have hb5 : Below W3.heap.size W3 W5 := by rw [hW5]; exact Below_drewN _ _ m5
        rw [← hW5]
        have HO5 := Lib.hid (owns_below HO4.out hb5)
        have HB5 := Lib.hid (HB4.out.trans (hb5.mono HB4.out.size))
        clear hW5 hb5 HO4 HB4
        go_wp2_with (first | (at_builtin; go_loud (refine wpList_append_src rfl (.tmp 123) (.tmp 132) 23 rfl w.heap.size 29 i4 _ 3 32 Try.underlying23 hi4 hz4 hsize4 hby4 rfl (by omega) _ m _ rfl (owns_below HO5.out ((Below.refl _ _).alloc (Nat.le_refl _) _)) _ 1 [.int .i64 2, .int .i64 (ln : Int), .string ⟨(LX.cut l k (k + 1)).toArray⟩] rfl (src_newT _ _ _ (by simp)) rfl (by intro u hu; simp at hu; rcases hu with rfl | rfl | rfl <;> rfl) (by have := HM3.out; unfold maxLen; omega) (by have := HM3.out; omega) (by have h1 := HB5.out.size; simp; omega) ?_; intro v5 W6 hO6 hG6; have HO6 := Lib.hid hO6; have HB6 := Lib.hid (grown3 (HB5.out.alloc HB5.out.size _) (by have h1 := HB5.out.size; simp; omega) (owns_below HO5.out ((Below.refl _ _).alloc (Nat.le_refl _) _)) hG6); clear hO6 hG6)) | fail)
        go_roundw
        case rel => exact ⟨k + 1, ln, false, out ++ [⟨2, ln, LX.cut l k (k + 1)⟩], by simp, rfl, rfl, by have := HK.out; have := HKx.out; omega, by have := HK.out; omega, Lib.hid ⟨.shut f _ HV.out (by rw [HN.out]; have := Hf0.out; omega), by rw [List.length_append, HM.out]; have := HF.out; simp; omega⟩, Lib.hid (by rw [tkV_snoc, List.length_append, HM.out]; exact HO6.out), HB6⟩
        case measure => have := HK.out; have := HKx.out; first | (simp [intOf]; done) | (simp [intOf]; omega)
    have r1 : ((k : Int) + 1 < (N : Int)) = True := eq_true (by omega)
    have hi3 := fun W => (show (Instr.index 9 (.string S) (.int .i64 ((k : Int) + 1))).run Try.prog W = .ok (.int .u8 ((l.getD (k + 1) 0).toNat : Int)) W by have h := HIx.out (k + 1) (by rw [HN.out]; exact k2) W; rwa [show ((k + 1 : Nat) : Int) = (k : Int) + 1 by omega] at h)
    have hsl2 := fun W => (show (Instr.slice 9 (.string S) (some (.int .i64 (k : Int))) (some (.int .i64 ((k : Int) + 1 + 1))) none).run Try.prog W = .ok (.string ⟨(LX.cut l k (k + 2)).toArray⟩) W by have h := HSl.out k (k + 2) (by omega) (by rw [HN.out]; omega) W; rwa [show ((k + 2 : Nat) : Int) = (k : Int) + 1 + 1 by omega] at h)
    have HKx := Lib.hid (show k + 2 ≤ N by omega)
    have hw2 : wrap64 ((k : Int) + 1 + 1) = (k : Int) + 1 + 1 := by unfold wrap64; omega
    have HSg := Lib.hid (And.intro (@LX.signE_one l k hs) (@LX.signE_two l k (by rw [HN.out]; exact k2)))
    obtain ⟨d, hd⟩ : ∃ d, l.getD (k + 1) 0 = d := ⟨_, rfl⟩
    rw [hd] at hi3 HSg
    by_cases c58 : l.getD k 0 = 58
    · skip
      by_cases d61 : d = 61
      · have HV := Lib.hid (show LX.T l f (k + 2) ln (out ++ [⟨2, ln, LX.cut l k (k + 2)⟩]) = R by have h := HT2.out; rwa [HSg.out.2 (by rw [c58, d61]; unfold LX.two; decide), if_neg (by omega)] at h)
        rw [d61, show ((((61 : UInt8)).toNat : Nat) : Int) = 61 from rfl] at hi3
        as_aux_lemma =>
          rw [c58, show ((((58 : UInt8)).toNat : Nat) : Int) = 58 from rfl] at hi1 HPk HIc
          clear n10 n32 n9 n13 HT2 HSg hlt hk hln hs k2 hd hsl d61 c58
          go_wp2_with fail
          refine (HPk.out _).mono ?_; rintro e w1 ⟨rfl, md, rfl⟩
          obtain ⟨W3, hW3⟩ : ∃ W, W = W1.drewN md := ⟨_, rfl⟩
          have hb3 : Below W1.heap.size W1 W3 := by rw [hW3]; exact Below_drewN _ _ md
          rw [← hW3]
          have HO4 := Lib.hid (owns_below HOO.out hb3)
          have HB4 := Lib.hid (HBB.out.trans (hb3.mono HBB.out.size))
          clear hW3 hb3
          go_wp2_with fail
          refine (HIc.out _).mono ?_; rintro e w1 ⟨rfl, m5, rfl⟩
          obtain ⟨W5, hW5⟩ : ∃ W, W = W3.drewN m5 := ⟨_, rfl⟩
          have hb5 : Below W3.heap.size W3 W5 := by rw [hW5]; exact Below_drewN _ _ m5
          rw [← hW5]
          have HO5 := Lib.hid (owns_below HO4.out hb5)
          have HB5 := Lib.hid (HB4.out.trans (hb5.mono HB4.out.size))
          clear hW5 hb5 HO4 HB4
          go_wp2_with (first | (at_builtin; go_loud (refine wpList_append_src rfl (.tmp 123) (.tmp 132) 23 rfl w.heap.size 29 i4 _ 3 32 Try.underlying23 hi4 hz4 hsize4 hby4 rfl (by omega) _ m _ rfl (owns_below HO5.out ((Below.refl _ _).alloc (Nat.le_refl _) _)) _ 1 [.int .i64 2, .int .i64 (ln : Int), .string ⟨(LX.cut l k (k + 2)).toArray⟩] rfl (src_newT _ _ _ (by simp)) rfl (by intro u hu; simp at hu; rcases hu with rfl | rfl | rfl <;> rfl) (by have := HM3.out; unfold maxLen; omega) (by have := HM3.out; omega) (by have h1 := HB5.out.size; simp; omega) ?_; intro v5 W6 hO6 hG6; have HO6 := Lib.hid hO6; have HB6 := Lib.hid (grown3 (HB5.out.alloc HB5.out.size _) (by have h1 := HB5.out.size; simp; omega) (owns_below HO5.out ((Below.refl _ _).alloc (Nat.le_refl _) _)) hG6); clear hO6 hG6)) | fail)
          go_roundw
          case rel => exact ⟨k + 2, ln, false, out ++ [⟨2, ln, LX.cut l k (k + 2)⟩], by simp; omega, rfl, rfl, by have := HK.out; have := HKx.out; omega, by have := HK.out; omega, Lib.hid ⟨.shut f _ HV.out (by rw [HN.out]; have := Hf0.out; omega), by rw [List.length_append, HM.out]; have := HF.out; simp; omega⟩, Lib.hid (by rw [tkV_snoc, List.length_append, HM.out]; exact HO6.out), HB6⟩
          case measure => have h1 := HK.out; have h2 := HKx.out; rw [hw2]; show N - ((k : Int) + 1 + 1).toNat < N - ((k : Int)).toNat; omega
      have HV := Lib.hid (show LX.T l f (k + 1) ln (out ++ [⟨2, ln, LX.cut l k (k + 1)⟩]) = R by have h := HT2.out; rwa [HSg.out.1 (by rw [c58]; unfold LX.two; rintro ⟨_, h⟩; rcases h with ⟨h1, h2⟩ | ⟨h1, h2⟩ | ⟨h1, h2⟩ | ⟨h1, h2⟩ <;> first | exact absurd h1 (by decide) | exact d61 h2), if_neg (by omega)] at h)
      have nd61 : (((d.toNat : Nat) : Int) == 61) = false := by simpa using fun h => d61 ((HE.out d 61).1 h)
      obtain ⟨dn, hdn⟩ : ∃ n : Int, (d.toNat : Int) = n := ⟨_, rfl⟩
      rw [hdn] at hi3 nd61
      rw [← LX.cut_one l k (by rw [HN.out]; exact hlt)] at hsl
      as_aux_lemma =>
        rw [c58, show ((((58 : UInt8)).toNat : Nat) : Int) = 58 from rfl] at hi1 HPk HIc
        clear n10 n32 n9 n13 HT2 HSg hdn hlt hk hln hs k2 hd hsl2 c58 d61
        go_wp2_with fail
        refine (HPk.out _).mono ?_; rintro e w1 ⟨rfl, md, rfl⟩
        obtain ⟨W3, hW3⟩ : ∃ W, W = W1.drewN md := ⟨_, rfl⟩
        have hb3 : Below W1.heap.size W1 W3 := by rw [hW3]; exact Below_drewN _ _ md
        rw [← hW3]
        have HO4 := Lib.hid (owns_below HOO.out hb3)
        have HB4 := Lib.hid (HBB.out.trans (hb3.mono HBB.out.size))
        clear hW3 hb3
        go_wp2_with fail
        refine (HIc.out _).mono ?_; rintro e w1 ⟨rfl, m5, rfl⟩
        obtain ⟨W5, hW5⟩ : ∃ W, W = W3.drewN m5 := ⟨_, rfl⟩
        have hb5 : Below W3.heap.size W3 W5 := by rw [hW5]; exact Below_drewN _ _ m5
        rw [← hW5]
        have HO5 := Lib.hid (owns_below HO4.out hb5)
        have HB5 := Lib.hid (HB4.out.trans (hb5.mono HB4.out.size))
        clear hW5 hb5 HO4 HB4
        go_wp2_with (first | (at_builtin; go_loud (refine wpList_append_src rfl (.tmp 123) (.tmp 132) 23 rfl w.heap.size 29 i4 _ 3 32 Try.underlying23 hi4 hz4 hsize4 hby4 rfl (by omega) _ m _ rfl (owns_below HO5.out ((Below.refl _ _).alloc (Nat.le_refl _) _)) _ 1 [.int .i64 2, .int .i64 (ln : Int), .string ⟨(LX.cut l k (k + 1)).toArray⟩] rfl (src_newT _ _ _ (by simp)) rfl (by intro u hu; simp at hu; rcases hu with rfl | rfl | rfl <;> rfl) (by have := HM3.out; unfold maxLen; omega) (by have := HM3.out; omega) (by have h1 := HB5.out.size; simp; omega) ?_; intro v5 W6 hO6 hG6; have HO6 := Lib.hid hO6; have HB6 := Lib.hid (grown3 (HB5.out.alloc HB5.out.size _) (by have h1 := HB5.out.size; simp; omega) (owns_below HO5.out ((Below.refl _ _).alloc (Nat.le_refl _) _)) hG6); clear hO6 hG6)) | fail)
        go_roundw
        case rel => exact ⟨k + 1, ln, false, out ++ [⟨2, ln, LX.cut l k (k + 1)⟩], by simp, rfl, rfl, by have := HK.out; have := HKx.out; omega, by have := HK.out; omega, Lib.hid ⟨.shut f _ HV.out (by rw [HN.out]; have := Hf0.out; omega), by rw [List.length_append, HM.out]; have := HF.out; simp; omega⟩, Lib.hid (by rw [tkV_snoc, List.length_append, HM.out]; exact HO6.out), HB6⟩
        case measure => have := HK.out; have := HKx.out; first | (simp [intOf]; done) | (simp [intOf]; omega)
    by_cases c60 : l.getD k 0 = 60
    · skip
      by_cases d61 : d = 61
      · have HV := Lib.hid (show LX.T l f (k + 2) ln (out ++ [⟨2, ln, LX.cut l k (k + 2)⟩]) = R by have h := HT2.out; rwa [HSg.out.2 (by rw [c60, d61]; unfold LX.two; decide), if_neg (by omega)] at h)
        rw [d61, show ((((61 : UInt8)).toNat : Nat) : Int) = 61 from rfl] at hi3
        as_aux_lemma =>
          rw [c60, show ((((60 : UInt8)).toNat : Nat) : Int) = 60 from rfl] at hi1 HPk HIc
          clear n10 n32 n9 n13 HT2 HSg hlt hk hln hs k2 hd hsl d61 c60
          go_wp2_with fail
          refine (HPk.out _).mono ?_; rintro e w1 ⟨rfl, md, rfl⟩
          obtain ⟨W3, hW3⟩ : ∃ W, W = W1.drewN md := ⟨_, rfl⟩
          have hb3 : Below W1.heap.size W1 W3 := by rw [hW3]; exact Below_drewN _ _ md
          rw [← hW3]
          have HO4 := Lib.hid (owns_below HOO.out hb3)
          have HB4 := Lib.hid (HBB.out.trans (hb3.mono HBB.out.size))
          clear hW3 hb3
          go_wp2_with fail
          refine (HIc.out _).mono ?_; rintro e w1 ⟨rfl, m5, rfl⟩
          obtain ⟨W5, hW5⟩ : ∃ W, W = W3.drewN m5 := ⟨_, rfl⟩
          have hb5 : Below W3.heap.size W3 W5 := by rw [hW5]; exact Below_drewN _ _ m5
          rw [← hW5]
          have HO5 := Lib.hid (owns_below HO4.out hb5)
          have HB5 := Lib.hid (HB4.out.trans (hb5.mono HB4.out.size))
          clear hW5 hb5 HO4 HB4
          go_wp2_with (first | (at_builtin; go_loud (refine wpList_append_src rfl (.tmp 123) (.tmp 132) 23 rfl w.heap.size 29 i4 _ 3 32 Try.underlying23 hi4 hz4 hsize4 hby4 rfl (by omega) _ m _ rfl (owns_below HO5.out ((Below.refl _ _).alloc (Nat.le_refl _) _)) _ 1 [.int .i64 2, .int .i64 (ln : Int), .string ⟨(LX.cut l k (k + 2)).toArray⟩] rfl (src_newT _ _ _ (by simp)) rfl (by intro u hu; simp at hu; rcases hu with rfl | rfl | rfl <;> rfl) (by have := HM3.out; unfold maxLen; omega) (by have := HM3.out; omega) (by have h1 := HB5.out.size; simp; omega) ?_; intro v5 W6 hO6 hG6; have HO6 := Lib.hid hO6; have HB6 := Lib.hid (grown3 (HB5.out.alloc HB5.out.size _) (by have h1 := HB5.out.size; simp; omega) (owns_below HO5.out ((Below.refl _ _).alloc (Nat.le_refl _) _)) hG6); clear hO6 hG6)) | fail)
          go_roundw
          case rel => exact ⟨k + 2, ln, false, out ++ [⟨2, ln, LX.cut l k (k + 2)⟩], by simp; omega, rfl, rfl, by have := HK.out; have := HKx.out; omega, by have := HK.out; omega, Lib.hid ⟨.shut f _ HV.out (by rw [HN.out]; have := Hf0.out; omega), by rw [List.length_append, HM.out]; have := HF.out; simp; omega⟩, Lib.hid (by rw [tkV_snoc, List.length_append, HM.out]; exact HO6.out), HB6⟩
          case measure => have h1 := HK.out; have h2 := HKx.out; rw [hw2]; show N - ((k : Int) + 1 + 1).toNat < N - ((k : Int)).toNat; omega
      by_cases d62 : d = 62
      · have HV := Lib.hid (show LX.T l f (k + 2) ln (out ++ [⟨2, ln, LX.cut l k (k + 2)⟩]) = R by have h := HT2.out; rwa [HSg.out.2 (by rw [c60, d62]; unfold LX.two; decide), if_neg (by omega)] at h)
        rw [d62, show ((((62 : UInt8)).toNat : Nat) : Int) = 62 from rfl] at hi3
        as_aux_lemma =>
          rw [c60, show ((((60 : UInt8)).toNat : Nat) : Int) = 60 from rfl] at hi1 HPk HIc
          clear n10 n32 n9 n13 HT2 HSg hlt hk hln hs k2 hd hsl d62 c60 d61
          go_wp2_with fail
          refine (HPk.out _).mono ?_; rintro e w1 ⟨rfl, md, rfl⟩
          obtain ⟨W3, hW3⟩ : ∃ W, W = W1.drewN md := ⟨_, rfl⟩
          have hb3 : Below W1.heap.size W1 W3 := by rw [hW3]; exact Below_drewN _ _ md
          rw [← hW3]
          have HO4 := Lib.hid (owns_below HOO.out hb3)
          have HB4 := Lib.hid (HBB.out.trans (hb3.mono HBB.out.size))
          clear hW3 hb3
          go_wp2_with fail
          refine (HIc.out _).mono ?_; rintro e w1 ⟨rfl, m5, rfl⟩
          obtain ⟨W5, hW5⟩ : ∃ W, W = W3.drewN m5 := ⟨_, rfl⟩
          have hb5 : Below W3.heap.size W3 W5 := by rw [hW5]; exact Below_drewN _ _ m5
          rw [← hW5]
          have HO5 := Lib.hid (owns_below HO4.out hb5)
          have HB5 := Lib.hid (HB4.out.trans (hb5.mono HB4.out.size))
          clear hW5 hb5 HO4 HB4
          go_wp2_with (first | (at_builtin; go_loud (refine wpList_append_src rfl (.tmp 123) (.tmp 132) 23 rfl w.heap.size 29 i4 _ 3 32 Try.underlying23 hi4 hz4 hsize4 hby4 rfl (by omega) _ m _ rfl (owns_below HO5.out ((Below.refl _ _).alloc (Nat.le_refl _) _)) _ 1 [.int .i64 2, .int .i64 (ln : Int), .string ⟨(LX.cut l k (k + 2)).toArray⟩] rfl (src_newT _ _ _ (by simp)) rfl (by intro u hu; simp at hu; rcases hu with rfl | rfl | rfl <;> rfl) (by have := HM3.out; unfold maxLen; omega) (by have := HM3.out; omega) (by have h1 := HB5.out.size; simp; omega) ?_; intro v5 W6 hO6 hG6; have HO6 := Lib.hid hO6; have HB6 := Lib.hid (grown3 (HB5.out.alloc HB5.out.size _) (by have h1 := HB5.out.size; simp; omega) (owns_below HO5.out ((Below.refl _ _).alloc (Nat.le_refl _) _)) hG6); clear hO6 hG6)) | fail)
          go_roundw
          case rel => exact ⟨k + 2, ln, false, out ++ [⟨2, ln, LX.cut l k (k + 2)⟩], by simp; omega, rfl, rfl, by have := HK.out; have := HKx.out; omega, by have := HK.out; omega, Lib.hid ⟨.shut f _ HV.out (by rw [HN.out]; have := Hf0.out; omega), by rw [List.length_append, HM.out]; have := HF.out; simp; omega⟩, Lib.hid (by rw [tkV_snoc, List.length_append, HM.out]; exact HO6.out), HB6⟩
          case measure => have h1 := HK.out; have h2 := HKx.out; rw [hw2]; show N - ((k : Int) + 1 + 1).toNat < N - ((k : Int)).toNat; omega
      have HV := Lib.hid (show LX.T l f (k + 1) ln (out ++ [⟨2, ln, LX.cut l k (k + 1)⟩]) = R by have h := HT2.out; rwa [HSg.out.1 (by rw [c60]; unfold LX.two; rintro ⟨_, h⟩; rcases h with ⟨h1, h2⟩ | ⟨h1, h2⟩ | ⟨h1, h2⟩ | ⟨h1, h2⟩ <;> first | exact absurd h1 (by decide) | exact d61 h2 | exact d62 h2), if_neg (by omega)] at h)
      have nd61 : (((d.toNat : Nat) : Int) == 61) = false := by simpa using fun h => d61 ((HE.out d 61).1 h)
      have nd62 : (((d.toNat : Nat) : Int) == 62) = false := by simpa using fun h => d62 ((HE.out d 62).1 h)
      obtain ⟨dn, hdn⟩ : ∃ n : Int, (d.toNat : Int) = n := ⟨_, rfl⟩
      rw [hdn] at hi3 nd61 nd62
      rw [← LX.cut_one l k (by rw [HN.out]; exact hlt)] at hsl
      as_aux_lemma =>
        rw [c60, show ((((60 : UInt8)).toNat : Nat) : Int) = 60 from rfl] at hi1 HPk HIc
        clear n10 n32 n9 n13 HT2 HSg hdn hlt hk hln hs k2 hd hsl2 c60 d61 d62
        go_wp2_with fail
        refine (HPk.out _).mono ?_; rintro e w1 ⟨rfl, md, rfl⟩
        obtain ⟨W3, hW3⟩ : ∃ W, W = W1.drewN md := ⟨_, rfl⟩
        have hb3 : Below W1.heap.size W1 W3 := by rw [hW3]; exact Below_drewN _ _ md
        rw [← hW3]
        have HO4 := Lib.hid (owns_below HOO.out hb3)
        have HB4 := Lib.hid (HBB.out.trans (hb3.mono HBB.out.size))
        clear hW3 hb3
        go_wp2_with fail
        refine (HIc.out _).mono ?_; rintro e w1 ⟨rfl, m5, rfl⟩
        obtain ⟨W5, hW5⟩ : ∃ W, W = W3.drewN m5 := ⟨_, rfl⟩
        have hb5 : Below W3.heap.size W3 W5 := by rw [hW5]; exact Below_drewN _ _ m5
        rw [← hW5]
        have HO5 := Lib.hid (owns_below HO4.out hb5)
        have HB5 := Lib.hid (HB4.out.trans (hb5.mono HB4.out.size))
        clear hW5 hb5 HO4 HB4
        go_wp2_with (first | (at_builtin; go_loud (refine wpList_append_src rfl (.tmp 123) (.tmp 132) 23 rfl w.heap.size 29 i4 _ 3 32 Try.underlying23 hi4 hz4 hsize4 hby4 rfl (by omega) _ m _ rfl (owns_below HO5.out ((Below.refl _ _).alloc (Nat.le_refl _) _)) _ 1 [.int .i64 2, .int .i64 (ln : Int), .string ⟨(LX.cut l k (k + 1)).toArray⟩] rfl (src_newT _ _ _ (by simp)) rfl (by intro u hu; simp at hu; rcases hu with rfl | rfl | rfl <;> rfl) (by have := HM3.out; unfold maxLen; omega) (by have := HM3.out; omega) (by have h1 := HB5.out.size; simp; omega) ?_; intro v5 W6 hO6 hG6; have HO6 := Lib.hid hO6; have HB6 := Lib.hid (grown3 (HB5.out.alloc HB5.out.size _) (by have h1 := HB5.out.size; simp; omega) (owns_below HO5.out ((Below.refl _ _).alloc (Nat.le_refl _) _)) hG6); clear hO6 hG6)) | fail)
        go_roundw
        case rel => exact ⟨k + 1, ln, false, out ++ [⟨2, ln, LX.cut l k (k + 1)⟩], by simp, rfl, rfl, by have := HK.out; have := HKx.out; omega, by have := HK.out; omega, Lib.hid ⟨.shut f _ HV.out (by rw [HN.out]; have := Hf0.out; omega), by rw [List.length_append, HM.out]; have := HF.out; simp; omega⟩, Lib.hid (by rw [tkV_snoc, List.length_append, HM.out]; exact HO6.out), HB6⟩
        case measure => have := HK.out; have := HKx.out; first | (simp [intOf]; done) | (simp [intOf]; omega)
    by_cases c62 : l.getD k 0 = 62
    · skip
      by_cases d61 : d = 61
      · have HV := Lib.hid (show LX.T l f (k + 2) ln (out ++ [⟨2, ln, LX.cut l k (k + 2)⟩]) = R by have h := HT2.out; rwa [HSg.out.2 (by rw [c62, d61]; unfold LX.two; decide), if_neg (by omega)] at h)
        rw [d61, show ((((61 : UInt8)).toNat : Nat) : Int) = 61 from rfl] at hi3
        as_aux_lemma =>
          rw [c62, show ((((62 : UInt8)).toNat : Nat) : Int) = 62 from rfl] at hi1 HPk HIc
          clear n10 n32 n9 n13 HT2 HSg hlt hk hln hs k2 hd hsl d61 c62
          go_wp2_with fail
          refine (HPk.out _).mono ?_; rintro e w1 ⟨rfl, md, rfl⟩
          obtain ⟨W3, hW3⟩ : ∃ W, W = W1.drewN md := ⟨_, rfl⟩
          have hb3 : Below W1.heap.size W1 W3 := by rw [hW3]; exact Below_drewN _ _ md
          rw [← hW3]
          have HO4 := Lib.hid (owns_below HOO.out hb3)
          have HB4 := Lib.hid (HBB.out.trans (hb3.mono HBB.out.size))
          clear hW3 hb3
          go_wp2_with fail
          refine (HIc.out _).mono ?_; rintro e w1 ⟨rfl, m5, rfl⟩
          obtain ⟨W5, hW5⟩ : ∃ W, W = W3.drewN m5 := ⟨_, rfl⟩
          have hb5 : Below W3.heap.size W3 W5 := by rw [hW5]; exact Below_drewN _ _ m5
          rw [← hW5]
          have HO5 := Lib.hid (owns_below HO4.out hb5)
          have HB5 := Lib.hid (HB4.out.trans (hb5.mono HB4.out.size))
          clear hW5 hb5 HO4 HB4
          go_wp2_with (first | (at_builtin; go_loud (refine wpList_append_src rfl (.tmp 123) (.tmp 132) 23 rfl w.heap.size 29 i4 _ 3 32 Try.underlying23 hi4 hz4 hsize4 hby4 rfl (by omega) _ m _ rfl (owns_below HO5.out ((Below.refl _ _).alloc (Nat.le_refl _) _)) _ 1 [.int .i64 2, .int .i64 (ln : Int), .string ⟨(LX.cut l k (k + 2)).toArray⟩] rfl (src_newT _ _ _ (by simp)) rfl (by intro u hu; simp at hu; rcases hu with rfl | rfl | rfl <;> rfl) (by have := HM3.out; unfold maxLen; omega) (by have := HM3.out; omega) (by have h1 := HB5.out.size; simp; omega) ?_; intro v5 W6 hO6 hG6; have HO6 := Lib.hid hO6; have HB6 := Lib.hid (grown3 (HB5.out.alloc HB5.out.size _) (by have h1 := HB5.out.size; simp; omega) (owns_below HO5.out ((Below.refl _ _).alloc (Nat.le_refl _) _)) hG6); clear hO6 hG6)) | fail)
          go_roundw
          case rel => exact ⟨k + 2, ln, false, out ++ [⟨2, ln, LX.cut l k (k + 2)⟩], by simp; omega, rfl, rfl, by have := HK.out; have := HKx.out; omega, by have := HK.out; omega, Lib.hid ⟨.shut f _ HV.out (by rw [HN.out]; have := Hf0.out; omega), by rw [List.length_append, HM.out]; have := HF.out; simp; omega⟩, Lib.hid (by rw [tkV_snoc, List.length_append, HM.out]; exact HO6.out), HB6⟩
          case measure => have h1 := HK.out; have h2 := HKx.out; rw [hw2]; show N - ((k : Int) + 1 + 1).toNat < N - ((k : Int)).toNat; omega
      have HV := Lib.hid (show LX.T l f (k + 1) ln (out ++ [⟨2, ln, LX.cut l k (k + 1)⟩]) = R by have h := HT2.out; rwa [HSg.out.1 (by rw [c62]; unfold LX.two; rintro ⟨_, h⟩; rcases h with ⟨h1, h2⟩ | ⟨h1, h2⟩ | ⟨h1, h2⟩ | ⟨h1, h2⟩ <;> first | exact absurd h1 (by decide) | exact d61 h2), if_neg (by omega)] at h)
      have nd61 : (((d.toNat : Nat) : Int) == 61) = false := by simpa using fun h => d61 ((HE.out d 61).1 h)
      obtain ⟨dn, hdn⟩ : ∃ n : Int, (d.toNat : Int) = n := ⟨_, rfl⟩
      rw [hdn] at hi3 nd61
      rw [← LX.cut_one l k (by rw [HN.out]; exact hlt)] at hsl
      as_aux_lemma =>
        rw [c62, show ((((62 : UInt8)).toNat : Nat) : Int) = 62 from rfl] at hi1 HPk HIc
        clear n10 n32 n9 n13 HT2 HSg hdn hlt hk hln hs k2 hd hsl2 c62 d61
        go_wp2_with fail
        refine (HPk.out _).mono ?_; rintro e w1 ⟨rfl, md, rfl⟩
        obtain ⟨W3, hW3⟩ : ∃ W, W = W1.drewN md := ⟨_, rfl⟩
        have hb3 : Below W1.heap.size W1 W3 := by rw [hW3]; exact Below_drewN _ _ md
        rw [← hW3]
        have HO4 := Lib.hid (owns_below HOO.out hb3)
        have HB4 := Lib.hid (HBB.out.trans (hb3.mono HBB.out.size))
        clear hW3 hb3
        go_wp2_with fail
        refine (HIc.out _).mono ?_; rintro e w1 ⟨rfl, m5, rfl⟩
        obtain ⟨W5, hW5⟩ : ∃ W, W = W3.drewN m5 := ⟨_, rfl⟩
        have hb5 : Below W3.heap.size W3 W5 := by rw [hW5]; exact Below_drewN _ _ m5
        rw [← hW5]
        have HO5 := Lib.hid (owns_below HO4.out hb5)
        have HB5 := Lib.hid (HB4.out.trans (hb5.mono HB4.out.size))
        clear hW5 hb5 HO4 HB4
        go_wp2_with (first | (at_builtin; go_loud (refine wpList_append_src rfl (.tmp 123) (.tmp 132) 23 rfl w.heap.size 29 i4 _ 3 32 Try.underlying23 hi4 hz4 hsize4 hby4 rfl (by omega) _ m _ rfl (owns_below HO5.out ((Below.refl _ _).alloc (Nat.le_refl _) _)) _ 1 [.int .i64 2, .int .i64 (ln : Int), .string ⟨(LX.cut l k (k + 1)).toArray⟩] rfl (src_newT _ _ _ (by simp)) rfl (by intro u hu; simp at hu; rcases hu with rfl | rfl | rfl <;> rfl) (by have := HM3.out; unfold maxLen; omega) (by have := HM3.out; omega) (by have h1 := HB5.out.size; simp; omega) ?_; intro v5 W6 hO6 hG6; have HO6 := Lib.hid hO6; have HB6 := Lib.hid (grown3 (HB5.out.alloc HB5.out.size _) (by have h1 := HB5.out.size; simp; omega) (owns_below HO5.out ((Below.refl _ _).alloc (Nat.le_refl _) _)) hG6); clear hO6 hG6)) | fail)
        go_roundw
        case rel => exact ⟨k + 1, ln, false, out ++ [⟨2, ln, LX.cut l k (k + 1)⟩], by simp, rfl, rfl, by have := HK.out; have := HKx.out; omega, by have := HK.out; omega, Lib.hid ⟨.shut f _ HV.out (by rw [HN.out]; have := Hf0.out; omega), by rw [List.length_append, HM.out]; have := HF.out; simp; omega⟩, Lib.hid (by rw [tkV_snoc, List.length_append, HM.out]; exact HO6.out), HB6⟩
        case measure => have := HK.out; have := HKx.out; first | (simp [intOf]; done) | (simp [intOf]; omega)
    have HV := Lib.hid (show LX.T l f (k + 1) ln (out ++ [⟨2, ln, LX.cut l k (k + 1)⟩]) = R by have h := HT2.out; rwa [HSg.out.1 (by unfold LX.two; rintro ⟨_, h⟩; rcases h with ⟨h1, _⟩ | ⟨h1, _⟩ | ⟨h1, _⟩ | ⟨h1, _⟩ <;> first | exact c58 h1 | exact c60 h1 | exact c62 h1), if_neg (by omega)] at h)
    have n58 : ((((l.getD k 0).toNat : Nat) : Int) == 58) = false := by simpa using fun h => c58 ((HE.out (l.getD k 0) 58).1 h)
    have n60 : ((((l.getD k 0).toNat : Nat) : Int) == 60) = false := by simpa using fun h => c60 ((HE.out (l.getD k 0) 60).1 h)
    have n62 : ((((l.getD k 0).toNat : Nat) : Int) == 62) = false := by simpa using fun h => c62 ((HE.out (l.getD k 0) 62).1 h)
    obtain ⟨dn, hdn⟩ : ∃ n : Int, (d.toNat : Int) = n := ⟨_, rfl⟩
    rw [hdn] at hi3
    rw [← LX.cut_one l k (by rw [HN.out]; exact hlt)] at hsl
    as_aux_lemma =>
      obtain ⟨cn, hcn⟩ : ∃ n : Int, ((l.getD k 0).toNat : Int) = n := ⟨_, rfl⟩
      rw [hcn] at hi1 HPk HIc n10 n32 n9 n13 n58 n60 n62
      clear hcn HT2 HSg hdn hlt hk hln hs k2 hd hsl2 c58 c60 c62
      go_wp2_with fail
      refine (HPk.out _).mono ?_; rintro e w1 ⟨rfl, md, rfl⟩
      obtain ⟨W3, hW3⟩ : ∃ W, W = W1.drewN md := ⟨_, rfl⟩
      have hb3 : Below W1.heap.size W1 W3 := by rw [hW3]; exact Below_drewN _ _ md
      rw [← hW3]
      have HO4 := Lib.hid (owns_below HOO.out hb3)
      have HB4 := Lib.hid (HBB.out.trans (hb3.mono HBB.out.size))
      clear hW3 hb3
      go_wp2_with fail
      refine (HIc.out _).mono ?_; rintro e w1 ⟨rfl, m5, rfl⟩
      obtain ⟨W5, hW5⟩ : ∃ W, W = W3.drewN m5 := ⟨_, rfl⟩
      have hb5 : Below W3.heap.size W3 W5 := by rw [hW5]; exact Below_drewN _ _ m5
      rw [← hW5]
      have HO5 := Lib.hid (owns_below HO4.out hb5)
      have HB5 := Lib.hid (HB4.out.trans (hb5.mono HB4.out.size))
      clear hW5 hb5 HO4 HB4
      go_wp2_with (first | (at_builtin; go_loud (refine wpList_append_src rfl (.tmp 123) (.tmp 132) 23 rfl w.heap.size 29 i4 _ 3 32 Try.underlying23 hi4 hz4 hsize4 hby4 rfl (by omega) _ m _ rfl (owns_below HO5.out ((Below.refl _ _).alloc (Nat.le_refl _) _)) _ 1 [.int .i64 2, .int .i64 (ln : Int), .string ⟨(LX.cut l k (k + 1)).toArray⟩] rfl (src_newT _ _ _ (by simp)) rfl (by intro u hu; simp at hu; rcases hu with rfl | rfl | rfl <;> rfl) (by have := HM3.out; unfold maxLen; omega) (by have := HM3.out; omega) (by have h1 := HB5.out.size; simp; omega) ?_; intro v5 W6 hO6 hG6; have HO6 := Lib.hid hO6; have HB6 := Lib.hid (grown3 (HB5.out.alloc HB5.out.size _) (by have h1 := HB5.out.size; simp; omega) (owns_below HO5.out ((Below.refl _ _).alloc (Nat.le_refl _) _)) hG6); clear hO6 hG6)) | fail)
      go_roundw
      case rel => exact ⟨k + 1, ln, false, out ++ [⟨2, ln, LX.cut l k (k + 1)⟩], by simp, rfl, rfl, by have := HK.out; have := HKx.out; omega, by have := HK.out; omega, Lib.hid ⟨.shut f _ HV.out (by rw [HN.out]; have := Hf0.out; omega), by rw [List.length_append, HM.out]; have := HF.out; simp; omega⟩, Lib.hid (by rw [tkV_snoc, List.length_append, HM.out]; exact HO6.out), HB6⟩
      case measure => have := HK.out; have := HKx.out; first | (simp [intOf]; done) | (simp [intOf]; omega)
end Go.Proofs.Ytfgnpphbkjeooaa
