/- Layer 47: the same tokens; rows of tokens read. -/
import Derived.Test.YtfgnpphbkjeooaaLxSplit
import Derived.Test.YtfgnpphbkjeooaaSeq
import Derived.Test.YtfgnpphbkjeooaaKeep
import Derived.Laws.StructEq
import Derived.Deep.RegionHeld3
namespace Go.Proofs.Ytfgnpphbkjeooaa
open Go.RowKit
set_option linter.unusedSimpArgs false
set_option linter.unusedVariables false
/-- a slice that holds these tokens -/
def TkAt (w : World) (v : Value) (N : List LX.Tk) : Prop := ∃ b cap, v = .slice b N.length cap ∧ ∀ k x, N[k]? = some x → ∃ g, b = some ⟨g, 0, none⟩ ∧ g < w.heap.size ∧ w.cell? ⟨g, k * 3, none⟩ = some (.int .i64 (x.kind : Int)) ∧ w.cell? ⟨g, k * 3 + 1, none⟩ = some (.int .i64 (x.line : Int)) ∧ w.cell? ⟨g, k * 3 + 2, none⟩ = some (.string ⟨x.text.toArray⟩)
theorem TkAt.below {w w' : World} {v : Value} {N : List LX.Tk} (h : TkAt w v N) (hb : Below w.heap.size w w') : TkAt w' v N := by
  obtain ⟨b, cap, rfl, hc⟩ := h
  refine ⟨b, cap, rfl, fun k x hx => ?_⟩
  obtain ⟨g, rfl, hg, c0, c1, c2⟩ := hc k x hx
  exact ⟨g, rfl, Nat.lt_of_lt_of_le hg hb.size, cellB hb c0 hg, cellB hb c1 hg, cellB hb c2 hg⟩
theorem tkV_at : ∀ (N : List LX.Tk) (k : Nat) (x : LX.Tk), N[k]? = some x → (tkV N)[k * 3]? = some (.int .i64 (x.kind : Int)) ∧ (tkV N)[k * 3 + 1]? = some (.int .i64 (x.line : Int)) ∧ (tkV N)[k * 3 + 2]? = some (.string ⟨x.text.toArray⟩)
  | [], k, x, h => by simp at h
  | y :: N, 0, x, h => by
    simp at h
    subst h
    exact ⟨rfl, rfl, rfl⟩
  | y :: N, k + 1, x, h => by
    obtain ⟨h1, h2, h3⟩ := tkV_at N k x (by simpa using h)
    have e : tkV (y :: N) = [.int .i64 (y.kind : Int), .int .i64 (y.line : Int), .string ⟨y.text.toArray⟩] ++ tkV N := rfl
    rw [e]
    refine ⟨?_, ?_, ?_⟩
    · rw [List.getElem?_append_right (by simp; omega), show (k + 1) * 3 - [Value.int .i64 (y.kind : Int), .int .i64 (y.line : Int), .string ⟨y.text.toArray⟩].length = k * 3 by simp; omega]; exact h1
    · rw [List.getElem?_append_right (by simp; omega), show (k + 1) * 3 + 1 - [Value.int .i64 (y.kind : Int), .int .i64 (y.line : Int), .string ⟨y.text.toArray⟩].length = k * 3 + 1 by simp; omega]; exact h2
    · rw [List.getElem?_append_right (by simp; omega), show (k + 1) * 3 + 2 - [Value.int .i64 (y.kind : Int), .int .i64 (y.line : Int), .string ⟨y.text.toArray⟩].length = k * 3 + 2 by simp; omega]; exact h3
theorem tk_of_owns {w : World} {B : Nat} {v : Value} {N : List LX.Tk} (h : w.ownsRow B 29 3 v N.length (tkV N)) : TkAt w v N := by
  rcases h.2 with ⟨rfl, h0⟩ | ⟨g, cap, cur, rfl, hBg, hgl, h2, h3, _⟩
  · refine ⟨none, 0, by rw [h0], fun k x hx => ?_⟩
    have := lt_of_get hx
    omega
  · refine ⟨_, cap, rfl, fun k x hx => ?_⟩
    have hk := lt_of_get hx
    obtain ⟨h1, h2, h3⟩ := tkV_at N k x hx
    have c0 := h.cellAt (k * 3) (by omega)
    have c1 := h.cellAt (k * 3 + 1) (by omega)
    have c2 := h.cellAt (k * 3 + 2) (by omega)
    rw [h1] at c0
    rw [h2] at c1
    rw [h3] at c2
    exact ⟨g, rfl, big_cell c0, c0, c1, c2⟩
theorem neq_token (w : World) (a b : Int) (s : ByteArray) : (binOp .neq 29 (.agg #[.int .i64 a, .int .i64 b, .string s]) (.agg #[.int .i64 a, .int .i64 b, .string s])).run Try.prog w = .ok (.bool false) w := by
  have hs : Try.prog.stoodInHeld 29 = false := by kernel_rfl
  have hu : Try.prog.underlying 29 = some (.struct (Try.prog.fieldsOf 29)) := by kernel_rfl
  rw [run_neq_struct, run_equalIn_agg (d := 9999) (ht := hu) (hp := hs)]
  obtain ⟨f0, f1, f2, hfs, hn0, ht0, ho0, hn1, ht1, ho1, hn2, ht2, ho2⟩ : ∃ f0 f1 f2, (Try.prog.fieldsOf 29).toList = [f0, f1, f2] ∧ f0.name ≠ "_" ∧ f0.type = 3 ∧ f0.offset = 0 ∧ f1.name ≠ "_" ∧ f1.type = 3 ∧ f1.offset = 1 ∧ f2.name ≠ "_" ∧ f2.type = 9 ∧ f2.offset = 2 :=
    ⟨(Try.prog.fieldsOf 29)[0]!, (Try.prog.fieldsOf 29)[1]!, (Try.prog.fieldsOf 29)[2]!, by kernel_rfl, of_decide_eq_true (by kernel_rfl), by kernel_rfl, by kernel_rfl, of_decide_eq_true (by kernel_rfl), by kernel_rfl, by kernel_rfl, of_decide_eq_true (by kernel_rfl), by kernel_rfl, by kernel_rfl⟩
  rw [hfs]
  have hp : ∀ (xs : Array Value) (i : Nat) (z : Int), xs[i]? = some (.int .i64 z) → (part 3 xs i).run Try.prog w = .ok (.int .i64 z) w := fun xs i z hz => by
    simp [part, isAgg, run_underlying Try.underlying3, hz]
  have hq : ∀ (xs : Array Value) (i : Nat) (z : ByteArray), xs[i]? = some (.string z) → (part 9 xs i).run Try.prog w = .ok (.string z) w := fun xs i z hz => by
    simp [part, isAgg, run_underlying Try.underlying9, hz]
  have p0 : (part 3 #[.int .i64 a, .int .i64 b, .string s] 0).run Try.prog w = .ok (.int .i64 a) w := hp _ 0 a rfl
  have p1 : (part 3 #[.int .i64 a, .int .i64 b, .string s] 1).run Try.prog w = .ok (.int .i64 b) w := hp _ 1 b rfl
  have p2 : (part 9 #[.int .i64 a, .int .i64 b, .string s] 2).run Try.prog w = .ok (.string s) w := hq _ 2 s rfl
  have e1 : ∀ x y : Int, (Op.equalIn 9999 3 (.int .i64 x) (.int .i64 y)).run Try.prog w = .ok (x == y) w := fun x y => run_equalIn_int (P := Try.prog) w 9998 3 .i64 .i64 x y Try.underlying3
  have e2 : ∀ x y : ByteArray, (Op.equalIn 9999 9 (.string x) (.string y)).run Try.prog w = .ok (x.toList == y.toList) w := fun x y => run_equalIn_string (P := Try.prog) w 9998 9 x y Try.underlying9
  simp only [Op.eqFields, hn0, ht0, ho0, hn1, ht1, ho1, hn2, ht2, ho2, Sem.run_bind, ne_eq, not_false_eq_true, if_true, Result.andThen_ok, p0, p1, p2, e1, e2]
  simp [p0, p1, p2, e1, e2, Result.andThen]
set_option maxHeartbeats 2000000 in
theorem ref47_Same (N : List LX.Tk) (v u : Value) (w : World) (hv : TkAt w v N) (hu : TkAt w u N) (hn : N.length ≤ 1000000) :
    Calls Try.prog 8 #[v, u] w fun e w' => e = .returned (.bool true) ∧ ∃ m, w' = w.drewN m := by
  obtain ⟨b, c, rfl, hc⟩ := hv
  obtain ⟨d, c2, rfl, hd⟩ := hu
  have hne := fun W a b s => neq_token W a b s
  have Hc := Lib.hid hc
  have Hd := Lib.hid hd
  obtain ⟨n, hN⟩ : ∃ n, N.length = n := ⟨_, rfl⟩
  have HN := Lib.hid hN
  rw [hN] at hn ⊢
  have q0 : ((n : Int) != (n : Int)) = false := by simp
  clear hc hd hN
  go_enter Try.func8, Try.ntmps8
  go_wp2_with fail
  go_loopw [5] (fun j wr => ∃ k m : Nat, k ≤ n ∧ j = .int .i64 k ∧ wr = w.drewN m) (fun j _ => n - (intOf j).toNat)
  case atStart => exact ⟨0, 0, by omega, rfl, rfl⟩
  case round =>
    obtain ⟨k, m, hk, rfl, rfl⟩ := hrel
    by_cases hlt : k < n
    case neg =>
      obtain rfl : n = k := by omega
      have q1 : ((n : Int) < (n : Int)) = False := eq_false (by omega)
      have q1' : (n < n) = False := eq_false (by omega)
      clear hlt hk
      go_wp2_with fail
      go_ret
      exact ⟨rfl, _, rfl⟩
    have q1 : ((k : Int) < (n : Int)) = True := eq_true (by omega)
    have q1' : (k < n) = True := eq_true hlt
    have HK := Lib.hid hlt
    have hk62 : k ≤ 9223372036854775806 := by omega
    obtain ⟨x, hx⟩ := get_some (L := N) (n := k) (by rw [HN.out]; exact hlt)
    obtain ⟨g, rfl, hg, g0, g1, g2⟩ := Hc.out k x hx
    obtain ⟨i, rfl, hi, i0, i1, i2⟩ := Hd.out k x hx
    obtain ⟨kd, li, tx⟩ := x
    simp only at g0 g1 g2 i0 i1 i2
    generalize (⟨tx.toArray⟩ : ByteArray) = T at *
    generalize (kd : Int) = kd at *
    generalize (li : Int) = li at *
    clear hlt hx hg hi hk
    go_wp2_with fail
    go_quiet (fail)
    go_wp2_with fail
    go_roundw
    case rel => exact ⟨k + 1, _, by have := HK.out; omega, by simp, rfl⟩
    case measure => have := HK.out; first | (simp [intOf]; done) | (simp [intOf]; omega)
theorem ref47_Same0 (w : World) : Calls Try.prog 8 #[.slice none 0 0, .slice none 0 0] w fun e w' => e = .returned (.bool true) ∧ ∃ m, w' = w.drewN m :=
  ref47_Same [] _ _ w ⟨none, 0, rfl, fun k x h => by simp at h⟩ ⟨none, 0, rfl, fun k x h => by simp at h⟩ (by simp)
end Go.Proofs.Ytfgnpphbkjeooaa
