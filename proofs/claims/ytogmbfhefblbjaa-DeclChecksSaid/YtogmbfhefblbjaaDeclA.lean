/- Layer 17: functions that ask, one behind the other; what each asks. -/
import Derived.Test.YtogmbfhefblbjaaPgm
import Derived.Test.YtogmbfhefblbjaaKind
import Derived.Test.YtogmbfhefblbjaaKeep
import Derived.Test.YtogmbfhefblbjaaMoreB
import Derived.Test.YtogmbfhefblbjaaHeldMore
import Derived.Test.YtogmbfhefblbjaaObj
import Derived.Test.YtogmbfhefblbjaaTablesR
import Derived.Test.YtogmbfhefblbjaaBlockC
import Derived.Deep.RegionHeld3
import Derived.LoopTactic
import Derived.OwnWalk
import Derived.Deep.QuietTactic
import Derived.BigQuiet
import Derived.WalkSmall
import Derived.IntWalk
namespace Go.Proofs.Ytogmbfhefblbjaa
open Go.RowKit
set_option linter.unusedSimpArgs false
set_option linter.unusedVariables false
abbrev Fun := Nat × Array Value
def funcR : Rep Fun := fun _ cs f => cs = [.func (.func f.1) #[] f.2]
theorem funcR_stable : Stable funcR := fun _ _ _ _ h _ => h
def firstE (es : List Int) : Int := (es.find? (· != 0)).getD 0
theorem firstE_at {es : List Int} {k : Nat} {z : Int} (h : ∀ x ∈ es.take k, x = 0) (hk : es[k]? = some z) (hz : z ≠ 0) : firstE es = z := by
  unfold firstE
  rw [← List.take_append_drop k es, List.find?_append]
  have h0 : (es.take k).find? (· != 0) = none := List.find?_eq_none.2 fun x hx => by simp [h x hx]
  have hd : es.drop k = z :: es.drop (k + 1) := by
    have hl := lt_of_get hk
    rw [List.drop_eq_getElem_cons hl]
    congr 1
    have := List.getElem?_eq_some_iff.1 hk
    obtain ⟨_, this⟩ := this
    exact this
  rw [h0, hd]
  simp [hz]
theorem firstE_none {es : List Int} (h : ∀ x ∈ es, x = 0) : firstE es = 0 := by
  unfold firstE
  rw [List.find?_eq_none.2 fun x hx => by simp [h x hx]]
  rfl
set_option maxHeartbeats 4000000 in
theorem decl_asks (v : Value) (fs : List Fun) (es : List Int) (w : World) (hv : RowR 1 funcR w v fs) (hl : es.length = fs.length)
    (he : ∀ f ∈ fs, ∀ (args : Array Value) (W : World), (callFunc f.1 args).run Try.prog W = .ok (.enter f.1 args) W)
    (hf : ∀ (i : Nat) (f : Fun) (e : Int), fs[i]? = some f → es[i]? = some e → ∀ W, Below w.heap.size w W → Calls Try.prog f.1 f.2 W fun x W' => x = .returned (.int .i64 e) ∧ Below W.heap.size W W') :
    Calls Try.prog 18 #[v] w fun e w' => e = .returned (.int .i64 (firstE es)) ∧ Below w.heap.size w w' := by
  have hvl := hv.len
  obtain ⟨sv, cv, rfl⟩ := row_get hv
  obtain ⟨N, hN⟩ : ∃ N, fs.length = N := ⟨_, rfl⟩
  have HN := Lib.hid hN
  have HL := Lib.hid hl
  rw [hN] at hv hvl ⊢
  clear hN hl
  go_enter Try.func18, Try.ntmps18
  go_wp2_with fail
  go_loopw [8] (fun jj wr => ∃ (k : Nat), k ≤ N ∧ jj = .int .i64 k ∧ Hid (∀ x ∈ es.take k, x = 0) ∧ Hid (Below w.heap.size w wr)) (fun jj _ => N - (intOf jj).toNat)
  case atStart => exact ⟨0, by omega, rfl, Lib.hid (by simp), Lib.hid (Below.refl _ _)⟩
  case round =>
    obtain ⟨k, hk, rfl, hall, HB⟩ := hrel
    by_cases hlt : k < N
    · have qk : ((k : Int) < (N : Int)) = True := eq_true (by omega)
      obtain ⟨f, hfk⟩ := get_some (L := fs) (n := k) (by rw [HN.out]; exact hlt)
      obtain ⟨z, hz⟩ := get_some (L := es) (n := k) (by rw [HL.out, HN.out]; exact hlt)
      obtain ⟨b, off, rfl, hbw, hc⟩ := row_at hv (k := k) (by rw [HN.out]; exact hlt)
      obtain ⟨C, _, hc2, hc3⟩ := hc k f hfk
      obtain ⟨n, cap⟩ := f
      obtain rfl : C = [.func (.func n) #[] cap] := hc3
      have c0 := (HB.out.cell (p := ⟨b, off + k * 1 + 0, none⟩) hbw).trans (hc2 0 _ rfl)
      simp only [Nat.mul_one, Nat.add_zero] at c0
      have HF := hf k _ z hfk hz wr HB.out
      have eg := he _ (List.mem_of_getElem? hfk)
      have HZ := Lib.hid hz
      have HT := Lib.hid (take_snoc hz)
      clear hc hc2 hfk hz
      by_cases h0 : z = 0
      · subst h0
        go_wp2_with fail
        refine HF.mono ?_; rintro e w2 ⟨rfl, hb2⟩
        have HB2 := Lib.hid (HB.out.trans (hb2.mono HB.out.size))
        clear hb2
        go_wp2_with fail
        go_roundw
        case rel => exact ⟨k + 1, by omega, by simp, Lib.hid (by rw [HT.out]; intro x hx; rcases List.mem_append.1 hx with h | h; exact hall.out x h; simpa using h), HB2⟩
        case measure => first | (simp [intOf]; done) | (simp [intOf]; omega)
      · have q0 : (z != 0) = true := by simpa using h0
        have hfe := Lib.hid (firstE_at hall.out HZ.out h0)
        go_wp2_with fail
        refine HF.mono ?_; rintro e w2 ⟨rfl, hb2⟩
        have HB2 := Lib.hid (HB.out.trans (hb2.mono HB.out.size))
        clear hb2
        go_wp2_with fail
        go_ret
        exact ⟨by rw [hfe.out]; rfl, HB2.out⟩
    · obtain rfl : k = N := by omega
      have qk : ((k : Int) < (k : Int)) = False := eq_false (by omega)
      have hfe := Lib.hid (firstE_none (es := es) (by have := hall.out; rwa [List.take_of_length_le (by rw [HL.out, HN.out]; exact Nat.le_refl _)] at this))
      go_wp2_with fail
      go_ret
      exact ⟨by rw [hfe.out]; rfl, HB.out⟩
def unlessE (b : Bool) (z : Int) : Int := if b then 0 else z
theorem decl_unless (b : Bool) (z : Int) (w : World) : Calls Try.prog 20 #[.bool b, .int .i64 z] w fun e w' => e = .returned (.int .i64 (unlessE b z)) ∧ w' = w := by
  cases b
  · go_enter Try.func20, Try.ntmps20
    go_wp2_with fail
    go_ret
    exact ⟨rfl, rfl⟩
  · go_enter Try.func20, Try.ntmps20
    go_wp2_with fail
    go_ret
    exact ⟨rfl, rfl⟩
theorem decl_few (a b : Option Addr) (n m c d : Nat) (w : World) : Calls Try.prog 21 #[.slice a n c, .slice b m d] w fun e w' => e = .returned (.bool (decide (n ≤ 64 ∧ m ≤ 32))) ∧ w' = w := by
  by_cases h1 : n ≤ 64
  · have q1 : ((n : Int) ≤ 64) = True := eq_true (by omega)
    go_enter Try.func21, Try.ntmps21
    go_wp2_with fail
    go_ret
    exact ⟨by simp [h1]; omega, rfl⟩
  · have q1 : ((n : Int) ≤ 64) = False := eq_false (by omega)
    go_enter Try.func21, Try.ntmps21
    go_wp2_with fail
    go_ret
    exact ⟨by simp [h1], rfl⟩
theorem decl_rightConst (x : Int × Int) (w : World) : Calls Try.prog 31 #[.agg #[.int .i64 x.1, .int .i64 x.2]] w fun e w' => e = .returned (.bool (kIn x.1 x.2)) ∧ Below w.heap.size w w' := by
  go_enter Try.func31, Try.ntmps31
  go_wp2_with fail
  refine (kind_In _ _ _).mono ?_; rintro e w2 ⟨rfl, rfl⟩
  go_wp2_with fail
  go_ret
  exact ⟨rfl, by (repeat' (first | (with_reducible exact Below.refl _ _) | (with_reducible assumption) | (with_reducible refine below_drewN ?_ _) | (with_reducible refine Below.alloc ?_ ?_ _) | (with_reducible refine Below.drew ?_) | (with_reducible refine Below.setCell ?_ ?_ _) | go_size))⟩
theorem decl_rightBlock (x : Bk) (w : World) : Calls Try.prog 25 #[.agg #[.string ⟨x.name.toArray⟩, .int .i64 x.kind]] w fun e w' => e = .returned (.bool (goodB x)) ∧ Below w.heap.size w w' := by
  go_enter Try.func25, Try.ntmps25
  go_wp2_with fail
  refine (block_Right _ _).mono ?_; rintro e w2 ⟨rfl, rfl⟩
  go_wp2_with fail
  go_ret
  exact ⟨rfl, by (repeat' (first | (with_reducible exact Below.refl _ _) | (with_reducible assumption) | (with_reducible refine below_drewN ?_ _) | (with_reducible refine Below.alloc ?_ ?_ _) | (with_reducible refine Below.drew ?_) | (with_reducible refine Below.setCell ?_ ?_ _) | go_size))⟩
end Go.Proofs.Ytogmbfhefblbjaa
