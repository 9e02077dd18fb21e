/- Layer 20: where one may come: the answer's, by each place; the program's. -/
import Derived.Test.YtnkmnmlhjanplaaBhSort
import Derived.LoopTactic
namespace Go.Proofs.Ytnkmnmlhjanplaa
open Go.RowKit
set_option linter.unusedSimpArgs false
set_option linter.unusedVariables false
theorem bh_get {w : World} {v : Value} {L : List Ins} (hv : RowR 3 insR w v L) : ∃ a cap, v = .slice a L.length cap := row_get hv
theorem bh_at {w : World} {a : Option Addr} {n cap : Nat} {L : List Ins} (hv : RowR 3 insR w (.slice a n cap) L) {k : Nat} (hk : k < L.length) : ∃ b off, a = some ⟨b, off, none⟩ ∧ b < w.heap.size ∧ ∀ i x, L[i]? = some x → w.cell? ⟨b, off + i * 3, none⟩ = some (.int .i64 x.1) ∧ w.cell? ⟨b, off + i * 3 + 1, none⟩ = some (.int .i64 x.2.1) ∧ w.cell? ⟨b, off + i * 3 + 2, none⟩ = some (.int .i64 x.2.2) ∧ I64 x.1 ∧ I64 x.2.1 ∧ I64 x.2.2 := by
  rcases hv with ⟨a, cap, h, rfl, _⟩ | ⟨b, off, cap, h1, _, _, _, h5, h6⟩
  · simp at hk
  · have e : a = some ⟨b, off, none⟩ := by injection h1
    exact ⟨b, off, e, h5, fun i x hx => ins_cells h6 hx⟩
def mayP (x : Ins) (k : Nat) (t : Nat) : Bool :=
  if x.1 = 30 then decide ((t : Int) = x.2.1) else if x.1 = 31 then decide ((t : Int) = k + 1 ∨ (t : Int) = x.2.1) else if x.1 = 32 then decide (k < t ∧ (t : Int) ≤ k + 1 + x.2.1) else if x.1 = 34 then false else decide ((t : Int) = k + 1)
def mayL (x : Ins) (k n : Nat) : List Int := ((List.range n).filter (mayP x k)).map Int.ofNat
theorem mayL_succ (x : Ins) (k n : Nat) : mayL x k (n + 1) = mayL x k n ++ (if mayP x k n = true then [(n : Int)] else []) := by
  unfold mayL
  rw [List.range_succ, List.filter_append, List.map_append]
  congr 1
  by_cases h : mayP x k n = true
  · simp [h]
  · simp [h]
theorem mayL_len (x : Ins) (k n : Nat) : (mayL x k n).length ≤ n := by
  unfold mayL
  rw [List.length_map]
  exact Nat.le_trans (List.length_filter_le _ _) (by simp)
theorem mayL_I64 (x : Ins) (k n : Nat) (hn : n ≤ 70000) : ∀ z ∈ mayL x k n, I64 z := by
  intro z hz
  obtain ⟨t, ht, rfl⟩ := List.mem_map.1 hz
  have := List.mem_range.1 (List.mem_filter.1 ht).1
  unfold I64
  show -9223372036854775808 ≤ (t : Int) ∧ (t : Int) ≤ 9223372036854775807
  omega
set_option maxHeartbeats 4000000 in
theorem ref20_May (v : Value) (L : List Ins) (k t : Nat) (x : Ins) (w : World) (hv : RowR 3 insR w v L) (hx : L[k]? = some x) (hk : k ≤ 300) (ht : t ≤ 70000) (hA : 0 ≤ x.2.1 ∧ x.2.1 ≤ 65535) :
    Calls Try.prog 10 #[v, .int .i64 k, .int .i64 t] w fun e w' => e = .returned (.bool (mayP x k t)) ∧ Below w.heap.size w w' := by
  have hkl := lt_of_get hx
  obtain ⟨sa, ca, rfl⟩ := bh_get hv
  obtain ⟨b, off, rfl, hbw, hc⟩ := bh_at hv hkl
  obtain ⟨c0, c1, c2, _⟩ := hc k x hx
  have HD := Lib.hid (show mayP x k t = (if x.1 = 30 then decide ((t : Int) = x.2.1) else if x.1 = 31 then decide ((t : Int) = k + 1 ∨ (t : Int) = x.2.1) else if x.1 = 32 then decide (k < t ∧ (t : Int) ≤ k + 1 + x.2.1) else if x.1 = 34 then false else decide ((t : Int) = k + 1)) from rfl)
  clear hc hx hv
  generalize hn : L.length = n at *
  generalize mayP x k t = res at *
  obtain ⟨o, A, bb⟩ := x
  dsimp only at c0 c1 c2 HD hA
  have hw1 : IntKind.i64.wrap ((k : Int) + 1) = (k : Int) + 1 := IntWalk.i64_in _ (by omega)
  have hw2 : IntKind.i64.wrap ((k : Int) + 1 + A) = (k : Int) + 1 + A := IntWalk.i64_in _ (by omega)
  clear hn
  have hBB : Below w.heap.size w (w.alloc (.cells #[.int .i64 o, .int .i64 A, .int .i64 bb] 25)) := (Below.refl _ _).alloc (Nat.le_refl _) _
  by_cases h30 : o = 30
  · have q0 : (o == 30) = true := by simp [h30]
    rw [if_pos h30] at HD
    have hs := Lib.hid (show ((t : Int) == A) = res by rw [HD.out]; by_cases h : (t : Int) = A <;> simp [h])
    clear h30 HD
    go_enter Try.func10, Try.ntmps10
    go_wp2_with fail
    go_ret
    exact ⟨by rw [← hs.out]; rfl, hBB⟩
  have q0 : (o == 30) = false := by simpa using h30
  rw [if_neg h30] at HD
  clear h30
  by_cases h31 : o = 31
  · have q1 : (o == 31) = true := by simp [h31]
    rw [if_pos h31] at HD
    clear h31
    by_cases h1 : (t : Int) = k + 1
    · have hs := Lib.hid (show res = true by rw [HD.out]; exact decide_eq_true (Or.inl h1))
      have q2 : ((t : Int) == (k : Int) + 1) = true := by simpa using h1
      clear h1 HD
      go_enter Try.func10, Try.ntmps10
      go_wp2_with fail
      go_ret
      exact ⟨by rw [hs.out]; rfl, hBB⟩
    · have q2 : ((t : Int) == (k : Int) + 1) = false := by simpa using h1
      have hs := Lib.hid (show ((t : Int) == A) = res by rw [HD.out]; by_cases h : (t : Int) = A <;> simp [h, h1])
      clear h1 HD
      go_enter Try.func10, Try.ntmps10
      go_wp2_with fail
      go_ret
      exact ⟨by rw [← hs.out]; rfl, hBB⟩
  have q1 : (o == 31) = false := by simpa using h31
  rw [if_neg h31] at HD
  clear h31
  by_cases h32 : o = 32
  · have q2 : (o == 32) = true := by simp [h32]
    rw [if_pos h32] at HD
    clear h32
    by_cases h1 : k < t
    · have q3 : ((k : Int) < (t : Int)) = True := eq_true (by omega)
      by_cases h2 : (t : Int) ≤ k + 1 + A
      · have q4 : ((t : Int) ≤ (k : Int) + 1 + A) = True := eq_true h2
        have hs := Lib.hid (show res = true by rw [HD.out]; exact decide_eq_true ⟨h1, h2⟩)
        clear h1 h2 HD
        go_enter Try.func10, Try.ntmps10
        go_wp2_with fail
        go_ret
        exact ⟨by rw [hs.out]; rfl, hBB⟩
      · have q4 : ((t : Int) ≤ (k : Int) + 1 + A) = False := eq_false h2
        have hs := Lib.hid (show res = false by rw [HD.out]; exact decide_eq_false (fun g => h2 g.2))
        clear h1 h2 HD
        go_enter Try.func10, Try.ntmps10
        go_wp2_with fail
        go_ret
        exact ⟨by rw [hs.out]; rfl, hBB⟩
    · have q3 : ((k : Int) < (t : Int)) = False := eq_false (by omega)
      have hs := Lib.hid (show res = false by rw [HD.out]; exact decide_eq_false (fun g => h1 g.1))
      clear h1 HD
      go_enter Try.func10, Try.ntmps10
      go_wp2_with fail
      go_ret
      exact ⟨by rw [hs.out]; rfl, hBB⟩
  have q2 : (o == 32) = false := by simpa using h32
  rw [if_neg h32] at HD
  clear h32
  by_cases h34 : o = 34
  · have q3 : (o != 34) = false := by simp [h34]
    rw [if_pos h34] at HD
    have hs := Lib.hid HD.out
    clear h34 HD
    go_enter Try.func10, Try.ntmps10
    go_wp2_with fail
    go_ret
    exact ⟨by rw [hs.out]; rfl, hBB⟩
  · have q3 : (o != 34) = true := by simpa using h34
    rw [if_neg h34] at HD
    have hs := Lib.hid (show ((t : Int) == (k : Int) + 1) = res by rw [HD.out]; by_cases h : (t : Int) = k + 1 <;> simp [h])
    clear h34 HD
    go_enter Try.func10, Try.ntmps10
    go_wp2_with fail
    go_ret
    exact ⟨by rw [← hs.out]; rfl, hBB⟩
set_option maxHeartbeats 4000000 in
theorem ref20_Behind (v : Value) (L : List Ins) (k : Nat) (x : Ins) (w : World) (hv : RowR 3 insR w v L) (hx : L[k]? = some x) (hl : L.length ≤ 300) (hA : 0 ≤ x.2.1 ∧ x.2.1 ≤ 65535) :
    Calls Try.prog 7 #[v, .int .i64 k] w fun e w' => ∃ r, e = .returned r ∧ RowR 1 intR w' r (mayL x k 70000) ∧ Below w.heap.size w w' := by
  obtain ⟨i, hi, hz, hsize, hby⟩ : ∃ i, Try.prog.info? 3 = some i ∧ i.zero = some (.int .i64 0) ∧ i.size = 1 ∧ i.bytes = 8 := ⟨(Try.prog.info? 3).get!, by kernel_rfl, by kernel_rfl, by kernel_rfl, by kernel_rfl⟩
  have hkl := lt_of_get hx
  have HM := Lib.hid (fun (t : Nat) (ht : t ≤ 70000) W (hb : Below w.heap.size w W) => ref20_May v L k t x W (hv.below insR_stable hb) hx (by omega) ht hA)
  have HI := Lib.hid (mayL_I64 x k 70000 (by omega))
  have HS := Lib.hid (mayL_succ x k)
  have HL := Lib.hid (mayL_len x k)
  have H0 := Lib.hid (show mayL x k 0 = [] from rfl)
  obtain ⟨sa, ca, rfl⟩ := bh_get hv
  generalize hn : L.length = n at *
  clear hv hx hA hn
  generalize mayL x k = F at *
  generalize mayP x k = G at *
  have q0 : ((k : Int) < 0) = False := eq_false (by omega)
  have q1 : ((n : Int) ≤ (k : Int)) = False := eq_false (by omega)
  go_enter Try.func7, Try.ntmps7
  go_wp2_with fail
  go_loopw [5, 6] (fun o j wr => ∃ t : Nat, t ≤ 70000 ∧ j = .int .i64 t ∧ Hid (wr.ownsRow w.heap.size 3 1 o (F t).length (iV (F t))) ∧ Below w.heap.size w wr) (fun _ j _ => 70000 - (intOf j).toNat)
  case atStart => exact ⟨0, by omega, rfl, Lib.hid (by rw [H0.out]; exact World.ownsRow_nil _ _ _ _), Below.refl _ _⟩
  case round =>
    obtain ⟨t, ht, rfl, hO, hB⟩ := hrel
    have hz' := hB.size
    by_cases hlt : t < 70000
    · have hsu := Lib.hid (HS.out t)
      have hfl := Lib.hid (HL.out t)
      have HMt := Lib.hid (HM.out t ht)
      have q2 : ((t : Int) < 70000) = True := eq_true (by omega)
      have hw9 : IntKind.i64.wrap ((t : Int) + 1) = (t : Int) + 1 := IntWalk.i64_in _ (by omega)
      have HT := Lib.hid (And.intro ht hlt)
      clear ht hlt
      cases hr : G t
      · rw [hr] at HMt hsu
        have HS' := Lib.hid (show F (t + 1) = F t by rw [hsu.out]; simp)
        clear hr hsu hfl
        go_wp2_with fail
        refine (HMt.out _ hB).mono ?_; rintro e w1 ⟨rfl, hb1⟩
        have HO1 := Lib.hid (owns_below hO.out hb1)
        have hB1 := hB.trans (hb1.mono hz')
        clear hb1
        go_wp2_with fail
        go_roundw
        case rel => exact ⟨t + 1, by have := HT.out.2; omega, by simp, Lib.hid (by rw [HS'.out]; exact HO1.out), hB1⟩
        case measure => have := HT.out.2; simp [intOf]; omega
      · rw [hr] at HMt hsu
        have HS' := Lib.hid (show F (t + 1) = F t ++ [(t : Int)] by rw [hsu.out]; simp)
        clear hr hsu
        go_wp2_with fail
        refine (HMt.out _ hB).mono ?_; rintro e w1 ⟨rfl, hb1⟩
        have HO1 := Lib.hid (owns_below hO.out hb1)
        have hB1 := hB.trans (hb1.mono hz')
        have hz1 := hB1.size
        clear hb1
        generalize hff : F t = ft at *
        generalize hfn : ft.length = fn at *
        have HFN := Lib.hid hfn
        clear hff hfn
        have hfb : fn ≤ 70000 := Nat.le_trans hfl.out HT.out.1
        clear hfl
        go_wp2_with (first | (at_builtin; go_loud (refine wpList_append_src rfl (.tmp 23) (.tmp 25) 27 rfl w.heap.size 3 i (.int .i64 0) 1 8 Try.underlying27 hi hz hsize hby rfl (by omega) _ fn _ rfl (owns_below HO1.out ((Below.refl _ _).alloc (Nat.le_refl _) _)) _ 1 [.int .i64 t] rfl (src_new _ _ _) rfl (by intro u hu; simp at hu; rw [hu]; rfl) (by unfold maxLen; omega) (by omega) (by simp; omega) ?_; intro v3 w3 hO3 hG3; have hB3 := grown3 (hB1.alloc hz1 _) (by simp; omega) (owns_below HO1.out ((Below.refl _ _).alloc (Nat.le_refl _) _)) hG3; have HO3 := Lib.hid hO3; clear hO3 hG3)) | fail)
        go_roundw
        case rel => exact ⟨t + 1, by have := HT.out.2; omega, by simp, Lib.hid (by rw [HS'.out]; exact own_eq2 HO3.out (by simp [HFN.out]) (by simp [iV])), hB3⟩
        case measure => have := HT.out.2; simp [intOf]; omega
    · obtain rfl : t = 70000 := by omega
      clear ht hlt
      have hrow := Lib.hid (row_of_owns hO.out HI.out)
      clear hO
      go_wp2_with fail
      go_ret
      exact ⟨_, rfl, hrow.out, hB⟩
end Go.Proofs.Ytnkmnmlhjanplaa
