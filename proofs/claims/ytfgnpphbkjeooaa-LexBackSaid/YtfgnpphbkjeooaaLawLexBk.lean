/- Layer 47: the walk of LexBack. -/
import Derived.Test.YtfgnpphbkjeooaaLxAw
import Derived.Test.YtfgnpphbkjeooaaLxJoin
import Derived.Laws.Concat
namespace Go.Proofs.Ytfgnpphbkjeooaa
open Go.RowKit
set_option linter.unusedSimpArgs false
set_option linter.unusedVariables false
theorem none_line : ∀ (l : List UInt8) (f k ln : Nat) (out : List LX.Tk) (z : Nat), LX.T l f k ln out = (none, z) → ln ≤ z
  | l, 0, k, ln, out, z, h => by cases h
  | l, f + 1, k, ln, out, z, h => by
    unfold LX.T at h
    split at h
    · split at h
      · have := none_line l f _ _ out z h
        split at this <;> omega
      · split at h
        · split at h
          · cases h; exact Nat.le_refl _
          · exact none_line l f _ _ _ z h
        · exact none_line l f _ _ _ z h
    · cases h
theorem lines_at : ∀ (L : List LX.Tk) (ln k : Nat) (x : LX.Tk), LX.Lines ln L → L[k]? = some x → ln ≤ x.line
  | [], ln, k, x, _, h => by simp at h
  | y :: L, ln, 0, x, hL, h => by simp at h; subst h; exact hL.1
  | y :: L, ln, k + 1, x, hL, h => Nat.le_trans hL.1 (lines_at L y.line k x hL.2 (by simpa using h))
theorem lines_next : ∀ (L : List LX.Tk) (ln k : Nat) (x y : LX.Tk), LX.Lines ln L → L[k]? = some x → L[k + 1]? = some y → x.line ≤ y.line
  | [], ln, k, x, y, _, h, _ => by simp at h
  | z :: L, ln, 0, x, y, hL, h, h2 => by
    simp at h
    subst h
    exact lines_at L z.line 0 y hL.2 (by simpa using h2)
  | z :: L, ln, k + 1, x, y, hL, h, h2 => lines_next L z.line k x y hL.2 (by simpa using h) (by simpa using h2)
theorem str_appJ (a b : List UInt8) : (⟨a.toArray⟩ : ByteArray) ++ (⟨b.toArray⟩ : ByteArray) = ⟨(a ++ b).toArray⟩ := by
  have h : ((⟨a.toArray⟩ : ByteArray) ++ (⟨b.toArray⟩ : ByteArray)).data = (a ++ b).toArray := by simp
  generalize (⟨a.toArray⟩ : ByteArray) ++ (⟨b.toArray⟩ : ByteArray) = E at h ⊢
  obtain ⟨e⟩ := E
  simp only at h
  rw [h]
theorem run_stringJ (a b : List UInt8) (W : World) (ha : a.length ≤ 100000) (hb : b.length ≤ 100000) : (Op.stringOp .add ⟨a.toArray⟩ ⟨b.toArray⟩).run Try.prog W = .ok (.string ⟨(a ++ b).toArray⟩) W := by
  have h1 : (⟨a.toArray⟩ : ByteArray).size = a.length := List.size_toArray
  have h2 : (⟨b.toArray⟩ : ByteArray).size = b.length := List.size_toArray
  rw [← str_appJ]
  exact run_string_add_sum (P := Try.prog) (w := W) ⟨a.toArray⟩ ⟨b.toArray⟩ (by omega)
set_option maxRecDepth 100000 in
set_option maxHeartbeats 8000000 in
theorem lexBack_walk (l : List UInt8) (w : World) (hm : MaxL w) (hlm : l.length ≤ 9223372036854775807) :
    Calls Try.prog 4 #[.string ⟨l.toArray⟩] w fun e w' => e = .returned (.bool true) ∧ Below w.heap.size w w' := by
  have HA := Lib.hid (fun W (h : Below w.heap.size w W) => law47_awake W (hm.below h))
  have HSp := Lib.hid (fun (t : List UInt8) W (h : Below w.heap.size w W) (ht : t.length ≤ 3000) => lex_Split t W ht (hm.below h))
  have hlen : (⟨l.toArray⟩ : ByteArray).size = l.length := List.size_toArray
  by_cases hl : l.length ≤ 1000
  case neg =>
    have q0 : ((l.length : Int) ≤ 1000) = False := eq_false (by omega)
    have q0' : ((1000 : Int) < (l.length : Int)) = True := eq_true (by omega)
    have q0'' : (1000 < l.length) = True := eq_true (by omega)
    generalize (⟨l.toArray⟩ : ByteArray) = S at *
    generalize l.length = n at *
    clear hl hm HSp
    go_enter Try.func4, Try.ntmps4
    go_wp2_with fail
    refine (HA.out _ (Below.refl _ _)).mono ?_; rintro e w1 ⟨rfl, hb1⟩
    go_wp2_with fail
    go_ret
    exact ⟨rfl, hb1⟩
  have q0 : ((l.length : Int) ≤ 1000) = True := eq_true (by omega)
  have q0' : ((1000 : Int) < (l.length : Int)) = False := eq_false (by omega)
  have q0'' : (1000 < l.length) = False := eq_false (by omega)
  have HP := Lib.hid (HSp.out l w (Below.refl _ _) (by omega))
  have HL := Lib.hid hl
  generalize (⟨l.toArray⟩ : ByteArray) = S at *
  clear hl hm
  obtain ⟨n0, hn0⟩ : ∃ n, l.length = n := ⟨_, rfl⟩
  have HN0 := Lib.hid hn0
  rw [hn0] at hlen q0 q0' q0'' hlm
  clear hn0
  go_enter Try.func4, Try.ntmps4
  go_wp2_with fail
  refine HP.out.mono ?_; rintro e w1 ⟨hb1, ⟨ln, h1, rfl⟩ | ⟨N, u, h1, rfl, h2, h3⟩⟩
  · have HB1 := Lib.hid hb1
    have hge := none_line _ _ _ _ _ _ h1
    have q3 : ((ln : Int) == 0) = false := by simp; omega
    clear hb1 h1 hge
    go_wp2_with fail
    refine (HA.out _ HB1.out).mono ?_; rintro e w2 ⟨rfl, hb2⟩
    have HB2 := Lib.hid (HB1.out.trans (hb2.mono HB1.out.size))
    clear hb2
    go_wp2_with fail
    go_ret
    exact ⟨rfl, HB2.out⟩
  obtain ⟨L, hL, hgood, hlines, hsum⟩ := LX.T_good _ _ _ _ _ _ _ h1
  rw [List.nil_append] at hL
  subst hL
  have HB1 := Lib.hid hb1
  have HGd := Lib.hid hgood
  have HLn := Lib.hid hlines
  have HS := Lib.hid (show LX.sumL N ≤ 1000 by have := HL.out; omega)
  obtain ⟨a, cp, rfl⟩ := owns_form h3
  have HU := Lib.hid (tk_of_owns h3)
  obtain ⟨n, hn⟩ : ∃ n, N.length = n := ⟨_, rfl⟩
  have HN := Lib.hid hn
  have hn1000 : n ≤ 1000 := by have := LX.len_sum N hgood; have := HS.out; omega
  rw [hn] at HU ⊢
  clear hb1 hgood hlines hsum h1 h2 h3 hn
  go_wp2_with fail
  go_loopw [5, 6, 7, 8] (fun tt ii _ _ wr => ∃ k : Nat, k ≤ n ∧ ii = .int .i64 k ∧ tt = .string ⟨(LX.J (N.take k)).toArray⟩ ∧ Hid (Below w.heap.size w wr ∧ TkAt wr (.slice a n cp) N)) (fun _ ii _ _ _ => n - (intOf ii).toNat)
  case atStart => exact ⟨0, Nat.zero_le _, rfl, rfl, Lib.hid ⟨HB1.out, HU.out⟩⟩
  case round =>
    obtain ⟨k, hk, rfl, rfl, hB⟩ := hrel
    rename World => W2
    obtain ⟨hB2, hT2⟩ := hB.out
    have HB2 := Lib.hid hB2
    have HT2 := Lib.hid hT2
    clear hB hB2 hT2
    obtain ⟨TS, hTS⟩ : ∃ X : ByteArray, (⟨(LX.J (N.take k)).toArray⟩ : ByteArray) = X := ⟨_, rfl⟩
    have HTS := Lib.hid hTS
    rw [hTS]
    clear hTS
    by_cases hlt : k < n
    case neg =>
      obtain rfl : n = k := by omega
      have q1 : ((n : Int) < (n : Int)) = False := eq_false (by omega)
      have q1' : (n < n) = False := eq_false (by omega)
      clear hlt hk
      have htk : N.take n = N := List.take_of_length_le (by rw [HN.out]; exact Nat.le_refl _)
      have HTS2 := Lib.hid (show (⟨(LX.J N).toArray⟩ : ByteArray) = TS by have h := HTS.out; rwa [htk] at h)
      have HJn := Lib.hid (lex_Join N (.slice a n cp) W2 HT2.out HGd.out HS.out)
      rw [HTS2.out] at HJn
      clear htk
      go_wp2_with fail
      refine HJn.out.mono ?_; rintro e w3 ⟨rfl, hb3⟩
      have HB3 := Lib.hid (HB2.out.trans (hb3.mono HB2.out.size))
      have HT3 := Lib.hid (HT2.out.below hb3)
      have HJm := Lib.hid (lex_Join N (.slice a n cp) w3 HT3.out HGd.out HS.out)
      rw [HTS2.out] at HJm
      clear hb3
      go_wp2_with fail
      refine HJm.out.mono ?_; rintro e w4 ⟨rfl, hb4⟩
      have HB4 := Lib.hid (HB3.out.trans (hb4.mono HB3.out.size))
      have HT4 := Lib.hid (HT3.out.below hb4)
      have HF := Lib.hid (HSp.out (LX.J N) w4 HB4.out (by have h1 := LX.J_len N; have h2 := HS.out; have h3 := HN.out; omega))
      rw [HTS2.out] at HF
      clear hb4
      go_wp2_with fail
      refine HF.out.mono ?_; intro e w5 hq
      obtain ⟨a5, c5, rfl, hb5, hT5⟩ : ∃ a5 c5, e = .returned (.tuple #[.slice a5 n c5, .int .i64 0]) ∧ Below w4.heap.size w4 w5 ∧ TkAt w5 (.slice a5 n c5) (N.map fun x => ⟨x.kind, 1, x.text⟩) := by
        obtain ⟨hb, ⟨ln, h1, _⟩ | ⟨out, u, h1, rfl, _, h3⟩⟩ := hq
        · exact absurd ((LX.T_joined N HGd.out).symm.trans h1) (by simp)
        · have h4 := (LX.T_joined N HGd.out).symm.trans h1
          have h5 : out = N.map fun x => ⟨x.kind, 1, x.text⟩ := by simpa using h4.symm
          subst h5
          obtain ⟨b, cap, rfl⟩ := owns_form h3
          have hk := tk_of_owns h3
          rw [List.length_map, HN.out] at hk ⊢
          exact ⟨b, cap, rfl, hb, hk⟩
      have HB5 := Lib.hid (HB4.out.trans (hb5.mono HB4.out.size))
      have HT5 := Lib.hid (HT4.out.below hb5)
      have HM5 := Lib.hid hT5
      have hne := fun W a b s => neq_token W a b s
      clear hq hb5 hT5
      go_wp2_with fail
      go_loopw [11] (fun jj wr => ∃ k m : Nat, k ≤ n ∧ jj = .int .i64 k ∧ wr = w5.drewN m) (fun jj _ => n - (intOf jj).toNat)
      case atStart => exact ⟨0, 0, Nat.zero_le _, rfl, rfl⟩
      case round =>
        obtain ⟨k, m, hk, rfl, rfl⟩ := hrel
        by_cases hlt : k < n
        case neg =>
          obtain rfl : n = k := by omega
          have q1 : ((n : Int) < (n : Int)) = False := eq_false (by omega)
          have q1' : (n < n) = False := eq_false (by omega)
          have HB6 := Lib.hid (HB5.out.trans ((Below_drewN _ _ m).mono HB5.out.size))
          generalize w5.drewN m = W6 at *
          clear hlt hk
          go_wp2_with fail
          refine (HA.out _ HB6.out).mono ?_; rintro e w7 ⟨rfl, hb7⟩
          have HB7 := Lib.hid (HB6.out.trans (hb7.mono HB6.out.size))
          clear hb7
          go_wp2_with fail
          go_ret
          exact ⟨rfl, HB7.out⟩
        have q1 : ((k : Int) < (n : Int)) = True := eq_true (by omega)
        have q1' : (k < n) = True := eq_true hlt
        have hk62 : k ≤ 9223372036854775806 := by omega
        have HK := Lib.hid hlt
        obtain ⟨x, hx⟩ := get_some (L := N) (n := k) (by rw [HN.out]; exact hlt)
        obtain ⟨b1, c1, e1, hc⟩ := HT5.out
        injection e1 with ea en ec
        subst ea
        clear en ec
        obtain ⟨g, rfl, hg, g0, g1, g2⟩ := hc k x hx
        obtain ⟨b2, c2, e2, hc2⟩ := HM5.out
        injection e2 with ea en ec
        subst ea
        clear en ec
        obtain ⟨i, rfl, hi, i0, i1, i2⟩ := hc2 k ⟨x.kind, 1, x.text⟩ (by rw [List.getElem?_map, hx]; rfl)
        simp only at i0 i1 i2
        obtain ⟨kd, hkd⟩ : ∃ z : Int, (x.kind : Int) = z := ⟨_, rfl⟩
        obtain ⟨tx, htx⟩ : ∃ z : ByteArray, (⟨x.text.toArray⟩ : ByteArray) = z := ⟨_, rfl⟩
        rw [hkd] at g0 i0
        rw [htx] at g2 i2
        have i1 : w5.cell? ⟨i, k * 3 + 1, none⟩ = some (.int .i64 1) := i1
        clear hc hc2 hg hi hx hlt hk hkd htx g1
        go_wp2_with fail
        go_quiet (fail)
        go_wp2_with fail
        go_roundw
        case rel => exact ⟨k + 1, _, by have := HK.out; omega, by simp, rfl⟩
        case measure => have := HK.out; first | (simp [intOf]; done) | (simp [intOf]; omega)
    have q1 : ((k : Int) < (n : Int)) = True := eq_true (by omega)
    have q1' : (k < n) = True := eq_true hlt
    have hk62 : k ≤ 9223372036854775806 := by omega
    have HK := Lib.hid hlt
    obtain ⟨x, hx⟩ := get_some (L := N) (n := k) (by rw [HN.out]; exact hlt)
    obtain ⟨b1, c1, e1, hc⟩ := HT2.out
    injection e1 with ea en ec
    subst ea
    clear en ec
    have hc' := hc
    obtain ⟨g, rfl, hg, g0, g1, g2⟩ := hc k x hx
    have HX := Lib.hid (HGd.out x (List.mem_of_getElem? hx))
    have HTk := Lib.hid (take_snoc hx)
    have HXl := Lib.hid (show x.text.length ≤ 1000 by
      have h1 := LX.sumL_app (N.take k) [x]
      rw [← take_snoc hx] at h1
      have h2 := sumL_take N (k + 1)
      have h3 := HS.out
      have : LX.sumL [x] = x.text.length := by simp [LX.sumL]
      omega)
    have hln1 := lines_at N 1 k x HLn.out hx
    have HF := Lib.hid (HSp.out x.text W2 HB2.out (by have := HXl.out; omega))
    go_wp2_with fail
    refine HF.out.mono ?_
    intro e w3 hq
    obtain ⟨g3, c3, rfl, hb3, i0, i1, i2⟩ : ∃ g3 c3, e = .returned (.tuple #[.slice (some ⟨g3, 0, none⟩) 1 c3, .int .i64 0]) ∧ Below W2.heap.size W2 w3 ∧ w3.cell? ⟨g3, 0, none⟩ = some (.int .i64 (x.kind : Int)) ∧ w3.cell? ⟨g3, 1, none⟩ = some (.int .i64 1) ∧ w3.cell? ⟨g3, 2, none⟩ = some (.string ⟨x.text.toArray⟩) := by
      obtain ⟨hb, ⟨ln, h1, _⟩ | ⟨out, u, h1, rfl, _, h3⟩⟩ := hq
      · exact absurd ((LX.T_alone x HX.out).symm.trans h1) (by simp)
      · have h4 := (LX.T_alone x HX.out).symm.trans h1
        have h5 : out = [⟨x.kind, 1, x.text⟩] := by simpa using h4.symm
        subst h5
        obtain ⟨b, cap, rfl, hc⟩ := tk_of_owns h3
        obtain ⟨g, rfl, _, d0, d1, d2⟩ := hc 0 _ rfl
        exact ⟨g, cap, rfl, hb, by simpa using d0, by simpa using d1, by simpa using d2⟩
    have HB3 := Lib.hid (HB2.out.trans (hb3.mono HB2.out.size))
    have HT3 := Lib.hid (HT2.out.below hb3)
    have g0 := cellB hb3 g0 hg
    have g1 := cellB hb3 g1 hg
    have g2 := cellB hb3 g2 hg
    obtain ⟨kd, hkd⟩ : ∃ z : Int, (x.kind : Int) = z := ⟨_, rfl⟩
    obtain ⟨li, hli⟩ : ∃ z : Int, (x.line : Int) = z := ⟨_, rfl⟩
    obtain ⟨tx, htx⟩ : ∃ z : ByteArray, (⟨x.text.toArray⟩ : ByteArray) = z := ⟨_, rfl⟩
    rw [hkd] at g0 i0
    rw [hli] at g1
    rw [htx] at g2 i2 ⊢
    have r1 : (li < 1) = False := eq_false (by omega)
    have HTx := Lib.hid htx
    have hln2 : ∀ y, 0 < k → N[k - 1]? = some y → (y.line : Int) ≤ li := fun y h0 hy => by
      have := lines_next N 1 (k - 1) y x HLn.out hy (by rw [show k - 1 + 1 = k by omega]; exact hx)
      omega
    have hjk : LX.J (N.take (k + 1)) = if N.take k = [] then x.text else LX.J (N.take k) ++ 32 :: x.text := by rw [take_snoc hx, LX.J_snoc]
    have hJl : (LX.J (N.take k)).length ≤ 2000 := by
      have h1 := LX.J_len (N.take k)
      have h2 := sumL_take N k
      have h3 := HS.out
      have : (N.take k).length ≤ k := by rw [List.length_take]; omega
      omega
    by_cases hk0 : k = 0
    · subst hk0
      have q2 : ((0 : Int) < ((0 : Nat) : Int)) = False := eq_false (by omega)
      have hso := fun W => run_stringJ [] x.text W (by simp) (by have := HXl.out; omega)
      rw [List.nil_append, htx, show (⟨([] : List UInt8).toArray⟩ : ByteArray) = TS from HTS.out] at hso
      have HJ2 := Lib.hid (show (⟨(LX.J (N.take (0 + 1))).toArray⟩ : ByteArray) = tx by rw [hjk, if_pos (show N.take 0 = [] from rfl)]; exact htx)
      clear hq hc hc' hg hlt hk hb3 hx hkd hli htx hln1 hln2 hjk hJl
      simp only [Nat.zero_mul, Nat.zero_add] at g0 g1 g2
      go_wp2_with fail
      go_quiet (fail)
      go_wp2_with fail
      go_roundw
      case rel => exact ⟨0 + 1, by have := HK.out; omega, by simp, by rw [HJ2.out], Lib.hid ⟨HB3.out.trans ((Below_drewN _ _ _).mono HB3.out.size), HT3.out.below (Below_drewN _ _ _)⟩⟩
      case measure => have := HK.out; first | (simp [intOf]; done) | (simp [intOf]; omega)
    · have q2 : ((0 : Int) < (k : Int)) = True := eq_true (by omega)
      have q2' : (0 < k) = True := eq_true (by omega)
      obtain ⟨y, hy⟩ := get_some (L := N) (n := k - 1) (by rw [HN.out]; omega)
      obtain ⟨gy, hgy, _, y0, y1, y2⟩ := hc' (k - 1) y hy
      have hgy : g = gy := by simpa using hgy
      subst hgy
      have y1 := cellB hb3 y1 hg
      have r2 : (li < (y.line : Int)) = False := eq_false (by have := hln2 y (by omega) hy; omega)
      obtain ⟨km, hkm⟩ : ∃ j, k - 1 = j := ⟨_, rfl⟩
      have hwk : wrap64 ((k : Int) - 1) = (km : Int) := by unfold wrap64; omega
      have hwk2 : IntKind.i64.wrap ((k : Int) - 1) = (km : Int) := by rw [IntKind.wrap_i64]; omega
      rw [hkm] at y1
      obtain ⟨ly, hly⟩ : ∃ z : Int, (y.line : Int) = z := ⟨_, rfl⟩
      rw [hly] at y1 r2
      have hso := fun W => run_stringJ (LX.J (N.take k)) [32] W (by omega) (by simp)
      have hso2 := fun W => run_stringJ (LX.J (N.take k) ++ [32]) x.text W (by simp; omega) (by have := HXl.out; omega)
      rw [htx] at hso2
      rw [show (⟨(LX.J (N.take k)).toArray⟩ : ByteArray) = TS from HTS.out] at hso
      obtain ⟨T2, hT2⟩ : ∃ X : ByteArray, (⟨(LX.J (N.take k) ++ [32]).toArray⟩ : ByteArray) = X := ⟨_, rfl⟩
      rw [hT2] at hso hso2
      obtain ⟨T3, hT3⟩ : ∃ X : ByteArray, (⟨(LX.J (N.take k) ++ [32] ++ x.text).toArray⟩ : ByteArray) = X := ⟨_, rfl⟩
      rw [hT3] at hso2
      have HJ2 := Lib.hid (show (⟨(LX.J (N.take (k + 1))).toArray⟩ : ByteArray) = T3 by
        rw [hjk, if_neg (by intro h; have h1 := congrArg List.length h; rw [List.length_take, HN.out] at h1; simp at h1; omega), ← hT3, List.append_assoc]; rfl)
      have r3 : ((km : Int) < (n : Int)) = True := eq_true (by omega)
      have r4 : (km < n) = True := eq_true (by omega)
      clear hq hc hc' hg hlt hk hb3 hx hkd hli htx hln1 hln2 hjk hJl hy hly hT2 hT3 hk0 y0 y2 hkm
      go_wp2_with fail
      go_quiet (fail)
      go_wp2_with fail
      go_roundw
      case rel => exact ⟨k + 1, by have := HK.out; omega, by simp, by rw [HJ2.out], Lib.hid ⟨HB3.out.trans ((Below_drewN _ _ _).mono HB3.out.size), HT3.out.below (Below_drewN _ _ _)⟩⟩
      case measure => have := HK.out; first | (simp [intOf]; done) | (simp [intOf]; omega)
end Go.Proofs.Ytfgnpphbkjeooaa
