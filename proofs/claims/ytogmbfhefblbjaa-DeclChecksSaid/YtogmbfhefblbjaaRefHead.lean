/- Layer 17: a unit's head, by the answer. -/
import Derived.Test.YtogmbfhefblbjaaLawDeclLe
namespace Go.Proofs.Ytogmbfhefblbjaa
open Go.RowKit
set_option linter.unusedSimpArgs false
set_option linter.unusedVariables false
theorem headS_len (P L : List Int) (r : Int) : (headS P L r).length = P.length + (if r = 0 then 0 else 1) + L.length := by
  unfold headS
  split <;> simp <;> omega
theorem headS_all (P L : List Int) (r : Int) : (headS P L r).all kRight = (P.all kRight && (r == 0 || kRight r) && L.all kRight) := by
  unfold headS
  by_cases h : r = 0
  · simp [h]
  · have h' : (r == 0) = false := by simpa using h
    rw [if_neg h, h']
    simp [Bool.and_assoc]
theorem headE_5 {P L : List Int} {r : Int} {m : Bool} (h : 8 < P.length ∨ 1024 < (headS P L r).length) : headE P L r m = 5 := by
  unfold headE
  have hu : (decide (P.length ≤ 8) && decide ((headS P L r).length ≤ 1024)) = false := by
    rcases h with h | h
    · rw [decide_eq_false (by omega)]; rfl
    · rw [decide_eq_false (p := (headS P L r).length ≤ 1024) (by omega)]; simp
  rw [first_cons1 _ _ (by rw [unless_no hu]; decide), unless_no hu]
theorem headE_10 {P L : List Int} {r : Int} {m : Bool} (h1 : P.length ≤ 8) (h2 : (headS P L r).length ≤ 1024) (h : P.all kRight = false ∨ (r == 0 || kRight r) = false ∨ L.all kRight = false) : headE P L r m = 10 := by
  unfold headE
  have hu : (decide (P.length ≤ 8) && decide ((headS P L r).length ≤ 1024)) = true := by rw [decide_eq_true h1, decide_eq_true h2]; rfl
  have ha : (headS P L r).all kRight = false := by
    rw [headS_all]
    rcases h with h | h | h <;> rw [h] <;> simp
  rw [first_cons0 _ _ (unless_yes hu), first_cons1 _ _ (by rw [all_no ha]; decide), all_no ha]
theorem headE_m {P L : List Int} {r : Int} {m : Bool} (h1 : P.length ≤ 8) (h2 : (headS P L r).length ≤ 1024) (h3 : P.all kRight = true) (h4 : (r == 0 || kRight r) = true) (h5 : L.all kRight = true) : headE P L r m = if m = true ∧ (0 < P.length ∨ r ≠ 0) then 10 else 0 := by
  unfold headE
  have hu : (decide (P.length ≤ 8) && decide ((headS P L r).length ≤ 1024)) = true := by rw [decide_eq_true h1, decide_eq_true h2]; rfl
  have ha : (headS P L r).all kRight = true := by rw [headS_all, h3, h4, h5]; rfl
  rw [first_cons0 _ _ (unless_yes hu), first_cons0 _ _ (all_yes ha)]
  unfold emptyN
  cases m
  · rfl
  · by_cases hp : P.length = 0
    · by_cases hr : r = 0
      · rw [if_neg (by omega), decide_eq_true hp, hr]; rfl
      · have hr' : (r == 0) = false := by simpa using hr
        rw [if_pos ⟨rfl, Or.inr hr⟩, hr']
        simp
        rfl
    · rw [if_pos ⟨rfl, Or.inl (by omega)⟩, decide_eq_false hp]
      rfl
theorem alls_no {α : Type} {f : α → Bool} {L : List α} {k : Nat} {x : α} (hx : L[k]? = some x) (h : f x = false) : L.all f = false := List.all_eq_false.2 ⟨x, List.mem_of_getElem? hx, by simp [h]⟩
set_option maxHeartbeats 8000000 in
theorem ref17_Head (pv lv : Value) (P L : List Int) (r : Int) (m : Bool) (w : World) (hp : RowR 1 intR w pv P) (hl : RowR 1 intR w lv L) (hp20 : P.length ≤ 20) (hl20 : L.length ≤ 1100) :
    Calls Try.prog 15 #[pv, .int .i64 r, lv, .bool m] w fun e w' => e = .returned (.int .i64 (headE P L r m)) ∧ w' = w := by
  have H5 := Lib.hid (@headE_5 P L r m)
  have H10 := Lib.hid (@headE_10 P L r m)
  have HM := Lib.hid (@headE_m P L r m)
  have hsl := headS_len P L r
  obtain ⟨sp, cp, rfl⟩ := row_get hp
  obtain ⟨sl, cl, rfl⟩ := row_get hl
  obtain ⟨N, hN⟩ : ∃ n, P.length = n := ⟨_, rfl⟩
  obtain ⟨M, hM⟩ : ∃ n, L.length = n := ⟨_, rfl⟩
  obtain ⟨S, hS⟩ : ∃ n, (headS P L r).length = n := ⟨_, rfl⟩
  have HN := Lib.hid hN
  have HL := Lib.hid hM
  rw [hN] at hp hp20 H5 H10 HM hsl ⊢
  rw [hM] at hl hl20 hsl ⊢
  rw [hS] at H5 H10 HM hsl
  clear hN hM hS
  by_cases h8 : 8 < N
  · by_cases h0 : r = 0
    · subst h0
      have q1 : (8 < (N : Int)) = True := eq_true (by omega)
      have hE := Lib.hid (H5.out (Or.inl h8))
      go_enter Try.func15, Try.ntmps15
      go_wp2_with fail
      go_ret
      exact ⟨by rw [hE.out]; rfl, rfl⟩
    · have qr : (r != 0) = true := by simpa using h0
      have q1 : (8 < (N : Int)) = True := eq_true (by omega)
      have hE := Lib.hid (H5.out (Or.inl h8))
      go_enter Try.func15, Try.ntmps15
      go_wp2_with fail
      go_ret
      exact ⟨by rw [hE.out]; rfl, rfl⟩
  have q1 : (8 < (N : Int)) = False := eq_false (by omega)
  have hN8 : N ≤ 8 := by omega
  clear h8
  by_cases h0 : r = 0
  · subst h0
    have hS : S = N + M := by rw [if_pos rfl] at hsl; omega
    clear hsl
    by_cases h9 : 1024 < S
    · have q2 : (1024 < (N : Int) + (M : Int)) = True := eq_true (by omega)
      have hE := Lib.hid (H5.out (Or.inr h9))
      clear h9 hS
      go_enter Try.func15, Try.ntmps15
      go_wp2_with fail
      go_ret
      exact ⟨by rw [hE.out]; rfl, rfl⟩
    have q2 : (1024 < (N : Int) + (M : Int)) = False := eq_false (by omega)
    have hS4 : S ≤ 1024 := by omega
    have H10b := Lib.hid (H10.out hN8 hS4)
    have HMb := Lib.hid (HM.out hN8 hS4)
    clear H10 HM
    clear h9 hS
    go_enter Try.func15, Try.ntmps15
    go_wp2_with fail
    go_loopw [10] (fun jj wr => ∃ (k : Nat), k ≤ N ∧ jj = .int .i64 k ∧ Hid ((P.take k).all kRight = true) ∧ wr = w) (fun jj _ => N - (intOf jj).toNat)
    case atStart => exact ⟨0, by omega, rfl, Lib.hid (by simp), rfl⟩
    case round =>
      obtain ⟨k, hk, rfl, hall, rfl⟩ := hrel
      by_cases hlt : k < N
      · have qk : ((k : Int) < (N : Int)) = True := eq_true (by omega)
        obtain ⟨x, hx⟩ := get_some (L := P) (n := k) (by rw [HN.out]; exact hlt)
        obtain ⟨b, off, rfl, hbw, hc⟩ := ints_at hp (k := k) (by rw [HN.out]; exact hlt)
        obtain ⟨d0, _⟩ := hc k x hx
        have HT := Lib.hid (take_snoc hx)
        have HR := fun W => ref01_Right x W
        have HX := Lib.hid hx
        clear hc hx
        cases ho : kRight x
        · rw [ho] at HR
          have hE := Lib.hid (H10b.out (Or.inl (alls_no HX.out ho)))
          go_wp2_with fail
          refine (HR _).mono ?_; rintro e w2 ⟨rfl, rfl⟩
          go_wp2_with fail
          go_ret
          exact ⟨by rw [hE.out]; rfl, rfl⟩
        · rw [ho] at HR
          have hgood := Lib.hid (show (P.take (k + 1)).all kRight = true by rw [HT.out, List.all_append, hall.out]; simp [ho])
          go_wp2_with fail
          refine (HR _).mono ?_; rintro e w2 ⟨rfl, rfl⟩
          go_wp2_with fail
          go_roundw
          case rel => exact ⟨k + 1, by omega, by simp, hgood, by first | rfl | trivial⟩
          case measure => first | (simp [intOf]; done) | (simp [intOf]; omega)
      · obtain rfl : k = N := by omega
        have qk : ((k : Int) < (k : Int)) = False := eq_false (by omega)
        have hP := Lib.hid (show P.all kRight = true by have := hall.out; rwa [List.take_of_length_le (by rw [HN.out]; exact Nat.le_refl _)] at this)
        clear hall
        go_wp2_with fail
        go_loopw [11] (fun jj wr2 => ∃ (q : Nat), q ≤ M ∧ jj = .int .i64 q ∧ Hid ((L.take q).all kRight = true) ∧ wr2 = wr) (fun jj _ => M - (intOf jj).toNat)
        case atStart => exact ⟨0, by omega, rfl, Lib.hid (by simp), rfl⟩
        case round =>
          obtain ⟨q, hq, rfl, hal, rfl⟩ := hrel
          by_cases hqm : q < M
          · have qq : ((q : Int) < (M : Int)) = True := eq_true (by omega)
            obtain ⟨x, hx⟩ := get_some (L := L) (n := q) (by rw [HL.out]; exact hqm)
            obtain ⟨b, off, rfl, hbw, hc⟩ := ints_at hl (k := q) (by rw [HL.out]; exact hqm)
            obtain ⟨d0, _⟩ := hc q x hx
            have HT := Lib.hid (take_snoc hx)
            have HR := fun W => ref01_Right x W
            have HX := Lib.hid hx
            clear hc hx
            cases ho : kRight x
            · rw [ho] at HR
              have hE := Lib.hid (H10b.out (Or.inr (Or.inr (alls_no HX.out ho))))
              go_wp2_with fail
              refine (HR _).mono ?_; rintro e w2 ⟨rfl, rfl⟩
              go_wp2_with fail
              go_ret
              exact ⟨by rw [hE.out]; rfl, rfl⟩
            · rw [ho] at HR
              have hgood := Lib.hid (show (L.take (q + 1)).all kRight = true by rw [HT.out, List.all_append, hal.out]; simp [ho])
              go_wp2_with fail
              refine (HR _).mono ?_; rintro e w2 ⟨rfl, rfl⟩
              go_wp2_with fail
              go_roundw
              case rel => exact ⟨q + 1, by omega, by simp, hgood, by first | rfl | trivial⟩
              case measure => first | (simp [intOf]; done) | (simp [intOf]; omega)
          · obtain rfl : q = M := by omega
            have qq : ((q : Int) < (q : Int)) = False := eq_false (by omega)
            have hL := Lib.hid (show L.all kRight = true by have := hal.out; rwa [List.take_of_length_le (by rw [HL.out]; exact Nat.le_refl _)] at this)
            clear hal
            cases m
            · have hE := Lib.hid ((HMb.out hP.out rfl hL.out).trans (if_neg (fun h => by cases h.1)))
              go_wp2_with fail
              go_ret
              exact ⟨by rw [hE.out]; rfl, rfl⟩
            · by_cases h00 : 0 < k
              · have q3 : (0 < (k : Int)) = True := eq_true (by omega)
                have q3' : (0 < k) = True := eq_true h00
                have hE := Lib.hid ((HMb.out hP.out rfl hL.out).trans (if_pos ⟨rfl, Or.inl h00⟩))
                clear h00
                go_wp2_with fail
                go_ret
                exact ⟨by rw [hE.out]; rfl, rfl⟩
              · have q3 : (0 < (k : Int)) = False := eq_false (by omega)
                have q3' : (0 < k) = False := eq_false h00
                have hE := Lib.hid ((HMb.out hP.out rfl hL.out).trans (if_neg (fun h => h.2.elim h00 (fun g => g rfl))))
                clear h00
                go_wp2_with fail
                go_ret
                exact ⟨by rw [hE.out]; rfl, rfl⟩
  · have qr : (r != 0) = true := by simpa using h0
    have hS : S = N + M + 1 := by rw [if_neg h0] at hsl; omega
    clear hsl
    by_cases h9 : 1024 < S
    · have q2 : (1024 < (N : Int) + (M : Int) + 1) = True := eq_true (by omega)
      have hE := Lib.hid (H5.out (Or.inr h9))
      clear h9 hS
      go_enter Try.func15, Try.ntmps15
      go_wp2_with fail
      go_ret
      exact ⟨by rw [hE.out]; rfl, rfl⟩
    have q2 : (1024 < (N : Int) + (M : Int) + 1) = False := eq_false (by omega)
    have hS4 : S ≤ 1024 := by omega
    have H10b := Lib.hid (H10.out hN8 hS4)
    have HMb := Lib.hid (HM.out hN8 hS4)
    clear H10 HM
    clear h9 hS
    go_enter Try.func15, Try.ntmps15
    go_wp2_with fail
    go_loopw [10] (fun jj wr => ∃ (k : Nat), k ≤ N ∧ jj = .int .i64 k ∧ Hid ((P.take k).all kRight = true) ∧ wr = w) (fun jj _ => N - (intOf jj).toNat)
    case atStart => exact ⟨0, by omega, rfl, Lib.hid (by simp), rfl⟩
    case round =>
      obtain ⟨k, hk, rfl, hall, rfl⟩ := hrel
      by_cases hlt : k < N
      · have qk : ((k : Int) < (N : Int)) = True := eq_true (by omega)
        obtain ⟨x, hx⟩ := get_some (L := P) (n := k) (by rw [HN.out]; exact hlt)
        obtain ⟨b, off, rfl, hbw, hc⟩ := ints_at hp (k := k) (by rw [HN.out]; exact hlt)
        obtain ⟨d0, _⟩ := hc k x hx
        have HT := Lib.hid (take_snoc hx)
        have HR := fun W => ref01_Right x W
        have HX := Lib.hid hx
        clear hc hx
        cases ho : kRight x
        · rw [ho] at HR
          have hE := Lib.hid (H10b.out (Or.inl (alls_no HX.out ho)))
          go_wp2_with fail
          refine (HR _).mono ?_; rintro e w2 ⟨rfl, rfl⟩
          go_wp2_with fail
          go_ret
          exact ⟨by rw [hE.out]; rfl, rfl⟩
        · rw [ho] at HR
          have hgood := Lib.hid (show (P.take (k + 1)).all kRight = true by rw [HT.out, List.all_append, hall.out]; simp [ho])
          go_wp2_with fail
          refine (HR _).mono ?_; rintro e w2 ⟨rfl, rfl⟩
          go_wp2_with fail
          go_roundw
          case rel => exact ⟨k + 1, by omega, by simp, hgood, by first | rfl | trivial⟩
          case measure => first | (simp [intOf]; done) | (simp [intOf]; omega)
      · obtain rfl : k = N := by omega
        have qk : ((k : Int) < (k : Int)) = False := eq_false (by omega)
        have hP := Lib.hid (show P.all kRight = true by have := hall.out; rwa [List.take_of_length_le (by rw [HN.out]; exact Nat.le_refl _)] at this)
        clear hall
        go_wp2_with fail
        go_loopw [11] (fun jj wr2 => ∃ (q : Nat), q ≤ M ∧ jj = .int .i64 q ∧ Hid ((L.take q).all kRight = true) ∧ wr2 = wr) (fun jj _ => M - (intOf jj).toNat)
        case atStart => exact ⟨0, by omega, rfl, Lib.hid (by simp), rfl⟩
        case round =>
          obtain ⟨q, hq, rfl, hal, rfl⟩ := hrel
          by_cases hqm : q < M
          · have qq : ((q : Int) < (M : Int)) = True := eq_true (by omega)
            obtain ⟨x, hx⟩ := get_some (L := L) (n := q) (by rw [HL.out]; exact hqm)
            obtain ⟨b, off, rfl, hbw, hc⟩ := ints_at hl (k := q) (by rw [HL.out]; exact hqm)
            obtain ⟨d0, _⟩ := hc q x hx
            have HT := Lib.hid (take_snoc hx)
            have HR := fun W => ref01_Right x W
            have HX := Lib.hid hx
            clear hc hx
            cases ho : kRight x
            · rw [ho] at HR
              have hE := Lib.hid (H10b.out (Or.inr (Or.inr (alls_no HX.out ho))))
              go_wp2_with fail
              refine (HR _).mono ?_; rintro e w2 ⟨rfl, rfl⟩
              go_wp2_with fail
              go_ret
              exact ⟨by rw [hE.out]; rfl, rfl⟩
            · rw [ho] at HR
              have hgood := Lib.hid (show (L.take (q + 1)).all kRight = true by rw [HT.out, List.all_append, hal.out]; simp [ho])
              go_wp2_with fail
              refine (HR _).mono ?_; rintro e w2 ⟨rfl, rfl⟩
              go_wp2_with fail
              go_roundw
              case rel => exact ⟨q + 1, by omega, by simp, hgood, by first | rfl | trivial⟩
              case measure => first | (simp [intOf]; done) | (simp [intOf]; omega)
          · obtain rfl : q = M := by omega
            have qq : ((q : Int) < (q : Int)) = False := eq_false (by omega)
            have hL := Lib.hid (show L.all kRight = true by have := hal.out; rwa [List.take_of_length_le (by rw [HL.out]; exact Nat.le_refl _)] at this)
            clear hal
            have HR := fun W => ref01_Right r W
            have h0' : (r == 0) = false := by simpa using h0
            cases ho : kRight r
            · rw [ho] at HR
              have hE := Lib.hid (H10b.out (Or.inr (Or.inl (by rw [h0', ho]; rfl))))
              go_wp2_with fail
              refine (HR _).mono ?_; rintro e w2 ⟨rfl, rfl⟩
              go_wp2_with fail
              go_ret
              exact ⟨by rw [hE.out]; rfl, rfl⟩
            rw [ho] at HR
            have hok : (r == 0 || kRight r) = true := by rw [ho]; simp
            have HOK := Lib.hid hok
            clear hok
            cases m
            · have hE := Lib.hid ((HMb.out hP.out HOK.out hL.out).trans (if_neg (fun h => by cases h.1)))
              go_wp2_with fail
              refine (HR _).mono ?_; rintro e w2 ⟨rfl, rfl⟩
              go_wp2_with fail
              go_ret
              exact ⟨by rw [hE.out]; rfl, rfl⟩
            · have hE := Lib.hid ((HMb.out hP.out HOK.out hL.out).trans (if_pos ⟨rfl, Or.inr h0⟩))
              by_cases h00 : 0 < k
              · have q3 : (0 < (k : Int)) = True := eq_true (by omega)
                have q3' : (0 < k) = True := eq_true h00
                clear h00
                go_wp2_with fail
                refine (HR _).mono ?_; rintro e w2 ⟨rfl, rfl⟩
                go_wp2_with fail
                go_ret
                exact ⟨by rw [hE.out]; rfl, rfl⟩
              · have q3 : (0 < (k : Int)) = False := eq_false (by omega)
                have q3' : (0 < k) = False := eq_false h00
                clear h00
                go_wp2_with fail
                refine (HR _).mono ?_; rintro e w2 ⟨rfl, rfl⟩
                go_wp2_with fail
                go_ret
                exact ⟨by rw [hE.out]; rfl, rfl⟩
end Go.Proofs.Ytogmbfhefblbjaa
