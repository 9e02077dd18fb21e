/- Layer 2: more contracts of crc and of its answer. -/
import Derived.Test.YtllnmpnncbfmlaaCrc
import Derived.Test.YtllnmpnncbfmlaaRow
namespace Go.Proofs.Ytllnmpnncbfmlaa
open Go.RowKit
theorem ref02_Next (s c : Nat) (hs : s < 4294967296) (hc : c < 256) (w : World) :
    Calls Try.prog 8 #[.int .u32 (s : Int), .int .u8 (c : Int)] w fun e w' => e = .returned (.int .u32 ((crcB s c : Nat) : Int)) ∧ w = w' := by
  have hx : s ^^^ c < 4294967296 := Nat.xor_lt_two_pow (n := 32) hs (by omega)
  have e1 := cx s c hs (by omega)
  have hfin : crcB s c = bsN 8 (s ^^^ c) := rfl
  have Hfin := Lib.hid hfin
  clear hfin
  generalize s ^^^ c = x at *
  go_enter Try.func8, Try.ntmps8
  go_wp2
  go_loop [0, 5] (fun t j => ∃ k : Nat, k ≤ 8 ∧ j = .int .i64 k ∧ t = .int .u32 ((bsN k x : Nat) : Int)) (fun _ j => 8 - (intOf j).toNat)
  case atStart => exact ⟨0, by omega, rfl, rfl⟩
  case round =>
    obtain ⟨k, hk, rfl, rfl⟩ := hrel
    clear e1
    by_cases hlt : k < 8
    · have hs := bsN_lt hx k
      obtain ⟨s, hse⟩ : ∃ s, bsN k x = s := ⟨_, rfl⟩
      rw [hse] at hs ⊢
      have Hse := Lib.hid hse
      clear hse
      have e2 := cx (s / 2) bsP (by omega) bsP_lt
      have e2' : bits .xor .u32 ((s : Int) / 2) 3988292384 = ((s / 2 ^^^ bsP : Nat) : Int) := e2
      clear e2
      by_cases hp : s % 2 = 1
      · have e1 : ((s : Int) % 2 == 1) = true := by simp; omega
        have Hp := Lib.hid hp
        clear hp
        go_wp2
        go_round
        case rel => exact ⟨k + 1, by omega, by go_num, by show _ = Value.int .u32 ((bs (bsN k x) : Nat) : Int); rw [Hse.out]; unfold bs; rw [if_pos Hp.out]⟩
        case measure => simp [intOf]; omega
      · have e1 : ((s : Int) % 2 == 1) = false := by simp; omega
        have Hp := Lib.hid hp
        clear hp
        go_wp2
        go_round
        case rel => exact ⟨k + 1, by omega, by go_num, by show _ = Value.int .u32 ((bs (bsN k x) : Nat) : Int); rw [Hse.out]; unfold bs; rw [if_neg Hp.out]; rfl⟩
        case measure => simp [intOf]; omega
    obtain rfl : k = 8 := by omega
    go_wp2
    go_ret
    exact ⟨ret_u32 (by rw [Hfin.out]), rfl⟩
theorem tabAt_new (w : World) : TabAt (w.alloc (.cells #[.int .u32 (bsT 0 : Nat), .int .u32 (bsT 1 : Nat), .int .u32 (bsT 2 : Nat), .int .u32 (bsT 3 : Nat), .int .u32 (bsT 4 : Nat), .int .u32 (bsT 5 : Nat), .int .u32 (bsT 6 : Nat), .int .u32 (bsT 7 : Nat), .int .u32 (bsT 8 : Nat), .int .u32 (bsT 9 : Nat), .int .u32 (bsT 10 : Nat), .int .u32 (bsT 11 : Nat), .int .u32 (bsT 12 : Nat), .int .u32 (bsT 13 : Nat), .int .u32 (bsT 14 : Nat), .int .u32 (bsT 15 : Nat)] 31)) w.heap.size := by
  intro i hi
  obtain rfl | rfl | rfl | rfl | rfl | rfl | rfl | rfl | rfl | rfl | rfl | rfl | rfl | rfl | rfl | rfl : i = 0 ∨ i = 1 ∨ i = 2 ∨ i = 3 ∨ i = 4 ∨ i = 5 ∨ i = 6 ∨ i = 7 ∨ i = 8 ∨ i = 9 ∨ i = 10 ∨ i = 11 ∨ i = 12 ∨ i = 13 ∨ i = 14 ∨ i = 15 := by omega
  all_goals go_cell
theorem crc_Next (s c : Nat) (hs : s < 4294967296) (hc : c < 256) (w : World) :
    Calls Try.prog 7 #[.int .u32 (s : Int), .int .u8 (c : Int)] w fun e w' => e = .returned (.int .u32 ((crcB s c : Nat) : Int)) ∧ Below w.heap.size w w' := by
  go_enter Try.func7, Try.ntmps7
  go_wp2_with fail
  refine (crc_steps _).mono ?_; rintro e w1 ⟨rfl, hb⟩
  have hz := hb.size
  go_wp2_with fail
  have ht := tabAt_new w1
  refine (crc_step _ s c hs hc _ ht).mono ?_; rintro e w' ⟨rfl, rfl⟩
  go_wp2_with fail
  go_ret
  exact ⟨rfl, by go_grown⟩
theorem take_succ_byte (l : List UInt8) (k : Nat) (h : k < l.length) : l.take (k + 1) = l.take k ++ [l.getD k 0] := by
  rw [List.take_succ_eq_append_getElem h]; simp [List.getD, h]
theorem crcO_take (s : Nat) (l : List UInt8) (k : Nat) (h : k < l.length) : crcO s (l.take (k + 1)) = crcB (crcO s (l.take k)) (l.getD k 0).toNat := by
  rw [take_succ_byte l k h, crcO_append]; rfl
theorem crc_Over (s : Nat) (hs : s < 4294967296) (v : Value) (l : List UInt8) (w : World) (hv : RowAt w v l.length (byteV l)) :
    Calls Try.prog 9 #[.int .u32 (s : Int), v] w fun e w' => e = .returned (.int .u32 ((crcO s l : Nat) : Int)) ∧ Below w.heap.size w w' := by
  have hle := hv.le
  rcases hv with ⟨a, cap, rfl, h0, _⟩ | ⟨b, off, cap, rfl, h1, h2, h3, h4, hcell⟩
  · obtain rfl : l = [] := List.length_eq_zero_iff.1 h0
    go_enter Try.func9, Try.ntmps9
    go_wp2_with fail
    refine (crc_steps _).mono ?_; rintro e w1 ⟨rfl, hb⟩
    have hz := hb.size
    go_wp2
    refine wp_loop_rounds 1 ?_
    rw [rounds_succ]
    go_wp2
    go_ret
    exact ⟨rfl, by go_grown⟩
  · unfold maxLen at h3
    go_enter Try.func9, Try.ntmps9
    go_wp2_with fail
    refine (crc_steps _).mono ?_; rintro e w1 ⟨rfl, hb⟩
    have hz := hb.size
    go_wp2
    have ht := tabAt_new w1
    have hB : Below w.heap.size w (w1.alloc (.cells #[.int .u32 (bsT 0 : Nat), .int .u32 (bsT 1 : Nat), .int .u32 (bsT 2 : Nat), .int .u32 (bsT 3 : Nat), .int .u32 (bsT 4 : Nat), .int .u32 (bsT 5 : Nat), .int .u32 (bsT 6 : Nat), .int .u32 (bsT 7 : Nat), .int .u32 (bsT 8 : Nat), .int .u32 (bsT 9 : Nat), .int .u32 (bsT 10 : Nat), .int .u32 (bsT 11 : Nat), .int .u32 (bsT 12 : Nat), .int .u32 (bsT 13 : Nat), .int .u32 (bsT 14 : Nat), .int .u32 (bsT 15 : Nat)] 31)) := hb.alloc hz _
    generalize (w1.alloc _) = wo at *
    have hcw : ∀ i, i < l.length → wo.cell? ⟨b, off + i, none⟩ = some (byteV l i) := fun i hi => (hB.cell (p := ⟨b, off + i, none⟩) h4).trans (hcell i hi)
    clear hcell hb hz
    go_loop [0, 11] (fun t j => ∃ k : Nat, k ≤ l.length ∧ j = .int .i64 k ∧ t = .int .u32 ((crcO s (l.take k) : Nat) : Int)) (fun _ j => l.length - (intOf j).toNat)
    case atStart => exact ⟨0, by omega, rfl, rfl⟩
    case round =>
      obtain ⟨k, hk, rfl, rfl⟩ := hrel
      by_cases hlt : k < l.length
      · have hc := hcw k hlt
        have hq := crcO_lt (l.take k) hs
        have Hn := Lib.hid (crcO_take s l k hlt)
        have hbt := (l.getD k 0).toNat_lt
        unfold byteV at hc
        generalize (l.getD k 0).toNat = c at *
        clear hcw
        go_wp2_with fail
        refine (crc_step _ _ c hq hbt _ ht).mono ?_; rintro e w' ⟨rfl, rfl⟩
        go_wp2_with fail
        go_round
        case rel => exact ⟨k + 1, by omega, by go_num, by rw [Hn.out]⟩
        case measure => simp [intOf]; omega
      · obtain rfl : k = l.length := by omega
        clear hcw
        go_wp2_with fail
        go_ret
        exact ⟨by simp, hB⟩
theorem ref02_Over (s : Nat) (hs : s < 4294967296) (v : Value) (l : List UInt8) (w : World) (hv : RowAt w v l.length (byteV l)) :
    Calls Try.prog 10 #[.int .u32 (s : Int), v] w fun e w' => e = .returned (.int .u32 ((crcO s l : Nat) : Int)) ∧ w = w' := by
  have hle := hv.le
  rcases hv with ⟨a, cap, rfl, h0, _⟩ | ⟨b, off, cap, rfl, h1, h2, h3, h4, hcell⟩
  · obtain rfl : l = [] := List.length_eq_zero_iff.1 h0
    go_enter Try.func10, Try.ntmps10
    go_wp2
    refine wp_loop_rounds 1 ?_
    rw [rounds_succ]
    go_wp2
    go_ret
    exact ⟨rfl, rfl⟩
  · unfold maxLen at h3
    go_enter Try.func10, Try.ntmps10
    go_wp2
    go_loop [0, 5] (fun t j => ∃ k : Nat, k ≤ l.length ∧ j = .int .i64 k ∧ t = .int .u32 ((crcO s (l.take k) : Nat) : Int)) (fun _ j => l.length - (intOf j).toNat)
    case atStart => exact ⟨0, by omega, rfl, rfl⟩
    case round =>
      obtain ⟨k, hk, rfl, rfl⟩ := hrel
      by_cases hlt : k < l.length
      · have hc := hcell k hlt
        have hq := crcO_lt (l.take k) hs
        have Hn := Lib.hid (crcO_take s l k hlt)
        have hbt := (l.getD k 0).toNat_lt
        unfold byteV at hc
        generalize (l.getD k 0).toNat = c at *
        clear hcell
        go_wp2_with fail
        refine (ref02_Next _ _ hq hbt _).mono ?_; rintro e w' ⟨rfl, rfl⟩
        go_wp2_with fail
        go_round
        case rel => exact ⟨k + 1, by omega, by go_num, by rw [Hn.out]⟩
        case measure => simp [intOf]; omega
      · obtain rfl : k = l.length := by omega
        clear hcell
        go_wp2_with fail
        go_ret
        exact ⟨by simp, rfl⟩
end Go.Proofs.Ytllnmpnncbfmlaa
