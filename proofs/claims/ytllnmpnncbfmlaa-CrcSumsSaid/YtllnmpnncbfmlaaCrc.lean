/- Layer 2: contracts of crc and of its answer. -/
import Derived.Test.YtllnmpnncbfmlaaChecked
import Derived.Test.YtllnmpnncbfmlaaCrcPure
import Derived.Handy
import Derived.Lib.Hide
import Derived.Laws.BitsAllLaws
namespace Go.Proofs.Ytllnmpnncbfmlaa
open Go.RowKit
theorem ret_u32 {a b : Int} (h : a = b) : Ending.returned (.int .u32 a) = .returned (.int .u32 b) := by rw [h]
theorem cx (a b : Nat) (ha : a < 4294967296) (hb : b < 4294967296) : bits .xor .u32 (a : Int) (b : Int) = ((a ^^^ b : Nat) : Int) := u32_xor_nat a b ha hb
/-- the table's cells -/
def TabAt (w : World) (b : Nat) : Prop := ∀ i, i < 16 → w.cell? ⟨b, i, none⟩ = some (.int .u32 ((bsT i : Nat) : Int))
theorem crc_step (b : Nat) (s c : Nat) (hs : s < 4294967296) (hc : c < 256) (w : World) (ht : TabAt w b) :
    Calls Try.prog 14 #[.pointer (some ⟨b, 0, none⟩), .int .u32 (s : Int), .int .u8 (c : Int)] w fun e w' => e = .returned (.int .u32 ((crcB s c : Nat) : Int)) ∧ w = w' := by
  have hx : s ^^^ c < 4294967296 := Nat.xor_lt_two_pow (n := 32) hs (by omega)
  have e1 := cx s c hs (by omega)
  obtain ⟨x, hxe⟩ : ∃ x, s ^^^ c = x := ⟨_, rfl⟩
  rw [hxe] at hx e1
  have e2 : bits .and .u32 (x : Int) 15 = ((x % 16 : Nat) : Int) := by have := u32_and_nat x 15 hx (by omega); rw [and15] at this; exact this
  obtain ⟨y, hye⟩ : ∃ y, x % 16 = y := ⟨_, rfl⟩
  have hy : y < 16 := by omega
  rw [hye] at e2
  have hcy := ht y hy
  have hty := bsT_lt (s := y) (by omega)
  have e3 := cx (x / 16) (bsT y) (by omega) hty
  have hz : x / 16 ^^^ bsT y < 4294967296 := Nat.xor_lt_two_pow (n := 32) (by omega) hty
  obtain ⟨z, hze⟩ : ∃ z, x / 16 ^^^ bsT y = z := ⟨_, rfl⟩
  rw [hze] at e3 hz
  have e4 : bits .and .u32 (z : Int) 15 = ((z % 16 : Nat) : Int) := by have := u32_and_nat z 15 hz (by omega); rw [and15] at this; exact this
  obtain ⟨u, hue⟩ : ∃ u, z % 16 = u := ⟨_, rfl⟩
  have hu : u < 16 := by omega
  rw [hue] at e4
  have hcu := ht u hu
  have htu := bsT_lt (s := u) (by omega)
  have e5 := cx (z / 16) (bsT u) (by omega) htu
  have hfin : crcB s c = z / 16 ^^^ bsT u := by rw [crcB_two]; simp only []; rw [hxe, hye, hze, hue]
  have Hfin := Lib.hid hfin
  clear hfin hxe hye hze hue hty htu ht
  have e3' : bits .xor .u32 ((x : Int) / 16) (bsT y : Int) = (z : Int) := e3
  have e5' : bits .xor .u32 ((z : Int) / 16) (bsT u : Int) = ((z / 16 ^^^ bsT u : Nat) : Int) := e5
  clear e3 e5
  generalize z / 16 ^^^ bsT u = r at *
  go_enter Try.func14, Try.ntmps14
  go_wp2
  go_ret
  exact ⟨ret_u32 (by rw [Hfin.out]), rfl⟩
set_option maxHeartbeats 2000000 in
theorem crc_steps (w : World) : Calls Try.prog 13 #[] w fun e w' => e = .returned (.agg #[.int .u32 (bsT 0 : Nat), .int .u32 (bsT 1 : Nat), .int .u32 (bsT 2 : Nat), .int .u32 (bsT 3 : Nat),
    .int .u32 (bsT 4 : Nat), .int .u32 (bsT 5 : Nat), .int .u32 (bsT 6 : Nat), .int .u32 (bsT 7 : Nat), .int .u32 (bsT 8 : Nat), .int .u32 (bsT 9 : Nat), .int .u32 (bsT 10 : Nat), .int .u32 (bsT 11 : Nat),
    .int .u32 (bsT 12 : Nat), .int .u32 (bsT 13 : Nat), .int .u32 (bsT 14 : Nat), .int .u32 (bsT 15 : Nat)]) ∧ Below w.heap.size w w' := by
  go_enter Try.func13, Try.ntmps13
  go_wp2
  refine wp_loop_rounds 17 ?_
  rw [rounds_succ]
  go_wp2
  go_loop [3, 9] (fun t j => ∃ k : Nat, k ≤ 4 ∧ j = .int .i64 k ∧ t = .int .u32 ((bsN k 0 : Nat) : Int)) (fun _ j => 4 - (intOf j).toNat)
  case atStart => exact ⟨0, by omega, rfl, rfl⟩
  case round =>
    obtain ⟨k, hk, rfl, rfl⟩ := hrel
    by_cases hlt : k < 4
    · have hs := bsN_lt (s := 0) (by omega) k
      obtain ⟨s, hse⟩ : ∃ s, bsN k 0 = s := ⟨_, rfl⟩
      rw [hse] at hs ⊢
      have Hse := Lib.hid hse
      clear hse
      have e1 : bits .and .u32 (s : Int) 1 = ((s % 2 : Nat) : Int) := by have := u32_and_nat s 1 hs (by omega); rw [and1] at this; exact this
      have e2 := cx (s / 2) bsP (by omega) bsP_lt
      have e2' : bits .xor .u32 ((s : Int) / 2) 3988292384 = ((s / 2 ^^^ bsP : Nat) : Int) := e2
      clear e2
      by_cases hp : s % 2 = 1
      · rw [hp] at e1
        have Hp := Lib.hid hp
        clear hp
        go_wp2
        go_round
        case rel => exact ⟨k + 1, by omega, by go_num, by show _ = Value.int .u32 ((bs (bsN k 0) : Nat) : Int); rw [Hse.out]; unfold bs; rw [if_pos Hp.out]⟩
        case measure => simp [intOf]; omega
      · rw [show s % 2 = 0 by omega] at e1
        have Hp := Lib.hid hp
        clear hp
        go_wp2
        go_round
        case rel => exact ⟨k + 1, by omega, by go_num, by show _ = Value.int .u32 ((bs (bsN k 0) : Nat) : Int); rw [Hse.out]; unfold bs; rw [if_neg Hp.out]; rfl⟩
        case measure => simp [intOf]; omega
    obtain rfl : k = 4 := by omega
    clear hk hlt
    have hT : bsN 4 0 = bsT 0 := rfl
    rw [hT]
    clear hT
    go_wp2
    rw [rounds_succ]
    go_wp2
    go_loop [3, 9] (fun t j => ∃ k : Nat, k ≤ 4 ∧ j = .int .i64 k ∧ t = .int .u32 ((bsN k 1 : Nat) : Int)) (fun _ j => 4 - (intOf j).toNat)
    case atStart => exact ⟨0, by omega, rfl, rfl⟩
    case round =>
      obtain ⟨k, hk, rfl, rfl⟩ := hrel
      by_cases hlt : k < 4
      · have hs := bsN_lt (s := 1) (by omega) k
        obtain ⟨s, hse⟩ : ∃ s, bsN k 1 = s := ⟨_, rfl⟩
        rw [hse] at hs ⊢
        have Hse := Lib.hid hse
        clear hse
        have e1 : bits .and .u32 (s : Int) 1 = ((s % 2 : Nat) : Int) := by have := u32_and_nat s 1 hs (by omega); rw [and1] at this; exact this
        have e2 := cx (s / 2) bsP (by omega) bsP_lt
        have e2' : bits .xor .u32 ((s : Int) / 2) 3988292384 = ((s / 2 ^^^ bsP : Nat) : Int) := e2
        clear e2
        by_cases hp : s % 2 = 1
        · rw [hp] at e1
          have Hp := Lib.hid hp
          clear hp
          go_wp2
          go_round
          case rel => exact ⟨k + 1, by omega, by go_num, by show _ = Value.int .u32 ((bs (bsN k 1) : Nat) : Int); rw [Hse.out]; unfold bs; rw [if_pos Hp.out]⟩
          case measure => simp [intOf]; omega
        · rw [show s % 2 = 0 by omega] at e1
          have Hp := Lib.hid hp
          clear hp
          go_wp2
          go_round
          case rel => exact ⟨k + 1, by omega, by go_num, by show _ = Value.int .u32 ((bs (bsN k 1) : Nat) : Int); rw [Hse.out]; unfold bs; rw [if_neg Hp.out]; rfl⟩
          case measure => simp [intOf]; omega
      obtain rfl : k = 4 := by omega
      clear hk hlt
      have hT : bsN 4 1 = bsT 1 := rfl
      rw [hT]
      clear hT
      go_wp2
      rw [rounds_succ]
      go_wp2
      go_loop [3, 9] (fun t j => ∃ k : Nat, k ≤ 4 ∧ j = .int .i64 k ∧ t = .int .u32 ((bsN k 2 : Nat) : Int)) (fun _ j => 4 - (intOf j).toNat)
      case atStart => exact ⟨0, by omega, rfl, rfl⟩
      case round =>
        obtain ⟨k, hk, rfl, rfl⟩ := hrel
        by_cases hlt : k < 4
        · have hs := bsN_lt (s := 2) (by omega) k
          obtain ⟨s, hse⟩ : ∃ s, bsN k 2 = s := ⟨_, rfl⟩
          rw [hse] at hs ⊢
          have Hse := Lib.hid hse
          clear hse
          have e1 : bits .and .u32 (s : Int) 1 = ((s % 2 : Nat) : Int) := by have := u32_and_nat s 1 hs (by omega); rw [and1] at this; exact this
          have e2 := cx (s / 2) bsP (by omega) bsP_lt
          have e2' : bits .xor .u32 ((s : Int) / 2) 3988292384 = ((s / 2 ^^^ bsP : Nat) : Int) := e2
          clear e2
          by_cases hp : s % 2 = 1
          · rw [hp] at e1
            have Hp := Lib.hid hp
            clear hp
            go_wp2
            go_round
            case rel => exact ⟨k + 1, by omega, by go_num, by show _ = Value.int .u32 ((bs (bsN k 2) : Nat) : Int); rw [Hse.out]; unfold bs; rw [if_pos Hp.out]⟩
            case measure => simp [intOf]; omega
          · rw [show s % 2 = 0 by omega] at e1
            have Hp := Lib.hid hp
            clear hp
            go_wp2
            go_round
            case rel => exact ⟨k + 1, by omega, by go_num, by show _ = Value.int .u32 ((bs (bsN k 2) : Nat) : Int); rw [Hse.out]; unfold bs; rw [if_neg Hp.out]; rfl⟩
            case measure => simp [intOf]; omega
        obtain rfl : k = 4 := by omega
        clear hk hlt
        have hT : bsN 4 2 = bsT 2 := rfl
        rw [hT]
        clear hT
        go_wp2
        rw [rounds_succ]
        go_wp2
        go_loop [3, 9] (fun t j => ∃ k : Nat, k ≤ 4 ∧ j = .int .i64 k ∧ t = .int .u32 ((bsN k 3 : Nat) : Int)) (fun _ j => 4 - (intOf j).toNat)
        case atStart => exact ⟨0, by omega, rfl, rfl⟩
        case round =>
          obtain ⟨k, hk, rfl, rfl⟩ := hrel
          by_cases hlt : k < 4
          · have hs := bsN_lt (s := 3) (by omega) k
            obtain ⟨s, hse⟩ : ∃ s, bsN k 3 = s := ⟨_, rfl⟩
            rw [hse] at hs ⊢
            have Hse := Lib.hid hse
            clear hse
            have e1 : bits .and .u32 (s : Int) 1 = ((s % 2 : Nat) : Int) := by have := u32_and_nat s 1 hs (by omega); rw [and1] at this; exact this
            have e2 := cx (s / 2) bsP (by omega) bsP_lt
            have e2' : bits .xor .u32 ((s : Int) / 2) 3988292384 = ((s / 2 ^^^ bsP : Nat) : Int) := e2
            clear e2
            by_cases hp : s % 2 = 1
            · rw [hp] at e1
              have Hp := Lib.hid hp
              clear hp
              go_wp2
              go_round
              case rel => exact ⟨k + 1, by omega, by go_num, by show _ = Value.int .u32 ((bs (bsN k 3) : Nat) : Int); rw [Hse.out]; unfold bs; rw [if_pos Hp.out]⟩
              case measure => simp [intOf]; omega
            · rw [show s % 2 = 0 by omega] at e1
              have Hp := Lib.hid hp
              clear hp
              go_wp2
              go_round
              case rel => exact ⟨k + 1, by omega, by go_num, by show _ = Value.int .u32 ((bs (bsN k 3) : Nat) : Int); rw [Hse.out]; unfold bs; rw [if_neg Hp.out]; rfl⟩
              case measure => simp [intOf]; omega
          obtain rfl : k = 4 := by omega
          clear hk hlt
          have hT : bsN 4 3 = bsT 3 := rfl
          rw [hT]
          clear hT
          go_wp2
          rw [rounds_succ]
          go_wp2
          go_loop [3, 9] (fun t j => ∃ k : Nat, k ≤ 4 ∧ j = .int .i64 k ∧ t = .int .u32 ((bsN k 4 : Nat) : Int)) (fun _ j => 4 - (intOf j).toNat)
          case atStart => exact ⟨0, by omega, rfl, rfl⟩
          case round =>
            obtain ⟨k, hk, rfl, rfl⟩ := hrel
            by_cases hlt : k < 4
            · have hs := bsN_lt (s := 4) (by omega) k
              obtain ⟨s, hse⟩ : ∃ s, bsN k 4 = s := ⟨_, rfl⟩
              rw [hse] at hs ⊢
              have Hse := Lib.hid hse
              clear hse
              have e1 : bits .and .u32 (s : Int) 1 = ((s % 2 : Nat) : Int) := by have := u32_and_nat s 1 hs (by omega); rw [and1] at this; exact this
              have e2 := cx (s / 2) bsP (by omega) bsP_lt
              have e2' : bits .xor .u32 ((s : Int) / 2) 3988292384 = ((s / 2 ^^^ bsP : Nat) : Int) := e2
              clear e2
              by_cases hp : s % 2 = 1
              · rw [hp] at e1
                have Hp := Lib.hid hp
                clear hp
                go_wp2
                go_round
                case rel => exact ⟨k + 1, by omega, by go_num, by show _ = Value.int .u32 ((bs (bsN k 4) : Nat) : Int); rw [Hse.out]; unfold bs; rw [if_pos Hp.out]⟩
                case measure => simp [intOf]; omega
              · rw [show s % 2 = 0 by omega] at e1
                have Hp := Lib.hid hp
                clear hp
                go_wp2
                go_round
                case rel => exact ⟨k + 1, by omega, by go_num, by show _ = Value.int .u32 ((bs (bsN k 4) : Nat) : Int); rw [Hse.out]; unfold bs; rw [if_neg Hp.out]; rfl⟩
                case measure => simp [intOf]; omega
            obtain rfl : k = 4 := by omega
            clear hk hlt
            have hT : bsN 4 4 = bsT 4 := rfl
            rw [hT]
            clear hT
            go_wp2
            rw [rounds_succ]
            go_wp2
            go_loop [3, 9] (fun t j => ∃ k : Nat, k ≤ 4 ∧ j = .int .i64 k ∧ t = .int .u32 ((bsN k 5 : Nat) : Int)) (fun _ j => 4 - (intOf j).toNat)
            case atStart => exact ⟨0, by omega, rfl, rfl⟩
            case round =>
              obtain ⟨k, hk, rfl, rfl⟩ := hrel
              by_cases hlt : k < 4
              · have hs := bsN_lt (s := 5) (by omega) k
                obtain ⟨s, hse⟩ : ∃ s, bsN k 5 = s := ⟨_, rfl⟩
                rw [hse] at hs ⊢
                have Hse := Lib.hid hse
                clear hse
                have e1 : bits .and .u32 (s : Int) 1 = ((s % 2 : Nat) : Int) := by have := u32_and_nat s 1 hs (by omega); rw [and1] at this; exact this
                have e2 := cx (s / 2) bsP (by omega) bsP_lt
                have e2' : bits .xor .u32 ((s : Int) / 2) 3988292384 = ((s / 2 ^^^ bsP : Nat) : Int) := e2
                clear e2
                by_cases hp : s % 2 = 1
                · rw [hp] at e1
                  have Hp := Lib.hid hp
                  clear hp
                  go_wp2
                  go_round
                  case rel => exact ⟨k + 1, by omega, by go_num, by show _ = Value.int .u32 ((bs (bsN k 5) : Nat) : Int); rw [Hse.out]; unfold bs; rw [if_pos Hp.out]⟩
                  case measure => simp [intOf]; omega
                · rw [show s % 2 = 0 by omega] at e1
                  have Hp := Lib.hid hp
                  clear hp
                  go_wp2
                  go_round
                  case rel => exact ⟨k + 1, by omega, by go_num, by show _ = Value.int .u32 ((bs (bsN k 5) : Nat) : Int); rw [Hse.out]; unfold bs; rw [if_neg Hp.out]; rfl⟩
                  case measure => simp [intOf]; omega
              obtain rfl : k = 4 := by omega
              clear hk hlt
              have hT : bsN 4 5 = bsT 5 := rfl
              rw [hT]
              clear hT
              go_wp2
              rw [rounds_succ]
              go_wp2
              go_loop [3, 9] (fun t j => ∃ k : Nat, k ≤ 4 ∧ j = .int .i64 k ∧ t = .int .u32 ((bsN k 6 : Nat) : Int)) (fun _ j => 4 - (intOf j).toNat)
              case atStart => exact ⟨0, by omega, rfl, rfl⟩
              case round =>
                obtain ⟨k, hk, rfl, rfl⟩ := hrel
                by_cases hlt : k < 4
                · have hs := bsN_lt (s := 6) (by omega) k
                  obtain ⟨s, hse⟩ : ∃ s, bsN k 6 = s := ⟨_, rfl⟩
                  rw [hse] at hs ⊢
                  have Hse := Lib.hid hse
                  clear hse
                  have e1 : bits .and .u32 (s : Int) 1 = ((s % 2 : Nat) : Int) := by have := u32_and_nat s 1 hs (by omega); rw [and1] at this; exact this
                  have e2 := cx (s / 2) bsP (by omega) bsP_lt
                  have e2' : bits .xor .u32 ((s : Int) / 2) 3988292384 = ((s / 2 ^^^ bsP : Nat) : Int) := e2
                  clear e2
                  by_cases hp : s % 2 = 1
                  · rw [hp] at e1
                    have Hp := Lib.hid hp
                    clear hp
                    go_wp2
                    go_round
                    case rel => exact ⟨k + 1, by omega, by go_num, by show _ = Value.int .u32 ((bs (bsN k 6) : Nat) : Int); rw [Hse.out]; unfold bs; rw [if_pos Hp.out]⟩
                    case measure => simp [intOf]; omega
                  · rw [show s % 2 = 0 by omega] at e1
                    have Hp := Lib.hid hp
                    clear hp
                    go_wp2
                    go_round
                    case rel => exact ⟨k + 1, by omega, by go_num, by show _ = Value.int .u32 ((bs (bsN k 6) : Nat) : Int); rw [Hse.out]; unfold bs; rw [if_neg Hp.out]; rfl⟩
                    case measure => simp [intOf]; omega
                obtain rfl : k = 4 := by omega
                clear hk hlt
                have hT : bsN 4 6 = bsT 6 := rfl
                rw [hT]
                clear hT
                go_wp2
                rw [rounds_succ]
                go_wp2
                go_loop [3, 9] (fun t j => ∃ k : Nat, k ≤ 4 ∧ j = .int .i64 k ∧ t = .int .u32 ((bsN k 7 : Nat) : Int)) (fun _ j => 4 - (intOf j).toNat)
                case atStart => exact ⟨0, by omega, rfl, rfl⟩
                case round =>
                  obtain ⟨k, hk, rfl, rfl⟩ := hrel
                  by_cases hlt : k < 4
                  · have hs := bsN_lt (s := 7) (by omega) k
                    obtain ⟨s, hse⟩ : ∃ s, bsN k 7 = s := ⟨_, rfl⟩
                    rw [hse] at hs ⊢
                    have Hse := Lib.hid hse
                    clear hse
                    have e1 : bits .and .u32 (s : Int) 1 = ((s % 2 : Nat) : Int) := by have := u32_and_nat s 1 hs (by omega); rw [and1] at this; exact this
                    have e2 := cx (s / 2) bsP (by omega) bsP_lt
                    have e2' : bits .xor .u32 ((s : Int) / 2) 3988292384 = ((s / 2 ^^^ bsP : Nat) : Int) := e2
                    clear e2
                    by_cases hp : s % 2 = 1
                    · rw [hp] at e1
                      have Hp := Lib.hid hp
                      clear hp
                      go_wp2
                      go_round
                      case rel => exact ⟨k + 1, by omega, by go_num, by show _ = Value.int .u32 ((bs (bsN k 7) : Nat) : Int); rw [Hse.out]; unfold bs; rw [if_pos Hp.out]⟩
                      case measure => simp [intOf]; omega
                    · rw [show s % 2 = 0 by omega] at e1
                      have Hp := Lib.hid hp
                      clear hp
                      go_wp2
                      go_round
                      case rel => exact ⟨k + 1, by omega, by go_num, by show _ = Value.int .u32 ((bs (bsN k 7) : Nat) : Int); rw [Hse.out]; unfold bs; rw [if_neg Hp.out]; rfl⟩
                      case measure => simp [intOf]; omega
                  obtain rfl : k = 4 := by omega
                  clear hk hlt
                  have hT : bsN 4 7 = bsT 7 := rfl
                  rw [hT]
                  clear hT
                  go_wp2
                  rw [rounds_succ]
                  go_wp2
                  go_loop [3, 9] (fun t j => ∃ k : Nat, k ≤ 4 ∧ j = .int .i64 k ∧ t = .int .u32 ((bsN k 8 : Nat) : Int)) (fun _ j => 4 - (intOf j).toNat)
                  case atStart => exact ⟨0, by omega, rfl, rfl⟩
                  case round =>
                    obtain ⟨k, hk, rfl, rfl⟩ := hrel
                    by_cases hlt : k < 4
                    · have hs := bsN_lt (s := 8) (by omega) k
                      obtain ⟨s, hse⟩ : ∃ s, bsN k 8 = s := ⟨_, rfl⟩
                      rw [hse] at hs ⊢
                      have Hse := Lib.hid hse
                      clear hse
                      have e1 : bits .and .u32 (s : Int) 1 = ((s % 2 : Nat) : Int) := by have := u32_and_nat s 1 hs (by omega); rw [and1] at this; exact this
                      have e2 := cx (s / 2) bsP (by omega) bsP_lt
                      have e2' : bits .xor .u32 ((s : Int) / 2) 3988292384 = ((s / 2 ^^^ bsP : Nat) : Int) := e2
                      clear e2
                      by_cases hp : s % 2 = 1
                      · rw [hp] at e1
                        have Hp := Lib.hid hp
                        clear hp
                        go_wp2
                        go_round
                        case rel => exact ⟨k + 1, by omega, by go_num, by show _ = Value.int .u32 ((bs (bsN k 8) : Nat) : Int); rw [Hse.out]; unfold bs; rw [if_pos Hp.out]⟩
                        case measure => simp [intOf]; omega
                      · rw [show s % 2 = 0 by omega] at e1
                        have Hp := Lib.hid hp
                        clear hp
                        go_wp2
                        go_round
                        case rel => exact ⟨k + 1, by omega, by go_num, by show _ = Value.int .u32 ((bs (bsN k 8) : Nat) : Int); rw [Hse.out]; unfold bs; rw [if_neg Hp.out]; rfl⟩
                        case measure => simp [intOf]; omega
                    obtain rfl : k = 4 := by omega
                    clear hk hlt
                    have hT : bsN 4 8 = bsT 8 := rfl
                    rw [hT]
                    clear hT
                    go_wp2
                    rw [rounds_succ]
                    go_wp2
                    go_loop [3, 9] (fun t j => ∃ k : Nat, k ≤ 4 ∧ j = .int .i64 k ∧ t = .int .u32 ((bsN k 9 : Nat) : Int)) (fun _ j => 4 - (intOf j).toNat)
                    case atStart => exact ⟨0, by omega, rfl, rfl⟩
                    case round =>
                      obtain ⟨k, hk, rfl, rfl⟩ := hrel
                      by_cases hlt : k < 4
                      · have hs := bsN_lt (s := 9) (by omega) k
                        obtain ⟨s, hse⟩ : ∃ s, bsN k 9 = s := ⟨_, rfl⟩
                        rw [hse] at hs ⊢
                        have Hse := Lib.hid hse
                        clear hse
                        have e1 : bits .and .u32 (s : Int) 1 = ((s % 2 : Nat) : Int) := by have := u32_and_nat s 1 hs (by omega); rw [and1] at this; exact this
                        have e2 := cx (s / 2) bsP (by omega) bsP_lt
                        have e2' : bits .xor .u32 ((s : Int) / 2) 3988292384 = ((s / 2 ^^^ bsP : Nat) : Int) := e2
                        clear e2
                        by_cases hp : s % 2 = 1
                        · rw [hp] at e1
                          have Hp := Lib.hid hp
                          clear hp
                          go_wp2
                          go_round
                          case rel => exact ⟨k + 1, by omega, by go_num, by show _ = Value.int .u32 ((bs (bsN k 9) : Nat) : Int); rw [Hse.out]; unfold bs; rw [if_pos Hp.out]⟩
                          case measure => simp [intOf]; omega
                        · rw [show s % 2 = 0 by omega] at e1
                          have Hp := Lib.hid hp
                          clear hp
                          go_wp2
                          go_round
                          case rel => exact ⟨k + 1, by omega, by go_num, by show _ = Value.int .u32 ((bs (bsN k 9) : Nat) : Int); rw [Hse.out]; unfold bs; rw [if_neg Hp.out]; rfl⟩
                          case measure => simp [intOf]; omega
                      obtain rfl : k = 4 := by omega
                      clear hk hlt
                      have hT : bsN 4 9 = bsT 9 := rfl
                      rw [hT]
                      clear hT
                      go_wp2
                      rw [rounds_succ]
                      go_wp2
                      go_loop [3, 9] (fun t j => ∃ k : Nat, k ≤ 4 ∧ j = .int .i64 k ∧ t = .int .u32 ((bsN k 10 : Nat) : Int)) (fun _ j => 4 - (intOf j).toNat)
                      case atStart => exact ⟨0, by omega, rfl, rfl⟩
                      case round =>
                        obtain ⟨k, hk, rfl, rfl⟩ := hrel
                        by_cases hlt : k < 4
                        · have hs := bsN_lt (s := 10) (by omega) k
                          obtain ⟨s, hse⟩ : ∃ s, bsN k 10 = s := ⟨_, rfl⟩
                          rw [hse] at hs ⊢
                          have Hse := Lib.hid hse
                          clear hse
                          have e1 : bits .and .u32 (s : Int) 1 = ((s % 2 : Nat) : Int) := by have := u32_and_nat s 1 hs (by omega); rw [and1] at this; exact this
                          have e2 := cx (s / 2) bsP (by omega) bsP_lt
                          have e2' : bits .xor .u32 ((s : Int) / 2) 3988292384 = ((s / 2 ^^^ bsP : Nat) : Int) := e2
                          clear e2
                          by_cases hp : s % 2 = 1
                          · rw [hp] at e1
                            have Hp := Lib.hid hp
                            clear hp
                            go_wp2
                            go_round
                            case rel => exact ⟨k + 1, by omega, by go_num, by show _ = Value.int .u32 ((bs (bsN k 10) : Nat) : Int); rw [Hse.out]; unfold bs; rw [if_pos Hp.out]⟩
                            case measure => simp [intOf]; omega
                          · rw [show s % 2 = 0 by omega] at e1
                            have Hp := Lib.hid hp
                            clear hp
                            go_wp2
                            go_round
                            case rel => exact ⟨k + 1, by omega, by go_num, by show _ = Value.int .u32 ((bs (bsN k 10) : Nat) : Int); rw [Hse.out]; unfold bs; rw [if_neg Hp.out]; rfl⟩
                            case measure => simp [intOf]; omega
                        obtain rfl : k = 4 := by omega
                        clear hk hlt
                        have hT : bsN 4 10 = bsT 10 := rfl
                        rw [hT]
                        clear hT
                        go_wp2
                        rw [rounds_succ]
                        go_wp2
                        go_loop [3, 9] (fun t j => ∃ k : Nat, k ≤ 4 ∧ j = .int .i64 k ∧ t = .int .u32 ((bsN k 11 : Nat) : Int)) (fun _ j => 4 - (intOf j).toNat)
                        case atStart => exact ⟨0, by omega, rfl, rfl⟩
                        case round =>
                          obtain ⟨k, hk, rfl, rfl⟩ := hrel
                          by_cases hlt : k < 4
                          · have hs := bsN_lt (s := 11) (by omega) k
                            obtain ⟨s, hse⟩ : ∃ s, bsN k 11 = s := ⟨_, rfl⟩
                            rw [hse] at hs ⊢
                            have Hse := Lib.hid hse
                            clear hse
                            have e1 : bits .and .u32 (s : Int) 1 = ((s % 2 : Nat) : Int) := by have := u32_and_nat s 1 hs (by omega); rw [and1] at this; exact this
                            have e2 := cx (s / 2) bsP (by omega) bsP_lt
                            have e2' : bits .xor .u32 ((s : Int) / 2) 3988292384 = ((s / 2 ^^^ bsP : Nat) : Int) := e2
                            clear e2
                            by_cases hp : s % 2 = 1
                            · rw [hp] at e1
                              have Hp := Lib.hid hp
                              clear hp
                              go_wp2
                              go_round
                              case rel => exact ⟨k + 1, by omega, by go_num, by show _ = Value.int .u32 ((bs (bsN k 11) : Nat) : Int); rw [Hse.out]; unfold bs; rw [if_pos Hp.out]⟩
                              case measure => simp [intOf]; omega
                            · rw [show s % 2 = 0 by omega] at e1
                              have Hp := Lib.hid hp
                              clear hp
                              go_wp2
                              go_round
                              case rel => exact ⟨k + 1, by omega, by go_num, by show _ = Value.int .u32 ((bs (bsN k 11) : Nat) : Int); rw [Hse.out]; unfold bs; rw [if_neg Hp.out]; rfl⟩
                              case measure => simp [intOf]; omega
                          obtain rfl : k = 4 := by omega
                          clear hk hlt
                          have hT : bsN 4 11 = bsT 11 := rfl
                          rw [hT]
                          clear hT
                          go_wp2
                          rw [rounds_succ]
                          go_wp2
                          go_loop [3, 9] (fun t j => ∃ k : Nat, k ≤ 4 ∧ j = .int .i64 k ∧ t = .int .u32 ((bsN k 12 : Nat) : Int)) (fun _ j => 4 - (intOf j).toNat)
                          case atStart => exact ⟨0, by omega, rfl, rfl⟩
                          case round =>
                            obtain ⟨k, hk, rfl, rfl⟩ := hrel
                            by_cases hlt : k < 4
                            · have hs := bsN_lt (s := 12) (by omega) k
                              obtain ⟨s, hse⟩ : ∃ s, bsN k 12 = s := ⟨_, rfl⟩
                              rw [hse] at hs ⊢
                              have Hse := Lib.hid hse
                              clear hse
                              have e1 : bits .and .u32 (s : Int) 1 = ((s % 2 : Nat) : Int) := by have := u32_and_nat s 1 hs (by omega); rw [and1] at this; exact this
                              have e2 := cx (s / 2) bsP (by omega) bsP_lt
                              have e2' : bits .xor .u32 ((s : Int) / 2) 3988292384 = ((s / 2 ^^^ bsP : Nat) : Int) := e2
                              clear e2
                              by_cases hp : s % 2 = 1
                              · rw [hp] at e1
                                have Hp := Lib.hid hp
                                clear hp
                                go_wp2
                                go_round
                                case rel => exact ⟨k + 1, by omega, by go_num, by show _ = Value.int .u32 ((bs (bsN k 12) : Nat) : Int); rw [Hse.out]; unfold bs; rw [if_pos Hp.out]⟩
                                case measure => simp [intOf]; omega
                              · rw [show s % 2 = 0 by omega] at e1
                                have Hp := Lib.hid hp
                                clear hp
                                go_wp2
                                go_round
                                case rel => exact ⟨k + 1, by omega, by go_num, by show _ = Value.int .u32 ((bs (bsN k 12) : Nat) : Int); rw [Hse.out]; unfold bs; rw [if_neg Hp.out]; rfl⟩
                                case measure => simp [intOf]; omega
                            obtain rfl : k = 4 := by omega
                            clear hk hlt
                            have hT : bsN 4 12 = bsT 12 := rfl
                            rw [hT]
                            clear hT
                            go_wp2
                            rw [rounds_succ]
                            go_wp2
                            go_loop [3, 9] (fun t j => ∃ k : Nat, k ≤ 4 ∧ j = .int .i64 k ∧ t = .int .u32 ((bsN k 13 : Nat) : Int)) (fun _ j => 4 - (intOf j).toNat)
                            case atStart => exact ⟨0, by omega, rfl, rfl⟩
                            case round =>
                              obtain ⟨k, hk, rfl, rfl⟩ := hrel
                              by_cases hlt : k < 4
                              · have hs := bsN_lt (s := 13) (by omega) k
                                obtain ⟨s, hse⟩ : ∃ s, bsN k 13 = s := ⟨_, rfl⟩
                                rw [hse] at hs ⊢
                                have Hse := Lib.hid hse
                                clear hse
                                have e1 : bits .and .u32 (s : Int) 1 = ((s % 2 : Nat) : Int) := by have := u32_and_nat s 1 hs (by omega); rw [and1] at this; exact this
                                have e2 := cx (s / 2) bsP (by omega) bsP_lt
                                have e2' : bits .xor .u32 ((s : Int) / 2) 3988292384 = ((s / 2 ^^^ bsP : Nat) : Int) := e2
                                clear e2
                                by_cases hp : s % 2 = 1
                                · rw [hp] at e1
                                  have Hp := Lib.hid hp
                                  clear hp
                                  go_wp2
                                  go_round
                                  case rel => exact ⟨k + 1, by omega, by go_num, by show _ = Value.int .u32 ((bs (bsN k 13) : Nat) : Int); rw [Hse.out]; unfold bs; rw [if_pos Hp.out]⟩
                                  case measure => simp [intOf]; omega
                                · rw [show s % 2 = 0 by omega] at e1
                                  have Hp := Lib.hid hp
                                  clear hp
                                  go_wp2
                                  go_round
                                  case rel => exact ⟨k + 1, by omega, by go_num, by show _ = Value.int .u32 ((bs (bsN k 13) : Nat) : Int); rw [Hse.out]; unfold bs; rw [if_neg Hp.out]; rfl⟩
                                  case measure => simp [intOf]; omega
                              obtain rfl : k = 4 := by omega
                              clear hk hlt
                              have hT : bsN 4 13 = bsT 13 := rfl
                              rw [hT]
                              clear hT
                              go_wp2
                              rw [rounds_succ]
                              go_wp2
                              go_loop [3, 9] (fun t j => ∃ k : Nat, k ≤ 4 ∧ j = .int .i64 k ∧ t = .int .u32 ((bsN k 14 : Nat) : Int)) (fun _ j => 4 - (intOf j).toNat)
                              case atStart => exact ⟨0, by omega, rfl, rfl⟩
                              case round =>
                                obtain ⟨k, hk, rfl, rfl⟩ := hrel
                                by_cases hlt : k < 4
                                · have hs := bsN_lt (s := 14) (by omega) k
                                  obtain ⟨s, hse⟩ : ∃ s, bsN k 14 = s := ⟨_, rfl⟩
                                  rw [hse] at hs ⊢
                                  have Hse := Lib.hid hse
                                  clear hse
                                  have e1 : bits .and .u32 (s : Int) 1 = ((s % 2 : Nat) : Int) := by have := u32_and_nat s 1 hs (by omega); rw [and1] at this; exact this
                                  have e2 := cx (s / 2) bsP (by omega) bsP_lt
                                  have e2' : bits .xor .u32 ((s : Int) / 2) 3988292384 = ((s / 2 ^^^ bsP : Nat) : Int) := e2
                                  clear e2
                                  by_cases hp : s % 2 = 1
                                  · rw [hp] at e1
                                    have Hp := Lib.hid hp
                                    clear hp
                                    go_wp2
                                    go_round
                                    case rel => exact ⟨k + 1, by omega, by go_num, by show _ = Value.int .u32 ((bs (bsN k 14) : Nat) : Int); rw [Hse.out]; unfold bs; rw [if_pos Hp.out]⟩
                                    case measure => simp [intOf]; omega
                                  · rw [show s % 2 = 0 by omega] at e1
                                    have Hp := Lib.hid hp
                                    clear hp
                                    go_wp2
                                    go_round
                                    case rel => exact ⟨k + 1, by omega, by go_num, by show _ = Value.int .u32 ((bs (bsN k 14) : Nat) : Int); rw [Hse.out]; unfold bs; rw [if_neg Hp.out]; rfl⟩
                                    case measure => simp [intOf]; omega
                                obtain rfl : k = 4 := by omega
                                clear hk hlt
                                have hT : bsN 4 14 = bsT 14 := rfl
                                rw [hT]
                                clear hT
                                go_wp2
                                rw [rounds_succ]
                                go_wp2
                                go_loop [3, 9] (fun t j => ∃ k : Nat, k ≤ 4 ∧ j = .int .i64 k ∧ t = .int .u32 ((bsN k 15 : Nat) : Int)) (fun _ j => 4 - (intOf j).toNat)
                                case atStart => exact ⟨0, by omega, rfl, rfl⟩
                                case round =>
                                  obtain ⟨k, hk, rfl, rfl⟩ := hrel
                                  by_cases hlt : k < 4
                                  · have hs := bsN_lt (s := 15) (by omega) k
                                    obtain ⟨s, hse⟩ : ∃ s, bsN k 15 = s := ⟨_, rfl⟩
                                    rw [hse] at hs ⊢
                                    have Hse := Lib.hid hse
                                    clear hse
                                    have e1 : bits .and .u32 (s : Int) 1 = ((s % 2 : Nat) : Int) := by have := u32_and_nat s 1 hs (by omega); rw [and1] at this; exact this
                                    have e2 := cx (s / 2) bsP (by omega) bsP_lt
                                    have e2' : bits .xor .u32 ((s : Int) / 2) 3988292384 = ((s / 2 ^^^ bsP : Nat) : Int) := e2
                                    clear e2
                                    by_cases hp : s % 2 = 1
                                    · rw [hp] at e1
                                      have Hp := Lib.hid hp
                                      clear hp
                                      go_wp2
                                      go_round
                                      case rel => exact ⟨k + 1, by omega, by go_num, by show _ = Value.int .u32 ((bs (bsN k 15) : Nat) : Int); rw [Hse.out]; unfold bs; rw [if_pos Hp.out]⟩
                                      case measure => simp [intOf]; omega
                                    · rw [show s % 2 = 0 by omega] at e1
                                      have Hp := Lib.hid hp
                                      clear hp
                                      go_wp2
                                      go_round
                                      case rel => exact ⟨k + 1, by omega, by go_num, by show _ = Value.int .u32 ((bs (bsN k 15) : Nat) : Int); rw [Hse.out]; unfold bs; rw [if_neg Hp.out]; rfl⟩
                                      case measure => simp [intOf]; omega
                                  obtain rfl : k = 4 := by omega
                                  clear hk hlt
                                  have hT : bsN 4 15 = bsT 15 := rfl
                                  rw [hT]
                                  clear hT
                                  go_wp2
                                  rw [rounds_succ]
                                  go_wp2
                                  go_returns
                                  exact ⟨rfl, by go_grown⟩
end Go.Proofs.Ytllnmpnncbfmlaa
