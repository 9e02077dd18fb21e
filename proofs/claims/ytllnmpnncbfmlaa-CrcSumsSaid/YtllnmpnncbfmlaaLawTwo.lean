/- Layer 2: the laws' walks. -/
import Derived.Test.YtllnmpnncbfmlaaCrcMore
import Derived.WalkSpells
import Derived.Lib.SlBytesConst
import Derived.Deep.QuietTactic
import Derived.BigQuiet
import Derived.Deep.RegionHeld3
namespace Go.Proofs.Ytllnmpnncbfmlaa
open Go.RowKit
theorem xor_ones (n : Nat) (h : n < 4294967296) : 4294967295 ^^^ n = 4294967295 - n := by
  apply Nat.eq_of_testBit_eq
  intro i
  rw [Nat.testBit_xor, show (4294967295 : Nat) - n = 2 ^ 32 - (n + 1) by omega, Nat.testBit_two_pow_sub_succ (by omega), show (4294967295 : Nat) = 2 ^ 32 - 1 by rfl, Nat.testBit_two_pow_sub_one]
  by_cases hi : i < 32
  · simp [hi]
  · have : n.testBit i = false := Nat.testBit_lt_two_pow (Nat.lt_of_lt_of_le h (Nat.pow_le_pow_right (n := 2) (by omega) (show 32 ≤ i by omega)))
    simp [hi, this]
theorem xor_max (n : Nat) (h : n < 4294967296) : bits BinOp.xor IntKind.u32 IntKind.u32.max (n : Int) = ((4294967295 - n : Nat) : Int) := by
  have := u32_xor_nat 4294967295 n (by omega) h
  rw [xor_ones n h] at this
  exact this
def crcF (l : List UInt8) : Nat := 4294967295 - crcO 4294967295 l
theorem crc_Of (v : Value) (l : List UInt8) (w : World) (hv : RowAt w v l.length (byteV l)) :
    Calls Try.prog 11 #[v] w fun e w' => e = .returned (.int .u32 ((crcF l : Nat) : Int)) ∧ Below w.heap.size w w' := by
  have hq := crcO_lt l (s := 4294967295) (by omega)
  go_enter Try.func11, Try.ntmps11
  go_wp2_with fail
  refine (crc_Over 4294967295 (by omega) _ l _ hv).mono ?_; rintro e w1 ⟨rfl, hb⟩
  go_wp2_with fail
  go_ret
  exact ⟨ret_u32 (xor_max _ hq), hb⟩
theorem ref02_Of (v : Value) (l : List UInt8) (w : World) (hv : RowAt w v l.length (byteV l)) :
    Calls Try.prog 12 #[v] w fun e w' => e = .returned (.int .u32 ((crcF l : Nat) : Int)) ∧ w = w' := by
  have hq := crcO_lt l (s := 4294967295) (by omega)
  go_enter Try.func12, Try.ntmps12
  go_wp2_with fail
  refine (ref02_Over 4294967295 (by omega) _ l _ hv).mono ?_; rintro e w' ⟨rfl, rfl⟩
  go_wp2_with fail
  go_ret
  exact ⟨ret_u32 (by unfold crcF; omega), rfl⟩
theorem law02_awake (w : World) : Calls Try.prog 6 #[] w fun e w' => e = .returned (.bool true) ∧ Below w.heap.size w w' := by
  have hF : crcF [49, 50, 51, 52, 53, 54, 55, 56, 57] = 3421780262 := by decide +kernel
  have kc := fun (w : World) (C : Array Value) (n c : Nat) => Lib.run_convert_bytes_const (P := Try.prog) w 23 5 C n c Try.underlying23 Try.underlying5
  go_enter Try.func6, Try.ntmps6
  go_wp2_with fail
  refine (crc_Of _ [49, 50, 51, 52, 53, 54, 55, 56, 57] _ ?_).mono ?_
  · refine RowAt.new _ _ _ _ _ 9 9 (by omega) (by omega) (by omega) fun i hi => ?_
    obtain rfl | rfl | rfl | rfl | rfl | rfl | rfl | rfl | rfl : i = 0 ∨ i = 1 ∨ i = 2 ∨ i = 3 ∨ i = 4 ∨ i = 5 ∨ i = 6 ∨ i = 7 ∨ i = 8 := by omega
    all_goals rfl
  rintro e w1 ⟨rfl, hb⟩
  rw [hF]
  have hz := hb.size
  simp only [World.size_alloc] at hz hb
  go_wp2_with fail
  go_ret
  exact ⟨rfl, ((Below.refl _ _).alloc (Nat.le_refl _) _).trans (hb.mono (by omega))⟩
theorem crcSums_walk (s : Nat) (hs : s < 4294967296) (v : Value) (l : List UInt8) (w : World) (hv : RowAt w v l.length (byteV l)) :
    Calls Try.prog 3 #[.int .u32 (s : Int), v] w fun e w' => e = .returned (.bool true) ∧ Below w.heap.size w w' := by
  have hle := hv.le
  by_cases h5 : 500 < l.length
  · rcases id hv with ⟨a, cap, rfl, h0, _⟩ | ⟨b, off, cap, rfl, h1, h2, h3, h4, hcell⟩
    · omega
    clear hcell hv
    go_enter Try.func3, Try.ntmps3
    go_wp2_with fail
    refine (law02_awake _).mono ?_; rintro e w1 ⟨rfl, hb⟩
    go_wp2_with fail
    go_ret
    exact ⟨rfl, hb⟩
  rcases id hv with ⟨a, cap, rfl, h0, _⟩ | ⟨b, off, cap, rfl, h1, h2, h3, h4, hcell⟩
  · obtain rfl : l = [] := List.length_eq_zero_iff.1 h0
    have Hv := Lib.hid hv
    clear hv
    go_enter Try.func3, Try.ntmps3
    go_wp2_with fail
    go_quiet (fail)
    go_wp2_with fail
    have hb0 := Below_drewN w.heap.size w nq
    generalize w.drewN nq = w0 at *
    refine (crc_Over s hs _ [] _ (Hv.out.below hb0)).mono ?_; rintro e w1 ⟨rfl, hb1⟩
    have hb1 := hb0.trans (hb1.mono hb0.size)
    go_wp2_with fail
    refine (ref02_Over s hs _ [] _ (Hv.out.below hb1)).mono ?_; rintro e w' ⟨rfl, rfl⟩
    go_wp2_with fail
    refine (crc_Of _ [] _ (Hv.out.below hb1)).mono ?_; rintro e w2 ⟨rfl, hb2⟩
    have hb2 := hb1.trans (hb2.mono hb1.size)
    go_wp2_with fail
    refine (ref02_Of _ [] _ (Hv.out.below hb2)).mono ?_; rintro e w' ⟨rfl, rfl⟩
    go_wp2_with fail
    refine (law02_awake _).mono ?_; rintro e w3 ⟨rfl, hb3⟩
    have hb3 := hb2.trans (hb3.mono hb2.size)
    go_wp2_with fail
    go_ret
    exact ⟨rfl, hb3⟩
  · have Hv := Lib.hid hv
    have hc := hcell 0 h1
    have hbt := (l.getD 0 0).toNat_lt
    unfold byteV at hc
    generalize (l.getD 0 0).toNat = c at *
    clear hv hcell
    have hb4 : b < w.heap.size := h4
    rw [Nat.add_zero] at hc
    have hR := Below.refl w.heap.size w
    go_enter Try.func3, Try.ntmps3
    go_wp2_with fail
    go_region_held3 (fun w' => w'.cell? ⟨b, off, none⟩ = some (.int .u8 (c : Int)) ∧ Below w.heap.size w w')
      (first
        | (go_keep; done)
        | (try go_split_ands
           refine ⟨?_, ?_⟩
           · first | assumption | (simp only [World.cell?_drew]; assumption) | exact cellStep ‹Below w.heap.size w _› hbx hb4 ‹_›
           · first | assumption | exact Below.drew ‹_› | exact belowStep ‹_› hbx))
      (first | (go_at_call 7; refine (crc_Next s c hs hbt _).mono ?_; rintro e w1 ⟨rfl, hbx⟩) | (go_at_call 8; refine (ref02_Next s c hs hbt _).mono ?_; rintro e w' ⟨rfl, rfl⟩))
    have hb0 : Below w.heap.size w w1 := (‹_ ∧ Below w.heap.size w w1›).2
    clear hbx hc
    go_wp2_with fail
    refine (crc_Over s hs _ l _ (Hv.out.below hb0)).mono ?_; rintro e w2 ⟨rfl, hb2⟩
    have hb2 := hb0.trans (hb2.mono hb0.size)
    go_wp2_with fail
    refine (ref02_Over s hs _ l _ (Hv.out.below hb2)).mono ?_; rintro e w' ⟨rfl, rfl⟩
    go_wp2_with fail
    refine (crc_Of _ l _ (Hv.out.below hb2)).mono ?_; rintro e w3 ⟨rfl, hb3⟩
    have hb3 := hb2.trans (hb3.mono hb2.size)
    go_wp2_with fail
    refine (ref02_Of _ l _ (Hv.out.below hb3)).mono ?_; rintro e w' ⟨rfl, rfl⟩
    go_wp2_with fail
    refine (law02_awake _).mono ?_; rintro e w4 ⟨rfl, hb4⟩
    have hb4 := hb3.trans (hb4.mono hb3.size)
    go_wp2_with fail
    go_ret
    exact ⟨rfl, hb4⟩
theorem info8 : (Try.prog.info? 5).map (fun i => (i.zero, i.size, i.bytes)) = some (some (.int .u8 0), 1, 1) := by kernel_rfl
set_option maxHeartbeats 400000 in
theorem crcParts_walk (s : Nat) (hs : s < 4294967296) (va vb : Value) (la lb : List UInt8) (w : World) (ha : RowAt w va la.length (byteV la)) (hb : RowAt w vb lb.length (byteV lb)) :
    Calls Try.prog 4 #[.int .u32 (s : Int), va, vb] w fun e w' => e = .returned (.bool true) ∧ Below w.heap.size w w' := by
  have hla := ha.le
  have hlb := hb.le
  obtain ⟨a0, ca, rfl⟩ : ∃ a0 ca, va = .slice a0 la.length ca := by
    rcases ha with ⟨a, cap, rfl, h0, _⟩ | ⟨b, off, cap, rfl, _⟩
    · exact ⟨a, cap, by rw [h0]⟩
    · exact ⟨_, cap, rfl⟩
  obtain ⟨b0, cb, rfl⟩ : ∃ b0 cb, vb = .slice b0 lb.length cb := by
    rcases hb with ⟨a, cap, rfl, h0, _⟩ | ⟨b, off, cap, rfl, _⟩
    · exact ⟨a, cap, by rw [h0]⟩
    · exact ⟨_, cap, rfl⟩
  by_cases h1 : 500 < la.length
  · clear ha hb
    go_enter Try.func4, Try.ntmps4
    go_wp2_with fail
    refine (law02_awake _).mono ?_; rintro e w1 ⟨rfl, hb1⟩
    go_wp2_with fail
    go_ret
    exact ⟨rfl, hb1⟩
  by_cases h2 : 500 < lb.length
  · clear ha hb
    go_enter Try.func4, Try.ntmps4
    go_wp2_with fail
    refine (law02_awake _).mono ?_; rintro e w1 ⟨rfl, hb1⟩
    go_wp2_with fail
    go_ret
    exact ⟨rfl, hb1⟩
  have Ha := Lib.hid ha
  have Hb := Lib.hid hb
  clear ha hb
  obtain ⟨i0, hi, hz0, hz1, hz2⟩ := info_parts info8
  have hnew := World.ownsRow_made (base := w.heap.size) (e := 5) (size := 1) w #[] 0 (Nat.le_refl _) (by decide) rfl
  have hB0 : Below w.heap.size w (w.alloc (.cells #[] 5)) := (Below.refl _ _).alloc (Nat.le_refl _) _
  go_enter Try.func4, Try.ntmps4
  go_wp2_with (first
    | (at_builtin; refine wpList_append_row1 rfl (.tmp 17) (.tmp 18) 23 rfl w.heap.size 5 i0 (.int .u8 0) 1 Try.underlying23 hi hz0 hz1 hz2 rfl _ _ _ rfl hnew _ la.length (byteV la) rfl (Ha.out.below hB0) (fun _ _ => rfl) (by unfold maxLen; omega) (by omega) (by simp) ?_; intro v1 w1 hown1 hg1; have hB1 : Below w.heap.size w w1 := hB0.grown hg1 (by simp) (fun k hk => (hnew.lt k hk).1); have hz := hB1.size; have Hown1 := Lib.hid hown1; clear hown1 hg1 hnew)
    | (at_builtin; refine wpList_append_row1 rfl (.tmp 19) (.tmp 20) 23 rfl w.heap.size 5 i0 (.int .u8 0) 1 Try.underlying23 hi hz0 hz1 hz2 rfl _ _ _ rfl Hown1.out _ lb.length (byteV lb) rfl (Hb.out.below hB1) (fun _ _ => rfl) (by unfold maxLen; omega) (by omega) hz ?_; intro v2 w2 hown2 hg2)
    | fail)
  have hB2 : Below w.heap.size w w2 := hB1.grown hg2 hz (fun k hk => (Hown1.out.lt k hk).1)
  have hrow2 : RowAt w2 v2 (la ++ lb).length (byteV (la ++ lb)) := by
    refine RowAt.owns (base := w.heap.size) (e := 5) (xs := (la ++ lb).map fun c => Value.int .u8 (c.toNat : Int)) ?_ (fun i hi => byteV_at hi)
    rw [map_byteV, map_byteV] at hown2
    simpa using hown2
  have H2 := Lib.hid hrow2
  clear hrow2 hown2 hg2 Hown1
  have hq := crcO_lt la hs
  have Happ := Lib.hid (crcO_append s la lb)
  go_wp2_with fail
  refine (crc_Over s hs _ la _ (Ha.out.below hB2)).mono ?_; rintro e w3 ⟨rfl, hb3⟩
  have Hb3 := Lib.hid hb3
  have hb3 := hB2.trans (hb3.mono hB2.size)
  go_wp2_with fail
  refine (crc_Over _ hq _ lb _ (Hb.out.below hb3)).mono ?_; rintro e w4 ⟨rfl, hb4⟩
  have hb3' : Below w2.heap.size w2 w3 := Hb3.out
  have hb4' : Below w2.heap.size w2 w4 := belowStep hb3' hb4
  go_wp2_with fail
  refine (crc_Over s hs _ (la ++ lb) _ (H2.out.below hb4')).mono ?_; rintro e w5 ⟨rfl, hb5⟩
  rw [Happ.out]
  go_wp2_with fail
  refine (law02_awake _).mono ?_; rintro e w6 ⟨rfl, hb6⟩
  go_wp2_with fail
  go_ret
  exact ⟨rfl, belowStep (belowStep (belowStep hb3 hb4) hb5) hb6⟩
set_option maxHeartbeats 400000 in
theorem crcTells_walk (va : Value) (la : List UInt8) (at_ : Int) (hat : -9223372036854775808 ≤ at_ ∧ at_ ≤ 9223372036854775807) (c : UInt8) (w : World) (ha : RowAt w va la.length (byteV la)) :
    Calls Try.prog 5 #[va, .int .i64 at_, .int .u8 (c.toNat : Int)] w fun e w' => e = .returned (.bool true) ∧ Below w.heap.size w w' := by
  have hla := ha.le
  obtain ⟨hat1, hat2⟩ := hat
  by_cases hout : 500 < la.length ∨ at_ < 0 ∨ (la.length : Int) ≤ at_
  · obtain ⟨a0, ca, rfl⟩ : ∃ a0 ca, va = .slice a0 la.length ca := by
      rcases ha with ⟨a, cap, rfl, h0, _⟩ | ⟨b, off, cap, rfl, _⟩
      · exact ⟨a, cap, by rw [h0]⟩
      · exact ⟨_, cap, rfl⟩
    clear ha
    by_cases h1 : 500 < la.length
    · clear hout
      go_enter Try.func5, Try.ntmps5
      go_wp2_with fail
      refine (law02_awake _).mono ?_; rintro e w1 ⟨rfl, hb1⟩
      go_wp2_with fail
      go_ret
      exact ⟨rfl, hb1⟩
    by_cases h2 : at_ < 0
    · clear hout
      go_enter Try.func5, Try.ntmps5
      go_wp2_with fail
      refine (law02_awake _).mono ?_; rintro e w1 ⟨rfl, hb1⟩
      go_wp2_with fail
      go_ret
      exact ⟨rfl, hb1⟩
    have h3 : (la.length : Int) ≤ at_ := by omega
    clear hout
    go_enter Try.func5, Try.ntmps5
    go_wp2_with fail
    refine (law02_awake _).mono ?_; rintro e w1 ⟨rfl, hb1⟩
    go_wp2_with fail
    go_ret
    exact ⟨rfl, hb1⟩
  obtain ⟨k, rfl⟩ : ∃ k : Nat, at_ = k := ⟨at_.toNat, by omega⟩
  have hk : k < la.length := by omega
  have hl5 : la.length ≤ 500 := by omega
  have Ha := Lib.hid ha
  rcases ha with ⟨a, cap, rfl, h0, _⟩ | ⟨b, off, cap, rfl, h1, h2, h3, h4, hcell⟩
  · omega
  have hc := hcell k hk
  clear hcell hout
  have hcb := c.toNat_lt
  have hne := crcO_set la k hk c
  have hgd : la.getD k 0 = la[k] := by simp [List.getD, hk]
  unfold byteV at hc
  rw [hgd] at hc
  by_cases heq : la[k] = c
  · rw [heq] at hc
    clear hne
    go_enter Try.func5, Try.ntmps5
    go_wp2_with fail
    refine (law02_awake _).mono ?_; rintro e w1 ⟨rfl, hb1⟩
    go_wp2_with fail
    go_ret
    exact ⟨rfl, hb1⟩
  have e1 : (((la[k].toNat : Nat) : Int) == ((c.toNat : Nat) : Int)) = false := by
    rw [beq_eq_false_iff_ne]
    intro h
    exact heq (UInt8.toNat_inj.1 (by omega))
  have Hne := Lib.hid (hne heq (s := 4294967295) (by omega))
  clear hne heq
  obtain ⟨i0, hi, hz0, hz1, hz2⟩ := info_parts info8
  go_enter Try.func5, Try.ntmps5
  have hnew := World.ownsRow_made (base := w.heap.size) (e := 5) (size := 1) w #[] 0 (Nat.le_refl _) (by decide) rfl
  have hB0 : Below w.heap.size w (w.alloc (.cells #[] 5)) := (Below.refl _ _).alloc (Nat.le_refl _) _
  go_wp2_with (first
    | (at_builtin; refine wpList_append_row1 rfl (.tmp 30) (.tmp 31) 23 rfl w.heap.size 5 i0 (.int .u8 0) 1 Try.underlying23 hi hz0 hz1 hz2 rfl _ _ _ rfl hnew _ la.length (byteV la) rfl (Ha.out.below hB0) (fun _ _ => rfl) (by unfold maxLen; omega) (by omega) (by simp) ?_; intro v1 w1 hown1 hg1; have hB1 : Below w.heap.size w w1 := hB0.grown hg1 (by simp) (fun k hk => (hnew.lt k hk).1); obtain ⟨g, cap1, rfl, hc1, hg2, hg3⟩ := owns_slice hown1 (by omega); obtain ⟨u, hxu, hu⟩ := owns_cell hown1 k (by omega); have hfz := hown1.frozenAt k; have hst := Lib.hid (hown1.stored k (.int .u8 (c.toNat : Int))); clear hown1 hg1 hnew hxu)
    | fail)
  have hB2 : Below w.heap.size w (w1.setCell ⟨g, k, none⟩ (.int .u8 (c.toNat : Int))) := hB1.setCell hg2 _
  have hrow2 : RowAt (w1.setCell ⟨g, k, none⟩ (.int .u8 (c.toNat : Int))) (.slice (some ⟨g, 0, none⟩) (0 + la.length) cap1) (la.set k c).length (byteV (la.set k c)) := by
    refine RowAt.owns (base := w.heap.size) (e := 5) (xs := (la.set k c).map fun c => Value.int .u8 (c.toNat : Int)) ?_ (fun i hi => byteV_at hi)
    have h := hst.out.1
    rw [map_byteV] at h
    rw [List.map_set]
    simpa using h
  rw [Nat.zero_add] at hrow2
  have H2 := Lib.hid hrow2
  clear hrow2 hst hu hfz hc
  generalize w1.setCell ⟨g, k, none⟩ (.int .u8 (c.toNat : Int)) = w2 at *
  refine (crc_Of _ (la.set k c) _ H2.out).mono ?_; rintro e w3 ⟨rfl, hb3⟩
  have hb3 := hB2.trans (hb3.mono hB2.size)
  go_wp2_with fail
  refine (crc_Of _ la _ (Ha.out.below hb3)).mono ?_; rintro e w4 ⟨rfl, hb4⟩
  have hn := crcO_lt (la.set k c) (s := 4294967295) (by omega)
  have hm := crcO_lt la (s := 4294967295) (by omega)
  have hneq : (((crcF (la.set k c) : Nat) : Int) != ((crcF la : Nat) : Int)) = true := by
    rw [bne_iff_ne]
    intro h
    unfold crcF at h
    exact Hne.out (by omega)
  clear hn hm
  go_wp2_with fail
  refine (law02_awake _).mono ?_; rintro e w5 ⟨rfl, hb5⟩
  go_wp2_with fail
  go_ret
  exact ⟨rfl, belowStep (belowStep hb3 hb4) hb5⟩
/-- as the last step gives its arguments -/
theorem crcSums_law (s : Int) (hs : 0 ≤ s ∧ s ≤ 4294967295) (v : Value) (l : List UInt8) (w : World) (hv : RowAt w v l.length (byteV l)) :
    Calls Try.prog 3 #[.int .u32 s, v] w fun e w' => e = .returned (.bool true) ∧ Below w.heap.size w w' := by
  obtain ⟨n, rfl⟩ : ∃ n : Nat, s = n := ⟨s.toNat, by omega⟩
  exact crcSums_walk n (by omega) v l w hv
theorem crcParts_law (s : Int) (hs : 0 ≤ s ∧ s ≤ 4294967295) (va vb : Value) (la lb : List UInt8) (w : World) (ha : RowAt w va la.length (byteV la)) (hb : RowAt w vb lb.length (byteV lb)) :
    Calls Try.prog 4 #[.int .u32 s, va, vb] w fun e w' => e = .returned (.bool true) ∧ Below w.heap.size w w' := by
  obtain ⟨n, rfl⟩ : ∃ n : Nat, s = n := ⟨s.toNat, by omega⟩
  exact crcParts_walk n (by omega) va vb la lb w ha hb
theorem crcTells_law (va : Value) (la : List UInt8) (k : Int) (hk : -9223372036854775808 ≤ k ∧ k ≤ 9223372036854775807) (c : Int) (hc : 0 ≤ c ∧ c ≤ 255) (w : World) (ha : RowAt w va la.length (byteV la)) :
    Calls Try.prog 5 #[va, .int .i64 k, .int .u8 c] w fun e w' => e = .returned (.bool true) ∧ Below w.heap.size w w' := by
  have h := crcTells_walk va la k hk (UInt8.ofNat c.toNat) w ha
  rw [UInt8.toNat_ofNat', show ((c.toNat % 2 ^ 8 : Nat) : Int) = c by omega] at h
  exact h
end Go.Proofs.Ytllnmpnncbfmlaa
