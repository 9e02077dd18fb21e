/- Layer 4: the contract of Parse. -/
import Derived.Test.YtmjhjcfjgefdiaaDoorNumTrim
namespace Go.Proofs.YtmjhjcfjgefdiaaDoor
open Go.RowKit
set_option linter.unusedSimpArgs false
set_option linter.unusedVariables false
def vz (l : List UInt8) : Int := (vl l : Int) % 18446744073709551616
theorem vz_bd (l : List UInt8) : 0 ≤ vz l ∧ vz l < 18446744073709551616 := by unfold vz; omega
theorem vz_snoc (l : List UInt8) (c : UInt8) (h : 48 ≤ c.toNat) : vz (l ++ [c]) = ((vz l * 10) % 18446744073709551616 + ((c.toNat : Int) - 48)) % 18446744073709551616 := by
  unfold vz; rw [vl_snoc]; omega
theorem take_step {l : List UInt8} {k : Nat} (h : k < l.length) : l.take (k + 1) = l.take k ++ [l.getD k 0] := by
  rw [List.take_add_one]
  simp [List.getD, h]
theorem kw_u64 (v : Int) : IntKind.u64.wrap v = v % 18446744073709551616 := by simp [IntKind.wrap, IntKind.signed, IntKind.bits]
theorem gn_no {l : List UInt8} (h : isNum l = false) : gn l = 0 := by unfold gn; rw [h]; exact if_neg (by decide)
theorem gn_yes {l : List UInt8} (h : isNum l = true) : gn l = pv l := by unfold gn; rw [h]; exact if_pos rfl
theorem prS_list (n : Int) : (prS n).toList = pr n := by
  simp [prS]
theorem cell_newD (w : World) (C : Array Value) (t : TypeId) (fr : Nat × Nat) (i : Nat) {v : Value} (h : C[i]? = some v) : (w.drew.alloc (.cells C t fr)).cell? ⟨w.heap.size, i, none⟩ = some v := cell_new w.drew C t fr i h
theorem below_newD (w : World) (o : Obj) : Below w.heap.size w (w.drew.alloc o) := (Below.refl _ _).drew.alloc (Nat.le_refl _) _
theorem row_bytes (l : List UInt8) (cap i : Nat) (hi : i < l.length) : (bytesRow ⟨l.toArray⟩ cap)[i]? = some (byteV l i) := by
  unfold bytesRow
  rw [Array.getElem?_append_left (by simpa using hi)]
  simp [byteV, List.getD, hi]
theorem bytes_of (P : Program) (w : World) (l : List UInt8) {src dst e : TypeId} (hs : P.underlying src = some .string) (hd : P.underlying dst = some (.slice e)) (he : P.underlying e = some (.int .u8)) :
    ∃ cap W, (convert src dst (.string ⟨l.toArray⟩)).run P w = .ok (.slice (some ⟨w.heap.size, 0, none⟩) l.length cap) W ∧ (∀ i, i < l.length → W.cell? ⟨w.heap.size, i, none⟩ = some (byteV l i)) ∧ Below w.heap.size w W := by
  have hsz : (⟨l.toArray⟩ : ByteArray).size = l.length := List.size_toArray
  have h := run_bytes_of_string w src dst e ⟨l.toArray⟩ hs hd he
  rw [hsz] at h
  generalize grownCap w l.length 0 e = cap at h
  have hrow := row_bytes l cap
  generalize bytesRow ⟨l.toArray⟩ cap = R at h hrow
  exact ⟨cap, _, h, fun i hi => cell_newD w R e _ i (hrow i hi), below_newD w _⟩
set_option maxHeartbeats 400000 in
theorem num_Parse (l : List UInt8) (hl : (l.length : Int) ≤ 9223372036854775807) (w : World) : Calls Tryd.prog 23 #[.string ⟨l.toArray⟩] w fun e w' => e = .returned (.tuple #[.int .i64 (gn l), .bool (isNum l)]) ∧ Below w.heap.size w w' := by
  by_cases hlong : 20 < l.length
  · have hn := isNum_long hlong
    have hg : gn l = 0 := by unfold gn; rw [hn]; rfl
    have Hn := Lib.hid hn
    have Hg := Lib.hid hg
    clear hn hg
    go_enter Tryd.func23, Tryd.ntmps23
    go_wp2_with fail
    go_returns
    exact ⟨by rw [Hn.out, Hg.out]; rfl, Below.refl _ _⟩
  · obtain ⟨B, hB⟩ : ∃ B, body l = B := ⟨_, rfl⟩
    have hBl : B.length ≤ 20 := by rw [← hB]; unfold body; split <;> (try simp) <;> omega
    obtain ⟨cap, W, hcv, hcell, hbel⟩ := bytes_of Tryd.prog w B Tryd.underlying9 Tryd.underlying49 Tryd.underlying5
    have HC := Lib.hid hcell
    have HBel := Lib.hid hbel
    clear hcell hbel
    go_enter Tryd.func23, Tryd.ntmps23
    go_wp2_with fail
    refine (strings_TrimPrefix l _).mono ?_; rintro e w1 ⟨rfl, rfl⟩
    rw [hB]
    have HB := Lib.hid hB
    clear hB
    go_wp2_with fail
    go_loopw [4, 14] (fun x j wr => ∃ k : Nat, k ≤ B.length ∧ j = .int .i64 k ∧ x = .int .u64 (vz (B.take k)) ∧ Hid (∀ c ∈ B.take k, 48 ≤ c.toNat ∧ c.toNat ≤ 57) ∧ wr = W) (fun _ j _ => B.length - (intOf j).toNat)
    case atStart => exact ⟨0, by omega, rfl, rfl, Lib.hid (by simp), rfl⟩
    case round =>
      obtain ⟨k, hk, rfl, rfl, hall, rfl⟩ := hrel
      obtain ⟨v1, v2⟩ := vz_bd (B.take k)
      by_cases hlt : k < B.length
      · have hc := HC.out k hlt
        have hstep := Lib.hid (take_step hlt)
        have hmem : B.getD k 0 ∈ B := by simp [List.getD, hlt]
        have h255 : (B.getD k 0).toNat < 256 := UInt8.toNat_lt _
        by_cases h48 : 48 ≤ (B.getD k 0).toNat
        · by_cases h57 : (B.getD k 0).toNat ≤ 57
          · have hs2 := Lib.hid (vz_snoc (B.take k) (B.getD k 0) h48)
            unfold byteV at hc
            generalize B.getD k 0 = c at *
            generalize vz (B.take k) = x at *
            go_wp2_with fail
            go_roundw
            case rel => exact ⟨k + 1, by omega, by simp, by rw [hstep.out, hs2.out, kw_u64, kw_u64], Lib.hid (fun d hd => by
              rw [hstep.out] at hd
              rcases List.mem_append.1 hd with hd | hd
              · exact hall.out d hd
              · obtain rfl := List.mem_singleton.1 hd; exact ⟨h48, h57⟩), trivial⟩
            case measure => simp [intOf]; omega
          · have hn := isNum_bad (l := l) (by rw [HB.out]; exact hmem) (fun h => h57 h.2)
            have Hg := Lib.hid (gn_no hn)
            have Hn := Lib.hid hn
            clear hn
            unfold byteV at hc
            have hgt : (57 < ((B.getD k 0).toNat : Int)) = True := eq_true (by omega)
            have hge : (((B.getD k 0).toNat : Int) < 48) = False := eq_false (by omega)
            clear HB HC hall hstep hmem h48 h57 v1 v2 h255
            generalize B.getD k 0 = c at *
            generalize vz (B.take k) = x at *
            go_wp2_with fail
            go_returns
            exact ⟨by rw [Hn.out, Hg.out]; rfl, HBel.out⟩
        · have hn := isNum_bad (l := l) (by rw [HB.out]; exact hmem) (fun h => h48 h.1)
          have Hg := Lib.hid (gn_no hn)
          have Hn := Lib.hid hn
          clear hn
          unfold byteV at hc
          have hge : (((B.getD k 0).toNat : Int) < 48) = True := eq_true (by omega)
          clear HB HC hall hstep hmem h48 v1 v2 h255
          generalize B.getD k 0 = c at *
          generalize vz (B.take k) = x at *
          go_wp2_with fail
          go_returns
          exact ⟨by rw [Hn.out, Hg.out]; rfl, HBel.out⟩
      · obtain rfl : k = B.length := by omega
        have hz := vz_bd B
        have HV := Lib.hid (show vz B = (vl B : Int) % 18446744073709551616 from rfl)
        rw [List.take_length] at *
        have HN := Lib.hid (show pv l = if isNeg l then wi (-(vl (body l) : Int)) else wi (vl (body l)) from rfl)
        rw [HB.out] at HN
        go_wp2_with fail
        refine (strings_HasPrefix l _).mono ?_; rintro e w1 ⟨rfl, rfl⟩
        cases hneg : isNeg l
        · rw [hneg] at HN
          have hpv : wrap64 (vz B) = pv l := by rw [HN.out, HV.out]; simp [wi, wrap64]
          have hpr := pv_range l
          obtain ⟨n, hn⟩ : ∃ n, pv l = n := ⟨_, rfl⟩
          rw [hn] at hpv hpr
          have HPV := Lib.hid hn
          clear hn
          generalize vz B = x at *
          go_wp2_with fail
          refine (num_Print n hpr _).mono ?_; rintro e w2 ⟨rfl, hb2⟩
          have hB2 := HBel.out.trans (hb2.mono HBel.out.size)
          have hpl := prS_list n
          cases hin : isNum l
          · have Hg := Lib.hid (gn_no hin)
            have hq : (pr (pv l) == l) = false := hin
            rw [HPV.out] at hq
            have Hin := Lib.hid hin
            clear hin
            go_wp2_with fail
            go_returns
            exact ⟨by rw [Hg.out, Hin.out]; rfl, hB2⟩
          · have Hg := Lib.hid (gn_yes hin)
            have hq : (pr (pv l) == l) = true := hin
            rw [HPV.out] at hq Hg
            have HW := Lib.hid hpv
            have Hin := Lib.hid hin
            clear hin
            go_wp2_with fail
            go_returns
            exact ⟨by rw [Hg.out, Hin.out, ← HW.out]; rfl, hB2⟩
        · rw [hneg] at HN
          have hpv : wrap64 (IntKind.u64.wrap (-(vz B))) = pv l := by rw [HN.out, HV.out, kw_u64]; simp [wi, wrap64]; omega
          have hpr := pv_range l
          obtain ⟨n, hn⟩ : ∃ n, pv l = n := ⟨_, rfl⟩
          rw [hn] at hpv hpr
          have HPV := Lib.hid hn
          clear hn
          generalize vz B = x at *
          go_wp2_with fail
          refine (num_Print n hpr _).mono ?_; rintro e w2 ⟨rfl, hb2⟩
          have hB2 := HBel.out.trans (hb2.mono HBel.out.size)
          have hpl := prS_list n
          cases hin : isNum l
          · have Hg := Lib.hid (gn_no hin)
            have hq : (pr (pv l) == l) = false := hin
            rw [HPV.out] at hq
            have Hin := Lib.hid hin
            clear hin
            go_wp2_with fail
            go_returns
            exact ⟨by rw [Hg.out, Hin.out]; rfl, hB2⟩
          · have Hg := Lib.hid (gn_yes hin)
            have hq : (pr (pv l) == l) = true := hin
            rw [HPV.out] at hq Hg
            have HW := Lib.hid hpv
            have Hin := Lib.hid hin
            clear hin
            go_wp2_with fail
            go_returns
            exact ⟨by rw [Hg.out, Hin.out, ← HW.out]; rfl, hB2⟩
end Go.Proofs.YtmjhjcfjgefdiaaDoor
