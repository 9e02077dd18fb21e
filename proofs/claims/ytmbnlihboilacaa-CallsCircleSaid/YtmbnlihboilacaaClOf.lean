/- calls.Of: whom a unit calls. -/
import Derived.Test.YtmbnlihboilacaaSortC
import Derived.Test.YtmbnlihboilacaaGrid
import Derived.Test.YtmbnlihboilacaaPgm
import Derived.Test.YtmbnlihboilacaaAppBlk
import Derived.Test.YtmbnlihboilacaaInts
namespace Go.Proofs.Ytmbnlihboilacaa
open Go.RowKit
set_option linter.unusedSimpArgs false
set_option linter.unusedVariables false
open CL (tg ofN srt)
def ofC (C : List (List Ins)) (z : Int) : List Nat := if 0 ≤ z ∧ z < (C.length : Int) then ofN C.length (C.getD z.toNat []) else []
theorem src_newE (w : World) (C : List Value) (t : TypeId) {b : Nat} (hb : w.heap.size = b) : Src (w.alloc (.cells C.toArray t)) (.slice (some ⟨b, 0, none⟩) 1 1) 1 C := by subst hb; exact src_new w C t
set_option maxRecDepth 100000 in
set_option maxHeartbeats 4000000 in
theorem calls_Of (v : Value) (L : List Un) (z : Int) (w : World) (hv : RowR 5 unitR w v L) (hn : L.length ≤ 100) (hc : ∀ x ∈ L, x.code.length ≤ 300) :
    Calls Try.prog 11 #[v, .int .i64 z] w fun r w' => ∃ u, r = .returned u ∧ w'.ownsRow w.heap.size 3 1 u (ofC (L.map Un.code) z).length (iV (nI (ofC (L.map Un.code) z))) ∧ Below w.heap.size w w' := by
  obtain ⟨i, hi, hz, hsize, hby⟩ : ∃ i, Try.prog.info? 3 = some i ∧ i.zero = some (.int .i64 0) ∧ i.size = 1 ∧ i.bytes = 8 := ⟨(Try.prog.info? 3).get!, by kernel_rfl, by kernel_rfl, by kernel_rfl, by kernel_rfl⟩
  have HV := Lib.hid hv
  have HC := Lib.hid hc
  obtain ⟨ad, cap, rfl⟩ := row_get hv
  have HOf := Lib.hid (show ofC (L.map Un.code) z = if 0 ≤ z ∧ z < (L.length : Int) then ofN L.length ((L.map Un.code).getD z.toNat []) else [] by unfold ofC; rw [List.length_map])
  generalize ofC (L.map Un.code) z = R at *
  obtain ⟨n, hN⟩ : ∃ n, L.length = n := ⟨_, rfl⟩
  have HN := Lib.hid hN
  rw [hN] at hn HV HOf ⊢
  clear hv hN hc
  by_cases h0 : z < 0
  · have q0 : (z < 0) = True := eq_true h0
    have HR := Lib.hid (show R = [] by rw [HOf.out, if_neg (fun h => by omega)])
    clear h0
    go_enter Try.func11, Try.ntmps11
    go_wp2_with fail
    go_ret
    exact ⟨_, rfl, by rw [HR.out]; exact World.ownsRow_nil _ _ _ _, Below.refl _ _⟩
  have q0 : (z < 0) = False := eq_false h0
  by_cases h1 : (n : Int) ≤ z
  · have q1 : ((n : Int) ≤ z) = True := eq_true h1
    have HR := Lib.hid (show R = [] by rw [HOf.out, if_neg (fun h => by omega)])
    clear h0 h1
    go_enter Try.func11, Try.ntmps11
    go_wp2_with fail
    go_ret
    exact ⟨_, rfl, by rw [HR.out]; exact World.ownsRow_nil _ _ _ _, Below.refl _ _⟩
  obtain ⟨u, rfl⟩ : ∃ u : Nat, z = (u : Int) := ⟨z.toNat, by omega⟩
  have hu : u < n := by omega
  have q1 : ((n : Int) ≤ (u : Int)) = False := eq_false h1
  have q1' : (n ≤ u) = False := eq_false (by omega)
  have q2 : ((u : Int) < (n : Int)) = True := eq_true (by omega)
  have q2' : (u < n) = True := eq_true hu
  obtain ⟨x, hx⟩ := get_some (L := L) (n := u) (by rw [HN.out]; exact hu)
  obtain ⟨b, off, rfl, hb, hcell⟩ := unit_at HV.out (k := u) (by rw [HN.out]; exact hu)
  obtain ⟨u1, u3, u4, _, _, _, _, c4, hun⟩ := hcell u x hx
  have HX := Lib.hid hun.cs
  obtain ⟨ca, cc, rfl⟩ := row_get hun.cs
  have HRR := Lib.hid (show R = ofN n x.code by
    rw [HOf.out, if_pos (by omega)]
    congr 1
    rw [Int.toNat_natCast]
    simp [List.getD, hx])
  have hcl := HC.out x (List.mem_of_getElem? hx)
  generalize hcs : x.code = cs at *
  obtain ⟨C, hC⟩ : ∃ C, cs.length = C := ⟨_, rfl⟩
  have HCl := Lib.hid hC
  rw [hC] at c4 HX hcl
  clear hcs hC HOf hcell hun hx h0 h1 HC HV
  go_enter Try.func11, Try.ntmps11
  go_wp2_with fail
  go_loopw [5, 22] (fun o jj wr => ∃ k t : Nat, k ≤ C ∧ jj = .int .i64 k ∧ Hid ((tg n (cs.take k)).length = t ∧ t ≤ k) ∧ Hid (wr.ownsRow w.heap.size 3 1 o t (iV (tg n (cs.take k)))) ∧ Hid (Below w.heap.size w wr)) (fun _ jj _ => C - (intOf jj).toNat)
  case atStart => exact ⟨0, 0, by omega, rfl, Lib.hid ⟨rfl, Nat.le_refl _⟩, Lib.hid (World.ownsRow_nil _ _ _ _), Lib.hid (Below.refl _ _)⟩
  case round =>
    obtain ⟨k, t, hk, rfl, hT, hO, hB⟩ := hrel
    by_cases hlt : k < C
    case neg =>
      obtain rfl : k = C := by omega
      have qk : ((k : Int) < (k : Int)) = False := eq_false (by omega)
      have qk' : (k < k) = False := eq_false (by omega)
      rw [List.take_of_length_le (by rw [HCl.out]; exact Nat.le_refl _)] at hT hO
      have HS := Lib.hid (slices_Sort u5 (tg n cs) w.heap.size 3 wr (by rw [hT.out.1]; exact hO.out) (by rw [hT.out.1]; have := hT.out.2; omega))
      have HOO := hO
      have HBB := hB
      have HTT := hT
      clear hT hO hB hlt hk
      go_wp2_with fail
      refine HS.out.mono ?_; rintro r w2 ⟨rfl, hO2, hG2⟩
      have HB2 := Lib.hid (grown3 HBB.out HBB.out.size HOO.out hG2)
      have HO2 := Lib.hid (show w2.ownsRow w.heap.size 3 1 u5 (srt (tg n cs)).length (iV (srt (tg n cs))) by rw [CL.srt_len]; exact hO2)
      have HK := Lib.hid (slices_Compact u5 (srt (tg n cs)) w.heap.size 3 w2 HO2.out (by rw [CL.srt_len, HTT.out.1]; have := HTT.out.2; omega))
      clear hO2 hG2 HOO HBB
      go_wp2_with fail
      refine HK.out.mono ?_; rintro r w3 ⟨u6, rfl, hO3, hG3, _⟩
      have HB3 := Lib.hid (grown3 HB2.out HB2.out.size HO2.out hG3)
      have HO3 := Lib.hid hO3
      clear hO3 hG3 HO2 HB2
      go_wp2_with fail
      go_ret
      refine ⟨u6, rfl, ?_, HB3.out⟩
      have h := HO3.out
      rw [CL.of_eq] at h
      rw [HRR.out]
      exact own_eq2 h (by simp) rfl
    have qk : ((k : Int) < (C : Int)) = True := eq_true (by omega)
    have qk' : (k < C) = True := eq_true hlt
    have hk62 : k ≤ 9223372036854775806 := by omega
    have HK := Lib.hid hlt
    obtain ⟨y, hy⟩ := get_some (L := cs) (n := k) (by rw [HCl.out]; exact hlt)
    obtain ⟨b2, off2, hse, hb2, hcell⟩ := row_at HX.out (k := k) (by rw [HCl.out]; exact hlt)
    cases hse
    obtain ⟨d0, d1, d2, g0, g1, g2⟩ := ins_cells hcell hy
    have d0 := (hB.out.cell (p := ⟨b2, off2 + k * 3, none⟩) hb2).trans d0
    have d1 := (hB.out.cell (p := ⟨b2, off2 + k * 3 + 1, none⟩) hb2).trans d1
    have d2 := (hB.out.cell (p := ⟨b2, off2 + k * 3 + 2, none⟩) hb2).trans d2
    have HTk := Lib.hid (show tg n (cs.take (k + 1)) = if y.1 = 33 ∧ 0 ≤ y.2.1 ∧ y.2.1 < (n : Int) then tg n (cs.take k) ++ [y.2.1] else tg n (cs.take k) by rw [take_snoc hy]; exact CL.tg_snoc n _ y)
    have hsz := hB.out.size
    have HOO := hO
    have HBB := hB
    have HTT := hT
    obtain ⟨y0, y1, y2⟩ := y
    simp only at d0 d1 d2 HTk
    have HBA := Lib.hid (fun o => hB.out.alloc hsz o)
    have HOA := Lib.hid (fun o => owns_below hO.out ((Below.refl wr.heap.size wr).alloc (Nat.le_refl _) o))
    clear hcell hy hT hO hB hlt hk g0 g1 g2
    by_cases e1 : y0 = 33
    case neg =>
      have q3 : (y0 == 33) = false := by simpa using e1
      have HTk := Lib.hid (show tg n (cs.take (k + 1)) = tg n (cs.take k) by rw [HTk.out, if_neg (fun h => e1 h.1)])
      clear e1
      go_wp2_with fail
      go_roundw
      case rel => exact ⟨k + 1, t, by have := HK.out; omega, by simp, Lib.hid (by rw [HTk.out]; exact ⟨HTT.out.1, by have := HTT.out.2; omega⟩), Lib.hid (by rw [HTk.out]; exact HOA.out _), Lib.hid (HBA.out _)⟩
      case measure => have := HK.out; first | (simp [intOf]; done) | (simp [intOf]; omega)
    have q3 : (y0 == 33) = true := by simpa using e1
    by_cases e2 : 0 ≤ y1
    case neg =>
      have q4 : (0 ≤ y1) = False := eq_false e2
      have HTk := Lib.hid (show tg n (cs.take (k + 1)) = tg n (cs.take k) by rw [HTk.out, if_neg (fun h => e2 h.2.1)])
      clear e1 e2
      go_wp2_with fail
      go_roundw
      case rel => exact ⟨k + 1, t, by have := HK.out; omega, by simp, Lib.hid (by rw [HTk.out]; exact ⟨HTT.out.1, by have := HTT.out.2; omega⟩), Lib.hid (by rw [HTk.out]; exact HOA.out _), Lib.hid (HBA.out _)⟩
      case measure => have := HK.out; first | (simp [intOf]; done) | (simp [intOf]; omega)
    have q4 : (0 ≤ y1) = True := eq_true e2
    by_cases e3 : y1 < (n : Int)
    case neg =>
      have q5 : (y1 < (n : Int)) = False := eq_false e3
      have HTk := Lib.hid (show tg n (cs.take (k + 1)) = tg n (cs.take k) by rw [HTk.out, if_neg (fun h => e3 h.2.2)])
      clear e1 e2 e3
      go_wp2_with fail
      go_roundw
      case rel => exact ⟨k + 1, t, by have := HK.out; omega, by simp, Lib.hid (by rw [HTk.out]; exact ⟨HTT.out.1, by have := HTT.out.2; omega⟩), Lib.hid (by rw [HTk.out]; exact HOA.out _), Lib.hid (HBA.out _)⟩
      case measure => have := HK.out; first | (simp [intOf]; done) | (simp [intOf]; omega)
    have q5 : (y1 < (n : Int)) = True := eq_true e3
    have HTk := Lib.hid (show tg n (cs.take (k + 1)) = tg n (cs.take k) ++ [y1] by rw [HTk.out, if_pos ⟨e1, e2, e3⟩])
    clear e1 e2 e3
    go_wp2_with (first | (at_builtin; go_loud (refine wpList_append_src rfl (.tmp 41) (.tmp 44) 25 rfl w.heap.size 3 i (.int .i64 0) 1 8 Try.underlying25 hi hz hsize hby rfl (by omega) _ t _ rfl (owns_below (HOA.out _) ((Below.refl _ _).alloc (Nat.le_refl _) _)) _ 1 [.int .i64 y1] rfl (src_newE _ _ _ (by simp)) rfl (by intro u hu; simp at hu; rw [hu]; rfl) (by have := HTT.out.2; have := HK.out; unfold maxLen; omega) (by have := HTT.out.2; have := HK.out; omega) (by simp; omega) ?_; intro v3 w3 hO3 hG3; have hB3 := Lib.hid (grown3 ((HBA.out _).alloc (by simp; omega) _) (by simp; omega) (owns_below (HOA.out _) ((Below.refl _ _).alloc (Nat.le_refl _) _)) hG3); have HO3 := Lib.hid hO3; clear hO3 hG3)) | fail)
    go_roundw
    case rel => exact ⟨k + 1, t + 1, by have := HK.out; omega, by simp, Lib.hid (by rw [HTk.out, List.length_append, HTT.out.1]; exact ⟨rfl, by have := HTT.out.2; omega⟩), Lib.hid (by rw [HTk.out]; exact own_eq2 HO3.out rfl (by simp [iV])), hB3⟩
    case measure => have := HK.out; first | (simp [intOf]; done) | (simp [intOf]; omega)
end Go.Proofs.Ytmbnlihboilacaa
