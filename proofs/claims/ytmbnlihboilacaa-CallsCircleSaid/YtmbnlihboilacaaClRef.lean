/- The document's: whether one unit calls another; whom a unit calls. -/
import Derived.Test.YtmbnlihboilacaaClOf
import Derived.Test.YtmbnlihboilacaaGridOwn
namespace Go.Proofs.Ytmbnlihboilacaa
open Go.RowKit
set_option linter.unusedSimpArgs false
set_option linter.unusedVariables false
open CL (cls ofN)
theorem cls_take {cs : List Ins} {k : Nat} {y : Ins} {c : Int} (hy : cs[k]? = some y) : cls (cs.take (k + 1)) c = (cls (cs.take k) c || (decide (y.1 = 33) && decide (y.2.1 = c))) := by
  rw [take_snoc hy]
  unfold cls
  rw [List.any_append]
  simp
theorem cls_hit {cs : List Ins} {k : Nat} {y : Ins} {c : Int} (hy : cs[k]? = some y) (h1 : y.1 = 33) (h2 : y.2.1 = c) : cls cs c = true := CL.cls_iff.2 ⟨y, List.mem_of_getElem? hy, h1, h2⟩
set_option maxRecDepth 100000 in
set_option maxHeartbeats 4000000 in
theorem ref21_Calls (v : Value) (L : List Un) (u : Nat) (x : Un) (c : Int) (w : World) (hv : RowR 5 unitR w v L) (hx : L[u]? = some x) :
    Calls Try.prog 14 #[v, .int .i64 (u : Int), .int .i64 c] w fun r w' => r = .returned (.bool (cls x.code c)) ∧ w' = w := by
  have hn63 := hv.len
  have HV := Lib.hid hv
  obtain ⟨ad, cap, rfl⟩ := row_get hv
  have hu := lt_of_get hx
  obtain ⟨n, hN⟩ : ∃ n, L.length = n := ⟨_, rfl⟩
  have HN := Lib.hid hN
  rw [hN] at hn63 HV hu ⊢
  have q2 : ((u : Int) < (n : Int)) = True := eq_true (by omega)
  have q2' : (u < n) = True := eq_true hu
  obtain ⟨b, off, rfl, hb, hcell⟩ := unit_at HV.out (k := u) (by rw [HN.out]; exact hu)
  obtain ⟨u1, u3, u4, _, _, _, _, c4, hun⟩ := hcell u x hx
  have HX := Lib.hid hun.cs
  have hc63 := hun.cs.len
  obtain ⟨ca, cc, rfl⟩ := row_get hun.cs
  generalize hcs : x.code = cs at *
  obtain ⟨C, hC⟩ : ∃ C, cs.length = C := ⟨_, rfl⟩
  have HCl := Lib.hid hC
  rw [hC] at c4 HX hc63
  obtain ⟨Z, hZ⟩ : ∃ Z, cls cs c = Z := ⟨_, rfl⟩
  rw [hZ]
  have HZ := Lib.hid hZ
  clear hcs hC hcell hun hx HV hv hN hZ
  go_enter Try.func14, Try.ntmps14
  go_wp2_with fail
  go_loopw [7] (fun jj wr => ∃ k : Nat, k ≤ C ∧ jj = .int .i64 k ∧ Hid (cls (cs.take k) c = false) ∧ wr = w) (fun jj _ => C - (intOf jj).toNat)
  case atStart => exact ⟨0, by omega, rfl, Lib.hid rfl, rfl⟩
  case round =>
    obtain ⟨k, hk, rfl, hT, hwr⟩ := hrel
    have hwr := hwr.symm
    subst hwr
    by_cases hlt : k < C
    case neg =>
      obtain rfl : k = C := by omega
      have qk : ((k : Int) < (k : Int)) = False := eq_false (by omega)
      have qk' : (k < k) = False := eq_false (by omega)
      have HE := Lib.hid (show Z = false by have h := hT.out; rw [List.take_of_length_le (by rw [HCl.out]; exact Nat.le_refl _)] at h; rw [← HZ.out]; exact h)
      clear hT hlt hk
      go_wp2_with fail
      go_ret
      exact ⟨by rw [HE.out]; rfl, rfl⟩
    have qk : ((k : Int) < (C : Int)) = True := eq_true (by omega)
    have qk' : (k < C) = True := eq_true hlt
    have hk62 : k ≤ 9223372036854775806 := by omega
    have HK := Lib.hid hlt
    obtain ⟨y, hy⟩ := get_some (L := cs) (n := k) (by rw [HCl.out]; exact hlt)
    obtain ⟨b2, off2, hse, hb2, hcell⟩ := row_at HX.out (k := k) (by rw [HCl.out]; exact hlt)
    cases hse
    obtain ⟨d0, d1, d2, g0, g1, g2⟩ := ins_cells hcell hy
    have HTk := Lib.hid (show cls (cs.take (k + 1)) c = (cls (cs.take k) c || (decide (y.1 = 33) && decide (y.2.1 = c))) from cls_take hy)
    have HHit := Lib.hid (show y.1 = 33 → y.2.1 = c → Z = true from fun h1 h2 => by rw [← HZ.out]; exact cls_hit hy h1 h2)
    obtain ⟨y0, y1, y2⟩ := y
    simp only at d0 d1 d2 HTk HHit
    have HT := hT
    clear hcell hy hT hlt hk g0 g1 g2
    by_cases e1 : y0 = 33
    case neg =>
      have q3 : (y0 == 33) = false := by simpa using e1
      have HTk := Lib.hid (show cls (cs.take (k + 1)) c = false by rw [HTk.out, HT.out]; simp [e1])
      clear e1
      go_wp2_with fail
      go_roundw
      case rel => exact ⟨k + 1, by have := HK.out; omega, by simp, HTk, by simp⟩
      case measure => have := HK.out; first | (simp [intOf]; done) | (simp [intOf]; omega)
    have q3 : (y0 == 33) = true := by simpa using e1
    by_cases e2 : y1 = c
    case neg =>
      have q4 : (y1 == c) = false := by simpa using e2
      have HTk := Lib.hid (show cls (cs.take (k + 1)) c = false by rw [HTk.out, HT.out]; simp [e2])
      clear e1 e2
      go_wp2_with fail
      go_roundw
      case rel => exact ⟨k + 1, by have := HK.out; omega, by simp, HTk, by simp⟩
      case measure => have := HK.out; first | (simp [intOf]; done) | (simp [intOf]; omega)
    have q4 : (y1 == c) = true := by simpa using e2
    have HE := Lib.hid (HHit.out e1 e2)
    clear e1 e2
    go_wp2_with fail
    go_ret
    exact ⟨by rw [HE.out]; rfl, rfl⟩
/-- those that are called among the first k -/
def ofK (cs : List Ins) (k : Nat) : List Nat := (List.range k).filter fun c => cls cs (c : Int)
theorem ofK_len (cs : List Ins) (k : Nat) : (ofK cs k).length ≤ k := by
  unfold ofK
  have h := List.length_filter_le (fun c : Nat => cls cs (c : Int)) (List.range k)
  rwa [List.length_range] at h
theorem ofK_succ (cs : List Ins) (k : Nat) : ofK cs (k + 1) = if cls cs (k : Int) = true then ofK cs k ++ [k] else ofK cs k := by
  unfold ofK
  rw [List.range_succ, List.filter_append]
  by_cases h : cls cs (k : Int) = true <;> simp [h]
set_option maxRecDepth 100000 in
set_option maxHeartbeats 4000000 in
theorem ref21_Of (v : Value) (L : List Un) (z : Int) (w : World) (hv : RowR 5 unitR w v L) (hn : L.length ≤ 100) :
    Calls Try.prog 12 #[v, .int .i64 z] w fun r w' => ∃ u, r = .returned u ∧ w'.ownsRow w.heap.size 3 1 u (ofC (L.map Un.code) z).length (iV (nI (ofC (L.map Un.code) z))) ∧ Below w.heap.size w w' := by
  obtain ⟨i, hi, hz, hsize, hby⟩ : ∃ i, Try.prog.info? 3 = some i ∧ i.zero = some (.int .i64 0) ∧ i.size = 1 ∧ i.bytes = 8 := ⟨(Try.prog.info? 3).get!, by kernel_rfl, by kernel_rfl, by kernel_rfl, by kernel_rfl⟩
  obtain ⟨ad, cap, rfl⟩ := row_get hv
  have HCa := Lib.hid (fun (W : World) (h : Below w.heap.size w W) (u : Nat) (x : Un) (hx : L[u]? = some x) (c : Int) => ref21_Calls _ L u x c W (hv.below unitR_stable h) hx)
  have HOf := Lib.hid (show ofC (L.map Un.code) z = if 0 ≤ z ∧ z < (L.length : Int) then ofN L.length ((L.map Un.code).getD z.toNat []) else [] by unfold ofC; rw [List.length_map])
  generalize ofC (L.map Un.code) z = R at *
  obtain ⟨n, hN⟩ : ∃ n, L.length = n := ⟨_, rfl⟩
  have HN := Lib.hid hN
  rw [hN] at hn HCa HOf ⊢
  clear hv hN
  by_cases hn0 : n = 0
  · subst hn0
    have HR := Lib.hid (show R = [] by rw [HOf.out, if_neg (fun h => by omega)])
    go_enter Try.func12, Try.ntmps12
    go_wp2_with fail
    go_loopw [5, 6] (fun o jj wr => o = .slice none 0 0 ∧ jj = .int .i64 0 ∧ wr = w) (fun _ _ _ => 0)
    case atStart => exact ⟨rfl, rfl, rfl⟩
    case round =>
      obtain ⟨rfl, rfl, hwr⟩ := hrel
      have hwr := hwr.symm
      subst hwr
      go_wp2_with fail
      go_ret
      exact ⟨_, rfl, by rw [HR.out]; exact World.ownsRow_nil _ _ _ _, Below.refl _ _⟩
  have qn : ((0 : Int) < (n : Int)) = True := eq_true (by omega)
  have qn' : (0 < n) = True := eq_true (by omega)
  by_cases h0 : z < 0
  · have q0 : (0 ≤ z) = False := eq_false (by omega)
    have HR := Lib.hid (show R = [] by rw [HOf.out, if_neg (fun h => by omega)])
    clear h0 hn0
    go_enter Try.func12, Try.ntmps12
    go_wp2_with fail
    go_loopw [5, 6] (fun o jj wr => o = .slice none 0 0 ∧ jj = .int .i64 0 ∧ wr = w) (fun _ _ _ => 0)
    case atStart => exact ⟨rfl, rfl, rfl⟩
    case round =>
      obtain ⟨rfl, rfl, hwr⟩ := hrel
      have hwr := hwr.symm
      subst hwr
      go_wp2_with fail
      go_ret
      exact ⟨_, rfl, by rw [HR.out]; exact World.ownsRow_nil _ _ _ _, Below.refl _ _⟩
  have q0 : (0 ≤ z) = True := eq_true (by omega)
  by_cases h1 : (n : Int) ≤ z
  · have q1 : (z < (n : Int)) = False := eq_false (by omega)
    have HR := Lib.hid (show R = [] by rw [HOf.out, if_neg (fun h => by omega)])
    clear h0 h1 hn0
    go_enter Try.func12, Try.ntmps12
    go_wp2_with fail
    go_loopw [5, 6] (fun o jj wr => o = .slice none 0 0 ∧ jj = .int .i64 0 ∧ wr = w) (fun _ _ _ => 0)
    case atStart => exact ⟨rfl, rfl, rfl⟩
    case round =>
      obtain ⟨rfl, rfl, hwr⟩ := hrel
      have hwr := hwr.symm
      subst hwr
      go_wp2_with fail
      go_ret
      exact ⟨_, rfl, by rw [HR.out]; exact World.ownsRow_nil _ _ _ _, Below.refl _ _⟩
  obtain ⟨u, rfl⟩ : ∃ u : Nat, z = (u : Int) := ⟨z.toNat, by omega⟩
  have hu : u < n := by omega
  have q2 : ((u : Int) < (n : Int)) = True := eq_true (by omega)
  have q2' : (u < n) = True := eq_true hu
  obtain ⟨x, hx⟩ := get_some (L := L) (n := u) (by rw [HN.out]; exact hu)
  have HCx := Lib.hid (fun W h c => HCa.out W h u x hx c)
  have HRR := Lib.hid (show R = ofK x.code n by
    rw [HOf.out, if_pos (by omega)]
    show ofN n _ = ofN n _
    congr 1
    rw [Int.toNat_natCast]
    simp [List.getD, hx])
  generalize x.code = cs at *
  clear hx HOf HCa h0 h1 hn0 hu q0 qn qn'
  go_enter Try.func12, Try.ntmps12
  go_wp2_with fail
  go_loopw [5, 6] (fun o jj wr => ∃ k t : Nat, k ≤ n ∧ jj = .int .i64 k ∧ Hid ((ofK cs k).length = t ∧ t ≤ k) ∧ Hid (wr.ownsRow w.heap.size 3 1 o t (iV (nI (ofK cs k)))) ∧ Hid (Below w.heap.size w wr)) (fun _ jj _ => n - (intOf jj).toNat)
  case atStart => exact ⟨0, 0, by omega, rfl, Lib.hid ⟨rfl, Nat.le_refl _⟩, Lib.hid (World.ownsRow_nil _ _ _ _), Lib.hid (Below.refl _ _)⟩
  case round =>
    obtain ⟨k, t, hk, rfl, hT, hO, hB⟩ := hrel
    by_cases hlt : k < n
    case neg =>
      obtain rfl : k = n := by omega
      have qk : ((k : Int) < (k : Int)) = False := eq_false (by omega)
      have qk' : (k < k) = False := eq_false (by omega)
      have HOO := hO
      have HBB := hB
      have HTT := hT
      clear hT hO hB hlt hk
      go_wp2_with fail
      go_ret
      exact ⟨_, rfl, by rw [HRR.out, HTT.out.1]; exact HOO.out, HBB.out⟩
    have qk : ((k : Int) < (n : Int)) = True := eq_true (by omega)
    have qk' : (k < n) = True := eq_true hlt
    have hk62 : k ≤ 9223372036854775806 := by omega
    have hu0 : (0 ≤ (u : Int)) = True := eq_true (by omega)
    have HK := Lib.hid hlt
    have HC := Lib.hid (HCx.out wr hB.out (k : Int))
    have HTk := Lib.hid (ofK_succ cs k)
    have hsz := hB.out.size
    have HOO := hO
    have HBB := hB
    have HTT := hT
    clear hT hO hB hlt hk
    go_wp2_with fail
    refine HC.out.mono ?_; rintro r w2 ⟨rfl, rfl⟩
    cases hcl : cls cs (k : Int)
    · have HTk := Lib.hid (show ofK cs (k + 1) = ofK cs k by rw [HTk.out, hcl]; simp)
      clear hcl
      go_wp2_with fail
      go_roundw
      case rel => exact ⟨k + 1, t, by have := HK.out; omega, by simp, Lib.hid (by rw [HTk.out]; exact ⟨HTT.out.1, by have := HTT.out.2; omega⟩), Lib.hid (by rw [HTk.out]; exact HOO.out), HBB⟩
      case measure => have := HK.out; first | (simp [intOf]; done) | (simp [intOf]; omega)
    · have HTk := Lib.hid (show ofK cs (k + 1) = ofK cs k ++ [k] by rw [HTk.out, hcl]; simp)
      clear hcl
      go_wp2_with (first | (at_builtin; go_loud (refine wpList_append_src rfl (.tmp 27) (.tmp 29) 25 rfl w.heap.size 3 i (.int .i64 0) 1 8 Try.underlying25 hi hz hsize hby rfl (by omega) _ t _ rfl (owns_below HOO.out ((Below.refl _ _).alloc (Nat.le_refl _) _)) _ 1 [.int .i64 (k : Int)] rfl (src_newE _ _ _ (by simp)) rfl (by intro u hu; simp at hu; rw [hu]; rfl) (by have := HTT.out.2; have := HK.out; unfold maxLen; omega) (by have := HTT.out.2; have := HK.out; omega) (by simp; omega) ?_; intro v3 w3 hO3 hG3; have hB3 := Lib.hid (grown3 (HBB.out.alloc hsz _) (by simp; omega) (owns_below HOO.out ((Below.refl _ _).alloc (Nat.le_refl _) _)) hG3); have HO3 := Lib.hid hO3; clear hO3 hG3)) | fail)
      go_roundw
      case rel => exact ⟨k + 1, t + 1, by have := HK.out; omega, by simp, Lib.hid (by rw [HTk.out, List.length_append, HTT.out.1]; exact ⟨rfl, by have := HTT.out.2; omega⟩), Lib.hid (by rw [HTk.out]; exact own_eq2 HO3.out rfl (by simp [iV, nI])), hB3⟩
      case measure => have := HK.out; first | (simp [intOf]; done) | (simp [intOf]; omega)
end Go.Proofs.Ytmbnlihboilacaa
