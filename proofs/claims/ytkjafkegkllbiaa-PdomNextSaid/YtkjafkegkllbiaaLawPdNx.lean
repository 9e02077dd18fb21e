/- Layer 32: the walk of PdomNext. -/
import Derived.Test.YtkjafkegkllbiaaLawPdNe
import Derived.Test.YtkjafkegkllbiaaPdM
namespace Go.Proofs.Ytkjafkegkllbiaa
open Go.RowKit
set_option linter.unusedSimpArgs false
set_option linter.unusedVariables false
open DM (turnF nearP lastB rowN okN Eg upF metF)
theorem last_near {next : List (List Int)} {i : Nat} (hi : i < next.length) (hl : lastB next i = true) : (nearP next).getD i 0 = (next.length : Int) := by
  obtain ⟨R, d, hR, hlt, T, hanti⟩ := DM.turned_tree next
  have hw : DM.Way (Eg (turnF next)) [i + 1, 0] (i + 1) := .on .start (DM.turn_zero.2 ⟨i, rfl, hi, hl⟩)
  rcases DM.near_of hR hlt T hanti hi with ⟨e, h1, h2, h3, h4⟩ | ⟨h, _⟩
  · have := (T.dom _ h1 e).2 (.up h2 .self) _ hw
    have he : e = 0 := by
      rcases List.mem_cons.1 this with h | h
      · subst h; exact absurd .self (T.total _ _ h1 h2)
      · simpa using h
    subst he
    rw [h4]; unfold DM.unphi; simp
  · exact absurd ((hR _).2 ⟨_, hw⟩) h
/-- the next places that are there -/
def outsF (next : List (List Int)) (i : Nat) : List Nat := ((rowN next i).filter (okN next.length)).map Int.toNat
theorem outs_nI (n : Nat) (l : List Int) : nI ((l.filter (okN n)).map Int.toNat) = l.filter (okN n) := by
  unfold nI
  rw [List.map_map]
  refine (List.map_congr_left (g := id) fun x hx => ?_).trans (List.map_id _)
  have := of_decide_eq_true (List.mem_filter.1 hx).2
  show ((x.toNat : Nat) : Int) = x
  omega
theorem outs_iff (next : List (List Int)) (i b : Nat) : b ∈ outsF next i ↔ Eg next i b := by
  unfold outsF Eg
  constructor
  · intro h
    obtain ⟨x, hx, rfl⟩ := List.mem_map.1 h
    obtain ⟨h1, h2⟩ := List.mem_filter.1 hx
    have h3 := of_decide_eq_true h2
    exact ⟨by rw [show ((x.toNat : Nat) : Int) = x by omega]; exact h1, by omega⟩
  · rintro ⟨h1, h2⟩
    exact List.mem_map.2 ⟨(b : Int), List.mem_filter.2 ⟨h1, decide_eq_true (by omega)⟩, by simp⟩
set_option maxRecDepth 100000 in
set_option maxHeartbeats 8000000 in
theorem pdomNext_walk (v : Value) (next : List (List Int)) (I : Int) (w : World) (hv : RowR 1 gridR w v next) :
    Calls Try.prog 4 #[v, .int .i64 I] w fun r w' => r = .returned (.bool true) ∧ Below w.heap.size w w' := by
  obtain ⟨i2, hi2, hz2, hsize2, hby2⟩ : ∃ i, Try.prog.info? 3 = some i ∧ i.zero = some (.int .i64 0) ∧ i.size = 1 ∧ i.bytes = 8 := ⟨(Try.prog.info? 3).get!, by kernel_rfl, by kernel_rfl, by kernel_rfl, by kernel_rfl⟩
  have HF := Lib.hid (ref31_Few v next 20 w hv)
  have HA0 := Lib.hid (fun W => law32_awake W)
  have hlm := hv.len
  by_cases hgo : few31 next 20 = true ∧ 0 ≤ I ∧ I < (next.length : Int)
  case neg =>
    cases hf : few31 next 20
    · rw [hf] at HF
      obtain ⟨ad, cap, rfl⟩ := row_get hv
      clear hv hf hgo
      go_enter Try.func4, Try.ntmps4
      go_wp2_with fail
      refine HF.out.mono ?_; rintro r w2 ⟨rfl, rfl⟩
      go_wp2_with fail
      refine (HA0.out _).mono ?_; rintro r w3 ⟨rfl, hb⟩
      go_wp2_with fail
      go_ret
      exact ⟨rfl, hb⟩
    rw [hf] at HF
    by_cases h0 : I < 0
    · have q0 : (I < 0) = True := eq_true h0
      obtain ⟨ad, cap, rfl⟩ := row_get hv
      clear hv hf hgo h0
      go_enter Try.func4, Try.ntmps4
      go_wp2_with fail
      refine HF.out.mono ?_; rintro r w2 ⟨rfl, rfl⟩
      go_wp2_with fail
      refine (HA0.out _).mono ?_; rintro r w3 ⟨rfl, hb⟩
      go_wp2_with fail
      go_ret
      exact ⟨rfl, hb⟩
    have q0 : (I < 0) = False := eq_false h0
    have h1 : (next.length : Int) ≤ I := by
      by_cases h : I < (next.length : Int)
      · exact absurd ⟨hf, by omega, h⟩ hgo
      · omega
    have q1 : ((next.length : Int) ≤ I) = True := eq_true h1
    obtain ⟨ad, cap, rfl⟩ := row_get hv
    generalize next.length = n at *
    clear hf hgo h0 h1
    go_enter Try.func4, Try.ntmps4
    go_wp2_with fail
    refine HF.out.mono ?_; rintro r w2 ⟨rfl, rfl⟩
    go_wp2_with fail
    refine (HA0.out _).mono ?_; rintro r w3 ⟨rfl, hb⟩
    go_wp2_with fail
    go_ret
    exact ⟨rfl, hb⟩
  obtain ⟨hf, h0, h1⟩ := hgo
  obtain ⟨i, rfl⟩ : ∃ i : Nat, I = (i : Int) := ⟨I.toNat, by omega⟩
  rw [hf] at HF
  obtain ⟨hn, hl⟩ : next.length ≤ 20 ∧ ∀ l ∈ next, l.length ≤ 40 := by
    unfold few31 at hf
    rw [Bool.and_eq_true, decide_eq_true_iff, List.all_eq_true] at hf
    exact ⟨by have := hf.1; omega, fun l hl => of_decide_eq_true (hf.2 l hl)⟩
  have H1 := Lib.hid (fun W (h : Below w.heap.size w W) => pdom_Ends v next W (hv.below gridR_stable h) hn hl)
  have H2 := Lib.hid (fun W (h : Below w.heap.size w W) => pdom_Nearest v next W (hv.below gridR_stable h) hn hl)
  have H3 := Lib.hid (fun ts outs K W (h : Below w.heap.size w W) (ht : RowR 1 intR W ts (nI outs)) => pdom_Meets v ts next outs K W (hv.below gridR_stable h) ht hn hl)
  have HLast := Lib.hid (fun (h : lastB next i = true) => last_near (next := next) (i := i) (by omega) h)
  have HMp := Lib.hid (fun hne hend => DM.metP_spec next i (by omega) (outsF next i) (outs_iff next i) hne hend)
  have hrl : (rowN next i).length ≤ 40 := by
    obtain ⟨l, hl'⟩ := get_some (L := next) (n := i) (by omega)
    have : rowN next i = l := by unfold rowN; simp [List.getD, hl']
    rw [this]; exact hl l (List.mem_of_getElem? hl')
  have hnl := DM.near_len next
  have hin : i < next.length := by omega
  have hou := outs_nI next.length (rowN next i)
  have HMi := Lib.hid (outs_iff next i)
  have hOF : outsF next i = ((rowN next i).filter (okN next.length)).map Int.toNat := rfl
  have hlb : lastB next i = !(rowN next i).any (okN next.length) := rfl
  rw [← hOF] at hou
  obtain ⟨ad, cap, rfl⟩ := row_get hv
  obtain ⟨n, hN⟩ : ∃ n, next.length = n := ⟨_, rfl⟩
  obtain ⟨bn, on, sl, sc, rfl, hbn, hnN, hcN, cn0, hL⟩ := row_at2 hv (k := i) hin
  have HCn := Lib.hid (fun W (h : Below w.heap.size w W) => (h.cell (p := ⟨bn, on + i, none⟩) hbn).trans cn0)
  have HLr := Lib.hid (fun W (h : Below w.heap.size w W) => hL.below intR_stable h)
  obtain ⟨OS, hOS⟩ : ∃ X, outsF next i = X := ⟨_, rfl⟩
  obtain ⟨NP, hNP⟩ : ∃ X, nearP next = X := ⟨_, rfl⟩
  obtain ⟨l, hlN⟩ : ∃ X, rowN next i = X := ⟨_, rfl⟩
  rw [hN] at hn hnl hin hou hOF hlb H1 H2 H3 HF HLast HMp hlm h1 hnN ⊢
  rw [hNP] at hnl H1 H2 H3 HLast HMp
  rw [hlN] at hou hOF hlb hrl HCn HLr
  rw [hOS] at hou hOF HMp HMi
  obtain ⟨Lr, hLr⟩ : ∃ x, l.length = x := ⟨_, rfl⟩
  rw [hLr] at HCn HLr hrl
  have HLl := Lib.hid (And.intro hLr hrl)
  have HOu := Lib.hid (And.intro hou (And.intro hOF (And.intro hlb hnl)))
  have HI := Lib.hid hin
  have HB := Lib.hid hn
  have hn62 : n ≤ 9223372036854775806 := by omega
  have hLr63 : Lr ≤ 9223372036854775807 := by omega
  have q0 : ((i : Int) < 0) = False := eq_false (by omega)
  have q1 : ((n : Int) ≤ (i : Int)) = False := eq_false (by omega)
  have q1' : (n ≤ i) = False := eq_false (by omega)
  have q2 : ((i : Int) < (n : Int)) = True := eq_true (by omega)
  have q2' : (i < n) = True := eq_true hin
  clear hv hf h0 h1 hn hl hrl hnl hin hou hOF hlb hN hOS hNP hlN hLr hL cn0 hlm
  go_enter Try.func4, Try.ntmps4
  go_wp2_with fail
  refine HF.out.mono ?_; rintro r w2 ⟨rfl, rfl⟩
  go_wp2_with fail
  refine (H1.out _ (Below.refl _ _)).mono ?_; rintro r W1 ⟨u3, rfl, hO3, hb3⟩
  have hbl : n = (NP.map fun z => decide (0 ≤ z)).length := by rw [List.length_map]; exact HOu.out.2.2.2.symm
  have HR3 := Lib.hid (bools_of_owns (own_owns hO3 hbl rfl))
  obtain ⟨ea, ec, rfl⟩ := owns_form hO3
  have HB3 := Lib.hid hb3
  obtain ⟨s, hs⟩ : ∃ s, W1.heap.size = s := ⟨_, rfl⟩
  have HSz := Lib.hid hs
  have HBs := Lib.hid (fun W (h : Below s W1 W) => hb3.trans (h.mono (by rw [← hs]; exact hb3.size)))
  have HR3s := Lib.hid (fun W (h : Below s W1 W) => HR3.out.below boolR_stable (by rw [hs]; exact h))
  clear hO3 hb3 hbl hs
  go_wp2_with fail
  go_loopw [7, 6] (fun kv ov wr => ∃ (k m oc : Nat) (oa : Option Addr), kv = .int .i64 k ∧ k ≤ Lr ∧ ov = .slice oa m oc ∧ Hid (wr.ownsRow s 3 1 (.slice oa m oc) m (iV ((l.take k).filter (okN n))) ∧ Below s W1 wr) ∧ Hid (((l.take k).filter (okN n)).length = m ∧ m ≤ k ∧ ∀ x ∈ (l.take k).filter (okN n), 0 ≤ NP.getD x.toNat 0)) (fun kv _ _ => Lr - (intOf kv).toNat)
  case atStart => exact ⟨0, 0, 0, none, rfl, Nat.zero_le _, rfl, Lib.hid ⟨World.ownsRow_nil _ _ _ _, Below.refl _ _⟩, Lib.hid ⟨rfl, Nat.zero_le _, by simp⟩⟩
  case round =>
    obtain ⟨k, m, oc, oa, rfl, hk, rfl, hR, hF⟩ := hrel
    have hBw := HBs.out _ hR.out.2
    have cn := HCn.out _ hBw
    by_cases hlt : k < Lr
    case pos =>
      have q3 : ((k : Int) < (Lr : Int)) = True := eq_true (by omega)
      have q3' : (k < Lr) = True := eq_true hlt
      have hk62 : k ≤ 9223372036854775806 := by omega
      have HK := Lib.hid hlt
      obtain ⟨bl, ol, hse, hbl, hnl, hcl, cl1, _⟩ := int_at (HLr.out _ hBw) (k := k) (by rw [HLl.out.1]; exact hlt)
      subst hse
      obtain ⟨T, hT⟩ : ∃ T, l.getD k 0 = T := ⟨_, rfl⟩
      have HTq := Lib.hid (show (l.take (k + 1)).filter (okN n) = (l.take k).filter (okN n) ++ if okN n T = true then [T] else [] by
        rw [List.take_add_one, List.filter_append]
        have : l[k]? = some T := by rw [← hT]; simp [List.getD, HLl.out.1, hlt]
        rw [this]
        congr 1
        cases hkT : okN n T <;> simp [hkT])
      rw [hT] at cl1
      have HRn := Lib.hid hR.out
      have HFn := Lib.hid hF.out
      clear hT hR hF hlt hk
      by_cases h0 : 0 ≤ T
      case neg =>
        have p0 : (0 ≤ T) = False := eq_false h0
        have hok : okN n T = false := decide_eq_false (by omega)
        have HTq := Lib.hid (show (l.take (k + 1)).filter (okN n) = (l.take k).filter (okN n) by rw [HTq.out, hok, if_neg (by simp), List.append_nil])
        clear h0 hok
        go_wp2_with fail
        go_roundw
        case rel => exact ⟨k + 1, m, oc, oa, by simp, by have := HK.out; omega, rfl, Lib.hid (by rw [HTq.out]; exact HRn.out), Lib.hid (by rw [HTq.out]; exact ⟨HFn.out.1, by have := HFn.out.2.1; omega, HFn.out.2.2⟩)⟩
        case measure => have := HK.out; first | (simp [intOf]; done) | (simp [intOf]; omega)
      obtain ⟨t, rfl⟩ : ∃ t : Nat, T = (t : Int) := ⟨T.toNat, by omega⟩
      by_cases htn : t < n
      case neg =>
        have p1 : ((t : Int) < (n : Int)) = False := eq_false (by omega)
        have p1' : (t < n) = False := eq_false htn
        have hok : okN n (t : Int) = false := decide_eq_false (by omega)
        have HTq := Lib.hid (show (l.take (k + 1)).filter (okN n) = (l.take k).filter (okN n) by rw [HTq.out, hok, if_neg (by simp), List.append_nil])
        clear h0 hok htn
        go_wp2_with fail
        go_roundw
        case rel => exact ⟨k + 1, m, oc, oa, by simp, by have := HK.out; omega, rfl, Lib.hid (by rw [HTq.out]; exact HRn.out), Lib.hid (by rw [HTq.out]; exact ⟨HFn.out.1, by have := HFn.out.2.1; omega, HFn.out.2.2⟩)⟩
        case measure => have := HK.out; first | (simp [intOf]; done) | (simp [intOf]; omega)
      have p1 : ((t : Int) < (n : Int)) = True := eq_true (by omega)
      have p1' : (t < n) = True := eq_true htn
      have hok : okN n (t : Int) = true := decide_eq_true (by omega)
      have HTq := Lib.hid (show (l.take (k + 1)).filter (okN n) = (l.take k).filter (okN n) ++ [(t : Int)] by rw [HTq.out, hok, if_pos rfl])
      obtain ⟨b3, o3, rfl, k3, m3, e3, y3⟩ := bools_at (HR3s.out _ HRn.out.2) (k := t) (by rw [List.length_map, HOu.out.2.2.2]; exact htn)
      have y3 := y3 t (by rw [List.length_map, HOu.out.2.2.2]; exact htn)
      rw [ends_get (by rw [HOu.out.2.2.2]; exact htn)] at y3
      have HBk := Lib.hid (show s ≤ wr.heap.size by rw [← HSz.out]; exact HRn.out.2.size)
      by_cases hz : 0 ≤ NP.getD t 0
      case neg =>
        have p2 : (0 ≤ NP.getD t 0) = False := eq_false hz
        rw [show decide (0 ≤ NP.getD t 0) = false from decide_eq_false hz] at y3
        have HBo := Lib.hid hBw
        clear h0 hok htn hz hBw p2
        go_wp2_with fail
        refine (HA0.out _).mono ?_; rintro r w3 ⟨rfl, hb⟩
        have HBp := Lib.hid (HBo.out.trans (hb.mono HBo.out.size))
        clear hb
        go_wp2_with fail
        go_ret
        exact ⟨rfl, HBp.out⟩
      rw [show decide (0 ≤ NP.getD t 0) = true from decide_eq_true hz] at y3
      have HZ := Lib.hid hz
      clear h0 hok htn hz hBw
      go_wp2_with (first | (at_builtin; go_loud (refine wpList_append_near rfl (.tmp 61) (.tmp 63) 25 rfl s 3 i2 (.int .i64 0) 1 8 Try.underlying25 hi2 hz2 hsize2 hby2 rfl (by omega) _ m _ rfl (owns_below HRn.out.1 ((Below.refl _ _).alloc (Nat.le_refl _) _)) ⟨wr.heap.size, 0, none⟩ 1 1 [.int .i64 (t : Int)] rfl rfl (new_cells _ _ _) (by intro u hu; simp at hu; rw [hu]; rfl) (by have := HFn.out.2.1; have := HK.out; have := HLl.out; unfold maxLen; omega) (by have := HFn.out.2.1; have := HK.out; have := HLl.out; omega) (by simp; have := HBk.out; omega) ?_; intro v6 w6 hO6 hG6 hN6; have HB6 := Lib.hid (grown3 (HRn.out.2.trans (((Below.refl _ _).alloc (Nat.le_refl _) _).mono HBk.out)) (by simp; have := HBk.out; omega) (owns_below HRn.out.1 ((Below.refl _ _).alloc (Nat.le_refl _) _)) hG6); obtain ⟨av6, cv6, rfl⟩ := owns_form hO6; have HO6 := Lib.hid hO6; clear hO6 hG6 hN6)) | fail)
      go_roundw
      case rel => exact ⟨k + 1, m + 1, cv6, av6, by simp, by have := HK.out; omega, rfl, Lib.hid ⟨by rw [HTq.out, iV_app]; exact HO6.out, HB6.out⟩, Lib.hid (by rw [HTq.out, List.length_append]; exact ⟨by rw [HFn.out.1]; rfl, by have := HFn.out.2.1; omega, fun x hx => by rcases List.mem_append.1 hx with h | h; exact HFn.out.2.2 x h; rw [List.mem_singleton] at h; subst h; exact HZ.out⟩)⟩
      case measure => have := HK.out; first | (simp [intOf]; done) | (simp [intOf]; omega)
    obtain rfl : Lr = k := by omega
    have q3 : ((Lr : Int) < (Lr : Int)) = False := eq_false (by omega)
    have q3' : (Lr < Lr) = False := eq_false (by omega)
    rw [List.take_of_length_le (by rw [HLl.out.1]; exact Nat.le_refl _)] at hR hF
    have HRn := Lib.hid hR.out
    have HFn := Lib.hid hF.out
    have HBo := Lib.hid hBw
    clear hR hF hlt hk hBw
    go_wp2_with fail
    refine (H2.out _ HBo.out).mono ?_; rintro r W4 ⟨u4, rfl, hO4, hb4, hI4⟩
    have HR4 := Lib.hid (row_of_owns (own_owns hO4 HOu.out.2.2.2.symm rfl) hI4)
    obtain ⟨na, nc, rfl⟩ := owns_form hO4
    have HB4 := Lib.hid (HBo.out.trans (hb4.mono HBo.out.size))
    have HRn := Lib.hid (owns_below HRn.out.1 hb4)
    obtain ⟨b5, o5, rfl, k5, n5, e5, y5, _⟩ := int_at HR4.out (k := i) (by rw [HOu.out.2.2.2]; exact HI.out)
    clear hO4 hb4 hI4
    cases m with
    | zero =>
      have hz := HLast.out (by
        rw [HOu.out.2.2.1]
        have : l.filter (okN n) = [] := List.eq_nil_of_length_eq_zero HFn.out.1
        cases hh : l.any (okN n) with
        | false => rfl
        | true =>
          obtain ⟨x, hx, hx2⟩ := List.any_eq_true.1 hh
          have : x ∈ l.filter (okN n) := List.mem_filter.2 ⟨hx, hx2⟩
          simp_all)
      rw [hz] at y5
      clear hz
      go_wp2_with fail
      refine (HA0.out _).mono ?_; rintro r w5 ⟨rfl, hb⟩
      have HBp := Lib.hid (HB4.out.trans (hb.mono HB4.out.size))
      clear hb
      go_wp2_with fail
      go_ret
      exact ⟨rfl, HBp.out⟩
    | succ m =>
      have hlO : OS.length = m + 1 := by rw [HOu.out.2.1, List.length_map]; exact HFn.out.1
      have hne : OS ≠ [] := by intro h; rw [h] at hlO; cases hlO
      have hmO : ∀ b ∈ OS, b < n ∧ 0 ≤ NP.getD b 0 := fun b hb => by
        rw [HOu.out.2.1] at hb
        obtain ⟨x, hx, rfl⟩ := List.mem_map.1 hb
        have := of_decide_eq_true (List.mem_filter.1 hx).2
        exact ⟨by omega, HFn.out.2.2 x hx⟩
      obtain ⟨K, hK, hmet⟩ := HMp.out hne (fun b hb => (hmO b hb).2)
      have HTs := Lib.hid (show RowR 1 intR W4 (.slice oa (m + 1) oc) (nI OS) from by
        have ho := HRn.out
        rw [← HOu.out.1] at ho
        have h2 := row_of_owns (l := nI OS) (by rw [nI_len, hlO]; exact ho) (nI_i64 (n := n) (by have := HB.out; omega) (fun b hb => (hmO b hb).1))
        exact h2)
      have HMe := Lib.hid (fun W (h : Below W4.heap.size W4 W) => H3.out _ OS K W (HB4.out.trans (h.mono HB4.out.size)) (HTs.out.below intR_stable h) hne (by rw [hlO]; have := HFn.out.2.1; have := HLl.out.2; omega) hmO hK)
      rw [hmet] at HMe
      generalize NP.getD i 0 = z at *
      have HAw := Lib.hid (fun W (_ : Below W4.heap.size W4 W) => HA0.out W)
      clear hlO hne hmO hK hmet
      go_wp2_with fail
      refine wp_region_held_drew (S := (fun w' => Below W4.heap.size W4 w')) (by kernel_rfl) ?_ (fun hHeld => ?_)
      · (try dsimp only); first | assumption | exact Below.alloc hHeld hHeld.size _ | exact (Below.refl _ _).drew | exact Below.drew (Below.refl _ _) | exact Below_drewN _ _ _ | exact Below.refl _ _ | (trace_state; fail)
      refine wpAnyH_take (i := 0) (oi := { dst := some 85, op := Op.move (Operand.tmp 0), type := 22, pos := _, after := #[], guard := none }) (v := ?_) rfl (by kernel_rfl) (by kernel_rfl) (by kernel_rfl) (fun _ _ _ h => h) (Or.inl ⟨by rfl, ?_⟩) (by assumption) ?_
      rotate_left
      · intro wt hSw; (try dsimp only at hSw); have y5 := cellB hSw y5 k5; first | (go_simp; done) | (go_simp; with_reducible rfl) | (trace_state; fail)
      try simp only [Act.put, List.setIfInBounds_toArray, List.set_cons_zero, List.set_cons_succ]
      refine wpAnyH_take (i := 1) (oi := { dst := some 86, op := Op.move (Operand.tmp 6), type := 25, pos := _, after := #[], guard := none }) (v := ?_) rfl (by kernel_rfl) (by kernel_rfl) (by kernel_rfl) (fun _ _ _ h => h) (Or.inl ⟨by rfl, ?_⟩) (by assumption) ?_
      rotate_left
      · intro wt hSw; (try dsimp only at hSw); have y5 := cellB hSw y5 k5; first | (go_simp; done) | (go_simp; with_reducible rfl) | (trace_state; fail)
      try simp only [Act.put, List.setIfInBounds_toArray, List.set_cons_zero, List.set_cons_succ]
      refine wpAnyH_take (i := 3) (oi := { dst := some 88, op := Op.move (Operand.tmp 9), type := 25, pos := _, after := #[], guard := none }) (v := ?_) rfl (by kernel_rfl) (by kernel_rfl) (by kernel_rfl) (fun _ _ _ h => h) (Or.inl ⟨by rfl, ?_⟩) (by assumption) ?_
      rotate_left
      · intro wt hSw; (try dsimp only at hSw); have y5 := cellB hSw y5 k5; first | (go_simp; done) | (go_simp; with_reducible rfl) | (trace_state; fail)
      try simp only [Act.put, List.setIfInBounds_toArray, List.set_cons_zero, List.set_cons_succ]
      refine wpAnyH_take (i := 4) (oi := { dst := some 89, op := Op.move (Operand.tmp 1), type := 3, pos := _, after := #[], guard := none }) (v := ?_) rfl (by kernel_rfl) (by kernel_rfl) (by kernel_rfl) (fun _ _ _ h => h) (Or.inl ⟨by rfl, ?_⟩) (by assumption) ?_
      rotate_left
      · intro wt hSw; (try dsimp only at hSw); have y5 := cellB hSw y5 k5; first | (go_simp; done) | (go_simp; with_reducible rfl) | (trace_state; fail)
      try simp only [Act.put, List.setIfInBounds_toArray, List.set_cons_zero, List.set_cons_succ]
      refine wpAnyH_take (i := 5) (oi := { dst := some 90, op := Op.indexAddr 25 (Operand.tmp 88) (Operand.tmp 89), type := 0, pos := _, after := #[{ on := 3, ground := Ground.data }, { on := 4, ground := Ground.data }], guard := none }) (v := ?_) rfl (by kernel_rfl) (by kernel_rfl) (by kernel_rfl) (fun _ _ _ h => h) (Or.inl ⟨by rfl, ?_⟩) (by assumption) ?_
      rotate_left
      · intro wt hSw; (try dsimp only at hSw); have y5 := cellB hSw y5 k5; first | (go_simp; done) | (go_simp; with_reducible rfl) | (trace_state; fail)
      try simp only [Act.put, List.setIfInBounds_toArray, List.set_cons_zero, List.set_cons_succ]
      refine wpAnyH_take (i := 6) (oi := { dst := some 91, op := Op.load 3 (Operand.tmp 90), type := 3, pos := _, after := #[{ on := 5, ground := Ground.data }], guard := none }) (v := ?_) rfl (by kernel_rfl) (by kernel_rfl) (by kernel_rfl) (fun _ _ _ h => h) (Or.inl ⟨by rfl, ?_⟩) (by assumption) ?_
      rotate_left
      · intro wt hSw; (try dsimp only at hSw); have y5 := cellB hSw y5 k5; first | (go_simp; done) | (go_simp; with_reducible rfl) | (trace_state; fail)
      try simp only [Act.put, List.setIfInBounds_toArray, List.set_cons_zero, List.set_cons_succ]
      refine wpAnyH_ready (rs := [2]) (by kernel_rfl) (by simp) ?_
      refine AllReadyH.cons (o := { dst := some 87, op := Op.call { callee := Callee.value (Operand.func 14), args := #[Operand.tmp 85, Operand.tmp 86], argTypes := #[22, 25] }, type := 3, pos := _, after := #[{ on := 0, ground := Ground.data }, { on := 1, ground := Ground.data }], guard := none }) rfl (fun K hK => ?_) AllReadyH.nil
      go_simp
      refine (HMe.out _ hHeld).mono ?_; rintro e v1 ⟨rfl, hb⟩; have hHeld := hHeld.trans (hb.mono hHeld.size)
      go_wp2_with fail
      refine hK.out _ _ ?_ (fun hHeld => ?_)
      · (try dsimp only); first | assumption | exact Below.alloc hHeld hHeld.size _ | exact (Below.refl _ _).drew | exact Below.drew (Below.refl _ _) | exact Below_drewN _ _ _ | exact Below.refl _ _ | (trace_state; fail)
      clear hK K
      try simp only [Act.put, List.setIfInBounds_toArray, List.set_cons_zero, List.set_cons_succ]
      refine wpAnyH_take (i := 7) (oi := { dst := some 92, op := Op.binOp BinOp.eql 3 (Operand.tmp 87) (Operand.tmp 91) 3, type := 4, pos := _, after := #[{ on := 2, ground := Ground.data }, { on := 6, ground := Ground.data }], guard := none }) (v := ?_) rfl (by kernel_rfl) (by kernel_rfl) (by kernel_rfl) (fun _ _ _ h => h) (Or.inl ⟨by rfl, ?_⟩) (by assumption) ?_
      rotate_left
      · intro wt hSw; (try dsimp only at hSw); have y5 := cellB hSw y5 k5; first | (go_simp; done) | (go_simp; with_reducible rfl) | (trace_state; fail)
      try simp only [Act.put, List.setIfInBounds_toArray, List.set_cons_zero, List.set_cons_succ]
      refine wpAnyH_take (i := 8) (oi := { dst := some 93, op := Op.move (Operand.tmp 92), type := 4, pos := _, after := #[{ on := 7, ground := Ground.data }, { on := 2, ground := Ground.chain }], guard := none }) (v := ?_) rfl (by kernel_rfl) (by kernel_rfl) (by kernel_rfl) (fun _ _ _ h => h) (Or.inl ⟨by rfl, ?_⟩) (by assumption) ?_
      rotate_left
      · intro wt hSw; (try dsimp only at hSw); have y5 := cellB hSw y5 k5; first | (go_simp; done) | (go_simp; with_reducible rfl) | (trace_state; fail)
      try simp only [Act.put, List.setIfInBounds_toArray, List.set_cons_zero, List.set_cons_succ]
      refine wpAnyH_take (i := 9) (oi := { dst := some 94, op := Op.move (Operand.tmp 6), type := 25, pos := _, after := #[{ on := 8, ground := Ground.guard }], guard := some (8, false) }) (v := undef) rfl (by kernel_rfl) (by kernel_rfl) (by kernel_rfl) (fun _ _ _ h => h) (Or.inr ⟨by rfl, rfl⟩) (by assumption) ?_
      try simp only [Act.put, List.setIfInBounds_toArray, List.set_cons_zero, List.set_cons_succ]
      refine wpAnyH_take (i := 10) (oi := { dst := some 95, op := Op.move (Operand.tmp 1), type := 3, pos := _, after := #[{ on := 8, ground := Ground.guard }], guard := some (8, false) }) (v := undef) rfl (by kernel_rfl) (by kernel_rfl) (by kernel_rfl) (fun _ _ _ h => h) (Or.inr ⟨by rfl, rfl⟩) (by assumption) ?_
      try simp only [Act.put, List.setIfInBounds_toArray, List.set_cons_zero, List.set_cons_succ]
      refine wpAnyH_take (i := 11) (oi := { dst := some 96, op := Op.call { callee := Callee.value (Operand.func 13), args := #[Operand.tmp 94, Operand.tmp 95], argTypes := #[25, 3] }, type := 4, pos := _, after := #[{ on := 9, ground := Ground.data }, { on := 10, ground := Ground.data }, { on := 8, ground := Ground.chain }, { on := 8, ground := Ground.guard }], guard := some (8, false) }) (v := undef) rfl (by kernel_rfl) (by kernel_rfl) (by kernel_rfl) (fun _ _ _ h => h) (Or.inr ⟨by rfl, rfl⟩) (by assumption) ?_
      try simp only [Act.put, List.setIfInBounds_toArray, List.set_cons_zero, List.set_cons_succ]
      refine wpAnyH_take (i := 12) (oi := { dst := some 97, op := Op.pick (Operand.tmp 93) (Operand.const (Value.bool true)) (Operand.tmp 96), type := 4, pos := _, after := #[{ on := 8, ground := Ground.data }, { on := 11, ground := Ground.data }], guard := none }) (v := ?_) rfl (by kernel_rfl) (by kernel_rfl) (by kernel_rfl) (fun _ _ _ h => h) (Or.inl ⟨by rfl, ?_⟩) (by assumption) ?_
      rotate_left
      · intro wt hSw; (try dsimp only at hSw); have y5 := cellB hSw y5 k5; first | (go_simp; done) | (go_simp; with_reducible rfl) | (trace_state; fail)
      try simp only [Act.put, List.setIfInBounds_toArray, List.set_cons_zero, List.set_cons_succ]
      refine wpAnyH_take (i := 13) (oi := { dst := some 98, op := Op.move (Operand.tmp 97), type := 4, pos := _, after := #[{ on := 12, ground := Ground.data }, { on := 11, ground := Ground.chain }], guard := none }) (v := ?_) rfl (by kernel_rfl) (by kernel_rfl) (by kernel_rfl) (fun _ _ _ h => h) (Or.inl ⟨by rfl, ?_⟩) (by assumption) ?_
      rotate_left
      · intro wt hSw; (try dsimp only at hSw); have y5 := cellB hSw y5 k5; first | (go_simp; done) | (go_simp; with_reducible rfl) | (trace_state; fail)
      try simp only [Act.put, List.setIfInBounds_toArray, List.set_cons_zero, List.set_cons_succ]
      refine wpAnyH_take (i := 14) (oi := { dst := some 99, op := Op.move (Operand.tmp 0), type := 22, pos := _, after := #[{ on := 13, ground := Ground.guard }], guard := some (13, false) }) (v := undef) rfl (by kernel_rfl) (by kernel_rfl) (by kernel_rfl) (fun _ _ _ h => h) (Or.inr ⟨by rfl, rfl⟩) (by assumption) ?_
      try simp only [Act.put, List.setIfInBounds_toArray, List.set_cons_zero, List.set_cons_succ]
      refine wpAnyH_take (i := 15) (oi := { dst := some 100, op := Op.move (Operand.tmp 6), type := 25, pos := _, after := #[{ on := 13, ground := Ground.guard }], guard := some (13, false) }) (v := undef) rfl (by kernel_rfl) (by kernel_rfl) (by kernel_rfl) (fun _ _ _ h => h) (Or.inr ⟨by rfl, rfl⟩) (by assumption) ?_
      try simp only [Act.put, List.setIfInBounds_toArray, List.set_cons_zero, List.set_cons_succ]
      refine wpAnyH_take (i := 16) (oi := { dst := some 101, op := Op.call { callee := Callee.value (Operand.func 14), args := #[Operand.tmp 99, Operand.tmp 100], argTypes := #[22, 25] }, type := 3, pos := _, after := #[{ on := 14, ground := Ground.data }, { on := 15, ground := Ground.data }, { on := 13, ground := Ground.chain }, { on := 13, ground := Ground.guard }], guard := some (13, false) }) (v := undef) rfl (by kernel_rfl) (by kernel_rfl) (by kernel_rfl) (fun _ _ _ h => h) (Or.inr ⟨by rfl, rfl⟩) (by assumption) ?_
      try simp only [Act.put, List.setIfInBounds_toArray, List.set_cons_zero, List.set_cons_succ]
      refine wpAnyH_take (i := 17) (oi := { dst := some 102, op := Op.move (Operand.tmp 1), type := 3, pos := _, after := #[{ on := 13, ground := Ground.guard }], guard := some (13, false) }) (v := undef) rfl (by kernel_rfl) (by kernel_rfl) (by kernel_rfl) (fun _ _ _ h => h) (Or.inr ⟨by rfl, rfl⟩) (by assumption) ?_
      try simp only [Act.put, List.setIfInBounds_toArray, List.set_cons_zero, List.set_cons_succ]
      refine wpAnyH_take (i := 18) (oi := { dst := some 103, op := Op.binOp BinOp.eql 3 (Operand.tmp 101) (Operand.tmp 102) 3, type := 4, pos := _, after := #[{ on := 16, ground := Ground.data }, { on := 17, ground := Ground.data }, { on := 13, ground := Ground.guard }], guard := some (13, false) }) (v := undef) rfl (by kernel_rfl) (by kernel_rfl) (by kernel_rfl) (fun _ _ _ h => h) (Or.inr ⟨by rfl, rfl⟩) (by assumption) ?_
      try simp only [Act.put, List.setIfInBounds_toArray, List.set_cons_zero, List.set_cons_succ]
      refine wpAnyH_take (i := 19) (oi := { dst := some 104, op := Op.pick (Operand.tmp 98) (Operand.const (Value.bool true)) (Operand.tmp 103), type := 4, pos := _, after := #[{ on := 13, ground := Ground.data }, { on := 18, ground := Ground.data }], guard := none }) (v := ?_) rfl (by kernel_rfl) (by kernel_rfl) (by kernel_rfl) (fun _ _ _ h => h) (Or.inl ⟨by rfl, ?_⟩) (by assumption) ?_
      rotate_left
      · intro wt hSw; (try dsimp only at hSw); have y5 := cellB hSw y5 k5; first | (go_simp; done) | (go_simp; with_reducible rfl) | (trace_state; fail)
      try simp only [Act.put, List.setIfInBounds_toArray, List.set_cons_zero, List.set_cons_succ]
      refine wpAnyH_take (i := 20) (oi := { dst := some 105, op := Op.move (Operand.tmp 104), type := 4, pos := _, after := #[{ on := 19, ground := Ground.data }, { on := 16, ground := Ground.chain }], guard := none }) (v := ?_) rfl (by kernel_rfl) (by kernel_rfl) (by kernel_rfl) (fun _ _ _ h => h) (Or.inl ⟨by rfl, ?_⟩) (by assumption) ?_
      rotate_left
      · intro wt hSw; (try dsimp only at hSw); have y5 := cellB hSw y5 k5; first | (go_simp; done) | (go_simp; with_reducible rfl) | (trace_state; fail)
      try simp only [Act.put, List.setIfInBounds_toArray, List.set_cons_zero, List.set_cons_succ]
      refine wpAnyH_ready (rs := [21]) (by kernel_rfl) (by simp) ?_
      refine AllReadyH.cons (o := { dst := some 106, op := Op.call { callee := Callee.value (Operand.func 6), args := #[], argTypes := #[] }, type := 4, pos := _, after := #[{ on := 20, ground := Ground.chain }, { on := 20, ground := Ground.guard }], guard := some (20, true) }) rfl (fun K hK => ?_) AllReadyH.nil
      go_simp
      refine (HAw.out _ hHeld).mono ?_; rintro e v1 ⟨rfl, hb⟩; have hHeld := hHeld.trans (hb.mono hHeld.size)
      go_wp2_with fail
      refine hK.out _ _ ?_ (fun hHeld => ?_)
      · (try dsimp only); first | assumption | exact Below.alloc hHeld hHeld.size _ | exact (Below.refl _ _).drew | exact Below.drew (Below.refl _ _) | exact Below_drewN _ _ _ | exact Below.refl _ _ | (trace_state; fail)
      clear hK K
      try simp only [Act.put, List.setIfInBounds_toArray, List.set_cons_zero, List.set_cons_succ]
      refine wpAnyH_take (i := 22) (oi := { dst := some 107, op := Op.pick (Operand.tmp 105) (Operand.tmp 106) (Operand.const (Value.bool false)), type := 4, pos := _, after := #[{ on := 20, ground := Ground.data }, { on := 21, ground := Ground.data }], guard := none }) (v := ?_) rfl (by kernel_rfl) (by kernel_rfl) (by kernel_rfl) (fun _ _ _ h => h) (Or.inl ⟨by rfl, ?_⟩) (by assumption) ?_
      rotate_left
      · intro wt hSw; (try dsimp only at hSw); have y5 := cellB hSw y5 k5; first | (go_simp; done) | (go_simp; with_reducible rfl) | (trace_state; fail)
      try simp only [Act.put, List.setIfInBounds_toArray, List.set_cons_zero, List.set_cons_succ]
      refine wpAnyH_take (i := 23) (oi := { dst := some 4, op := Op.assign (Operand.tmp 107), type := 4, pos := _, after := #[{ on := 22, ground := Ground.data }, { on := 21, ground := Ground.chain }, { on := 0, ground := Ground.phase }, { on := 1, ground := Ground.phase }, { on := 2, ground := Ground.phase }, { on := 3, ground := Ground.phase }, { on := 4, ground := Ground.phase }, { on := 5, ground := Ground.phase }, { on := 6, ground := Ground.phase }, { on := 7, ground := Ground.phase }, { on := 8, ground := Ground.phase }, { on := 9, ground := Ground.phase }, { on := 10, ground := Ground.phase }, { on := 11, ground := Ground.phase }, { on := 12, ground := Ground.phase }, { on := 13, ground := Ground.phase }, { on := 14, ground := Ground.phase }, { on := 15, ground := Ground.phase }, { on := 16, ground := Ground.phase }, { on := 17, ground := Ground.phase }, { on := 18, ground := Ground.phase }, { on := 19, ground := Ground.phase }, { on := 20, ground := Ground.phase }, { on := 21, ground := Ground.phase }, { on := 22, ground := Ground.phase }], guard := none }) (v := ?_) rfl (by kernel_rfl) (by kernel_rfl) (by kernel_rfl) (fun _ _ _ h => h) (Or.inl ⟨by rfl, ?_⟩) (by assumption) ?_
      rotate_left
      · intro wt hSw; (try dsimp only at hSw); have y5 := cellB hSw y5 k5; first | (go_simp; done) | (go_simp; with_reducible rfl) | (trace_state; fail)
      try simp only [Act.put, List.setIfInBounds_toArray, List.set_cons_zero, List.set_cons_succ]
      refine wpAnyH_done (by kernel_rfl) ?_ _
      have HBp := Lib.hid (HB4.out.trans (hHeld.mono HB4.out.size))
      clear hHeld
      go_wp2_with fail
      go_ret
      exact ⟨rfl, HBp.out⟩
end Go.Proofs.Ytkjafkegkllbiaa
