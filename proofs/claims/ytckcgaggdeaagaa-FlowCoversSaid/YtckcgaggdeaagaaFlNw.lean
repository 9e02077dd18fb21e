/- flow.Nodes. -/
import Derived.Test.YtckcgaggdeaagaaFlNd
import Derived.Laws.Cover3
namespace Go.Proofs.Ytckcgaggdeaagaa
open Go.RowKit
set_option linter.unusedSimpArgs false
set_option linter.unusedVariables false
open FL (opA aA goesP endF blks)
theorem src_newX (w : World) (C : List Value) (t : TypeId) {b : Nat} (hb : w.heap.size = b) : Src (w.alloc (.cells C.toArray t)) (.slice (some ⟨b, 0, none⟩) 1 1) 1 C := src_newE w C t hb
theorem eql_nil {P : Program} (w : World) (t e : TypeId) (a : Option Addr) (l c : Nat) (h : P.underlying t = some (.slice e)) : (binOp .eql t (.slice a l c) (.slice none 0 0)).run P w = .ok (.bool a.isNone) w := by
  unfold binOp
  simp [run_equal_slice_nil w t e a l c h]
def nilN (l : List (Nat × Nat)) : List ND := l.map fun b => (b.1, b.2, .slice none 0 0)
theorem nilN_len (l : List (Nat × Nat)) : (nilN l).length = l.length := by simp [nilN]
theorem nilN_map (l : List (Nat × Nat)) : (nilN l).map (fun x => (x.1, x.2.1)) = l := by
  unfold nilN
  rw [List.map_map]
  exact (List.map_congr_left fun x _ => rfl).trans (List.map_id _)
set_option maxRecDepth 100000 in
set_option maxHeartbeats 16000000 in
theorem flow_Nodes (v : Value) (L : List Ins) (w : World) (hv : RowR 3 insR w v L) (hn : L.length ≤ 300) : Calls Try.prog 6 #[v] w (NodesQ L w) := by
  obtain ⟨i, hi, hz, hsize, hby⟩ : ∃ i, Try.prog.info? 3 = some i ∧ i.zero = some (.int .i64 0) ∧ i.size = 1 ∧ i.bytes = 8 := ⟨(Try.prog.info? 3).get!, by kernel_rfl, by kernel_rfl, by kernel_rfl, by kernel_rfl⟩
  obtain ⟨i4, hi4, hz4, hsize4, hby4⟩ : ∃ i, Try.prog.info? 30 = some i ∧ i.zero = some (.agg #[.int .i64 0, .int .i64 0, .slice none 0 0]) ∧ i.size = 3 ∧ i.bytes = 40 := ⟨(Try.prog.info? 30).get!, by kernel_rfl, by kernel_rfl, by kernel_rfl, by kernel_rfl⟩
  have HMt := Lib.hid (flow_Met v L w hv hn)
  have he1 : ∀ W, (binOp .eql 24 (.slice none 0 0) (.slice none 0 0)).run Try.prog W = .ok (.bool true) W := fun W => eql_nil W 24 4 none 0 0 Try.underlying24
  have he2 : ∀ W (a : Addr) l c, (binOp .eql 24 (.slice (some a) l c) (.slice none 0 0)).run Try.prog W = .ok (.bool false) W := fun W a l c => eql_nil W 24 4 (some a) l c Try.underlying24
  cases hs : seenB L
  · obtain ⟨s, t, rfl⟩ := row_get hv
    have HS := Lib.hid hs
    clear hv hn hs
    go_enter Try.func6, Try.ntmps6
    go_wp2_with fail
    refine HMt.out.mono ?_; rintro r w1 ⟨hb1, ⟨_, rfl⟩ | ⟨h, _⟩⟩
    · have HB := Lib.hid hb1
      clear hb1
      go_wp2_with fail
      go_ret
      exact ⟨HB.out, Or.inl ⟨HS.out, rfl⟩⟩
    · rw [HS.out] at h; cases h
  obtain ⟨h0, hj, hw⟩ := seen_parts hs
  have hM := rc_met hw h0
  have HM := Lib.hid hM
  have HS := Lib.hid hs
  have HG := Lib.hid (fun (W : World) (h : Below w.heap.size w W) (pc : Nat) (hp : pc < L.length) => flow_goes v L pc W (hv.below insR_stable h) hp hn (jumps_sw hj hp))
  have HLd := Lib.hid (fun (W : World) (h : Below w.heap.size w W) (mb C : Nat) hm => flow_leaders v L (FL.rcB L) mb C W (hv.below insR_stable h) hn h0 hj hM hm)
  have HEn := Lib.hid (fun (W : World) (h : Below w.heap.size w W) (F : Nat → Bool) (fb C f : Nat) hF hf hmf => flow_end v L (FL.rcB L) F fb C f W (hv.below insR_stable h) hn hM hF hf hmf)
  have hGl : ∀ pc, pc < L.length → (goesP L pc).length ≤ 301 := fun pc hp => by
    have h2 := jumps_sw hj hp
    unfold goesP
    split
    · simp
    split
    · simp
    split
    · rename_i h32
      have : (aA L pc).toNat ≤ 300 := by
        by_cases hz : (aA L pc).toNat = 0
        · omega
        · have := h2 h32 ((aA L pc).toNat - 1) (by omega); omega
      simp; omega
    split <;> simp
  have HGl := Lib.hid hGl
  obtain ⟨s, t, rfl⟩ := row_get hv
  obtain ⟨n, hN⟩ : ∃ n, L.length = n := ⟨_, rfl⟩
  have HN := Lib.hid hN
  have HMt := Lib.hid (show Calls Try.prog 5 #[.slice s n t] w (MetQ L w) by rw [← hN]; exact HMt.out)
  rw [hN] at hn h0 HG HGl HLd HEn ⊢
  clear hv hN hj hM hGl hs hw
  have hmk := fun W => run_make W 28 3 i _ Try.underlying28 hi hz .i64 .i64 (n : Int) (n : Int) (by omega) (by omega) (by rw [hby]; omega) (by omega)
  rw [hsize, Nat.mul_one, madeI, Int.toNat_natCast] at hmk
  have hn63 : n ≤ 9223372036854775807 := by omega
  have HNn := Lib.hid (And.intro hn h0)
  obtain ⟨ZP, hZP⟩ : ∃ Z, (iV (List.replicate n 0)).toArray = Z := ⟨_, rfl⟩
  rw [hZP] at hmk
  have HZP := Lib.hid hZP
  clear hZP h0
  go_enter Try.func6, Try.ntmps6
  go_wp2_with fail
  refine HMt.out.mono ?_; rintro r w1 ⟨hb1, ⟨h, _⟩ | ⟨_, mb, rfl, hmb, hO1⟩⟩
  · rw [HS.out] at h; cases h
  rw [HN.out] at hO1 ⊢
  have HB1 := Lib.hid hb1
  have HL1 := Lib.hid (HLd.out w1 hb1 mb mb hO1)
  clear hb1 hmb hO1
  go_wp2_with fail
  clear he1 he2
  refine HL1.out.mono ?_; rintro r w2 ⟨F, rfl, hLead, hLS⟩
  have HLe := Lib.hid hLead
  have HLS := Lib.hid hLS
  have HB2 := Lib.hid (HB1.out.trans (hLS.hb.mono HB1.out.size))
  obtain ⟨fb, hfb⟩ : ∃ b, w1.heap.size = b := ⟨_, rfl⟩
  have HFb := Lib.hid hfb
  rw [hfb] at HLS ⊢
  have HIs := Lib.hid (show ∀ f, f < n → F f = true → FL.rcB L f = true ∧ FL.IsEnd L F f (endF L F f) from fun f hf hF => by
    have h1 := FL.Lead.met HM.out hLead (by rw [HN.out]; exact hf) hF
    exact ⟨h1, FL.endF_is HM.out (by rw [HN.out]; exact hf) h1⟩)
  have HEf := Lib.hid (fun (W : World) (h : Below w.heap.size w W) (C f : Nat) hF hf hmf => HEn.out W h F fb C f hF hf hmf)
  generalize hE : endF L F = E at *
  have HE := Lib.hid hE
  obtain ⟨nb, hnb⟩ : ∃ b, w2.heap.size = b := ⟨_, rfl⟩
  have HNb := Lib.hid hnb
  have HP0 := Lib.hid (show NSt w.heap.size nb fb n w (w2.alloc (.cells ZP 3)) F (List.replicate n 0) (.slice none 0 0) [] by
    subst hnb
    have k1 := owns_arr w2 ZP 3 1 n (by rw [← HZP.out]; simp [iV]) (by unfold maxLen; omega)
    have e : ZP.toList = iV (nI (List.replicate n 0)) := by rw [← HZP.out]; simp [iV, nI]
    rw [e] at k1
    have hsz : w.heap.size ≤ w2.heap.size := HB2.out.size
    have hf1 : w.heap.size ≤ fb := by rw [← HFb.out]; exact HB1.out.size
    exact ⟨HB2.out.alloc hsz _, owns_below (own_low HLS.out.hm hf1) ((Below.refl _ _).alloc (Nat.le_refl _) _), own_low k1 hsz, World.ownsRow_nil _ _ _ _, by simp, ⟨hsz, by simp⟩⟩)
  clear hLead hLS hfb hE
  go_wp2_with fail
  obtain ⟨W0, hW0⟩ : ∃ W, W = w2.alloc (.cells ZP 3) := ⟨_, rfl⟩
  rw [← hW0] at HP0 ⊢
  clear hmk hW0 hnb
  go_loopw [6, 23] (fun oo jj wr => ∃ (k m oc : Nat) (oa : Option Addr) (Num : List Nat), jj = .int .i64 k ∧ k ≤ n ∧ oo = .slice oa m oc ∧ Hid ((blks k F E).length = m) ∧ Hid (NSt w.heap.size nb fb n w wr F Num (.slice oa m oc) (nilN (blks k F E)) ∧ NumsR Num F E k)) (fun _ jj _ => n - (intOf jj).toNat)
  case atStart => exact ⟨0, 0, 0, none, _, rfl, Nat.zero_le _, rfl, Lib.hid rfl, Lib.hid ⟨HP0.out, fun q hq => by omega⟩⟩
  case round =>
    obtain ⟨k, m, oc, oa, Num, rfl, hk, rfl, hm, hP⟩ := hrel
    rename World => W1
    by_cases hlt : k < n
    case pos =>
      have q1 : ((k : Int) < (n : Int)) = True := eq_true (by omega)
      have q1' : (k < n) = True := eq_true hlt
      have hk62 : k ≤ 9223372036854775806 := by omega
      have HK := Lib.hid hlt
      have cF := owns_bool_at hP.out.1.hf hlt false
      rw [rowF_at hlt] at cF
      have HBk := Lib.hid (FL.blks_succ k F E)
      have hml := FL.blks_len k F E
      rw [hm.out] at hml
      cases hF : F k
      case false =>
        rw [hF] at cF
        have HBk := Lib.hid (show blks (k + 1) F E = blks k F E by rw [HBk.out, hF]; simp)
        have HPP := Lib.hid (And.intro hP.out.1 (show NumsR Num F E (k + 1) from fun q hq hf => by
          by_cases e : q = k
          · subst e; rw [hF] at hf; cases hf
          · exact hP.out.2 q (by omega) hf))
        have HMm := hm
        clear hP hm hlt hk hF hml
        go_wp2_with fail
        go_roundw
        case rel => exact ⟨k + 1, m, oc, oa, Num, by simp, by have := HK.out; omega, rfl, Lib.hid (by rw [HBk.out]; exact HMm.out), Lib.hid (by rw [HBk.out]; exact HPP.out)⟩
        case measure => have := HK.out; first | (simp [intOf]; done) | (simp [intOf]; omega)
      rw [hF] at cF
      have HBk := Lib.hid (show blks (k + 1) F E = blks k F E ++ [(k, E k)] by rw [HBk.out, hF]; simp)
      have HEk := Lib.hid (HIs.out k hlt hF)
      have fn := hP.out.1.hn.frozenAt k
      have cn := hP.out.1.hn.cellAt k (by omega)
      obtain ⟨z0, hz0⟩ := get_some (L := iV (nI Num)) (n := k) (by simp [iV, nI, hP.out.1.nl]; omega)
      rw [hz0] at cn
      have HP2 := Lib.hid (hP.out.1.num k m)
      have HNu := Lib.hid (show NumsR (Num.set k m) F E (k + 1) from fun q hq hf => by
        rw [List.getElem?_set]
        by_cases e : k = q
        · subst e; rw [if_pos rfl, if_pos (by rw [hP.out.1.nl]; exact hlt), hm.out]
        · rw [if_neg e]; exact hP.out.2 q (by omega) hf)
      have HMm := hm
      have hm300 : m ≤ 300 := by omega
      obtain ⟨W3, hW3⟩ : ∃ W, W = W1.setCell ⟨nb, k, none⟩ (.int .i64 (m : Int)) := ⟨_, rfl⟩
      rw [← hW3] at HP2
      have HW3 := Lib.hid hW3
      have HCe := Lib.hid (HEf.out W3 HP2.out.hb w.heap.size k HP2.out.hf hlt HEk.out.1)
      have HEle := Lib.hid (show E k ≤ n from by have := HEk.out.2.le; rw [HN.out] at this; exact this)
      clear hP hm hlt hk hF hml hz0 hW3
      go_wp2_with fail
      rw [← HW3.out]
      refine HCe.out.mono ?_; rintro r w4 ⟨rfl, hw4⟩
      have hw4 := hw4.symm
      subst hw4
      rename World => W4
      have HM3 := Lib.hid hm300
      go_wp2_with (first | (at_builtin; go_loud (refine wpList_append_src rfl (.tmp 35) (.tmp 42) 26 rfl w.heap.size 30 i4 _ 3 40 Try.underlying26 hi4 hz4 hsize4 hby4 rfl (by omega) _ m _ rfl (owns_below (own_eq2 HP2.out.ho (by rw [nilN_len]; exact HMm.out) rfl) ((Below.refl _ _).alloc (Nat.le_refl _) _)) _ 1 [.int .i64 (k : Int), .int .i64 (E k : Int), .slice none 0 0] rfl (src_newX _ _ _ (by simp)) rfl (by intro u hu; simp at hu; rcases hu with rfl | rfl | rfl <;> rfl) (by have := HM3.out; unfold maxLen; omega) (by have := HM3.out; omega) (by have := HP2.out.hs; simp; omega) ?_; intro v5 w5 hO5 hG5; have HP5 := Lib.hid (HP2.out.app (x := (k, E k, .slice none 0 0)) (by rw [nilN_len, HMm.out]; exact hO5) hG5); have hf5 := owns_form hO5; clear hO5 hG5)) | fail)
      obtain ⟨a5, c5, rfl⟩ := hf5
      go_roundw
      case rel => exact ⟨k + 1, m + 1, c5, a5, Num.set k m, by simp, by have := HK.out; omega, rfl, Lib.hid (by rw [HBk.out, List.length_append, HMm.out]; rfl), Lib.hid ⟨by rw [HBk.out, show nilN (blks k F E ++ [(k, E k)]) = nilN (blks k F E) ++ [(k, E k, .slice none 0 0)] by simp [nilN]]; exact HP5.out, HNu.out⟩⟩
      case measure => have := HK.out; first | (simp [intOf]; done) | (simp [intOf]; omega)
    case neg =>
      obtain rfl : n = k := by omega
      have q1 : ((n : Int) < (n : Int)) = False := eq_false (by omega)
      have q1' : (n < n) = False := eq_false (by omega)
      have HBm := Lib.hid (show ∀ b ∈ blks n F E, ∃ f, f < n ∧ F f = true ∧ b = (f, E f) from fun b hb => FL.blks_mem.1 hb)
      obtain ⟨BL, hBL⟩ : ∃ BL, blks n F E = BL := ⟨_, rfl⟩
      have HBL := Lib.hid hBL
      rw [hBL] at hm hP HBm
      have HPN := Lib.hid hP.out.1
      have HNum := Lib.hid hP.out.2
      have HMm := hm
      have hm300 : m ≤ 300 := by have h := FL.blks_len n F E; rw [hBL, hm.out] at h; omega
      have HM3 := Lib.hid hm300
      clear hP hm hlt hk hBL
      go_wp2_with fail
      go_loopw [47] (fun jj wr => ∃ (k : Nat) (N : List ND), jj = .int .i64 k ∧ k ≤ m ∧ Hid (N.length = m ∧ N.map (fun x => (x.1, x.2.1)) = BL ∧ ∀ i x, N[i]? = some x → k ≤ i → x.2.2 = .slice none 0 0) ∧ Hid (NSt w.heap.size nb fb n w wr F Num (.slice oa m oc) N) ∧ Hid (DoneX L Num (nb + 1) wr k N (.slice none 0 0))) (fun jj _ => m - (intOf jj).toNat)
      case atStart =>
        refine ⟨0, nilN BL, rfl, Nat.zero_le _, Lib.hid ⟨by rw [nilN_len]; exact HMm.out, nilN_map BL, fun i x hx _ => ?_⟩, HPN, Lib.hid (fun i x hi _ => by omega)⟩
        obtain ⟨b, _, rfl⟩ := List.mem_map.1 (List.mem_of_getElem? hx)
        rfl
      case round =>
        obtain ⟨k, N, rfl, hk, hT, hP, hD⟩ := hrel
        rename World => W2
        by_cases hlt : k < m
        case neg =>
          obtain rfl : m = k := by omega
          have q2 : ((m : Int) < (m : Int)) = False := eq_false (by omega)
          have q2' : (m < m) = False := eq_false (by omega)
          have HTT := hT
          have HPP := hP
          have HDD := hD
          clear hT hP hD hlt hk
          go_wp2_with fail
          go_ret
          exact ⟨HPP.out.hb, Or.inr ⟨HS.out, F, _, N, rfl, HLe.out, HM.out, by rw [HN.out, HE.out, HTT.out.2.1, HBL.out], HPP.out.ho, Num, by rw [HE.out, HN.out]; exact HNum.out, by rw [HTT.out.1]; exact HDD.out.low (by have := HPP.out.hs.1; omega)⟩⟩
        have q2 : ((k : Int) < (m : Int)) = True := eq_true (by omega)
        have q2' : (k < m) = True := eq_true hlt
        have hk62 : k ≤ 9223372036854775806 := by omega
        have HK := Lib.hid hlt
        obtain ⟨y, hy⟩ := get_some (L := N) (n := k) (by rw [hT.out.1]; exact hlt)
        have hyn := hT.out.2.2 k y hy (Nat.le_refl _)
        obtain ⟨f, tt, U⟩ := y
        simp only at hyn
        subst hyn
        obtain ⟨f', hf', hFf, hbe⟩ := HBm.out (f, tt) (by rw [← hT.out.2.1]; exact List.mem_map.2 ⟨_, List.mem_of_getElem? hy, rfl⟩)
        injection hbe with h1 h2
        subst h1
        obtain ⟨hmf, hend⟩ := HIs.out f hf' hFf
        rw [← h2] at hend
        have hlt1 := hend.lt
        have hle1 := hend.le
        rw [HN.out] at hle1
        obtain ⟨p, rfl⟩ : ∃ p, tt = p + 1 := ⟨tt - 1, by omega⟩
        have hmp : FL.rcB L p = true := by
          have := hend.met HM.out hmf (p - f) (by omega)
          rwa [show f + (p - f) = p by omega] at this
        obtain ⟨ob, hse, hob1, hob2, hmc, hcc, d0, d1, d2, fd, hne1, hne2⟩ := hP.out.node hT.out.1 hy
        subst hse
        have d1 : W2.cell? ⟨ob, k * 3 + 1, none⟩ = some (.int .i64 ((p : Int) + 1)) := by simpa using d1
        have HC := Lib.hid (HG.out W2 hP.out.hb p (by omega))
        have HGn := Lib.hid (HGl.out p (by omega))
        have HOn := Lib.hid (fun z hz => HM.out.on p (by rw [HN.out]; omega) hmp z hz)
        generalize hG1 : goesP L p = G1 at *
        have HGe := Lib.hid hG1
        have HTT := Lib.hid (show N.length = m ∧ N.map (fun x => (x.1, x.2.1)) = BL ∧ N[k]? = some (f, p + 1, .slice none 0 0) ∧ ∀ i x, N[i]? = some x → k < i → x.2.2 = .slice none 0 0 from ⟨hT.out.1, hT.out.2.1, hy, fun i x hx hi => hT.out.2.2 i x hx (by omega)⟩)
        have HPP := hP
        have HDD := hD
        have hp62 : p ≤ 9223372036854775806 := by omega
        clear hT hP hD hlt hk hy hf' hFf h2 hmf hend hlt1 hle1 hmp hG1 d0 d2 fd hne1 hne2 hob1
        go_wp2_with fail
        refine HC.out.mono ?_; rintro r w3 ⟨gu, rfl, hO2, hB2⟩
        obtain ⟨Lr, hLr⟩ : ∃ z, G1.length = z := ⟨_, rfl⟩
        have HLr := Lib.hid hLr
        rw [hLr] at hO2 HGn
        obtain ⟨ga, gc, rfl⟩ := owns_form hO2
        have hLr62 : Lr ≤ 9223372036854775806 := by have := HGn.out; omega
        have HP3 := Lib.hid (HPP.out.below hB2)
        have HD3 := Lib.hid (HDD.out.below hB2)
        have HQ0 := Lib.hid (show w3.ownsRow (nb + 1) 3 1 (.slice ga Lr gc) Lr (iV G1) ∧ ∀ g, (Value.slice ga Lr gc).ownBlock = some g → (Value.slice none 0 0).ownBlock ≠ some g from ⟨own_low hO2 HPP.out.hs.2, fun g _ h => by simp [Value.ownBlock] at h⟩)
        clear hO2 hB2 hLr
        go_wp2_with fail
        go_loopw [59] (fun jj wr => ∃ (j : Nat) (N : List ND) (ul uc : Nat) (ua : Option Addr) (lst : List Int), jj = .int .i64 j ∧ j ≤ Lr ∧ Hid (N.length = m ∧ N.map (fun x => (x.1, x.2.1)) = BL ∧ N[k]? = some (f, p + 1, .slice ua ul uc) ∧ ∀ i x, N[i]? = some x → k < i → x.2.2 = .slice none 0 0) ∧ Hid (NSt w.heap.size nb fb n w wr F Num (.slice (some ⟨ob, 0, none⟩) m oc) N) ∧ Hid (lst = (G1.take j).map (fun z => ((Num[z.toNat]?.getD 0 : Nat) : Int)) ∧ lst.length = ul ∧ ul ≤ j ∧ wr.ownsRow (nb + 1) 3 1 (.slice ua ul uc) ul (iV lst)) ∧ Hid (wr.ownsRow (nb + 1) 3 1 (.slice ga Lr gc) Lr (iV G1) ∧ ∀ g, (Value.slice ga Lr gc).ownBlock = some g → (Value.slice ua ul uc).ownBlock ≠ some g) ∧ Hid (DoneX L Num (nb + 1) wr k N (.slice ua ul uc))) (fun jj _ => Lr - (intOf jj).toNat)
        case atStart => exact ⟨0, N, 0, 0, none, [], rfl, Nat.zero_le _, HTT, HP3, Lib.hid ⟨rfl, rfl, Nat.le_refl _, World.ownsRow_nil _ _ _ _⟩, HQ0, HD3⟩
        case round =>
          obtain ⟨j, N, ul, uc, ua, lst, rfl, hj, hT, hP, hU, hQ, hD⟩ := hrel
          replace hU := Lib.hid (And.intro hU.out.2 hU.out.1)
          rename World => W4
          by_cases hlt : j < Lr
          case neg =>
            obtain rfl : Lr = j := by omega
            have q3 : ((Lr : Int) < (Lr : Int)) = False := eq_false (by omega)
            have q3' : (Lr < Lr) = False := eq_false (by omega)
            have HTf := Lib.hid (show N.length = m ∧ N.map (fun x => (x.1, x.2.1)) = BL ∧ ∀ i x, N[i]? = some x → k + 1 ≤ i → x.2.2 = .slice none 0 0 from ⟨hT.out.1, hT.out.2.1, fun i x hx hi => hT.out.2.2.2 i x hx (by omega)⟩)
            have HPf := hP
            have HDf := Lib.hid (hD.out.done (lst := lst) hT.out.2.2.1 (by rw [hU.out.2, List.take_of_length_le (by rw [HLr.out]; exact Nat.le_refl _)]; unfold numL; rw [Nat.add_sub_cancel, HGe.out]) (by rw [hU.out.1.1]; exact hU.out.1.2.2))
            clear hT hP hU hQ hD hlt hj
            go_wp2_with fail
            go_roundw
            case rel => exact ⟨k + 1, N, by simp, by have := HK.out; omega, HTf, HPf, HDf⟩
            case measure => have := HK.out; first | (simp [intOf]; done) | (simp [intOf]; omega)
          have q3 : ((j : Int) < (Lr : Int)) = True := eq_true (by omega)
          have q3' : (j < Lr) = True := eq_true hlt
          have hj62 : j ≤ 9223372036854775806 := by omega
          have HJ := Lib.hid hlt
          obtain ⟨z, hz⟩ := get_some (L := G1) (n := j) (by rw [HLr.out]; exact hlt)
          obtain ⟨q, hzu, hqn, _⟩ := HOn.out z (List.mem_of_getElem? hz)
          subst hzu
          rw [HN.out] at hqn
          obtain ⟨go, hse, cz, hz1, hz2, _⟩ := own_at hQ.out.1 hlt hz
          subst hse
          have r2 : ((q : Int) < (n : Int)) = True := eq_true (by omega)
          have r2' : (q < n) = True := eq_true hqn
          obtain ⟨x, hx⟩ := get_some (L := Num) (n := q) (by rw [hP.out.nl]; exact hqn)
          obtain ⟨ob2, hse2, hob1, zo, _, _, _, _, e0, fe, hne1, hne2⟩ := hP.out.node hT.out.1 hT.out.2.2.1
          obtain rfl : ob = ob2 := by injection hse2 with h; injection h
          obtain ⟨nb2, hse3, e1, _, _, _⟩ := own_at hP.out.hn hqn (z := (x : Int)) (by simp [nI, hx])
          obtain rfl : nb = nb2 := by injection hse3 with h; injection h
          have z0 : ob < W4.heap.size := zo
          have z1 : nb < W4.heap.size := by have := hP.out.hs.2; omega
          have HTT := hT
          have HUl := Lib.hid (show ul ≤ 400 by have h1 := hU.out.1.2.1; have h2 := HGn.out; omega)
          have HUq := Lib.hid (And.intro hU.out.1.1 hU.out.1.2.1)
          have hUo := hU.out.1.2.2
          have HUm := Lib.hid hU.out.2
          have HUx := Lib.hid (fun o => owns_below hUo ((Below.refl W4.heap.size W4).alloc (Nat.le_refl _) o))
          have hUl2 : W4.ownsRow (nb + 1) 3 1 (.slice ua ul uc) lst.length (iV lst) := by rw [hU.out.1.1]; exact hUo
          have HLk := Lib.hid (fun (w6 : World) (v6 : Value) (hG : (W4.alloc (.cells #[.int .i64 (x : Int)] 3)).grownBy w6 (Value.slice ua ul uc).ownBlock) => (hP.out.link (v6 := v6) hT.out.1 hT.out.2.2.1 hUl2 hG).1)
          have HNk := Lib.hid (fun (w6 : World) (hG : (W4.alloc (.cells #[.int .i64 (x : Int)] 3)).grownBy w6 (Value.slice ua ul uc).ownBlock) => (show w6.ownsRow w.heap.size 30 3 (.slice (some ⟨ob, 0, none⟩) m oc) m (ndV N) from by
              have h6 := (hP.out.link (v6 := .slice none 0 0) hT.out.1 hT.out.2.2.1 hUl2 hG).2.ho
              rw [hT.out.1] at h6
              exact h6))
          have HVk := Lib.hid (fun (w6 : World) (vv : Value) (hG : (W4.alloc (.cells #[.int .i64 (x : Int)] 3)).grownBy w6 (Value.slice ua ul uc).ownBlock) (hU6 : w6.ownsRow (nb + 1) 3 1 vv (ul + 1) (iV lst ++ [.int .i64 (x : Int)])) =>
            (show (w6.setCell ⟨ob, k * 3 + 2, none⟩ vv).ownsRow (nb + 1) 3 1 vv (ul + 1) (iV (lst ++ [(x : Int)])) from by
              have e : iV (lst ++ [(x : Int)]) = iV lst ++ [.int .i64 (x : Int)] := by simp [iV]
              rw [e]
              exact owns_set hU6 (owns_ne (B := w.heap.size) (C := w.heap.size) (f := 30) (own_low hU6 (show w.heap.size ≤ nb + 1 by have := hP.out.hs.1; omega)) (HNk.out w6 hG) (by decide))))
          have HGk := Lib.hid (fun (w6 : World) (v6 : Value) (hG : (W4.alloc (.cells #[.int .i64 (x : Int)] 3)).grownBy w6 (Value.slice ua ul uc).ownBlock) (hN6 : Near (W4.alloc (.cells #[.int .i64 (x : Int)] 3)) (.slice ua ul uc) v6) =>
            (show (w6.setCell ⟨ob, k * 3 + 2, none⟩ v6).ownsRow (nb + 1) 3 1 (.slice (some ⟨go, 0, none⟩) Lr gc) Lr (iV G1) ∧ ∀ g, (Value.slice (some ⟨go, 0, none⟩) Lr gc).ownBlock = some g → v6.ownBlock ≠ some g from
              ⟨by
                have hq6 := owns_grown (owns_below hQ.out.1 ((Below.refl _ _).alloc (Nat.le_refl _) _)) hG (fun g hg => hQ.out.2 g hg)
                exact owns_set hq6 (owns_ne (B := w.heap.size) (C := w.heap.size) (f := 30) (own_low hq6 (show w.heap.size ≤ nb + 1 by have := hP.out.hs.1; omega)) (HNk.out w6 hG) (by decide)), fun g hg he => by
                rcases hN6 with hN6 | ⟨g', hN6, hge⟩
                · rw [hN6] at he; exact hQ.out.2 g hg he
                · rw [hN6] at he; cases he; have h1 := (owns_lt hQ.out.1 hg).2; simp at hge; omega⟩))
          have HDk := Lib.hid (fun (w6 : World) (v6 : Value) (hG : (W4.alloc (.cells #[.int .i64 (x : Int)] 3)).grownBy w6 (Value.slice ua ul uc).ownBlock) (hN6 : Near (W4.alloc (.cells #[.int .i64 (x : Int)] 3)) (.slice ua ul uc) v6) =>
            hD.out.link (y := (f, p + 1, v6)) (show w.heap.size ≤ nb + 1 by have := hP.out.hs.1; omega) hG hN6 (HNk.out w6 hG))
          have HZx := Lib.hid (show (G1.take (j + 1)).map (fun z => ((Num[z.toNat]?.getD 0 : Nat) : Int)) = (G1.take j).map (fun z => ((Num[z.toNat]?.getD 0 : Nat) : Int)) ++ [(x : Int)] from by
            rw [take_snoc hz, List.map_append]
            simp [hx])
          have HF6 := Lib.hid (fun (w6 : World) (hG : (W4.alloc (.cells #[.int .i64 (x : Int)] 3)).grownBy w6 (Value.slice ua ul uc).ownBlock) => by
            obtain ⟨_, hc, _, _, _, _, _, _, _, h, _, _⟩ := (hP.out.link (v6 := .slice none 0 0) hT.out.1 hT.out.2.2.1 hUl2 hG).2.node hT.out.1 hT.out.2.2.1
            cases hc
            exact h)
          have HC6 := Lib.hid (fun (w6 : World) (hG : (W4.alloc (.cells #[.int .i64 (x : Int)] 3)).grownBy w6 (Value.slice ua ul uc).ownBlock) => by
            obtain ⟨_, hc, _, _, _, _, _, _, h, _, _, _⟩ := (hP.out.link (v6 := .slice none 0 0) hT.out.1 hT.out.2.2.1 hUl2 hG).2.node hT.out.1 hT.out.2.2.1
            cases hc
            exact h)
          have HSx := Lib.hid (fun (v6 : Value) => (show (N.set k (f, p + 1, v6)).length = m ∧ (N.set k (f, p + 1, v6)).map (fun x => (x.1, x.2.1)) = BL ∧ (N.set k (f, p + 1, v6))[k]? = some (f, p + 1, v6) ∧ ∀ i x, (N.set k (f, p + 1, v6))[i]? = some x → k < i → x.2.2 = .slice none 0 0 from by
            have hkl : k < N.length := lt_of_get hT.out.2.2.1
            refine ⟨by rw [List.length_set]; exact hT.out.1, ?_, by simp [hkl], fun i x hx hi => ?_⟩
            · rw [List.map_set, ← hT.out.2.1]
              have he : (N.map fun x => (x.1, x.2.1))[k]? = some (f, p + 1) := by rw [List.getElem?_map, hT.out.2.2.1]; rfl
              apply List.ext_getElem?
              intro i
              rw [List.getElem?_set]
              split
              · rename_i e; subst e; rw [he]; simp [hkl]
              · rfl
            · rw [List.getElem?_set, if_neg (by omega)] at hx
              exact hT.out.2.2.2 i x hx hi))
          have hUs := hP.out.hs.2
          clear hT hP hU hQ hD hlt hj hz hqn hx hse2 hse3 hob1 hne1 hne2 zo fe hUo hUl2
          go_wp2_with fail
          refine wp_region_till (S := (fun (L : Array Bool) (w' : World) => (L.getD 12 true = false → Below W4.heap.size W4 w') ∧ (L.getD 11 true = false → Below W4.heap.size W4 w'))) (by kernel_rfl) ?_ (fun hHeld => ?_)
          · (try dsimp only); exact ⟨fun _ => (Below.refl _ _).drew, fun _ => (Below.refl _ _).drew⟩
          refine till_take 13 (fun _ => True) (i := 0) (oi := { dst := some 63, op := Op.move (Operand.tmp 6), type := 26, pos := _, after := #[], guard := none }) (u := ?_) rfl (by kernel_rfl) (by kernel_rfl) (by kernel_rfl) (by kernel_rfl) (by kernel_rfl) (by decide) (fun L v hL h => trivial) (fun L v => by simp only [getD_set_ne true (show 0 ≠ 12 by decide), getD_set_ne true (show 0 ≠ 11 by decide)]) (fun _ _ _ h => h) (Or.inl ⟨by rfl, ?_⟩) hHeld ?_
          rotate_left
          · intro wt _; first | (go_simp; done) | (go_simp; with_reducible rfl) | (trace_state; fail)
          clear hHeld; intro hHeld
          try simp only [Act.put, List.setIfInBounds_toArray, List.set_cons_zero, List.set_cons_succ]
          refine till_take 13 (fun _ => True) (i := 1) (oi := { dst := some 64, op := Op.move (Operand.tmp 8), type := 3, pos := _, after := #[], guard := none }) (u := ?_) rfl (by kernel_rfl) (by kernel_rfl) (by kernel_rfl) (by kernel_rfl) (by kernel_rfl) (by decide) (fun L v hL h => trivial) (fun L v => by simp only [getD_set_ne true (show 1 ≠ 12 by decide), getD_set_ne true (show 1 ≠ 11 by decide)]) (fun _ _ _ h => h) (Or.inl ⟨by rfl, ?_⟩) hHeld ?_
          rotate_left
          · intro wt _; first | (go_simp; done) | (go_simp; with_reducible rfl) | (trace_state; fail)
          clear hHeld; intro hHeld
          try simp only [Act.put, List.setIfInBounds_toArray, List.set_cons_zero, List.set_cons_succ]
          refine till_take 4 (fun _ => True) (i := 2) (oi := { dst := some 65, op := Op.move (Operand.tmp 6), type := 26, pos := _, after := #[], guard := none }) (u := ?_) rfl (by kernel_rfl) (by kernel_rfl) (by kernel_rfl) (by kernel_rfl) (by kernel_rfl) (by decide) (fun L v hL h => trivial) (fun L v => by simp only [getD_set_ne true (show 2 ≠ 12 by decide), getD_set_ne true (show 2 ≠ 11 by decide)]) (fun _ _ _ h => h) (Or.inl ⟨by rfl, ?_⟩) hHeld ?_
          rotate_left
          · intro wt _; first | (go_simp; done) | (go_simp; with_reducible rfl) | (trace_state; fail)
          clear hHeld; intro hHeld
          try simp only [Act.put, List.setIfInBounds_toArray, List.set_cons_zero, List.set_cons_succ]
          refine till_take 4 (fun _ => True) (i := 3) (oi := { dst := some 66, op := Op.move (Operand.tmp 8), type := 3, pos := _, after := #[], guard := none }) (u := ?_) rfl (by kernel_rfl) (by kernel_rfl) (by kernel_rfl) (by kernel_rfl) (by kernel_rfl) (by decide) (fun L v hL h => trivial) (fun L v => by simp only [getD_set_ne true (show 3 ≠ 12 by decide), getD_set_ne true (show 3 ≠ 11 by decide)]) (fun _ _ _ h => h) (Or.inl ⟨by rfl, ?_⟩) hHeld ?_
          rotate_left
          · intro wt _; first | (go_simp; done) | (go_simp; with_reducible rfl) | (trace_state; fail)
          clear hHeld; intro hHeld
          try simp only [Act.put, List.setIfInBounds_toArray, List.set_cons_zero, List.set_cons_succ]
          refine till_take 5 (fun _ => True) (i := 4) (oi := { dst := some 67, op := Op.indexAddr 26 (Operand.tmp 65) (Operand.tmp 66), type := 0, pos := _, after := #[{ on := 2, ground := Ground.data }, { on := 3, ground := Ground.data }], guard := none }) (u := ?_) rfl (by kernel_rfl) (by kernel_rfl) (by kernel_rfl) (by kernel_rfl) (by kernel_rfl) (by decide) (fun L v hL h => trivial) (fun L v => by simp only [getD_set_ne true (show 4 ≠ 12 by decide), getD_set_ne true (show 4 ≠ 11 by decide)]) (fun _ _ _ h => h) (Or.inl ⟨by rfl, ?_⟩) hHeld ?_
          rotate_left
          · intro wt _; first | (go_simp; done) | (go_simp; with_reducible rfl) | (trace_state; fail)
          clear hHeld; intro hHeld
          try simp only [Act.put, List.setIfInBounds_toArray, List.set_cons_zero, List.set_cons_succ]
          refine till_take 6 (fun _ => True) (i := 5) (oi := { dst := some 68, op := Op.fieldAddr 30 (Operand.tmp 67) 2, type := 0, pos := _, after := #[{ on := 4, ground := Ground.data }], guard := none }) (u := ?_) rfl (by kernel_rfl) (by kernel_rfl) (by kernel_rfl) (by kernel_rfl) (by kernel_rfl) (by decide) (fun L v hL h => trivial) (fun L v => by simp only [getD_set_ne true (show 5 ≠ 12 by decide), getD_set_ne true (show 5 ≠ 11 by decide)]) (fun _ _ _ h => h) (Or.inl ⟨by rfl, ?_⟩) hHeld ?_
          rotate_left
          · intro wt _; first | (go_simp; done) | (go_simp; with_reducible rfl) | (trace_state; fail)
          clear hHeld; intro hHeld
          try simp only [Act.put, List.setIfInBounds_toArray, List.set_cons_zero, List.set_cons_succ]
          refine till_take 12 (fun w' => Below W4.heap.size W4 w') (i := 6) (oi := { dst := some 69, op := Op.load 28 (Operand.tmp 68), type := 28, pos := _, after := #[{ on := 5, ground := Ground.data }], guard := none }) (u := ?_) rfl (by kernel_rfl) (by kernel_rfl) (by kernel_rfl) (by kernel_rfl) (by kernel_rfl) (by decide) (fun L v hL h => h.1 hL) (fun L v => by simp only [getD_set_ne true (show 6 ≠ 12 by decide), getD_set_ne true (show 6 ≠ 11 by decide)]) (fun _ _ _ h => h) (Or.inl ⟨by rfl, ?_⟩) hHeld ?_
          rotate_left
          · intro wt hSw; (try dsimp only at hSw); have e0 := cellB hSw e0 z0; clear hSw; first | (go_simp; done) | (go_simp; with_reducible rfl) | (trace_state; fail)
          clear hHeld; intro hHeld
          try simp only [Act.put, List.setIfInBounds_toArray, List.set_cons_zero, List.set_cons_succ]
          refine till_take 9 (fun _ => True) (i := 7) (oi := { dst := some 70, op := Op.move (Operand.tmp 5), type := 28, pos := _, after := #[], guard := none }) (u := ?_) rfl (by kernel_rfl) (by kernel_rfl) (by kernel_rfl) (by kernel_rfl) (by kernel_rfl) (by decide) (fun L v hL h => trivial) (fun L v => by simp only [getD_set_ne true (show 7 ≠ 12 by decide), getD_set_ne true (show 7 ≠ 11 by decide)]) (fun _ _ _ h => h) (Or.inl ⟨by rfl, ?_⟩) hHeld ?_
          rotate_left
          · intro wt _; first | (go_simp; done) | (go_simp; with_reducible rfl) | (trace_state; fail)
          clear hHeld; intro hHeld
          try simp only [Act.put, List.setIfInBounds_toArray, List.set_cons_zero, List.set_cons_succ]
          refine till_take 9 (fun _ => True) (i := 8) (oi := { dst := some 71, op := Op.move (Operand.tmp 10), type := 3, pos := _, after := #[], guard := none }) (u := ?_) rfl (by kernel_rfl) (by kernel_rfl) (by kernel_rfl) (by kernel_rfl) (by kernel_rfl) (by decide) (fun L v hL h => trivial) (fun L v => by simp only [getD_set_ne true (show 8 ≠ 12 by decide), getD_set_ne true (show 8 ≠ 11 by decide)]) (fun _ _ _ h => h) (Or.inl ⟨by rfl, ?_⟩) hHeld ?_
          rotate_left
          · intro wt _; first | (go_simp; done) | (go_simp; with_reducible rfl) | (trace_state; fail)
          clear hHeld; intro hHeld
          try simp only [Act.put, List.setIfInBounds_toArray, List.set_cons_zero, List.set_cons_succ]
          refine till_take 10 (fun _ => True) (i := 9) (oi := { dst := some 72, op := Op.indexAddr 28 (Operand.tmp 70) (Operand.tmp 71), type := 0, pos := _, after := #[{ on := 7, ground := Ground.data }, { on := 8, ground := Ground.data }], guard := none }) (u := ?_) rfl (by kernel_rfl) (by kernel_rfl) (by kernel_rfl) (by kernel_rfl) (by kernel_rfl) (by decide) (fun L v hL h => trivial) (fun L v => by simp only [getD_set_ne true (show 9 ≠ 12 by decide), getD_set_ne true (show 9 ≠ 11 by decide)]) (fun _ _ _ h => h) (Or.inl ⟨by rfl, ?_⟩) hHeld ?_
          rotate_left
          · intro wt _; first | (go_simp; done) | (go_simp; with_reducible rfl) | (trace_state; fail)
          clear hHeld; intro hHeld
          try simp only [Act.put, List.setIfInBounds_toArray, List.set_cons_zero, List.set_cons_succ]
          refine till_take 11 (fun w' => Below W4.heap.size W4 w') (i := 10) (oi := { dst := some 73, op := Op.load 3 (Operand.tmp 72), type := 3, pos := _, after := #[{ on := 9, ground := Ground.data }], guard := none }) (u := ?_) rfl (by kernel_rfl) (by kernel_rfl) (by kernel_rfl) (by kernel_rfl) (by kernel_rfl) (by decide) (fun L v hL h => h.2 hL) (fun L v => by simp only [getD_set_ne true (show 10 ≠ 12 by decide), getD_set_ne true (show 10 ≠ 11 by decide)]) (fun _ _ _ h => h) (Or.inl ⟨by rfl, ?_⟩) hHeld ?_
          rotate_left
          · intro wt hSw; (try dsimp only at hSw); have e1 := cellB hSw e1 z1; clear hSw; first | (go_simp; done) | (go_simp; with_reducible rfl) | (trace_state; fail)
          clear hHeld; intro hHeld
          try simp only [Act.put, List.setIfInBounds_toArray, List.set_cons_zero, List.set_cons_succ]
          refine till_one (i := 11) (o := { dst := some 74, op := Op.buildSlice 28 1 #[(0, Operand.tmp 73)], type := 28, pos := _, after := #[{ on := 10, ground := Ground.data }], guard := none }) (by kernel_rfl) rfl (fun K hK => ?_)
          go_simp
          refine hK.out _ _ ?_ (fun hHeld => ?_)
          · (try dsimp only); exact ⟨fun _ => by (repeat' (first | (with_reducible exact Below.refl _ _) | (with_reducible assumption) | (with_reducible refine below_drewN ?_ _) | (with_reducible refine Below.alloc ?_ ?_ _) | (with_reducible refine Below.drew ?_) | (with_reducible refine Below.setCell ?_ ?_ _) | go_size)), fun h => absurd h (by decide)⟩
          clear hK K
          try simp only [Act.put, List.setIfInBounds_toArray, List.set_cons_zero, List.set_cons_succ]
          refine till_one (i := 12) (o := { dst := some 75, op := Op.call { callee := Callee.builtin Builtin.append, args := #[Operand.tmp 69, Operand.tmp 74], argTypes := #[28, 28] }, type := 28, pos := _, after := #[{ on := 6, ground := Ground.data }, { on := 11, ground := Ground.data }], guard := none }) (by kernel_rfl) rfl (fun K hK => ?_)
          rw [if_pos (by kernel_rfl)]
          refine wp_append_near (.tmp 69) (.tmp 74) 28 rfl (nb + 1) 3 i (.int .i64 0) 1 8 Try.underlying28 hi hz hsize hby rfl (by omega) _ ul (iV lst) rfl (HUx.out _) ⟨W4.heap.size, 0, none⟩ 1 1 [.int .i64 (x : Int)] rfl rfl (fun j u hu => new_cells W4 [.int .i64 (x : Int)] 3 j u hu) (by intro u hu; simp at hu; rw [hu]; rfl) (by have := HUl.out; unfold maxLen; omega) (by have := HUl.out; omega) (by simp; omega) ?_; intro v6 w6 hO6 hG5 hN6; obtain ⟨va, vc, rfl⟩ := owns_form hO6; have hG6 : (W4.alloc (.cells #[.int .i64 (x : Int)] 3)).grownBy w6 (Value.slice ua ul uc).ownBlock := ⟨hG5.os, hG5.tape, hG5.output, hG5.size, fun i h1 h2 => hG5.block i h1 h2⟩; have HL6 := Lib.hid (HLk.out w6 (.slice va (ul + 1) vc) hG6); have HU6 := Lib.hid (HVk.out w6 (.slice va (ul + 1) vc) hG6 hO6); have HG6 := Lib.hid (HGk.out w6 (.slice va (ul + 1) vc) hG6 hN6); have HD6 := Lib.hid (HDk.out w6 (.slice va (ul + 1) vc) hG6 hN6); have f6 := HF6.out w6 hG6; have hz6 := HC6.out w6 hG6; clear hO6 hG6 hN6 hG5
          refine hK.out _ _ ?_ (fun hHeld => ?_)
          · (try dsimp only); exact ⟨fun h => absurd h (by decide), fun h => absurd h (by decide)⟩
          clear hK K
          try simp only [Act.put, List.setIfInBounds_toArray, List.set_cons_zero, List.set_cons_succ]
          refine till_take 14 (fun _ => True) (i := 13) (oi := { dst := some 76, op := Op.indexAddr 26 (Operand.tmp 63) (Operand.tmp 64), type := 0, pos := _, after := #[{ on := 0, ground := Ground.data }, { on := 1, ground := Ground.data }, { on := 0, ground := Ground.phase }, { on := 1, ground := Ground.phase }, { on := 2, ground := Ground.phase }, { on := 3, ground := Ground.phase }, { on := 4, ground := Ground.phase }, { on := 5, ground := Ground.phase }, { on := 6, ground := Ground.phase }, { on := 7, ground := Ground.phase }, { on := 8, ground := Ground.phase }, { on := 9, ground := Ground.phase }, { on := 10, ground := Ground.phase }, { on := 11, ground := Ground.phase }, { on := 12, ground := Ground.phase }], guard := none }) (u := ?_) rfl (by kernel_rfl) (by kernel_rfl) (by kernel_rfl) (by kernel_rfl) (by kernel_rfl) (by decide) (fun L v hL h => trivial) (fun L v => by simp only [getD_set_ne true (show 13 ≠ 12 by decide), getD_set_ne true (show 13 ≠ 11 by decide)]) (fun _ _ _ h => h) (Or.inl ⟨by rfl, ?_⟩) hHeld ?_
          rotate_left
          · intro wt _; first | (go_simp; done) | (go_simp; with_reducible rfl) | (trace_state; fail)
          clear hHeld; intro hHeld
          try simp only [Act.put, List.setIfInBounds_toArray, List.set_cons_zero, List.set_cons_succ]
          refine till_take 15 (fun _ => True) (i := 14) (oi := { dst := some 77, op := Op.fieldAddr 30 (Operand.tmp 76) 2, type := 0, pos := _, after := #[{ on := 13, ground := Ground.data }, { on := 0, ground := Ground.phase }, { on := 1, ground := Ground.phase }, { on := 2, ground := Ground.phase }, { on := 3, ground := Ground.phase }, { on := 4, ground := Ground.phase }, { on := 5, ground := Ground.phase }, { on := 6, ground := Ground.phase }, { on := 7, ground := Ground.phase }, { on := 8, ground := Ground.phase }, { on := 9, ground := Ground.phase }, { on := 10, ground := Ground.phase }, { on := 11, ground := Ground.phase }, { on := 12, ground := Ground.phase }], guard := none }) (u := ?_) rfl (by kernel_rfl) (by kernel_rfl) (by kernel_rfl) (by kernel_rfl) (by kernel_rfl) (by decide) (fun L v hL h => trivial) (fun L v => by simp only [getD_set_ne true (show 14 ≠ 12 by decide), getD_set_ne true (show 14 ≠ 11 by decide)]) (fun _ _ _ h => h) (Or.inl ⟨by rfl, ?_⟩) hHeld ?_
          rotate_left
          · intro wt _; first | (go_simp; done) | (go_simp; with_reducible rfl) | (trace_state; fail)
          clear hHeld; intro hHeld
          try simp only [Act.put, List.setIfInBounds_toArray, List.set_cons_zero, List.set_cons_succ]
          refine till_one (i := 15) (o := { dst := none, op := Op.store 28 (Operand.tmp 77) (Operand.tmp 75), type := 0, pos := _, after := #[{ on := 14, ground := Ground.data }, { on := 12, ground := Ground.data }, { on := 12, ground := Ground.chain }, { on := 0, ground := Ground.phase }, { on := 1, ground := Ground.phase }, { on := 2, ground := Ground.phase }, { on := 3, ground := Ground.phase }, { on := 4, ground := Ground.phase }, { on := 5, ground := Ground.phase }, { on := 6, ground := Ground.phase }, { on := 7, ground := Ground.phase }, { on := 8, ground := Ground.phase }, { on := 9, ground := Ground.phase }, { on := 10, ground := Ground.phase }, { on := 11, ground := Ground.phase }, { on := 12, ground := Ground.phase }], guard := none }) (by kernel_rfl) rfl (fun K hK => ?_)
          go_simp
          refine hK.out _ _ ?_ (fun hHeld => ?_)
          · (try dsimp only); exact ⟨fun h => absurd h (by decide), fun h => absurd h (by decide)⟩
          clear hK K
          try simp only [Act.put, List.setIfInBounds_toArray, List.set_cons_zero, List.set_cons_succ]
          refine till_done (by kernel_rfl) ?_ _
          go_wp2_with fail
          go_roundw
          case rel => exact ⟨j + 1, N.set k (f, p + 1, .slice va (ul + 1) vc), ul + 1, vc, va, lst ++ [(x : Int)], by simp, by have := HJ.out; omega, Lib.hid (HSx.out _), HL6, Lib.hid ⟨by rw [HZx.out, HUm.out], by simp [HUq.out.1], by have := HUq.out.2; omega, HU6.out⟩, HG6, HD6⟩
          case measure => have := HJ.out; first | (simp [intOf]; done) | (simp [intOf]; omega)
end Go.Proofs.Ytckcgaggdeaagaa
