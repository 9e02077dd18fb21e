/- dom.settle. -/
import Derived.Test.YtkjafkegkllbiaaDmMeet
import Derived.Test.YtkjafkegkllbiaaRevI
import Derived.Test.YtkjafkegkllbiaaDomB
import Derived.Deep.CutBlock
namespace Go.Proofs.Ytkjafkegkllbiaa
open Go.RowKit
set_option linter.unusedSimpArgs false
set_option linter.unusedVariables false
open DM (gI okN meetF foundF passF settleF Fine)
theorem meet_lt {rk D : List Int} : ∀ {N a b c : Nat}, meetF rk D N a b = some c → a < D.length → b < D.length → c < D.length
  | 0, a, b, c, h, ha, _ => by
    unfold meetF at h
    split at h
    · cases h; exact ha
    · cases h
  | N + 1, a, b, c, h, ha, hb => by
    unfold meetF at h
    split at h
    · cases h; exact ha
    · split at h
      · split at h
        · rename_i hok; exact meet_lt h (DM.okN_cast hok).2 hb
        · cases h
      · split at h
        · rename_i hok; exact meet_lt h ha (DM.okN_cast hok).2
        · cases h
def okF (n : Nat) (f : Int) : Prop := f = -1 ∨ okN n f = true
theorem okF_nat {n c : Nat} (h : c < n) : okF n (c : Int) := .inr (decide_eq_true (by omega))
theorem found_ok {rk D : List Int} {N : Nat} : ∀ {ps : List Nat} {f g : Int}, foundF rk D N ps f = some g → okF D.length f → (∀ p ∈ ps, p < D.length) → okF D.length g
  | [], f, g, h, hf, _ => by simp [foundF] at h; subst h; exact hf
  | p :: ps, f, g, h, hf, hp => by
    unfold foundF at h
    have hps : ∀ p ∈ ps, p < D.length := fun x hx => hp x (by simp [hx])
    split at h
    · exact found_ok h hf hps
    · split at h
      · exact found_ok h (okF_nat (hp p (by simp))) hps
      · rename_i h2
        split at h
        · cases h
        · rename_i c hc
          rcases hf with rfl | hf
          · omega
          · exact found_ok h (okF_nat (meet_lt hc (DM.okN_cast hf).2 (hp p (by simp)))) hps
theorem fine_i64 {D : List Int} {n : Nat} (hF : Fine D) (hn : D.length = n) (hN : n ≤ 4096) : ∀ z ∈ D, I64 z := by
  intro z hz
  obtain ⟨i, hi, rfl⟩ := List.getElem_of_mem hz
  have h := hF i hi
  have e : gI D i = D[i] := by unfold gI; simp [List.getD, hi]
  rw [e] at h
  rcases h with h | h
  · rw [h]; unfold I64; omega
  · have := of_decide_eq_true h; unfold I64; omega
/-- what stays while nearest ones are taken together -/
structure SetAt (n gr gd bd cd bp : Nat) (U : Nat → Value) (vo vr : Value) (order : List Nat) (P : List (List Nat)) (rk : List Int) (w : World) : Prop where
  ho : RowR 1 intR w vo (nI order)
  hp : ∀ v, v < n → w.cell? ⟨bp, v, none⟩ = some (U v) ∧ RowR 1 intR w (U v) (nI (P.getD v []))
  hr : RowR 1 intR w vr rk
  cr : w.cell? ⟨gr, 0, none⟩ = some vr
  cd : w.cell? ⟨gd, 0, none⟩ = some (.slice (some ⟨bd, 0, none⟩) n cd)
structure SetOk (n : Nat) (order : List Nat) (P : List (List Nat)) (rk : List Int) : Prop where
  hn : n ≤ 4096
  ol : ∀ v ∈ order, v < n
  on : order.length ≤ 4096
  pl : P.length = n
  pp : ∀ l ∈ P, ∀ p ∈ l, p < n
  rl : rk.length = n
theorem grown_trans {w w1 w2 : World} {o : Option Nat} (h : w.grownBy w1 o) (k : w1.grownBy w2 o) : w.grownBy w2 o :=
  ⟨k.os.trans h.os, k.tape.trans h.tape, k.output.trans h.output, Nat.le_trans h.size k.size, fun g hg hne => (k.block g (Nat.lt_of_lt_of_le hg h.size) hne).trans (h.block g hg hne)⟩
theorem grown_drewN {w w1 : World} {o : Option Nat} (h : w.grownBy w1 o) (m : Nat) : w.grownBy (w1.drewN m) o := ⟨h.os, h.tape, h.output, h.size, h.block⟩
theorem own_owns' {w : World} {B : Nat} {e : TypeId} {q n m : Nat} {v : Value} {xs ys : List Value} (h : w.ownsRow B e q v n xs) (h1 : n = m) (h2 : xs = ys) : w.ownsRow B e q v m ys := by subst h1 h2; exact h
theorem getD_nI {l : List Nat} {j : Nat} (h : j < l.length) : (nI l).getD j 0 = (l.getD j 0 : Int) := by
  unfold nI
  rw [List.getD_eq_getElem?_getD, List.getElem?_map, List.getElem?_eq_getElem h, List.getD_eq_getElem?_getD, List.getElem?_eq_getElem h]; rfl
theorem drop_at {l : List Nat} {j : Nat} (h : j < l.length) : l.drop j = l.getD j 0 :: l.drop (j + 1) := by
  rw [List.drop_eq_getElem_cons h]
  congr 1
  simp [List.getD, h]
theorem mem_getD {l : List Nat} {j : Nat} (h : j < l.length) : l.getD j 0 ∈ l := by
  rw [List.getD_eq_getElem?_getD, List.getElem?_eq_getElem h]; exact List.getElem_mem h
set_option maxRecDepth 100000 in
set_option maxHeartbeats 8000000 in
theorem dom_settle (n gr gd bd cd bp cp B : Nat) (U : Nat → Value) (hcp1 : n ≤ cp) (hcp2 : cp ≤ 9223372036854775807) (vo vr : Value) (order : List Nat) (P : List (List Nat)) (rk D0 DF : List Int) (w : World) (hok : SetOk n order P rk)
    (hS : ∀ wr, w.grownBy wr (some bd) → SetAt n gr gd bd cd bp U vo vr order P rk wr)
    (hD : w.ownsRow B 3 1 (.slice (some ⟨bd, 0, none⟩) n cd) n (iV D0)) (hF : Fine D0) (hl : D0.length = n) (K N : Nat) (hset : settleF P rk N order K D0 = some DF) :
    Calls Try.prog 23 #[vo, .slice (some ⟨bp, 0, none⟩) n cp, .slice (some ⟨bd, 0, none⟩) n cd, .func (.func 22) #[] #[.pointer (some ⟨gr, 0, none⟩), .pointer (some ⟨gd, 0, none⟩)]] w
      fun r w' => r = .returned (.tuple #[]) ∧ w'.ownsRow B 3 1 (.slice (some ⟨bd, 0, none⟩) n cd) n (iV DF) ∧ w.grownBy w' (some bd) ∧ Fine DF ∧ DF.length = n := by
  have HS := Lib.hid hS
  have HD0 := Lib.hid (And.intro hD (And.intro hF (And.intro hl hset)))
  have HOK := Lib.hid hok
  have hS0 := hS w (World.grownBy.refl _ _)
  obtain ⟨ao, co, rfl⟩ := row_get hS0.ho
  obtain ⟨ar, cr, rfl⟩ := row_get hS0.hr
  have hcd : cd ≤ 9223372036854775807 ∧ n ≤ cd := by
    rcases hD.2 with ⟨h, _⟩ | ⟨g, cap, cur, h, _, _, h1, h2, _⟩
    · cases h
    · cases h; exact ⟨h2, h1⟩
  obtain ⟨hcd1, hcd2⟩ := hcd
  rw [nI_len, hok.rl] at HS
  rw [nI_len]
  obtain ⟨M, hM⟩ : ∃ M, order.length = M := ⟨_, rfl⟩
  have HM := Lib.hid hM
  have hM63 : M ≤ 9223372036854775807 := by have := hok.on; omega
  rw [hM] at HS ⊢
  clear hS hD hF hl hset hok hS0 hM
  go_enter Try.func23, Try.ntmps23
  go_wp2_with fail
  go_loopg [8] K (fun k c8 wr => ∃ (c : Bool) (D : List Int), c8 = .bool c ∧ Hid (if c = true then settleF P rk N order k D = some DF else D = DF) ∧ Hid (wr.ownsRow B 3 1 (.slice (some ⟨bd, 0, none⟩) n cd) n (iV D) ∧ Fine D ∧ D.length = n) ∧ Hid (w.grownBy wr (some bd)))
  case atStart => exact ⟨true, D0, rfl, Lib.hid (by rw [if_pos rfl]; exact HD0.out.2.2.2), Lib.hid ⟨HD0.out.1, HD0.out.2.1, HD0.out.2.2.1⟩, Lib.hid (World.grownBy.refl _ _)⟩
  case round =>
    obtain ⟨c, D, rfl, hst, hO, hG⟩ := hrel
    cases c
    case false =>
      have hDF := hst.out
      rw [if_neg (by simp)] at hDF
      subst hDF
      clear hst
      go_wp2_with fail
      go_end0
      exact ⟨rfl, hO.out.1, hG.out, hO.out.2.1, hO.out.2.2⟩
    case true =>
      have HE := Lib.hid (show ∃ k' D' c', gk = k' + 1 ∧ passF P rk N order D false = some (D', c') ∧ (if c' = true then settleF P rk N order k' D' = some DF else D' = DF) by
        have h := hst.out
        rw [if_pos rfl] at h
        cases gk with
        | zero => simp [settleF] at h
        | succ k' =>
          unfold settleF at h
          split at h
          · cases h
          · rename_i D' hp; cases h; exact ⟨k', _, false, rfl, hp, by simp⟩
          · rename_i D' hp; exact ⟨k', _, true, rfl, hp, by simpa using h⟩)
      obtain ⟨k', D', c', hgk, hpass, hnext⟩ := HE.out
      subst hgk
      have HP := Lib.hid hpass
      have HNX := Lib.hid hnext
      have HO := hO
      have HG := hG
      clear HE hst hpass hnext hO hG
      go_wp2_with fail
      obtain ⟨wo, hwo⟩ : ∃ wo, wo = wr := ⟨_, rfl⟩
      have HWO := Lib.hid hwo
      clear hwo
      go_loopw [8, 17] (fun c8 jj wr2 => ∃ (c : Bool) (j : Nat) (D : List Int), c8 = .bool c ∧ jj = .int .i64 j ∧ j ≤ M ∧ Hid (passF P rk N (order.drop j) D c = some (D', c')) ∧ Hid (wr2.ownsRow B 3 1 (.slice (some ⟨bd, 0, none⟩) n cd) n (iV D) ∧ Fine D ∧ D.length = n) ∧ Hid (w.grownBy wr2 (some bd))) (fun _ jj _ => M - (intOf jj).toNat)
      case atStart => exact ⟨false, 0, D, rfl, rfl, Nat.zero_le _, HP, HO, HG⟩
      case round =>
        obtain ⟨c, j, D, rfl, rfl, hj, hp, hO, hG⟩ := hrel
        by_cases hlt : j < M
        case neg =>
          obtain rfl : j = M := by omega
          have hDc : D = D' ∧ c = c' := by
            have h := hp.out
            rw [List.drop_of_length_le (by rw [HM.out]; exact Nat.le_refl _)] at h
            simp [passF] at h
            exact h
          obtain ⟨rfl, rfl⟩ := hDc
          have qk : ((j : Int) < (j : Int)) = False := eq_false (by omega)
          have qk' : (j < j) = False := eq_false (by omega)
          clear hp hlt hj
          go_wp2_with fail
          go_roundg k'
          case measure => omega
          case rel => exact ⟨c, D, rfl, HNX, hO, hG⟩
        have q1 : ((j : Int) < (M : Int)) = True := eq_true (by omega)
        have q1' : (j < M) = True := eq_true hlt
        have hj62 : j ≤ 9223372036854775806 := by omega
        have HJ := Lib.hid hlt
        have hs := HS.out _ hG.out
        obtain ⟨bo, oo, rfl, hbo, hno, hco, co1, _⟩ := int_at hs.ho (k := j) (by rw [nI_len, HM.out]; exact hlt)
        rw [getD_nI (by rw [HM.out]; exact hlt)] at co1
        have hvn := HOK.out.ol _ (mem_getD (l := order) (j := j) (by rw [HM.out]; exact hlt))
        have HPs := Lib.hid hp.out
        rw [drop_at (by rw [HM.out]; exact hlt)] at HPs
        generalize order.getD j 0 = v at *
        by_cases h0 : v = 0
        · subst h0
          have hp2 := Lib.hid (show passF P rk N (order.drop (j + 1)) D c = some (D', c') by have h := HPs.out; unfold passF at h; rwa [if_pos rfl] at h)
          have e0 : (((0 : Nat) : Int) == 0) = true := by decide
          clear hs hp hlt hj HPs hvn
          go_wp2_with fail
          go_roundw
          case rel => exact ⟨c, j + 1, D, rfl, by simp, by have := HJ.out; omega, hp2, hO, hG⟩
          case measure => have := HJ.out; first | (simp [intOf]; done) | (simp [intOf]; omega)
        have e0 : ((v : Int) == 0) = false := by have : ¬ (v : Int) = 0 := by omega
                                                 simpa using this
        have HF := Lib.hid (show ∃ f, foundF rk D N (P.getD v []) (-1) = some f ∧ (if gI D v = f then passF P rk N (order.drop (j + 1)) D c else passF P rk N (order.drop (j + 1)) (D.set v f) true) = some (D', c') by
          have h := HPs.out
          unfold passF at h
          rw [if_neg h0] at h
          split at h
          · cases h
          · rename_i f hf; exact ⟨f, hf, h⟩)
        obtain ⟨f, hf, hnx2⟩ := HF.out
        have HFd := Lib.hid hf
        have HN2 := Lib.hid hnx2
        obtain ⟨lp, hlp⟩ := get_some (L := P) (n := v) (by rw [HOK.out.pl]; exact hvn)
        have hpd : P.getD v [] = lp := by simp [List.getD, hlp]
        rw [hpd] at HFd
        have hpn := HOK.out.pp lp (List.mem_of_getElem? hlp)
        have hokf := found_ok HFd.out (.inl rfl) (by rw [hO.out.2.2]; exact hpn)
        have HPN := Lib.hid hpn
        have hrow := hs.hp v hvn
        rw [hpd] at hrow
        obtain ⟨cp1, hrow⟩ := hrow
        obtain ⟨sl, sc, hU⟩ := row_get hrow
        rw [hU] at cp1 hrow
        have HROW := Lib.hid (show ∀ W : World, w.grownBy W (some bd) → RowR 1 intR W (.slice sl (nI lp).length sc) (nI lp) from fun W h => by
          have := ((HS.out W h).hp v hvn).2
          rwa [hpd, hU] at this)
        rw [nI_len] at cp1 HROW
        obtain ⟨L, hL⟩ : ∃ L, lp.length = L := ⟨_, rfl⟩
        have HL := Lib.hid hL
        have hL63 : L ≤ 9223372036854775807 := by have := hrow.len; rw [nI_len] at this; omega
        rw [hL] at cp1 HROW
        have qv : ((v : Int) < (n : Int)) = True := eq_true (by omega)
        have qv' : (v < n) = True := eq_true hvn
        have HV := Lib.hid hvn
        have HOKF := Lib.hid hokf
        clear HF hf hnx2 hlp hpd hpn hrow hs hp hlt hj HPs hvn hokf hL h0 hU
        go_wp2_with fail
        go_loopw [11, 28] (fun ff qq wr3 => ∃ (f' : Int) (q : Nat), ff = .int .i64 f' ∧ qq = .int .i64 q ∧ q ≤ L ∧ Hid (foundF rk D N (lp.drop q) f' = some f ∧ okF n f') ∧ Hid (wr3.ownsRow B 3 1 (.slice (some ⟨bd, 0, none⟩) n cd) n (iV D) ∧ Fine D ∧ D.length = n) ∧ Hid (w.grownBy wr3 (some bd))) (fun _ qq _ => L - (intOf qq).toNat)
        case atStart => exact ⟨-1, 0, rfl, rfl, Nat.zero_le _, Lib.hid ⟨HFd.out, .inl rfl⟩, hO, hG⟩
        case round =>
          obtain ⟨f', q, rfl, rfl, hq, hff, hO, hG⟩ := hrel
          by_cases hlt : q < L
          case neg =>
            obtain rfl : q = L := by omega
            have hf' : f' = f := by
              have h := hff.out.1
              rw [List.drop_of_length_le (by rw [HL.out]; exact Nat.le_refl _)] at h
              simp [foundF] at h
              exact h
            subst hf'
            have qk : ((q : Int) < (q : Int)) = False := eq_false (by omega)
            have qk' : (q < q) = False := eq_false (by omega)
            have cv := owns_iV_at hO.out.1 HV.out
            have fv := hO.out.1.frozenAt v
            have hst := hO.out.1.stored v (.int .i64 f')
            have HST := Lib.hid (show (wr.setCell ⟨bd, v, none⟩ (.int .i64 f')).ownsRow B 3 1 (.slice (some ⟨bd, 0, none⟩) n cd) n (iV (D.set v f')) by rw [iV_set]; exact hst.1)
            have HGT := Lib.hid (show w.grownBy (wr.setCell ⟨bd, v, none⟩ (.int .i64 f')) (some bd) from grown_trans hG.out hst.2)
            have HFS := Lib.hid (show Fine (D.set v f') ∧ (D.set v f').length = n by
              refine ⟨?_, by rw [List.length_set]; exact hO.out.2.2⟩
              intro i hi
              rw [List.length_set] at hi ⊢
              rw [DM.gI_set]
              split
              · exact HOKF.out
              · exact hO.out.2.1 i hi)
            have hgD : gI D v = D.getD v 0 := rfl
            have HN3 := Lib.hid HN2.out
            rw [hgD] at HN3
            generalize D.getD v 0 = dv at *
            clear hff hlt hq hst hgD HN2
            by_cases he : dv = f'
            · subst he
              have e2 : (dv != dv) = false := by simp
              have HN4 := Lib.hid (show passF P rk N (order.drop (j + 1)) D c = some (D', c') by have h := HN3.out; rwa [if_pos rfl] at h)
              clear HN3 HST HGT HFS
              go_wp2_with fail
              go_roundw
              case rel => exact ⟨c, j + 1, D, rfl, by simp, by have := HJ.out; omega, HN4, hO, hG⟩
              case measure => have := HJ.out; first | (simp [intOf]; done) | (simp [intOf]; omega)
            · have e2 : (dv != f') = true := by simpa using he
              have HN4 := Lib.hid (show passF P rk N (order.drop (j + 1)) (D.set v f') true = some (D', c') by have h := HN3.out; rwa [if_neg he] at h)
              clear HN3 he
              go_wp2_with fail
              go_roundw
              case rel => exact ⟨true, j + 1, D.set v f', rfl, by simp, by have := HJ.out; omega, HN4, Lib.hid ⟨HST.out, HFS.out⟩, HGT⟩
              case measure => have := HJ.out; first | (simp [intOf]; done) | (simp [intOf]; omega)
          have q3 : ((q : Int) < (L : Int)) = True := eq_true (by omega)
          have q3' : (q < L) = True := eq_true hlt
          have hq62 : q ≤ 9223372036854775806 := by omega
          have HQ := Lib.hid hlt
          have hlp := HROW.out _ hG.out
          obtain ⟨bl, ol, hse, hbl, hnl, hcl, cl1, _⟩ := int_at hlp (k := q) (by rw [nI_len, HL.out]; exact hlt)
          subst hse
          rw [getD_nI (by rw [HL.out]; exact hlt)] at cl1
          have hpn := HPN.out _ (mem_getD (l := lp) (j := q) (by rw [HL.out]; exact hlt))
          have HFq := Lib.hid hff.out.1
          rw [drop_at (by rw [HL.out]; exact hlt)] at HFq
          have HOKq := Lib.hid hff.out.2
          generalize lp.getD q 0 = pp at *
          have cd1 := owns_iV_at hO.out.1 hpn
          have qp : ((pp : Int) < (n : Int)) = True := eq_true (by omega)
          have qp' : (pp < n) = True := eq_true hpn
          have HPPn := Lib.hid hpn
          have HFe := Lib.hid (show (if pp ≠ 0 ∧ D.getD pp 0 < 0 then foundF rk D N (lp.drop (q + 1)) f' else if f' < 0 then foundF rk D N (lp.drop (q + 1)) (pp : Int) else match meetF rk D N f'.toNat pp with | none => none | some c => foundF rk D N (lp.drop (q + 1)) (c : Int)) = some f from HFq.out)
          have HMT := Lib.hid (fun (x c : Nat) (W : World) (hx : x < n) (hGW : w.grownBy W (some bd)) (hOW : W.ownsRow B 3 1 (.slice (some ⟨bd, 0, none⟩) n cd) n (iV D)) (hm : meetF rk D N x pp = some c) =>
            dom_meet gr gd n rk D ar (some ⟨bd, 0, none⟩) cr cd W (HS.out W hGW).cr (HS.out W hGW).cd (HS.out W hGW).hr (row_of_owns (own_owns' hOW (hO.out.2.2.symm) rfl) (fine_i64 hO.out.2.1 hO.out.2.2 HOK.out.hn)) HOK.out.rl hO.out.2.2 N x pp c hx hpn hm)
          generalize D.getD pp 0 = dp at *
          clear HFq hlt hff hlp hpn hq
          by_cases hz : pp = 0
          · have ez : ((pp : Int) != 0) = false := by have : (pp : Int) = 0 := by omega
                                                      simpa using this
            by_cases hf0 : f' < 0
            · have qf : (f' < 0) = True := eq_true hf0
              have HX := Lib.hid (show foundF rk D N (lp.drop (q + 1)) (pp : Int) = some f by have h := HFe.out; rw [if_neg (fun h => h.1 hz), if_pos hf0] at h; exact h)
              clear HFe hz HMT hf0
              go_wp2_with fail
              go_roundw
              case rel => exact ⟨(pp : Int), q + 1, rfl, by simp, by have := HQ.out; omega, Lib.hid ⟨HX.out, okF_nat HPPn.out⟩, hO, hG⟩
              case measure => have := HQ.out; first | (simp [intOf]; done) | (simp [intOf]; omega)
            · have hx : ∃ x : Nat, f' = (x : Int) ∧ x < n := by
                rcases HOKq.out with h | h
                · omega
                · have := DM.okN_cast h; exact ⟨f'.toNat, this.1.symm, this.2⟩
              obtain ⟨x, rfl, hxn⟩ := hx
              have qf : ((x : Int) < 0) = False := eq_false hf0
              have HX := Lib.hid (show ∃ m, meetF rk D N x pp = some m ∧ foundF rk D N (lp.drop (q + 1)) (m : Int) = some f by
                have h := HFe.out
                rw [if_neg (fun h => h.1 hz), if_neg hf0, Int.toNat_natCast] at h
                split at h
                · cases h
                · rename_i m hm; exact ⟨m, hm, h⟩)
              obtain ⟨mm, hm1, hm2⟩ := HX.out
              have HMC := Lib.hid (HMT.out x mm wr hxn hG.out hO.out.1 hm1)
              have HM2 := Lib.hid hm2
              have HML := Lib.hid (show mm < n by have := meet_lt hm1 (by rw [hO.out.2.2]; exact hxn) (by rw [hO.out.2.2]; exact HPPn.out); rwa [hO.out.2.2] at this)
              clear HFe hz HMT hf0 HX hm1 hm2 hxn
              go_wp2_with fail
              refine HMC.out.mono ?_; rintro r w2 ⟨rfl, mq, rfl⟩
              go_wp2_with fail
              go_roundw
              case rel => exact ⟨(mm : Int), q + 1, rfl, by simp, by have := HQ.out; omega, Lib.hid ⟨HM2.out, okF_nat HML.out⟩, Lib.hid ⟨hO.out.1, hO.out.2⟩, Lib.hid (grown_drewN hG.out mq)⟩
              case measure => have := HQ.out; first | (simp [intOf]; done) | (simp [intOf]; omega)
          have ez : ((pp : Int) != 0) = true := by have : ¬ (pp : Int) = 0 := by omega
                                                   simpa using this
          by_cases hdp : dp < 0
          · have qd : (dp < 0) = True := eq_true hdp
            have HX := Lib.hid (show foundF rk D N (lp.drop (q + 1)) f' = some f by have h := HFe.out; rwa [if_pos ⟨hz, hdp⟩] at h)
            clear HFe hz hdp HMT
            go_wp2_with fail
            go_roundw
            case rel => exact ⟨f', q + 1, rfl, by simp, by have := HQ.out; omega, Lib.hid ⟨HX.out, HOKq.out⟩, hO, hG⟩
            case measure => have := HQ.out; first | (simp [intOf]; done) | (simp [intOf]; omega)
          · have qd : (dp < 0) = False := eq_false hdp
            by_cases hf0 : f' < 0
            · have qf : (f' < 0) = True := eq_true hf0
              have HX := Lib.hid (show foundF rk D N (lp.drop (q + 1)) (pp : Int) = some f by have h := HFe.out; rw [if_neg (fun h => hdp h.2), if_pos hf0] at h; exact h)
              clear HFe hz hdp HMT hf0
              go_wp2_with fail
              go_roundw
              case rel => exact ⟨(pp : Int), q + 1, rfl, by simp, by have := HQ.out; omega, Lib.hid ⟨HX.out, okF_nat HPPn.out⟩, hO, hG⟩
              case measure => have := HQ.out; first | (simp [intOf]; done) | (simp [intOf]; omega)
            · have hx : ∃ x : Nat, f' = (x : Int) ∧ x < n := by
                rcases HOKq.out with h | h
                · omega
                · have := DM.okN_cast h; exact ⟨f'.toNat, this.1.symm, this.2⟩
              obtain ⟨x, rfl, hxn⟩ := hx
              have qf : ((x : Int) < 0) = False := eq_false hf0
              have HX := Lib.hid (show ∃ m, meetF rk D N x pp = some m ∧ foundF rk D N (lp.drop (q + 1)) (m : Int) = some f by
                have h := HFe.out
                rw [if_neg (fun h => hdp h.2), if_neg hf0, Int.toNat_natCast] at h
                split at h
                · cases h
                · rename_i m hm; exact ⟨m, hm, h⟩)
              obtain ⟨mm, hm1, hm2⟩ := HX.out
              have HMC := Lib.hid (HMT.out x mm wr hxn hG.out hO.out.1 hm1)
              have HM2 := Lib.hid hm2
              have HML := Lib.hid (show mm < n by have := meet_lt hm1 (by rw [hO.out.2.2]; exact hxn) (by rw [hO.out.2.2]; exact HPPn.out); rwa [hO.out.2.2] at this)
              clear HFe hz hdp HMT hf0 HX hm1 hm2 hxn
              go_wp2_with fail
              refine HMC.out.mono ?_; rintro r w2 ⟨rfl, mq, rfl⟩
              go_wp2_with fail
              go_roundw
              case rel => exact ⟨(mm : Int), q + 1, rfl, by simp, by have := HQ.out; omega, Lib.hid ⟨HM2.out, okF_nat HML.out⟩, Lib.hid ⟨hO.out.1, hO.out.2⟩, Lib.hid (grown_drewN hG.out mq)⟩
              case measure => have := HQ.out; first | (simp [intOf]; done) | (simp [intOf]; omega)
end Go.Proofs.Ytkjafkegkllbiaa
