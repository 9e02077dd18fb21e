/- calls.Depth: how deep the calls of each unit go. -/
import Derived.Test.YtmbnlihboilacaaClOrder
import Derived.Test.YtmbnlihboilacaaHeap
import Derived.StillTailTactics
namespace Go.Proofs.Ytmbnlihboilacaa
open Go.RowKit
set_option linter.unusedSimpArgs false
set_option linter.unusedVariables false
open CL (ordF depF topD)
structure DSt (B n : Nat) (w wr : World) (D : List Nat) : Prop where
  hb : Below B w wr
  hd : wr.ownsRow B 3 1 (.slice (some ⟨B, 0, none⟩) n n) n (iV (nI D))
  hl : D.length = n
  hs : B + 1 ≤ wr.heap.size
theorem DSt.below {B n : Nat} {w wr w2 : World} {D : List Nat} (h : DSt B n w wr D) (hB : Below wr.heap.size wr w2) : DSt B n w w2 D :=
  ⟨h.hb.trans (hB.mono (by have := h.hs; omega)), owns_below h.hd hB, h.hl, Nat.le_trans h.hs hB.size⟩
theorem DSt.set {B n : Nat} {w wr : World} {D : List Nat} (h : DSt B n w wr D) (u x : Nat) : DSt B n w (wr.setCell ⟨B, u, none⟩ (.int .i64 (x : Int))) (D.set u x) := by
  refine ⟨h.hb.setCell (p := ⟨B, u, none⟩) (Nat.le_refl _) _, ?_, by rw [List.length_set]; exact h.hl, by simpa using h.hs⟩
  have h2 := (h.hd.stored u (.int .i64 (x : Int))).1
  have e : (iV (nI D)).set u (.int .i64 (x : Int)) = iV (nI (D.set u x)) := by simp [iV, nI, List.map_set]
  rw [e] at h2
  exact h2
theorem DSt.at_ {B n : Nat} {w wr : World} {D : List Nat} (h : DSt B n w wr D) {u : Nat} (hu : u < n) : wr.cell? ⟨B, u, none⟩ = some (.int .i64 ((D.getD u 0 : Nat) : Int)) ∧ wr.frozen? ⟨B, u, none⟩ = false := by
  refine ⟨?_, h.hd.frozenAt u⟩
  rw [h.hd.cellAt u (by omega)]
  have hl : u < D.length := by rw [h.hl]; exact hu
  simp [iV, nI, List.getD, hl]
theorem DSt.drewN {B n : Nat} {w wr : World} {D : List Nat} (h : DSt B n w wr D) (m : Nat) : DSt B n w (wr.drewN m) D := h.below (Below_drewN _ _ _)
theorem set_self {D : List Nat} {u : Nat} (h : D.getD u 0 = 0) : D.set u 0 = D := by
  by_cases hu : u < D.length
  · have : D[u] = 0 := by simpa [List.getD, hu] using h
    rw [← this]; exact List.set_getElem_self hu
  · exact List.set_eq_of_length_le (by omega)
/-- what is told of an order -/
theorem good_at {C : List (List Nat)} {o : List Nat} (h : CL.Good C o) {k u : Nat} (hu : o[k]? = some u) : u < C.length ∧ u ∉ o.take k ∧ u ∉ C.getD u [] := by
  have hk := lt_of_get hu
  have e : o[k] = u := by rw [List.getElem?_eq_getElem hk] at hu; exact Option.some.inj hu
  have h1 : u ∉ o.take k := by
    intro hm
    obtain ⟨j, hj, he⟩ := List.getElem_of_mem hm
    rw [List.length_take] at hj
    rw [List.getElem_take] at he
    exact List.pairwise_iff_getElem.1 h.nd j k (by omega) hk (by omega) (by rw [he, e])
  refine ⟨h.lt u (e ▸ List.getElem_mem hk), h1, fun hc => ?_⟩
  have := h.ahead k hk u (by rw [e]; exact hc)
  exact h1 this
theorem topD_le {D l : List Nat} {b : Nat} (h : ∀ x ∈ D, x ≤ b) : topD D l ≤ b := by
  unfold topD
  suffices ∀ m, m ≤ b → l.foldl (fun m v => max m (D.getD v 0)) m ≤ b from this 0 (Nat.zero_le _)
  induction l with
  | nil => intro m hm; exact hm
  | cons v t ih =>
    intro m hm
    refine ih _ ?_
    have : D.getD v 0 ≤ b := by
      by_cases hv : v < D.length
      · have : D.getD v 0 = D[v] := by simp [List.getD, hv]
        rw [this]; exact h _ (List.getElem_mem hv)
      · have : D.getD v 0 = 0 := by simp [List.getD, List.getElem?_eq_none (Nat.le_of_not_lt hv)]
        omega
    show max m (D.getD v 0) ≤ b
    omega
theorem getD_set_ne' {D : List Nat} {u v x : Nat} (h : u ≠ v) : (D.set u x).getD v 0 = D.getD v 0 := by simp [List.getD, List.getElem?_set, h]
theorem getD_set_eq' {D : List Nat} {u x : Nat} (h : u < D.length) : (D.set u x).getD u 0 = x := by simp [List.getD, List.getElem?_set, h]
theorem bh_grown {w w1 : World} {g : Nat} (h : w.grownBy w1 (some g)) (o : Nat) (a : Value) : w.grownBy (w1.setCell ⟨g, o, none⟩ a) (some g) :=
  ⟨h.os, h.tape, h.output, by simpa [World.setCell] using h.size, fun k hk hne => (Below.heap_setCell _ _ _ _ (fun e => hne (by rw [show k = g from e]))).trans (h.block k hk hne)⟩
theorem bh_grown_below {w w1 w2 : World} {o : Option Nat} (h : w.grownBy w1 o) (hb : Below w1.heap.size w1 w2) : w.grownBy w2 o :=
  ⟨hb.os.trans h.os, hb.tape.trans h.tape, hb.output.trans h.output, Nat.le_trans h.size hb.size, fun k hk hne => (hb.block k (Nat.lt_of_lt_of_le hk h.size)).trans (h.block k hk hne)⟩
def depL (L : List Un) : List Nat := match ordF (calledF L) L.length [] with
  | none => []
  | some o => depF (calledF L) (List.replicate L.length 0) o
set_option maxRecDepth 100000 in
set_option maxHeartbeats 8000000 in
theorem calls_Depth (v : Value) (L : List Un) (w : World) (hv : RowR 5 unitR w v L) (hn : L.length ≤ 100) (hc : ∀ x ∈ L, x.code.length ≤ 300) :
    Calls Try.prog 9 #[v] w fun r w' => ∃ u, r = .returned u ∧ w'.ownsRow w.heap.size 3 1 u (depL L).length (iV (nI (depL L))) ∧ Below w.heap.size w w' := by
  obtain ⟨i, hi, hz, hsize, hby⟩ : ∃ i, Try.prog.info? 3 = some i ∧ i.zero = some (.int .i64 0) ∧ i.size = 1 ∧ i.bytes = 8 := ⟨(Try.prog.info? 3).get!, by kernel_rfl, by kernel_rfl, by kernel_rfl, by kernel_rfl⟩
  obtain ⟨ad, cap, rfl⟩ := row_get hv
  have HOr := Lib.hid (calls_Order _ L w hv hn hc)
  have HOf := Lib.hid (fun (W : World) (h : Below w.heap.size w W) (k : Nat) (x : Un) (hx : L[k]? = some x) => by
    have h1 := calls_Of _ L (k : Int) W (hv.below unitR_stable h) hn hc
    rw [ofC_at hx] at h1
    exact h1)
  have HDl := Lib.hid (show depL L = match ordF (calledF L) L.length [] with | none => [] | some o => depF (calledF L) (List.replicate L.length 0) o from rfl)
  generalize depL L = Z at *
  obtain ⟨CF, hCF⟩ : ∃ CF, calledF L = CF := ⟨_, rfl⟩
  have HCA := Lib.hid (fun (k : Nat) (x : Un) (hx : L[k]? = some x) => by have h := calledF_at hx; rw [hCF] at h; exact h)
  have HCL := Lib.hid (show CF.length = L.length by rw [← hCF]; exact calledF_len L)
  have HCS := Lib.hid (show ∀ l ∈ CF, l.length ≤ L.length ∧ ∀ x ∈ l, x < L.length by
    intro l hl
    rw [← hCF] at hl
    unfold calledF at hl
    obtain ⟨y, hy, rfl⟩ := List.mem_map.1 hl
    exact ⟨CL.ofN_len _ _, fun x hx => CL.ofN_lt hx⟩)
  rw [hCF] at HOr HDl
  obtain ⟨n, hN⟩ : ∃ n, L.length = n := ⟨_, rfl⟩
  have HN := Lib.hid hN
  rw [hN] at hn HOf HCA HCL HCS HOr HDl ⊢
  clear hv hN hc hCF
  have hmk := fun W => run_make W 25 3 i _ Try.underlying25 hi hz .i64 .i64 (n : Int) (n : Int) (by omega) (by omega) (by rw [hby]; omega) (by omega)
  rw [hsize, Nat.mul_one, madeI, Int.toNat_natCast] at hmk
  have hn63 : n ≤ 9223372036854775807 := by omega
  cases hR : ordF CF n [] with
  | none =>
    rw [hR] at HOr HDl
    have HDl := Lib.hid (show Z = [] from HDl.out)
    clear hR hmk
    go_enter Try.func9, Try.ntmps9
    go_wp2_with fail
    refine HOr.out.mono ?_; rintro r w1 ⟨u, ok, rfl, hok, hO, hB⟩
    replace hok : ok = false := hok
    subst hok
    have HB := Lib.hid hB
    clear hO hB
    go_wp2_with fail
    go_ret
    exact ⟨_, rfl, by rw [HDl.out]; exact World.ownsRow_nil _ _ _ _, HB.out⟩
  | some o =>
    rw [hR] at HOr HDl
    have HDl := Lib.hid (show Z = depF CF (List.replicate n 0) o from HDl.out)
    obtain ⟨hg, hol⟩ := CL.ordF_good (CL.Good.nil CF) hR
    have HGood := Lib.hid hg
    have HOl := Lib.hid (show o.length = n by simpa using hol)
    clear hR hg hol
    have hor : orI (some o) = o := rfl
    rw [hor] at HOr
    clear hor
    go_enter Try.func9, Try.ntmps9
    go_wp2_with fail
    refine HOr.out.mono ?_; rintro r w1 ⟨u, ok, rfl, hok, hO, hB⟩
    replace hok : ok = true := hok
    subst hok
    rw [HOl.out] at hO
    obtain ⟨oa, oc, rfl⟩ := owns_form hO
    have HB1 := Lib.hid hB
    have HO1 := Lib.hid hO
    obtain ⟨B, hBs⟩ : ∃ B, w1.heap.size = B := ⟨_, rfl⟩
    have HBs := Lib.hid hBs
    have HSB := Lib.hid (show w.heap.size ≤ B by rw [← hBs]; exact hB.size)
    obtain ⟨ZP, hZP⟩ : ∃ Z, (iV (List.replicate n 0)).toArray = Z := ⟨_, rfl⟩
    rw [hZP] at hmk
    have HD0 := Lib.hid (show DSt B n w1 (w1.alloc (.cells ZP 3)) (List.replicate n 0) by
      subst hBs
      have k1 := owns_arr w1 ZP 3 1 n (by rw [← hZP]; simp [iV]) (by unfold maxLen; omega)
      rw [← hZP] at k1 ⊢
      refine ⟨by (repeat' (first | (with_reducible exact Below.refl _ _) | (with_reducible assumption) | (with_reducible refine below_drewN ?_ _) | (with_reducible refine Below.alloc ?_ ?_ _) | (with_reducible refine Below.drew ?_) | (with_reducible refine Below.setCell ?_ ?_ _) | go_size)), ?_, by simp, by simp⟩
      have e : (iV (List.replicate n 0)) = iV (nI (List.replicate n 0)) := by simp [iV, nI]
      rw [← e]
      exact k1)
    clear hO hB hZP
    go_wp2_with fail
    clear hmk hBs
    go_loopw [22] (fun jj wr => ∃ (k : Nat), jj = .int .i64 k ∧ k ≤ n ∧ Hid (DSt B n w1 wr (depF CF (List.replicate n 0) (o.take k)) ∧ ∀ x ∈ depF CF (List.replicate n 0) (o.take k), x ≤ k)) (fun jj _ => n - (intOf jj).toNat)
    case atStart => exact ⟨0, rfl, Nat.zero_le _, Lib.hid ⟨HD0.out, fun x hx => by have := List.eq_of_mem_replicate (show x ∈ List.replicate n 0 from hx); omega⟩⟩
    case round =>
      obtain ⟨k, rfl, hk, hD⟩ := hrel
      by_cases hlt : k < n
      case neg =>
        obtain rfl : n = k := by omega
        have q1 : ((n : Int) < (n : Int)) = False := eq_false (by omega)
        have q1' : (n < n) = False := eq_false (by omega)
        rw [List.take_of_length_le (by rw [HOl.out]; exact Nat.le_refl _)] at hD
        have HD := hD
        clear hD hlt hk
        go_wp2_with fail
        go_ret
        refine ⟨_, rfl, ?_, ?_⟩
        · rw [HDl.out]
          exact own_eq2 (own_low HD.out.1.hd HSB.out) HD.out.1.hl.symm rfl
        · exact HB1.out.trans (HD.out.1.hb.mono HSB.out)
      have q1 : ((k : Int) < (n : Int)) = True := eq_true (by omega)
      have q1' : (k < n) = True := eq_true hlt
      have hk62 : k ≤ 9223372036854775806 := by omega
      have HK := Lib.hid hlt
      obtain ⟨u, hu⟩ := get_some (L := o) (n := k) (by rw [HOl.out]; exact hlt)
      obtain ⟨hun, hnt, hnc⟩ := good_at HGood.out hu
      rw [HCL.out] at hun
      have HUn := Lib.hid hun
      have hO2 := owns_below HO1.out (show Below w1.heap.size w1 _ by rw [HBs.out]; exact hD.out.1.hb)
      obtain ⟨go, hse, co, ho1, ho2, _⟩ := own_at hO2 hlt (z := (u : Int)) (by simp [nI, hu])
      subst hse
      have HSt := Lib.hid (show o.take (k + 1) = o.take k ++ [u] from take_snoc hu)
      have HD0u := Lib.hid (show (depF CF (List.replicate n 0) (o.take k)).getD u 0 = 0 by
        rw [CL.depF_other CF _ _ hnt]
        simp [List.getD, List.getElem?_replicate, hun])
      have HSn := Lib.hid (show depF CF (List.replicate n 0) (o.take (k + 1)) = (depF CF (List.replicate n 0) (o.take k)).set u (topD (depF CF (List.replicate n 0) (o.take k)) (CF.getD u []) + 1) by rw [HSt.out]; exact CL.depF_snoc _ _ _ _)
      obtain ⟨x, hx⟩ := get_some (L := L) (n := u) (by rw [HN.out]; exact hun)
      have hCu := HCA.out u x hx
      have HCu := Lib.hid (show CF.getD u [] = CL.ofN n x.code by simp [List.getD, hCu])
      have HC := Lib.hid (HOf.out _ (HB1.out.trans (hD.out.1.hb.mono HSB.out)) u x hx)
      have HCs := Lib.hid (HCS.out _ (List.mem_of_getElem? hCu))
      have HNc := Lib.hid hnc
      generalize depF CF (List.replicate n 0) (o.take k) = D at *
      rw [HCu.out] at HSn HNc
      generalize CL.ofN n x.code = l at *
      have HD := hD
      have HX := Lib.hid (fun W (h : Below w1.heap.size w1 W) => owns_below HO1.out h)
      clear hD hlt hk hun hnt hnc hu hO2 hx hCu
      go_wp2_with fail
      refine HC.out.mono ?_; rintro r w2 ⟨lu, rfl, hOl, hB2⟩
      obtain ⟨Lr, hLr⟩ : ∃ z, l.length = z := ⟨_, rfl⟩
      have HLr := Lib.hid hLr
      rw [hLr] at hOl
      obtain ⟨la, lc, rfl⟩ := owns_form hOl
      have HOl2 := Lib.hid hOl
      have HD2 := Lib.hid (show DSt B n w1 w2 (D.set u (topD D (l.take 0))) by
        rw [show topD D (l.take 0) = 0 from rfl, set_self HD0u.out]
        exact HD.out.1.below hB2)
      have hLr62 : Lr ≤ 9223372036854775806 := by have := HCs.out.1; omega
      have HB2s := Lib.hid (show B ≤ wr.heap.size by have := HD.out.1.hs; omega)
      clear hOl hB2 hLr
      go_wp2_with fail
      go_loopw [30] (fun jj wr2 => ∃ (j : Nat), jj = .int .i64 j ∧ j ≤ Lr ∧ Hid (DSt B n w1 wr2 (D.set u (topD D (l.take j))) ∧ w2.grownBy wr2 (some B))) (fun jj _ => Lr - (intOf jj).toNat)
      case atStart => exact ⟨0, rfl, Nat.zero_le _, Lib.hid ⟨HD2.out, World.grownBy.refl _ _⟩⟩
      case round =>
        obtain ⟨j, rfl, hj, hE⟩ := hrel
        by_cases hlt : j < Lr
        case neg =>
          obtain rfl : Lr = j := by omega
          have q2 : ((Lr : Int) < (Lr : Int)) = False := eq_false (by omega)
          have q2' : (Lr < Lr) = False := eq_false (by omega)
          rw [List.take_of_length_le (by rw [HLr.out]; exact Nat.le_refl _)] at hE
          obtain ⟨c5, f5⟩ := hE.out.1.at_ HUn.out
          rw [getD_set_eq' (by rw [HD.out.1.hl]; exact HUn.out)] at c5
          have htl := topD_le (D := D) (l := l) HD.out.2
          have HSet := Lib.hid (hE.out.1.set u (topD D l + 1))
          rw [List.set_set] at HSet
          have HTl := Lib.hid htl
          have hun := HUn.out
          have q4 : ((u : Int) < (n : Int)) = True := eq_true (by omega)
          have q4' : (u < n) = True := eq_true hun
          have hk := HK.out
          generalize topD D l = tt at *
          have htt : tt ≤ 1000 := by omega
          clear hE hlt hj htl hun hk
          go_wp2_with fail
          go_roundw
          case rel => exact ⟨k + 1, by simp, by have := HK.out; omega, Lib.hid ⟨by rw [HSn.out]; simpa using HSet.out, fun x hx => by
            rw [HSn.out] at hx
            rcases List.mem_or_eq_of_mem_set hx with h | h
            · have := HD.out.2 x h; omega
            · have := HTl.out; omega⟩⟩
          case measure => have := HK.out; first | (simp [intOf]; done) | (simp [intOf]; omega)
        have q2 : ((j : Int) < (Lr : Int)) = True := eq_true (by omega)
        have q2' : (j < Lr) = True := eq_true hlt
        have hj62 : j ≤ 9223372036854775806 := by omega
        have HJ := Lib.hid hlt
        obtain ⟨y, hy⟩ := get_some (L := l) (n := j) (by rw [HLr.out]; exact hlt)
        have hym := List.mem_of_getElem? hy
        have hyn := HCs.out.2 y hym
        have hyu : u ≠ y := fun e => HNc.out (e ▸ hym)
        have hol := owns_grown HOl2.out hE.out.2 (fun g hg he => by cases he; have := (owns_lt HOl2.out hg).1; have := HB2s.out; have := HD.out.1.hs; omega)
        obtain ⟨gl, hse, cl, hl1, hl2, _⟩ := own_at hol hlt (z := (y : Int)) (by simp [nI, hy])
        subst hse
        obtain ⟨c5, f5⟩ := hE.out.1.at_ HUn.out
        obtain ⟨c6, _⟩ := hE.out.1.at_ hyn
        rw [getD_set_eq' (by rw [HD.out.1.hl]; exact HUn.out)] at c5
        rw [getD_set_ne' hyu] at c6
        have HTk := Lib.hid (show topD D (l.take (j + 1)) = max (topD D (l.take j)) (D.getD y 0) by rw [take_snoc hy]; exact CL.topD_snoc _ _ _)
        have HSet := Lib.hid (hE.out.1.set u (max (topD D (l.take j)) (D.getD y 0)))
        have HGr := Lib.hid (bh_grown hE.out.2 u (.int .i64 ((max (topD D (l.take j)) (D.getD y 0) : Nat) : Int)))
        rw [List.set_set] at HSet
        have hun := HUn.out
        have q4 : ((u : Int) < (n : Int)) = True := eq_true (by omega)
        have q4' : (u < n) = True := eq_true hun
        have q5 : ((y : Int) < (n : Int)) = True := eq_true (by omega)
        have q5' : (y < n) = True := eq_true hyn
        generalize topD D (l.take j) = t1 at *
        generalize D.getD y 0 = dy at *
        clear hE hlt hj hy hym hyn hyu hol hun
        have he := Lib.hid (show (max (t1 : Int) (dy : Int)) = ((max t1 dy : Nat) : Int) by omega)
        go_wp2_with fail
        go_still_tail 12, (by kernel_rfl)
        have f5 : wr.drew.frozen? ⟨B, u, none⟩ = false := f5
        have c5 : wr.drew.cell? ⟨B, u, none⟩ = some (.int .i64 (t1 : Int)) := c5
        have c6 : wr.drew.cell? ⟨B, y, none⟩ = some (.int .i64 (dy : Int)) := c6
        go_wp2_with fail
        go_roundw
        case rel => exact ⟨j + 1, by simp, by have := HJ.out; omega, Lib.hid ⟨by rw [he.out, HTk.out]; exact HSet.out.below ((Below.refl _ _).drew), by rw [he.out]; exact bh_grown_below HGr.out ((Below.refl _ _).drew)⟩⟩
        case measure => have := HJ.out; first | (simp [intOf]; done) | (simp [intOf]; omega)
end Go.Proofs.Ytmbnlihboilacaa
