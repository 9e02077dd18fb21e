/- dom.Order. -/
import Derived.Test.YtkjafkegkllbiaaGrid
import Derived.Test.YtkjafkegkllbiaaRevI
import Derived.Test.YtkjafkegkllbiaaDomB
import Derived.Deep.LoopGhost
import Derived.Deep.CutBlock
namespace Go.Proofs.Ytkjafkegkllbiaa
open Go.RowKit
set_option linter.unusedSimpArgs false
set_option linter.unusedVariables false
open DM (rowN okN orun)
def stV (l : List (Nat × Nat)) : List Value := l.flatMap fun p => [.int .i64 (p.1 : Int), .int .i64 (p.2 : Int)]
theorem stV_len (l : List (Nat × Nat)) : (stV l).length = l.length * 2 := by
  induction l with
  | nil => rfl
  | cons x t ih =>
    show (_ ++ stV t).length = _
    rw [List.length_append, ih]; simp; omega
theorem stV_snoc (l : List (Nat × Nat)) (p : Nat × Nat) : stV (l ++ [p]) = stV l ++ [.int .i64 (p.1 : Int), .int .i64 (p.2 : Int)] := by simp [stV]
/-- what the loop's rows hold -/
structure OSt (B : Nat) (n : Nat) (w wr : World) (v4 v5 : Value) (S : List (Nat × Nat)) (met : List Bool) (out : List Nat) : Prop where
  hb : Below B w wr
  hw : wr.ownsRow B 40 2 v4 S.length (stV S.reverse)
  hm : wr.ownsRow B 4 1 (.slice (some ⟨B, 0, none⟩) n n) n (bV1 met)
  ho : wr.ownsRow B 3 1 v5 out.length (iV (nI out))
theorem made_false (m : Nat) : madeCells (Value.bool false).cells m = (bV1 (List.replicate m false)).toArray := by
  apply Array.ext_getElem?
  intro i
  by_cases h : i < m
  · simp [madeCells, Value.cells, h, Nat.mod_one, bV1, List.getElem?_replicate]
  · simp [madeCells, Value.cells, h, bV1, List.getElem?_replicate]
/-- the topmost -/
theorem OSt.top {B n : Nat} {w wr : World} {v4 v5 : Value} {a i : Nat} {S : List (Nat × Nat)} {met : List Bool} {out : List Nat} (h : OSt B n w wr v4 v5 ((a, i) :: S) met out) :
    ∃ g cap, v4 = .slice (some ⟨g, 0, none⟩) (S.length + 1) cap ∧ B ≤ g ∧ g < wr.heap.size ∧ S.length + 1 ≤ cap ∧ cap ≤ 9223372036854775807 ∧ g ≠ B ∧ v5.ownBlock ≠ some g ∧
      wr.cell? ⟨g, S.length * 2, none⟩ = some (.int .i64 a) ∧ wr.cell? ⟨g, S.length * 2 + 1, none⟩ = some (.int .i64 i) ∧ wr.frozen? ⟨g, S.length * 2 + 1, none⟩ = false ∧
      wr.ownsRow B 40 2 (.slice (some ⟨g, 0, none⟩) S.length cap) S.length (stV S.reverse) ∧
      OSt B n w (wr.setCell ⟨g, S.length * 2 + 1, none⟩ (.int .i64 ((i : Int) + 1))) v4 v5 ((a, i + 1) :: S) met out := by
  have hw := h.hw
  rcases hw.2 with ⟨_, h0⟩ | ⟨g, cap, cur, rfl, hBg, hg, hnc, hcm, hcs, htake⟩
  · simp at h0
  have hw' := h.hw
  have hlt := heap_lt hg
  have hne : g ≠ B := by
    rintro rfl
    exact absurd rfl (owns_ne hw' h.hm (by decide))
  have ho5 : v5.ownBlock ≠ some g := owns_ne h.ho hw' (by decide)
  have hl : (stV S.reverse).length = S.length * 2 := by rw [stV_len, List.length_reverse]
  have hst : stV ((a, i) :: S).reverse = stV S.reverse ++ [.int .i64 (a : Int), .int .i64 (i : Int)] := by rw [List.reverse_cons, stV_snoc]
  rw [hst] at hw'
  have c1 := hw'.cellAt (S.length * 2) (by simp only [List.length_cons]; omega)
  have c2 := hw'.cellAt (S.length * 2 + 1) (by simp only [List.length_cons]; omega)
  rw [List.getElem?_append_right (by omega), hl, Nat.sub_self] at c1
  rw [List.getElem?_append_right (by omega), hl, show S.length * 2 + 1 - S.length * 2 = 1 by omega] at c2
  have hs := hw'.stored (S.length * 2 + 1) (.int .i64 ((i : Int) + 1))
  refine ⟨g, cap, rfl, hBg, hlt, hnc, hcm, hne, ho5, c1, c2, hw'.frozenAt _, ⟨hl, Or.inr ⟨g, cap, cur, rfl, hBg, hg, Nat.le_of_succ_le hnc, hcm, hcs, ?_⟩⟩, ?_⟩
  · rw [hst] at htake
    have := congrArg (List.take (S.length * 2)) htake
    rw [List.take_take, List.take_append_of_le_length (by omega), List.take_of_length_le (by omega : (stV S.reverse).length ≤ S.length * 2)] at this
    rw [← this]
    congr 1
    simp only [List.length_cons]; omega
  · refine ⟨h.hb.setCell (p := ⟨g, S.length * 2 + 1, none⟩) hBg _, ?_, owns_set h.hm (by simpa [Value.ownBlock] using hne.symm), owns_set h.ho ho5⟩
    have h2 := hs.1
    rw [List.set_append_right _ _ (by omega), hl, show S.length * 2 + 1 - S.length * 2 = 1 by omega] at h2
    rw [List.reverse_cons, stV_snoc]
    exact h2
theorem own_owns {w : World} {B : Nat} {e : TypeId} {q n m : Nat} {v : Value} {xs ys : List Value} (h : w.ownsRow B e q v n xs) (h1 : n = m) (h2 : xs = ys) : w.ownsRow B e q v m ys := by subst h1 h2; exact h
theorem ne_own {w : World} {B : Nat} {e f : TypeId} {q p n m : Nat} {v u : Value} {xs ys : List Value} (h : w.ownsRow B e q v n xs) (k : w.ownsRow B f p u m ys) (hef : e ≠ f) : ∀ g, v.ownBlock = some g → u.ownBlock ≠ some g := fun g hv => owns_type h k hef hv
/-- behind one more that is told -/
theorem OSt.appOut {B n : Nat} {w wr w6 : World} {v4 v5 v6 : Value} {S : List (Nat × Nat)} {met : List Bool} {out : List Nat} {a : Nat} {o : Obj} (h : OSt B n w wr v4 v5 S met out) (hB : B ≤ wr.heap.size)
    (hO : w6.ownsRow B 3 1 v6 (out.length + 1) (iV (nI out) ++ [.int .i64 (a : Int)])) (hG : (wr.alloc o).grownBy w6 v5.ownBlock) : OSt B n w w6 v4 v6 S met (out ++ [a]) := by
  have hb := (Below.refl wr.heap.size wr).alloc (Nat.le_refl _) o
  have k1 := owns_below h.hw hb
  have k2 := owns_below h.hm hb
  have k3 := owns_below h.ho hb
  exact ⟨grown3 (h.hb.alloc hB o) (by simp; omega) k3 hG, owns_grown k1 hG (ne_own k1 k3 (by decide)), owns_grown k2 hG (ne_own k2 k3 (by decide)), own_owns hO (by simp) (by rw [nI_app, iV_app]; rfl)⟩
/-- behind one more that waits -/
theorem OSt.push {B n : Nat} {w wr w6 : World} {v4 v5 v6 : Value} {S : List (Nat × Nat)} {met : List Bool} {out : List Nat} {a i : Nat} {o : Obj} (h : OSt B n w wr v4 v5 S met out) (hB : B ≤ wr.heap.size)
    (hO : w6.ownsRow B 40 2 v6 (S.length + 1) (stV S.reverse ++ [.int .i64 (a : Int), .int .i64 (i : Int)])) (hG : (wr.alloc o).grownBy w6 v4.ownBlock) : OSt B n w w6 v6 v5 ((a, i) :: S) met out := by
  have hb := (Below.refl wr.heap.size wr).alloc (Nat.le_refl _) o
  have k1 := owns_below h.hw hb
  have k2 := owns_below h.hm hb
  have k3 := owns_below h.ho hb
  exact ⟨grown3 (h.hb.alloc hB o) (by simp; omega) k1 hG, own_owns hO (by simp) (by rw [List.reverse_cons, stV_snoc]), owns_grown k2 hG (ne_own k2 k1 (by decide)), owns_grown k3 hG (ne_own k3 k1 (by decide))⟩
/-- behind one that is met -/
theorem OSt.meet {B n : Nat} {w wr : World} {v4 v5 : Value} {S : List (Nat × Nat)} {met : List Bool} {out : List Nat} (h : OSt B n w wr v4 v5 S met out) (t : Nat) :
    OSt B n w (wr.setCell ⟨B, t, none⟩ (.bool true)) v4 v5 S (met.set t true) out := by
  refine ⟨h.hb.setCell (p := ⟨B, t, none⟩) (Nat.le_refl _) _, owns_set h.hw (owns_ne h.hw h.hm (by decide)), ?_, owns_set h.ho (owns_ne h.ho h.hm (by decide))⟩
  rw [← bV1_set]
  exact (h.hm.stored t (.bool true)).1
theorem OSt.pop {B n : Nat} {w wr : World} {v4 v5 u : Value} {p : Nat × Nat} {S : List (Nat × Nat)} {met : List Bool} {out : List Nat} (h : OSt B n w wr v4 v5 (p :: S) met out) (hu : wr.ownsRow B 40 2 u S.length (stV S.reverse)) : OSt B n w wr u v5 S met out :=
  ⟨h.hb, hu, h.hm, h.ho⟩
set_option maxRecDepth 100000 in
set_option maxHeartbeats 4000000 in
theorem dom_Order (v : Value) (next : List (List Int)) (w : World) (hv : RowR 1 gridR w v next) (hn : next.length ≤ 4096) (K : Nat) (d : List Nat)
    (hd : (next.length = 0 ∧ d = []) ∨ (0 < next.length ∧ orun next K [(0, 0)] ((List.replicate next.length false).set 0 true) [] = some d)) :
    Calls Try.prog 21 #[v] w fun r w' => ∃ u, r = .returned u ∧ w'.ownsRow w.heap.size 3 1 u d.length (iV (nI d.reverse)) ∧ Below w.heap.size w w' := by
  obtain ⟨i, hi, hz, hsize, hby⟩ : ∃ i, Try.prog.info? 4 = some i ∧ i.zero = some (.bool false) ∧ i.size = 1 ∧ i.bytes = 1 := ⟨(Try.prog.info? 4).get!, by kernel_rfl, by kernel_rfl, by kernel_rfl, by kernel_rfl⟩
  obtain ⟨i2, hi2, hz2, hsize2, hby2⟩ : ∃ i, Try.prog.info? 3 = some i ∧ i.zero = some (.int .i64 0) ∧ i.size = 1 ∧ i.bytes = 8 := ⟨(Try.prog.info? 3).get!, by kernel_rfl, by kernel_rfl, by kernel_rfl, by kernel_rfl⟩
  obtain ⟨i3, hi3, hz3, hsize3, hby3⟩ : ∃ i, Try.prog.info? 40 = some i ∧ i.zero = some (.agg #[.int .i64 0, .int .i64 0]) ∧ i.size = 2 ∧ i.bytes = 16 := ⟨(Try.prog.info? 40).get!, by kernel_rfl, by kernel_rfl, by kernel_rfl, by kernel_rfl⟩
  have HV := Lib.hid (fun W (h : Below w.heap.size w W) => hv.below gridR_stable h)
  obtain ⟨ad, cap, rfl⟩ := row_get hv
  obtain ⟨n, hN⟩ : ∃ n, next.length = n := ⟨_, rfl⟩
  have HN := Lib.hid hN
  rw [hN] at hn HV hd ⊢
  clear hv hN
  rcases hd with ⟨rfl, rfl⟩ | ⟨h0, hd⟩
  · go_enter Try.func21, Try.ntmps21
    go_wp2_with fail
    go_ret
    exact ⟨_, rfl, World.ownsRow_nil _ _ _ _, Below.refl _ _⟩
  have hmk := fun W => run_make W 27 4 i _ Try.underlying27 hi hz .i64 .i64 (n : Int) (n : Int) (by omega) (by omega) (by rw [hby]; omega) (by omega)
  rw [hsize, Nat.mul_one, made_false, Int.toNat_natCast] at hmk
  have q0 : ((n : Int) == 0) = false := by have : ¬ (n : Int) = 0 := by omega
                                           simpa using this
  have q1 : ((0 : Int) < (n : Int)) = True := eq_true (by omega)
  have q1' : (0 < n) = True := eq_true h0
  have hF := owns_arr w (bV1 (List.replicate n false)).toArray 4 1 n (by simp [bV1]) (by unfold maxLen; omega)
  have f0 := hF.frozenAt 0
  have c0 := hF.cellAt 0 (by omega)
  have hs := hF.stored 0 (.bool true)
  have HM := Lib.hid hs.1
  have HG := Lib.hid hs.2
  have HD := Lib.hid hd
  clear hs hF hd
  obtain ⟨z0, hz0⟩ : ∃ z0, (bV1 (List.replicate n false)).toArray.toList[0]? = some z0 := ⟨.bool false, by simp [bV1, h0]⟩
  rw [hz0] at c0
  clear hz0
  have HMr := Lib.hid (show ((bV1 (List.replicate n false)).toArray.toList.set 0 (.bool true)) = bV1 ((List.replicate n false).set 0 true) by rw [bV1_set])
  generalize (bV1 (List.replicate n false)).toArray = Z at *
  go_enter Try.func21, Try.ntmps21
  go_upto_block 2 with fail
  obtain ⟨W0, hW0⟩ : ∃ W0, W0 = (w.alloc (.cells (Z.setIfInBounds 0 (.bool true)) 4)).alloc (.cells #[.int .i64 0, .int .i64 0] 40) := ⟨_, rfl⟩
  rw [← hW0]
  have HS0 := Lib.hid (show OSt w.heap.size n w W0 (.slice (some ⟨w.heap.size + 1, 0, none⟩) 1 1) (.slice none 0 0) [(0, 0)] ((List.replicate n false).set 0 true) [] by
    have hZn : Z.size = n := by have := congrArg List.length HMr.out; simpa [bV1] using this
    have k1 := owns_arr w (Z.setIfInBounds 0 (.bool true)) 4 1 n (by simp [hZn]) (by unfold maxLen; omega)
    rw [Array.toList_setIfInBounds, HMr.out] at k1
    have k2 := World.ownsRow_lit (base := w.heap.size) (e := 40) (size := 2) (w.alloc (.cells (Z.setIfInBounds 0 (.bool true)) 4)) #[.int .i64 0, .int .i64 0] 1 (by simp) (by unfold maxLen; omega) rfl
    rw [hW0]
    have k2' := own_base k2 rfl
    simp only [World.size_alloc] at k2'
    exact ⟨by (repeat' (first | (with_reducible exact Below.refl _ _) | (with_reducible assumption) | (with_reducible refine below_drewN ?_ _) | (with_reducible refine Below.alloc ?_ ?_ _) | (with_reducible refine Below.drew ?_) | (with_reducible refine Below.setCell ?_ ?_ _) | go_size)), k2', owns_below k1 ((Below.refl _ _).alloc (Nat.le_refl _) _), World.ownsRow_nil _ _ _ _⟩)
  have HN0 := Lib.hid h0
  have HNB := Lib.hid hn
  clear hW0 HM HG HMr hmk c0 f0 h0 q1 q1' hi hz hsize hby hn
  go_loopg [4, 5] K (fun k v4 v5 wr => ∃ (S : List (Nat × Nat)) (met : List Bool) (out : List Nat), Hid (orun next k S met out = some d) ∧ Hid (out.length + S.length + met.count false = n ∧ met.length = n ∧ ∀ p ∈ S, p.1 < n ∧ p.2 ≤ (rowN next p.1).length) ∧ Hid (OSt w.heap.size n w wr v4 v5 S met out))
  case atStart =>
    refine ⟨[(0, 0)], _, [], HD, Lib.hid ⟨?_, by simp, ?_⟩, HS0⟩
    · have h1 := DM.count_set (l := List.replicate n false) (t := 0) (by simp [List.getD, HN0.out])
      have h2 : (List.replicate n false).count false = n := by simp
      show 0 + 1 + _ = n
      have := HN0.out
      omega
    · intro p hp
      rw [List.mem_singleton] at hp; subst hp; exact ⟨HN0.out, Nat.zero_le _⟩
  case round =>
    obtain ⟨S, met, out, hrun, hlen, hS⟩ := hrel
    match S, hrun, hlen, hS with
    | [], hrun, hlen, hS =>
      have hout : out = d := by
        have h := hrun.out
        unfold orun at h
        cases h; rfl
      subst hout
      have hv4 : ∃ g c, u4 = .slice g 0 c := by
        have := hS.out.hw
        rcases this.2 with ⟨h, _⟩ | ⟨g, cap, cur, h, _⟩
        · exact ⟨_, _, h⟩
        · exact ⟨_, _, h⟩
      obtain ⟨g4, c4, rfl⟩ := hv4
      have hB := Lib.hid hS.out.hb
      have hrev := reverse_ints u5 (nI out) w.heap.size 3 wr (by rw [nI_len]; exact hS.out.ho) hB.out.size
      rw [← nI_rev, nI_len] at hrev
      obtain ⟨g5, c5, rfl⟩ := owns_form hS.out.ho
      have HR := Lib.hid hrev
      clear hrun hlen hS hrev
      go_wp2_with fail
      refine HR.out.mono ?_; rintro r w2 ⟨rfl, hO, hb⟩
      have HO := Lib.hid hO
      have HB2 := Lib.hid (Below.trans hB.out hb)
      clear hO hb
      go_wp2_with fail
      go_ret
      exact ⟨_, rfl, HO.out, HB2.out⟩
    | (a, i) :: S, hrun, hlen, hS =>
      obtain ⟨g, cap4, rfl, hBg, hlt, hnc, hcm, hne, ho5, c1, c2, f2, hpop, hnext⟩ := hS.out.top
      have hpop := Lib.hid hpop
      have hnext := Lib.hid hnext
      have ha : a < n := (hlen.out.2.2 (a, i) (by simp)).1
      have hia : i ≤ (rowN next a).length := (hlen.out.2.2 (a, i) (by simp)).2
      obtain ⟨l, hl⟩ := get_some (L := next) (n := a) (by rw [HN.out]; exact ha)
      have hrowN : rowN next a = l := by unfold rowN; simp [List.getD, hl]
      have hV := HV.out _ hS.out.hb
      obtain ⟨bn, on, sl, sc, rfl, hbn, hnN, hcN, cn, hL⟩ := grid_at hV hl
      have hL := Lib.hid hL
      have hll := hL.out.len
      have qa : ((a : Int) < (n : Int)) = True := eq_true (by omega)
      have qa' : (a < n) = True := eq_true ha
      obtain ⟨m, hm⟩ : ∃ m, S.length = m := ⟨_, rfl⟩
      have HMm := Lib.hid hm
      rw [hm] at c1 c2 f2 hpop hnext hnc
      obtain ⟨N, hNl⟩ : ∃ N, l.length = N := ⟨_, rfl⟩
      have HNl := Lib.hid hNl
      rw [hNl] at cn hL hll
      rw [hm]
      have qm : ((m : Int) < (m : Int) + 1) = True := eq_true (by omega)
      have qm' : (m < m + 1) = True := eq_true (by omega)
      clear hl hV hm hNl
      have HA := Lib.hid ha
      by_cases hiN : i = N
      · subst hiN
        have e1 : ((i : Int) == (i : Int)) = true := by simp
        have HE := Lib.hid (show ∃ k', gk = k' + 1 ∧ orun next k' S met (out ++ [a]) = some d by
          have h := hrun.out
          cases gk with
          | zero => simp [orun] at h
          | succ k' =>
            unfold orun at h
            rw [hrowN, HNl.out, if_pos rfl] at h
            exact ⟨k', rfl, h⟩)
        have HS := hS
        have hsz := hS.out.hb.size
        have hol := Lib.hid (show out.length ≤ 4096 by have h1 := hlen.out.1; have h2 := HNB.out; omega)
        have HLN := Lib.hid (show (out ++ [a]).length + S.length + met.count false = n ∧ met.length = n ∧ ∀ p ∈ S, p.1 < n ∧ p.2 ≤ (rowN next p.1).length from
          ⟨by have h1 := hlen.out.1; simp only [List.length_append, List.length_cons, List.length_nil] at h1 ⊢; omega, hlen.out.2.1, fun p hp => hlen.out.2.2 p (by simp [hp])⟩)
        have HPP := Lib.hid (hS.out.pop (by rw [HMm.out]; exact hpop.out))
        clear hrun hlen hS hnext hpop f2 hL ha
        go_wp2_with (first | (at_builtin; go_loud (refine wpList_append_src rfl (.tmp 41) (.tmp 46) 25 rfl w.heap.size 3 i2 (.int .i64 0) 1 8 Try.underlying25 hi2 hz2 hsize2 hby2 rfl (by omega) _ out.length _ rfl (owns_below HS.out.ho ((Below.refl _ _).alloc (Nat.le_refl _) _)) _ 1 [.int .i64 (a : Int)] rfl (src_new _ _ _) rfl (by intro u hu; simp at hu; rw [hu]; rfl) (by have := hol.out; unfold maxLen; omega) (by have := hol.out; omega) (by simp; omega) ?_; intro v6 w6 hO6 hG6; have HQ := Lib.hid (HPP.out.appOut hsz hO6 hG6); clear hO6 hG6)) | fail)
        obtain ⟨k', hgk, hrun'⟩ := HE.out
        have HR := Lib.hid hrun'
        subst hgk
        clear hrun'
        go_roundg k'
        case measure => omega
        case rel => exact ⟨S, met, out ++ [a], HR, HLN, HQ⟩
      · have hiN2 : i < N := by rw [hrowN, HNl.out] at hia; omega
        have e1 : ((i : Int) == (N : Int)) = false := by have : ¬ (i : Int) = (N : Int) := by omega
                                                         simpa using this
        have q2 : ((i : Int) < (N : Int)) = True := eq_true (by omega)
        have q2' : (i < N) = True := eq_true hiN2
        have hi62 : i ≤ 9223372036854775806 := by omega
        obtain ⟨bl, ol, rfl, hbl, hNs, hcs, cl, _⟩ := int_at hL.out (k := i) (by rw [HNl.out]; exact hiN2)
        obtain ⟨T, hT⟩ : ∃ T, l.getD i 0 = T := ⟨_, rfl⟩
        rw [hT] at cl
        have HE := Lib.hid (show ∃ k', gk = k' + 1 ∧ (if okN n T = true ∧ met.getD T.toNat true = false then orun next k' ((T.toNat, 0) :: (a, i + 1) :: S) (met.set T.toNat true) out else orun next k' ((a, i + 1) :: S) met out) = some d by
          have h := hrun.out
          cases gk with
          | zero => simp [orun] at h
          | succ k' =>
            unfold orun at h
            rw [hrowN, HNl.out, if_neg hiN, hT, HN.out] at h
            exact ⟨k', rfl, h⟩)
        obtain ⟨k', hgk, hrun'⟩ := HE.out
        subst hgk
        have HR := Lib.hid hrun'
        obtain ⟨W1, hW1⟩ : ∃ W, W = wr.setCell ⟨g, m * 2 + 1, none⟩ (.int .i64 ((i : Int) + 1)) := ⟨_, rfl⟩
        rw [← hW1] at hnext
        have HW1 := Lib.hid hW1
        have hsz := hS.out.hb.size
        have HLN := Lib.hid (show out.length + (S.length + 1) + met.count false = n ∧ met.length = n ∧ ∀ p ∈ (a, i + 1) :: S, p.1 < n ∧ p.2 ≤ (rowN next p.1).length from
          ⟨hlen.out.1, hlen.out.2.1, fun p hp => by
            rcases List.mem_cons.1 hp with rfl | hp
            · exact ⟨HA.out, by rw [hrowN, HNl.out]; exact hiN2⟩
            · exact hlen.out.2.2 p (by simp [hp])⟩)
        clear HE hrun hrun' hlen hS hpop hL ha hT hiN hiN2 hW1 hia hrowN
        go_upto_region 15 with fail
        rw [← HW1.out]
        clear c1 c2 f2 cl cn HW1
        by_cases h0 : 0 ≤ T
        case neg =>
          have p0 : (0 ≤ T) = False := eq_false h0
          have HR := Lib.hid (show orun next k' ((a, i + 1) :: S) met out = some d by
            have h := HR.out
            rwa [if_neg (fun h => h0 (of_decide_eq_true h.1).1)] at h)
          clear h0
          go_wp2_with fail
          go_roundg k'
          case measure => omega
          case rel => exact ⟨(a, i + 1) :: S, met, out, HR, HLN, hnext⟩
        obtain ⟨t, rfl⟩ : ∃ t : Nat, T = (t : Int) := ⟨T.toNat, by omega⟩
        rw [Int.toNat_natCast] at HR
        by_cases htn : t < n
        case neg =>
          have p1 : ((t : Int) < (n : Int)) = False := eq_false (by omega)
          have p1' : (t < n) = False := eq_false htn
          have HR := Lib.hid (show orun next k' ((a, i + 1) :: S) met out = some d by
            have h := HR.out
            rwa [if_neg (fun h => htn (by have := (of_decide_eq_true h.1).2; omega))] at h)
          clear h0 htn
          go_wp2_with fail
          go_roundg k'
          case measure => omega
          case rel => exact ⟨(a, i + 1) :: S, met, out, HR, HLN, hnext⟩
        have p1 : ((t : Int) < (n : Int)) = True := eq_true (by omega)
        have p1' : (t < n) = True := eq_true htn
        have hok : okN n (t : Int) = true := decide_eq_true (by omega)
        have cm := owns_bool_at hnext.out.hm htn true
        have fm := hnext.out.hm.frozenAt t
        cases hmt : met.getD t true
        case true =>
          rw [hmt] at cm
          have HR := Lib.hid (show orun next k' ((a, i + 1) :: S) met out = some d by
            have h := HR.out
            rwa [if_neg (fun h => by rw [hmt] at h; cases h.2)] at h)
          clear h0 htn hok hmt
          go_wp2_with fail
          go_roundg k'
          case measure => omega
          case rel => exact ⟨(a, i + 1) :: S, met, out, HR, HLN, hnext⟩
        case false =>
          rw [hmt] at cm
          have HR := Lib.hid (show orun next k' ((t, 0) :: (a, i + 1) :: S) (met.set t true) out = some d by
            have h := HR.out
            rwa [if_pos ⟨hok, hmt⟩] at h)
          have hcnt := DM.count_set hmt
          have HLN2 := Lib.hid (show out.length + (S.length + 1 + 1) + (met.set t true).count false = n ∧ (met.set t true).length = n ∧ ∀ p ∈ (t, 0) :: (a, i + 1) :: S, p.1 < n ∧ p.2 ≤ (rowN next p.1).length from
            ⟨by have := HLN.out.1; omega, by rw [List.length_set]; exact HLN.out.2.1, fun p hp => by
              rcases List.mem_cons.1 hp with rfl | hp
              · exact ⟨htn, Nat.zero_le _⟩
              · exact HLN.out.2.2 p hp⟩)
          have HSl := Lib.hid (show S.length + 1 ≤ 4096 by have h1 := HLN.out.1; have h2 := HNB.out; omega)
          obtain ⟨W2, hW2⟩ : ∃ W, W = W1.setCell ⟨w.heap.size, t, none⟩ (.bool true) := ⟨_, rfl⟩
          have HW2 := Lib.hid hW2
          have hme := hnext.out.meet t
          rw [← hW2] at hme
          have hsz2 := hme.hb.size
          have HME := Lib.hid hme
          have HMO := Lib.hid (show W2.ownsRow w.heap.size 40 2 (.slice (some ⟨g, 0, none⟩) (m + 1) cap4) (m + 1) (stV ((a, i + 1) :: S).reverse) from own_owns hme.hw (by simp [HMm.out]) rfl)
          have HMl := Lib.hid (show m + 1 ≤ 4096 by rw [← HMm.out]; exact HSl.out)
          clear h0 htn hok hmt hcnt hme hW2
          go_upto_region 17 with fail
          rw [← HW2.out]
          clear cm fm HW2
          go_wp2_with (first | (at_builtin; go_loud (refine wpList_append_src rfl (.tmp 85) (.tmp 88) 41 rfl w.heap.size 40 i3 (.agg #[.int .i64 0, .int .i64 0]) 2 16 Try.underlying41 hi3 hz3 hsize3 hby3 rfl (by omega) _ (m + 1) _ rfl (owns_below HMO.out ((Below.refl _ _).alloc (Nat.le_refl _) _)) _ 1 [.int .i64 (t : Int), .int .i64 0] rfl (src_new _ _ _) rfl (by intro u hu; simp at hu; rcases hu with rfl | rfl <;> rfl) (by have := HMl.out; unfold maxLen; omega) (by have := HMl.out; omega) (by simp; omega) ?_; intro v6 w6 hO6 hG6; have HQ := Lib.hid (HME.out.push (a := t) (i := 0) hsz2 (own_owns hO6 (by simp [HMm.out]) rfl) hG6); clear hO6 hG6)) | fail)
          go_roundg k'
          case measure => omega
          case rel => exact ⟨(t, 0) :: (a, i + 1) :: S, met.set t true, out, HR, HLN2, HQ⟩
end Go.Proofs.Ytkjafkegkllbiaa
