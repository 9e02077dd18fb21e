/- dom.Idom. -/
import Derived.Test.YtkjafkegkllbiaaDmOrd
import Derived.Test.YtkjafkegkllbiaaDmSet
import Derived.Test.YtkjafkegkllbiaaDomE
import Derived.Test.YtkjafkegkllbiaaAppBlk
namespace Go.Proofs.Ytkjafkegkllbiaa
open Go.RowKit
set_option linter.unusedSimpArgs false
set_option linter.unusedVariables false
open DM (rowN okN orun gI Fine rkF prF prF1 settleF)
theorem madeI (m : Nat) : madeCells (Value.int .i64 0).cells m = (iV (List.replicate m 0)).toArray := by
  apply Array.ext_getElem?
  intro i
  by_cases h : i < m
  · simp [madeCells, Value.cells, h, Nat.mod_one, iV, List.getElem?_replicate]
  · simp [madeCells, Value.cells, h, iV, List.getElem?_replicate]
theorem madeS (m : Nat) : madeCells (Value.slice none 0 0).cells m = (List.replicate m (Value.slice none 0 0)).toArray := by
  apply Array.ext_getElem?
  intro i
  by_cases h : i < m
  · simp [madeCells, Value.cells, h, Nat.mod_one, List.getElem?_replicate]
  · simp [madeCells, Value.cells, h, List.getElem?_replicate]
/-- ranks and nearest ones, in their boxes (s: the first block of the function's own, behind the order) -/
structure PS0 (s n : Nat) (w wr : World) (rk : List Int) (D : List Int) : Prop where
  hb : Below s w wr
  hrk : wr.ownsRow s 3 1 (.slice (some ⟨s, 0, none⟩) n n) n (iV rk)
  hb1 : wr.heap[s + 1]? = some (.cells #[.slice (some ⟨s, 0, none⟩) n n] 25)
  hid : wr.ownsRow s 3 1 (.slice (some ⟨s + 1 + 1, 0, none⟩) n n) n (iV D)
  hb3 : wr.heap[s + 1 + 1 + 1]? = some (.cells #[.slice (some ⟨s + 1 + 1, 0, none⟩) n n] 25)
/-- and those who come ahead -/
structure PSt (s n : Nat) (w wr : World) (rk : List Int) (D : List Int) (U : List Value) (P : List (List Nat)) : Prop where
  p0 : PS0 s n w wr rk D
  hpp : wr.ownsRow s 25 1 (.slice (some ⟨s + 1 + 1 + 1 + 1, 0, none⟩) n n) n U
  hrows : OwnRows (s + 5) 3 wr U (P.map nI)
theorem ob_ne {n m c d : Nat} {g h : Nat} (k : g ≠ h) : (Value.slice (some ⟨g, 0, none⟩) n c).ownBlock ≠ some h := by simpa [Value.ownBlock] using k
theorem set_get {w : World} {g o k : Nat} {x : Value} {q : Obj} (h : w.heap[k]? = some q) (hne : g ≠ k) : (w.setCell ⟨g, o, none⟩ x).heap[k]? = some q := by rw [get_set (a := ⟨g, o, none⟩) hne]; exact h
theorem rows_set {B : Nat} {e : TypeId} {w : World} {U : List Value} {L : List (List Int)} {g o : Nat} {x : Value} (h : OwnRows B e w U L) (hg : g < B) : OwnRows B e (w.setCell ⟨g, o, none⟩ x) U L :=
  ⟨h.len, fun i u l hu hl => owns_set (h.row i u l hu hl) (fun hg' => by have := (owns_lt (h.row i u l hu hl) hg').1; omega), h.apart⟩
/-- a nearest one is written -/
theorem PS0.near {s n : Nat} {w wr : World} {rk D : List Int} (h : PS0 s n w wr rk D) (at' : Nat) (i : Int) : PS0 s n w (wr.setCell ⟨s + 1 + 1, at', none⟩ (.int .i64 i)) rk (D.set at' i) :=
  ⟨h.hb.setCell (p := ⟨s + 1 + 1, at', none⟩) (by show s ≤ s + 1 + 1; omega) _, owns_set h.hrk (ob_ne (m := 0) (d := 0) (by omega)), set_get h.hb1 (by omega), by rw [iV_set]; exact (h.hid.stored at' (.int .i64 i)).1, set_get h.hb3 (by omega)⟩
/-- a rank is written -/
theorem PS0.rank {s n : Nat} {w wr : World} {rk D : List Int} (h : PS0 s n w wr rk D) (at' : Nat) (i : Int) : PS0 s n w (wr.setCell ⟨s, at', none⟩ (.int .i64 i)) (rk.set at' i) D :=
  ⟨h.hb.setCell (p := ⟨s, at', none⟩) (Nat.le_refl _) _, by rw [iV_set]; exact (h.hrk.stored at' (.int .i64 i)).1, set_get h.hb1 (by omega), owns_set h.hid (ob_ne (m := 0) (d := 0) (by omega)), set_get h.hb3 (by omega)⟩
theorem PSt.rank {s n : Nat} {w wr : World} {rk D : List Int} {U : List Value} {P : List (List Nat)} (h : PSt s n w wr rk D U P) (at' : Nat) (i : Int) : PSt s n w (wr.setCell ⟨s, at', none⟩ (.int .i64 i)) (rk.set at' i) D U P :=
  ⟨h.p0.rank at' i, owns_set h.hpp (ob_ne (m := 0) (d := 0) (by omega)), rows_set h.hrows (by omega)⟩
theorem grown_get {w w2 : World} {ob : Option Nat} {k : Nat} {q : Obj} (hG : w.grownBy w2 ob) (h : w.heap[k]? = some q) (hne : ob ≠ some k) : w2.heap[k]? = some q := (hG.block k (heap_lt h) (fun e => hne e.symm)).trans h
/-- one comes ahead of one more -/
theorem PSt.app {s n : Nat} {w wr w6 : World} {rk D : List Int} {U : List Value} {P : List (List Nat)} {t a : Nat} {o : Obj} {u v6 : Value} {l : List Nat} (h : PSt s n w wr rk D U P) (hs : s + 5 ≤ wr.heap.size) (hu : U[t]? = some u) (hl : P[t]? = some l)
    (hO : w6.ownsRow (s + 5) 3 1 v6 (l.length + 1) (iV (nI l) ++ [.int .i64 (a : Int)])) (hG : (wr.alloc o).grownBy w6 u.ownBlock) (hN : Near (wr.alloc o) u v6) :
    PSt s n w (w6.setCell ⟨s + 1 + 1 + 1 + 1, t, none⟩ v6) rk D (U.set t v6) (P.set t (l ++ [a])) := by
  have hba := (Below.refl wr.heap.size wr).alloc (Nat.le_refl _) o
  have hur : wr.ownsRow (s + 5) 3 1 u (nI l).length (iV (nI l)) := h.hrows.row t u (nI l) hu (by rw [List.getElem?_map, hl]; rfl)
  have hge : ∀ g, u.ownBlock = some g → s + 5 ≤ g := fun g hg => (owns_lt hur hg).1
  have hne : ∀ k, k < s + 5 → u.ownBlock ≠ some k := fun k hk hh => by have := hge k hh; omega
  have g1 : ∀ k q, k < s + 5 → wr.heap[k]? = some q → w6.heap[k]? = some q := fun k q hk hq => grown_get hG (by rw [get_past (heap_lt hq)]; exact hq) (hne k hk)
  have hrows := (h.hrows.below hba).put hu (l := nI (l ++ [a])) (own_owns hO (by simp [nI_len]) (by rw [nI_app, iV_app]; rfl)) hG hN
  have hb6 : Below s w w6 := ⟨hG.os.trans (h.p0.hb.os), hG.tape.trans h.p0.hb.tape, hG.output.trans h.p0.hb.output, Nat.le_trans h.p0.hb.size (Nat.le_trans (by simp) hG.size), fun k hk => by
    have h1 := h.p0.hb.block k hk
    rw [← h1]
    have h2 := hG.block k (by simp; omega) (fun e => hne k (by omega) e.symm)
    rw [h2]
    exact get_past (by omega)⟩
  have o1 := owns_grown (owns_below h.p0.hrk hba) hG (fun g hg => by cases hg; exact hne s (by omega))
  have o2 := owns_grown (owns_below h.p0.hid hba) hG (fun g hg => by cases hg; exact hne (s + 1 + 1) (by omega))
  have o3 := owns_grown (owns_below h.hpp hba) hG (fun g hg => by cases hg; exact hne (s + 1 + 1 + 1 + 1) (by omega))
  refine ⟨⟨hb6.setCell (p := ⟨s + 1 + 1 + 1 + 1, t, none⟩) (by show s ≤ s + 1 + 1 + 1 + 1; omega) _, owns_set o1 (ob_ne (m := 0) (d := 0) (by omega)), set_get (g1 _ _ (by omega) h.p0.hb1) (by omega), owns_set o2 (ob_ne (m := 0) (d := 0) (by omega)), set_get (g1 _ _ (by omega) h.p0.hb3) (by omega)⟩, ?_, ?_⟩
  · exact (o3.stored t v6).1
  · rw [List.map_set]
    exact rows_set hrows (by show s + 1 + 1 + 1 + 1 < s + 5; omega)
theorem new_cells (w : World) (C : List Value) (t : TypeId) : ∀ (j : Nat) (u : Value), C[j]? = some u → (w.alloc (.cells C.toArray t)).cell? ((⟨w.heap.size, 0, none⟩ : Addr).add j) = some u := by
  rcases src_new w C t with ⟨h, _⟩ | ⟨ad, c, h, hc⟩
  · cases h
  · cases h; exact hc
theorem PSt.app6 {s n : Nat} {w wr w6 : World} {rk D : List Int} {U : List Value} {P : List (List Nat)} {t : Nat} {o : Obj} {u : Value} {l : List Nat} (h : PSt s n w wr rk D U P) (hu : U[t]? = some u) (hl : P[t]? = some l)
    (hG : (wr.alloc o).grownBy w6 u.ownBlock) : w6.ownsRow s 25 1 (.slice (some ⟨s + 1 + 1 + 1 + 1, 0, none⟩) n n) n U := by
  have hba := (Below.refl wr.heap.size wr).alloc (Nat.le_refl _) o
  have hur : wr.ownsRow (s + 5) 3 1 u (nI l).length (iV (nI l)) := h.hrows.row t u (nI l) hu (by rw [List.getElem?_map, hl]; rfl)
  exact owns_grown (owns_below h.hpp hba) hG (fun g hg => by cases hg; intro hh; have h9 := (owns_lt hur hh).1; have h8 : s + 5 ≤ s + 1 + 1 + 1 + 1 := h9; omega)
theorem nI_i64 {l : List Nat} {n : Nat} (hn : n ≤ 4096) (h : ∀ x ∈ l, x < n) : ∀ z ∈ nI l, I64 z := by
  intro z hz
  obtain ⟨x, hx, rfl⟩ := List.mem_map.1 hz
  have := h x hx
  show I64 (x : Int)
  unfold I64; omega
theorem below_grownS {B : Nat} {w w1 w2 : World} {c : Nat} (h : Below B w w1) (hg : w1.grownBy w2 (some c)) (hc : B ≤ c) (hB : B ≤ w1.heap.size) : Below B w w2 :=
  ⟨hg.os.trans h.os, hg.tape.trans h.tape, hg.output.trans h.output, Nat.le_trans h.size hg.size, fun k hk => (hg.block k (by omega) (by simp; omega)).trans (h.block k hk)⟩
def negF (n k : Nat) : List Int := List.replicate k (-1) ++ List.replicate (n - k) 0
theorem negF_set {n k : Nat} (h : k < n) : (negF n k).set k (-1) = negF n (k + 1) := by
  unfold negF
  rw [List.set_append_right _ _ (by simp)]
  simp only [List.length_replicate, Nat.sub_self]
  obtain ⟨m, hm⟩ : ∃ m, n - k = m + 1 := ⟨n - k - 1, by omega⟩
  rw [hm, show n - (k + 1) = m by omega, List.replicate_succ, List.set_cons_zero, List.replicate_succ', List.append_assoc]
  rfl
set_option maxRecDepth 100000 in
set_option maxHeartbeats 8000000 in
theorem dom_Idom (v : Value) (next : List (List Int)) (w : World) (hv : RowR 1 gridR w v next) (hn : next.length ≤ 1024) (hrl : ∀ l ∈ next, l.length ≤ 1024) (K : Nat) (d : List Nat)
    (hd : (next.length = 0 ∧ d = []) ∨ (0 < next.length ∧ orun next K [(0, 0)] ((List.replicate next.length false).set 0 true) [] = some d))
    (hdl : d.length ≤ next.length) (hdn : ∀ x ∈ d, x < next.length) (K2 N2 : Nat) (DF : List Int)
    (hs : settleF (prF next d.reverse (List.replicate next.length [])) (rkF d.reverse 0 (List.replicate next.length 0)) N2 d.reverse K2 (List.replicate next.length (-1)) = some DF) :
    Calls Try.prog 15 #[v] w fun r w' => ∃ u, r = .returned u ∧ w'.ownsRow w.heap.size 3 1 u next.length (iV DF) ∧ Below w.heap.size w w' ∧ Fine DF ∧ DF.length = next.length := by
  have hmf : ∀ (fn : Fn) (first cap : Array Value) (w : World), (Instr.makeFunc fn first cap).run Try.prog w = .ok (.func fn first cap) w := fun _ _ _ _ => rfl
  obtain ⟨i2, hi2, hz2, hsize2, hby2⟩ : ∃ i, Try.prog.info? 3 = some i ∧ i.zero = some (.int .i64 0) ∧ i.size = 1 ∧ i.bytes = 8 := ⟨(Try.prog.info? 3).get!, by kernel_rfl, by kernel_rfl, by kernel_rfl, by kernel_rfl⟩
  obtain ⟨i3, hi3, hz3, hsize3, hby3⟩ : ∃ i, Try.prog.info? 25 = some i ∧ i.zero = some (.slice none 0 0) ∧ i.size = 1 ∧ i.bytes = 24 := ⟨(Try.prog.info? 25).get!, by kernel_rfl, by kernel_rfl, by kernel_rfl, by kernel_rfl⟩
  have HOrd := Lib.hid (dom_Order v next w hv (by omega) K d hd)
  have HV := Lib.hid (fun W (h : Below w.heap.size w W) => hv.below gridR_stable h)
  obtain ⟨ad, cap, rfl⟩ := row_get hv
  obtain ⟨n, hN⟩ : ∃ n, next.length = n := ⟨_, rfl⟩
  have HN := Lib.hid hN
  rw [hN] at hn HV HOrd hdl hdn hs ⊢
  have hmk := fun W => run_make W 25 3 i2 _ Try.underlying25 hi2 hz2 .i64 .i64 (n : Int) (n : Int) (by omega) (by omega) (by rw [hby2]; omega) (by omega)
  rw [hsize2, Nat.mul_one, madeI, Int.toNat_natCast] at hmk
  have hmp := fun W => run_make W 22 25 i3 _ Try.underlying22 hi3 hz3 .i64 .i64 (n : Int) (n : Int) (by omega) (by omega) (by rw [hby3]; omega) (by omega)
  rw [hsize3, Nat.mul_one, madeS, Int.toNat_natCast] at hmp
  have HS := Lib.hid hs
  have HB := Lib.hid (And.intro hn (And.intro hrl (And.intro hdl hdn)))
  have hn63 : n ≤ 9223372036854775807 := by omega
  obtain ⟨ZI, hZI⟩ : ∃ Z, (iV (List.replicate n 0)).toArray = Z := ⟨_, rfl⟩
  obtain ⟨ZP, hZP⟩ : ∃ Z, (List.replicate n (Value.slice none 0 0)).toArray = Z := ⟨_, rfl⟩
  rw [hZI] at hmk
  rw [hZP] at hmp
  have HZI := Lib.hid hZI
  have HZP := Lib.hid hZP
  clear hv hN hd hdl hdn hs hn hrl hZI hZP hi3 hz3 hsize3 hby3
  go_enter Try.func15, Try.ntmps15
  go_wp2_with fail
  refine HOrd.out.mono ?_; rintro r W1 ⟨u3, rfl, hO3, hb3⟩
  obtain ⟨a3, c3, rfl⟩ := owns_form hO3
  have HO3 := Lib.hid hO3
  have HB3 := Lib.hid hb3
  clear hO3 hb3 HOrd
  go_wp2_with fail
  obtain ⟨s, hs⟩ : ∃ s, W1.heap.size = s := ⟨_, rfl⟩
  have HSz := Lib.hid hs
  rw [hs]
  obtain ⟨W2, hW2⟩ : ∃ W, W = (((W1.alloc (.cells ZI 3)).alloc (.cells #[.slice (some ⟨s, 0, none⟩) n n] 25)).alloc (.cells ZI 3)).alloc (.cells #[.slice (some ⟨s + 1 + 1, 0, none⟩) n n] 25) := ⟨_, rfl⟩
  rw [← hW2]
  have HP0 := Lib.hid (show PS0 s n W1 W2 (List.replicate n 0) (negF n 0) ∧ W2.heap.size = s + 1 + 1 + 1 + 1 by
    subst hs
    have k1 := owns_arr W1 ZI 3 1 n (by rw [← HZI.out]; simp [iV]) (by unfold maxLen; omega)
    have k2 := owns_arr ((W1.alloc (.cells ZI 3)).alloc (.cells #[.slice (some ⟨W1.heap.size, 0, none⟩) n n] 25)) ZI 3 1 n (by rw [← HZI.out]; simp [iV]) (by unfold maxLen; omega)
    have hz : ZI.toList = iV (List.replicate n 0) := by rw [← HZI.out]
    rw [hz] at k1 k2
    have k1 := owns_below (owns_below (owns_below k1 ((Below.refl _ _).alloc (Nat.le_refl _) (.cells #[.slice (some ⟨W1.heap.size, 0, none⟩) n n] 25))) ((Below.refl _ _).alloc (Nat.le_refl _) (.cells ZI 3))) ((Below.refl _ _).alloc (Nat.le_refl _) (.cells #[.slice (some ⟨W1.heap.size + 1 + 1, 0, none⟩) n n] 25))
    have k2 := own_low (owns_below k2 ((Below.refl _ _).alloc (Nat.le_refl _) (.cells #[.slice (some ⟨W1.heap.size + 1 + 1, 0, none⟩) n n] 25))) (B := W1.heap.size) (by simp only [World.size_alloc]; omega)
    simp only [World.size_alloc] at k2
    rw [hW2]
    refine ⟨⟨by (repeat' (first | (with_reducible exact Below.refl _ _) | (with_reducible assumption) | (with_reducible refine below_drewN ?_ _) | (with_reducible refine Below.alloc ?_ ?_ _) | (with_reducible refine Below.drew ?_) | (with_reducible refine Below.setCell ?_ ?_ _) | go_size)), k1, ?_, by unfold negF; simpa using k2, get_last (by simp)⟩, by simp⟩
    rw [get_past (by simp), get_past (by simp)]
    exact get_last (by simp))
  clear hW2 hmk
  go_loopw [23] (fun jj wr => ∃ k : Nat, k ≤ n ∧ jj = .int .i64 k ∧ Hid (PS0 s n W1 wr (List.replicate n 0) (negF n k) ∧ wr.heap.size = s + 1 + 1 + 1 + 1)) (fun jj _ => n - (intOf jj).toNat)
  case atStart => exact ⟨0, Nat.zero_le _, rfl, HP0⟩
  case round =>
    obtain ⟨k, hk, rfl, hP⟩ := hrel
    by_cases hlt : k < n
    · have q1 : ((k : Int) < (n : Int)) = True := eq_true (by omega)
      have q1' : (k < n) = True := eq_true hlt
      have hk62 : k ≤ 9223372036854775806 := by omega
      have b3 := obj_cell hP.out.1.hb3 (i := 0) rfl
      have cI := owns_iV_at hP.out.1.hid hlt
      have fI := hP.out.1.hid.frozenAt k
      generalize (negF n k).getD k 0 = dk at *
      have hnx := hP.out.1.near k (-1)
      rw [negF_set hlt] at hnx
      have HX := Lib.hid (And.intro hnx (show (wr.setCell ⟨s + 1 + 1, k, none⟩ (.int .i64 (-1))).heap.size = s + 1 + 1 + 1 + 1 by simp [hP.out.2]))
      have HLT := Lib.hid hlt
      clear hP hnx hlt hk
      go_wp2_with fail
      go_roundw
      case rel => exact ⟨k + 1, by have := HLT.out; omega, by simp, HX⟩
      case measure => have := HLT.out; first | (simp [intOf]; done) | (simp [intOf]; omega)
    · obtain rfl : n = k := by omega
      have q1 : ((n : Int) < (n : Int)) = False := eq_false (by omega)
      have q1' : (n < n) = False := eq_false (by omega)
      clear HP0 hlt hk
      go_wp2_with fail
      obtain ⟨W3, hW3⟩ : ∃ W, W = wr.alloc (.cells ZP 25) := ⟨_, rfl⟩
      rw [← hW3, hP.out.2]
      have HP3 := Lib.hid (show PSt s n W1 W3 (List.replicate n 0) (List.replicate n (-1)) (List.replicate n (.slice none 0 0)) (List.replicate n []) ∧ s + 5 ≤ W3.heap.size by
        have h0 := hP.out.1
        have hba := (Below.refl wr.heap.size wr).alloc (Nat.le_refl _) (.cells ZP 25)
        have k1 := owns_arr wr ZP 25 1 n (by rw [← HZP.out]; simp) (by unfold maxLen; omega)
        rw [hP.out.2] at k1
        have hz : ZP.toList = List.replicate n (.slice none 0 0) := by rw [← HZP.out]
        rw [hz] at k1
        rw [show negF n n = List.replicate n (-1) by unfold negF; simp] at h0
        rw [hW3]
        refine ⟨⟨⟨h0.hb.alloc (by rw [hP.out.2]; omega) _, owns_below h0.hrk hba, (get_past (heap_lt h0.hb1)).trans h0.hb1, owns_below h0.hid hba, (get_past (heap_lt h0.hb3)).trans h0.hb3⟩, own_low k1 (by omega), ?_⟩, by simp [hP.out.2]⟩
        rw [List.map_replicate]
        exact OwnRows.blank _ _ _ _)
      obtain ⟨M, hM⟩ : ∃ M, d.length = M := ⟨_, rfl⟩
      have HMd := Lib.hid hM
      have hM63 : M ≤ 9223372036854775807 := by have h1 := HB.out.2.2.1; have h2 := HB.out.1; omega
      obtain ⟨order, hor⟩ : ∃ o, d.reverse = o := ⟨_, rfl⟩
      have HLo := Lib.hid (show order.length = M ∧ ∀ x ∈ order, x < n from ⟨by rw [← hor, List.length_reverse, hM], fun x hx => HB.out.2.2.2 x (by rw [← hor] at hx; simpa using hx)⟩)
      rw [hor] at HS HO3
      rw [hM] at HO3 ⊢
      have HOR := Lib.hid (fun (W : World) (h : Below s W1 W) => (row_of_owns (own_owns (owns_below HO3.out (by rw [HSz.out]; exact h)) (show M = (nI order).length by rw [nI_len, HLo.out.1]) rfl) (nI_i64 (by have := HB.out.1; omega) HLo.out.2) : RowR 1 intR W (.slice a3 M c3) (nI order)))
      obtain ⟨RK, hRK⟩ : ∃ R, rkF order 0 (List.replicate n 0) = R := ⟨_, rfl⟩
      obtain ⟨PF, hPF⟩ : ∃ R, prF next order (List.replicate n []) = R := ⟨_, rfl⟩
      rw [hRK, hPF] at HS
      have HRK := Lib.hid hRK
      have HPF := Lib.hid hPF
      have HBw := Lib.hid (fun (W : World) (h : Below s W1 W) => HB3.out.trans (Below.mono h (by rw [← HSz.out]; exact HB3.out.size)))
      clear hW3 hP hs hM hor hRK hPF q1 q1' hmp
      go_loopw [35] (fun jj wr => ∃ (j : Nat) (rk : List Int) (U : List Value) (P : List (List Nat)), jj = .int .i64 j ∧ j ≤ M ∧ Hid (rkF (order.drop j) j rk = RK ∧ prF next (order.drop j) P = PF ∧ rk.length = n ∧ P.length = n ∧ (∀ l ∈ P, l.length ≤ 1024 * j ∧ ∀ p ∈ l, p < n) ∧ ∀ z ∈ rk, I64 z) ∧ Hid (PSt s n W1 wr rk (List.replicate n (-1)) U P ∧ s + 5 ≤ wr.heap.size)) (fun jj _ => M - (intOf jj).toNat)
      case atStart => exact ⟨0, _, _, _, rfl, Nat.zero_le _, Lib.hid ⟨HRK.out, HPF.out, by simp, by simp, fun l hl => by have := List.eq_of_mem_replicate hl; subst this; exact ⟨by simp, by simp⟩, fun z hz => by have := List.eq_of_mem_replicate hz; subst this; unfold I64; omega⟩, HP3⟩
      case round =>
        obtain ⟨j, rk, U, P, rfl, hj, hR, hP⟩ := hrel
        by_cases hlt : j < M
        case neg =>
          obtain rfl : M = j := by omega
          have q1 : ((M : Int) < (M : Int)) = False := eq_false (by omega)
          have q1' : (M < M) = False := eq_false (by omega)
          have hRe : rk = RK ∧ P = PF := by
            have h := hR.out
            rw [List.drop_of_length_le (by rw [HLo.out.1]; exact Nat.le_refl _)] at h
            exact ⟨h.1, h.2.1⟩
          obtain ⟨rfl, rfl⟩ := hRe
          have hP1 := hP.out.1
          have hsz := hP.out.2
          have hlb : ∀ W, wr.grownBy W (some (s + 1 + 1)) → Below s W1 W := fun W h => below_grownS hP1.p0.hb h (by omega) (by omega)
          have HOK : SetOk n order P rk := ⟨by have := HB.out.1; omega, HLo.out.2, by have h1 := HLo.out.1; have h2 := HB.out.2.2.1; have h3 := HB.out.1; have h4 := HMd.out; omega, hR.out.2.2.2.1, fun l hl => (hR.out.2.2.2.2.1 l hl).2, hR.out.2.2.1⟩
          have hUl : U.length = n := by have := hP1.hrows.len; rw [List.length_map, hR.out.2.2.2.1] at this; exact this
          have HAT : ∀ W, wr.grownBy W (some (s + 1 + 1)) → SetAt n (s + 1) (s + 1 + 1 + 1) (s + 1 + 1) n (s + 1 + 1 + 1 + 1) (fun v => U.getD v (.slice none 0 0)) (.slice a3 M c3) (.slice (some ⟨s, 0, none⟩) n n) order P rk W := fun W h =>
            ⟨HOR.out W (hlb W h), fun v hv => by
              obtain ⟨u, hu⟩ := get_some (L := U) (n := v) (by rw [hUl]; exact hv)
              obtain ⟨l, hl⟩ := get_some (L := P) (n := v) (by rw [hR.out.2.2.2.1]; exact hv)
              have e1 : U.getD v (.slice none 0 0) = u := by simp [List.getD, hu]
              have e2 : P.getD v [] = l := by simp [List.getD, hl]
              rw [e1, e2]
              have hrow := hP1.hrows.row v u (nI l) hu (by rw [List.getElem?_map, hl]; rfl)
              refine ⟨?_, row_of_owns (owns_grown hrow h (fun g hg => by have := (owns_lt hrow hg).1; simp; omega)) (nI_i64 (by have := HB.out.1; omega) (hR.out.2.2.2.2.1 l (List.mem_of_getElem? hl)).2)⟩
              rw [(owns_grown hP1.hpp h (fun g hg => by cases hg; simp)).cellAt v (by omega)]
              exact hu,
            row_of_owns (own_owns' (owns_grown hP1.p0.hrk h (fun g hg => by cases hg; simp; omega)) hR.out.2.2.1.symm rfl) hR.out.2.2.2.2.2,
            obj_cell (grown_get h hP1.p0.hb1 (by simp)) (i := 0) rfl, obj_cell (grown_get h hP1.p0.hb3 (by simp)) (i := 0) rfl⟩
          have hgD : ∀ v, v < n → gI (List.replicate n (-1 : Int)) v = -1 := fun v hv => by unfold gI; rw [List.getD_eq_getElem?_getD, List.getElem?_replicate, if_pos hv]; rfl
          have HCS := Lib.hid (dom_settle n (s + 1) (s + 1 + 1 + 1) (s + 1 + 1) n (s + 1 + 1 + 1 + 1) n s (fun v => U.getD v (.slice none 0 0)) (Nat.le_refl _) (by omega) (.slice a3 M c3) (.slice (some ⟨s, 0, none⟩) n n) order P rk (List.replicate n (-1)) DF wr HOK HAT hP1.p0.hid
            (fun v hv => .inl (hgD v (by simpa using hv))) (by simp) K2 N2 HS.out)
          have b3 := obj_cell hP1.p0.hb3 (i := 0) rfl
          have HH3 := Lib.hid hP1.p0.hb3
          have HLB := Lib.hid hlb
          clear HP3 hlt hj hR hP hP1 hsz hlb HOK hUl HAT hgD
          go_wp2_with fail
          refine HCS.out.mono ?_; rintro r w2 ⟨rfl, hO, hG, hF, hL⟩
          have b3 := obj_cell (grown_get hG HH3.out (by simp)) (i := 0) rfl
          have HO := Lib.hid (own_low hO (B := w.heap.size) (by rw [← HSz.out]; exact HB3.out.size))
          have HBB := Lib.hid (HBw.out w2 (HLB.out w2 hG))
          have HFL := Lib.hid (And.intro hF hL)
          clear hO hG hF hL HCS
          go_wp2_with fail
          go_ret
          exact ⟨_, rfl, HO.out, HBB.out, HFL.out.1, HFL.out.2⟩
        have q1 : ((j : Int) < (M : Int)) = True := eq_true (by omega)
        have q1' : (j < M) = True := eq_true hlt
        have hj62 : j ≤ 9223372036854775806 := by omega
        have HJ := Lib.hid hlt
        have hrow := HOR.out _ hP.out.1.p0.hb
        obtain ⟨bo, oo, rfl, hbo, hno, hco, co1, _⟩ := int_at hrow (k := j) (by rw [nI_len, HLo.out.1]; exact hlt)
        rw [getD_nI (by rw [HLo.out.1]; exact hlt)] at co1
        have han := HLo.out.2 _ (mem_getD (l := order) (j := j) (by rw [HLo.out.1]; exact hlt))
        have HRj := Lib.hid hR.out
        rw [drop_at (by rw [HLo.out.1]; exact hlt)] at HRj
        generalize order.getD j 0 = a at *
        have qa : ((a : Int) < (n : Int)) = True := eq_true (by omega)
        have qa' : (a < n) = True := eq_true han
        have b1 := obj_cell hP.out.1.p0.hb1 (i := 0) rfl
        have cR := owns_iV_at hP.out.1.p0.hrk han
        have fR := hP.out.1.p0.hrk.frozenAt a
        generalize rk.getD a 0 = ra at *
        obtain ⟨Wr, hWr⟩ : ∃ W, W = wr.setCell ⟨s, a, none⟩ (.int .i64 (j : Int)) := ⟨_, rfl⟩
        have hP2 := hP.out.1.rank a j
        rw [← hWr] at hP2
        have HP2 := Lib.hid (show PSt s n W1 Wr (rk.set a (j : Int)) (List.replicate n (-1)) U P ∧ s + 5 ≤ Wr.heap.size from ⟨hP2, by rw [hWr]; simpa using hP.out.2⟩)
        have HWr := Lib.hid hWr
        obtain ⟨l, hl⟩ := get_some (L := next) (n := a) (by rw [HN.out]; exact han)
        have hrowN : rowN next a = l := by unfold rowN; simp [List.getD, hl]
        obtain ⟨bn, on, sl, sc, rfl, hbn, hnN, hcN, cn, hL⟩ := grid_at (HV.out w (Below.refl _ _)) hl
        have cn := ((HBw.out _ hP2.p0.hb).cell (p := ⟨bn, on + a, none⟩) hbn).trans cn
        have HLr := Lib.hid (show ∀ W : World, Below s W1 W → RowR 1 intR W (.slice sl l.length sc) l from fun W h => hL.below intR_stable (HBw.out W h))
        have HLn := Lib.hid (HB.out.2.1 l (List.mem_of_getElem? hl))
        obtain ⟨Lr, hLr⟩ : ∃ L, l.length = L := ⟨_, rfl⟩
        have HLl := Lib.hid hLr
        rw [hLr] at cn HLr HLn
        have hLr63 : Lr ≤ 9223372036854775807 := by have := HLn.out; omega
        have HA := Lib.hid han
        have HRj := Lib.hid (show rkF (order.drop (j + 1)) (j + 1) (rk.set a (j : Int)) = RK ∧ prF next (order.drop (j + 1)) (prF1 n a l P) = PF ∧ rk.length = n ∧ P.length = n ∧ (∀ l ∈ P, l.length ≤ 1024 * j ∧ ∀ p ∈ l, p < n) ∧ ∀ z ∈ rk, I64 z from by
          have h := HRj.out
          unfold rkF prF at h
          rw [HN.out, hrowN] at h
          exact h)
        clear hP hP2 hrow hR hl hrowN hL hlt hj han hLr hWr
        go_upto_region 14 with fail
        rw [← HWr.out]
        clear b1 cR fR co1 HWr
        go_wp2_with fail
        obtain ⟨P1, hP1⟩ : ∃ X, prF1 n a l P = X := ⟨_, rfl⟩
        rw [hP1] at HRj
        have HP1 := Lib.hid hP1
        clear hP1
        go_loopw [49] (fun qq wr3 => ∃ (q : Nat) (U : List Value) (P : List (List Nat)), qq = .int .i64 q ∧ q ≤ Lr ∧ Hid (prF1 n a (l.drop q) P = P1 ∧ P.length = n ∧ (∀ l ∈ P, l.length ≤ 1024 * j + q ∧ ∀ p ∈ l, p < n)) ∧ Hid (PSt s n W1 wr3 (rk.set a (j : Int)) (List.replicate n (-1)) U P ∧ s + 5 ≤ wr3.heap.size)) (fun qq _ => Lr - (intOf qq).toNat)
        case atStart => exact ⟨0, U, P, rfl, Nat.zero_le _, Lib.hid ⟨HP1.out, HRj.out.2.2.2.1, HRj.out.2.2.2.2.1⟩, HP2⟩
        case round =>
          obtain ⟨q, U, P, rfl, hq, hR, hP⟩ := hrel
          by_cases hlt : q < Lr
          case neg =>
            obtain rfl : Lr = q := by omega
            have q1 : ((Lr : Int) < (Lr : Int)) = False := eq_false (by omega)
            have q1' : (Lr < Lr) = False := eq_false (by omega)
            have hRe : P = P1 := by
              have h := hR.out.1
              rw [List.drop_of_length_le (by rw [HLl.out]; exact Nat.le_refl _)] at h
              exact h
            subst hRe
            have HRn := Lib.hid (show rkF (order.drop (j + 1)) (j + 1) (rk.set a (j : Int)) = RK ∧ prF next (order.drop (j + 1)) P = PF ∧ (rk.set a (j : Int)).length = n ∧ P.length = n ∧ (∀ l ∈ P, l.length ≤ 1024 * (j + 1) ∧ ∀ p ∈ l, p < n) ∧ ∀ z ∈ rk.set a (j : Int), I64 z from
              ⟨HRj.out.1, HRj.out.2.1, by rw [List.length_set]; exact HRj.out.2.2.1, hR.out.2.1, fun l hl => ⟨by have h1 := (hR.out.2.2 l hl).1; have h2 := HLn.out; omega, (hR.out.2.2 l hl).2⟩, fun z hz => by
                rcases List.mem_or_eq_of_mem_set hz with hz | rfl
                · exact HRj.out.2.2.2.2.2 z hz
                · unfold I64; omega⟩)
            clear hR hlt hq
            go_wp2_with fail
            go_roundw
            case rel => exact ⟨j + 1, _, U, P, by simp, by have := HJ.out; omega, HRn, hP⟩
            case measure => have := HJ.out; first | (simp [intOf]; done) | (simp [intOf]; omega)
          have q3 : ((q : Int) < (Lr : Int)) = True := eq_true (by omega)
          have q3' : (q < Lr) = True := eq_true hlt
          have hq62 : q ≤ 9223372036854775806 := by omega
          have HQ := Lib.hid hlt
          obtain ⟨bl, ol, hse, hbl, hnl, hcl, cl1, _⟩ := int_at (HLr.out _ hP.out.1.p0.hb) (k := q) (by rw [HLl.out]; exact hlt)
          subst hse
          obtain ⟨T, hT⟩ : ∃ T, l.getD q 0 = T := ⟨_, rfl⟩
          have HRq := Lib.hid (show prF1 n a (l.drop (q + 1)) (if okN n T = true then P.set T.toNat (P.getD T.toNat [] ++ [a]) else P) = P1 by
            have h := hR.out.1
            rw [List.drop_eq_getElem_cons (by rw [HLl.out]; exact hlt)] at h
            have : l[q]'(by rw [HLl.out]; exact hlt) = T := by rw [← hT]; simp [List.getD, HLl.out, hlt]
            rw [this] at h
            exact h)
          rw [hT] at cl1
          clear hT
          by_cases h0 : 0 ≤ T
          case neg =>
            have p0 : (0 ≤ T) = False := eq_false h0
            have HRq := Lib.hid (show prF1 n a (l.drop (q + 1)) P = P1 by
              have h := HRq.out
              rwa [if_neg (fun h => h0 (of_decide_eq_true h).1)] at h)
            have HRr := Lib.hid hR.out
            clear h0 hlt hq hR
            go_wp2_with fail
            go_roundw
            case rel => exact ⟨q + 1, U, P, by simp, by have := HQ.out; omega, Lib.hid ⟨HRq.out, HRr.out.2.1, fun l hl => ⟨by have := (HRr.out.2.2 l hl).1; omega, (HRr.out.2.2 l hl).2⟩⟩, hP⟩
            case measure => have := HQ.out; first | (simp [intOf]; done) | (simp [intOf]; omega)
          obtain ⟨t, rfl⟩ : ∃ t : Nat, T = (t : Int) := ⟨T.toNat, by omega⟩
          rw [Int.toNat_natCast] at HRq
          by_cases htn : t < n
          case neg =>
            have p1 : ((t : Int) < (n : Int)) = False := eq_false (by omega)
            have p1' : (t < n) = False := eq_false htn
            have HRq := Lib.hid (show prF1 n a (l.drop (q + 1)) P = P1 by
              have h := HRq.out
              rwa [if_neg (fun h => htn (by have := (of_decide_eq_true h).2; omega))] at h)
            have HRr := Lib.hid hR.out
            clear h0 htn hlt hq hR
            go_wp2_with fail
            go_roundw
            case rel => exact ⟨q + 1, U, P, by simp, by have := HQ.out; omega, Lib.hid ⟨HRq.out, HRr.out.2.1, fun l hl => ⟨by have := (HRr.out.2.2 l hl).1; omega, (HRr.out.2.2 l hl).2⟩⟩, hP⟩
            case measure => have := HQ.out; first | (simp [intOf]; done) | (simp [intOf]; omega)
          have p1 : ((t : Int) < (n : Int)) = True := eq_true (by omega)
          have p1' : (t < n) = True := eq_true htn
          have hok : okN n (t : Int) = true := decide_eq_true (by omega)
          obtain ⟨lt, hlt2⟩ := get_some (L := P) (n := t) (by rw [hR.out.2.1]; exact htn)
          have hpg : P.getD t [] = lt := by simp [List.getD, hlt2]
          rw [if_pos hok, hpg] at HRq
          have hUl : U.length = n := by have := hP.out.1.hrows.len; rw [List.length_map, hR.out.2.1] at this; exact this
          obtain ⟨u, hu⟩ := get_some (L := U) (n := t) (by rw [hUl]; exact htn)
          have hrw := hP.out.1.hrows.row t u (nI lt) hu (by rw [List.getElem?_map, hlt2]; rfl)
          rw [nI_len] at hrw
          obtain ⟨ua, uc, rfl⟩ := owns_form hrw
          have HROWt := Lib.hid hrw
          have cU := hP.out.1.hpp.cellAt t (by omega)
          rw [hu] at cU
          have HLt := Lib.hid (show lt.length ≤ 1048576 * 2 by have h1 := (hR.out.2.2 lt (List.mem_of_getElem? hlt2)).1; have h2 := HJ.out; have h3 := HLn.out; have h4 := HLo.out.1; have h5 := HB.out.2.2.1; have h6 := HB.out.1; have h7 := HMd.out; have h8 := HQ.out; omega)
          have HU := Lib.hid hu
          have HLT2 := Lib.hid hlt2
          have HP6 := Lib.hid hP.out
          have hsz := hP.out.2
          have HRr := Lib.hid (show (P.set t (lt ++ [a])).length = n ∧ ∀ l ∈ P.set t (lt ++ [a]), l.length ≤ 1024 * j + (q + 1) ∧ ∀ p ∈ l, p < n by
            refine ⟨by rw [List.length_set]; exact hR.out.2.1, fun l hl => ?_⟩
            rcases List.mem_or_eq_of_mem_set hl with hl | rfl
            · have := hR.out.2.2 l hl
              exact ⟨by omega, this.2⟩
            · have := hR.out.2.2 lt (List.mem_of_getElem? hlt2)
              refine ⟨by simp; omega, fun p hp => ?_⟩
              rcases List.mem_append.1 hp with hp | hp
              · exact this.2 p hp
              · rw [List.mem_singleton] at hp; subst hp; exact HA.out)
          have HTN := Lib.hid htn
          clear h0 htn hok hlt2 hpg hUl hu hrw hR hlt hq hP
          go_wp2_with (first | (at_builtin; go_loud (refine wpList_append_near rfl (.tmp 66) (.tmp 68) 25 rfl (s + 5) 3 i2 (.int .i64 0) 1 8 Try.underlying25 hi2 hz2 hsize2 hby2 rfl (by omega) _ lt.length _ rfl (owns_below HROWt.out ((Below.refl _ _).alloc (Nat.le_refl _) _)) ⟨wr.heap.size, 0, none⟩ 1 1 [.int .i64 (a : Int)] rfl rfl (new_cells _ _ _) (by intro u hu; simp at hu; rw [hu]; rfl) (by have := HLt.out; unfold maxLen; omega) (by have := HLt.out; omega) (by simp; omega) ?_; intro v6 w6 hO6 hG6 hN6; obtain ⟨av6, cv6, rfl⟩ := owns_form hO6; have HQ6 := Lib.hid (HP6.out.1.app hsz HU.out HLT2.out hO6 hG6 hN6); have hpp6 := HP6.out.1.app6 HU.out HLT2.out hG6; have c6 := hpp6.cellAt t (by have := HTN.out; omega); rw [HU.out] at c6; have f6 := hpp6.frozenAt t; have HS6 := Lib.hid (show s + 5 ≤ w6.heap.size from Nat.le_trans hsz (Nat.le_trans (by simp) hG6.size)); clear hO6 hG6 hN6 hpp6)) | fail)
          go_roundw
          case rel => exact ⟨q + 1, U.set t (.slice av6 (lt.length + 1) cv6), P.set t (lt ++ [a]), by simp, by have := HQ.out; omega, Lib.hid ⟨HRq.out, HRr.out.1, HRr.out.2⟩, Lib.hid ⟨HQ6.out, by simpa using HS6.out⟩⟩
          case measure => have := HQ.out; first | (simp [intOf]; done) | (simp [intOf]; omega)
end Go.Proofs.Ytkjafkegkllbiaa
