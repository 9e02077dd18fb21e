/- dom.Sets. -/
import Derived.Test.YtemihfcenmhieaaDmLaw
import Derived.Test.YtemihfcenmhieaaDomS
import Derived.Test.YtemihfcenmhieaaBitW
import Derived.Test.YtemihfcenmhieaaBitH
namespace Go.Proofs.Ytemihfcenmhieaa
open Go.RowKit
set_option linter.unusedSimpArgs false
set_option linter.unusedVariables false
def setV (n : Nat) (U : List Value) : List Value := U.flatMap fun u => [.int .i64 (n : Int), u]
theorem setV_len (n : Nat) (U : List Value) : (setV n U).length = U.length * 2 := by
  induction U with
  | nil => rfl
  | cons x t ih =>
    show (_ ++ setV n t).length = _
    rw [List.length_append, ih]; simp; omega
theorem setV_get (n : Nat) : ∀ (U : List Value) (k : Nat) (u : Value), U[k]? = some u → (setV n U)[k * 2]? = some (.int .i64 n) ∧ (setV n U)[k * 2 + 1]? = some u
  | [], k, u, h => by simp at h
  | x :: t, 0, u, h => by cases h; exact ⟨rfl, rfl⟩
  | x :: t, k + 1, u, h => by
    have := setV_get n t k u (by simpa using h)
    have e : setV n (x :: t) = .int .i64 n :: x :: setV n t := rfl
    rw [e, show (k + 1) * 2 = k * 2 + 1 + 1 by omega, show k * 2 + 1 + 1 + 1 = k * 2 + 1 + 1 + 1 from rfl]
    exact ⟨by simpa using this.1, by simpa using this.2⟩
theorem setV_set (n : Nat) : ∀ (U : List Value) (k : Nat) (u : Value), (setV n U).set (k * 2 + 1) u = setV n (U.set k u)
  | [], k, u => rfl
  | x :: t, 0, u => rfl
  | x :: t, k + 1, u => by
    have e : setV n (x :: t) = .int .i64 n :: x :: setV n t := rfl
    rw [e, show (k + 1) * 2 + 1 = (k * 2 + 1) + 1 + 1 by omega, List.set_cons_succ, List.set_cons_succ, setV_set n t k u]
    rfl
theorem setV_same (n : Nat) : ∀ (U : List Value) (k : Nat), (setV n U).set (k * 2) (.int .i64 n) = setV n U
  | [], k => rfl
  | x :: t, 0 => rfl
  | x :: t, k + 1 => by
    have e : setV n (x :: t) = .int .i64 n :: x :: setV n t := rfl
    rw [e, show (k + 1) * 2 = (k * 2) + 1 + 1 by omega, List.set_cons_succ, List.set_cons_succ, setV_same n t k]
theorem owned_int {w : World} {B n : Nat} {e : TypeId} {q : Nat} {u : Value} {L : List Value} (h : w.ownsRow B e q u n L) (hn : 0 < n) : ∃ g c, u = .slice (some ⟨g, 0, none⟩) n c ∧ n ≤ c ∧ c ≤ 9223372036854775807 := by
  rcases h.2 with ⟨_, h0⟩ | ⟨g, cap, cur, h1, _, _, h2, h3, _⟩
  · omega
  · exact ⟨g, cap, h1, h2, h3⟩
/-- sets in a row of the call's own -/
structure SetsAt (s n : Nat) (w : World) (U : List Value) (S : List (List Bool)) : Prop where
  own : w.ownsRow s 35 2 (.slice (some ⟨s, 0, none⟩) n n) n (setV n U)
  len : U.length = n
  sl : ∀ u ∈ U, ∃ a q c, u = .slice a q c
  sets : ∀ (i : Nat) (u : Value) (x : List Bool), U[i]? = some u → S[i]? = some x → x.length = n ∧ SetR w (.agg #[.int .i64 (n : Int), u]) x
theorem setV_shape {n : Nat} : ∀ {U : List Value}, (∀ u ∈ U, ∃ a q c, u = .slice a q c) → ∀ (j : Nat) (u : Value), (setV n U)[j]? = some u → u = .int .i64 n ∨ ∃ a q c, u = .slice a q c
  | [], _, j, u, h => by simp [setV] at h
  | x :: t, hs, 0, u, h => by cases h; exact .inl rfl
  | x :: t, hs, 1, u, h => by cases h; exact .inr (hs x (by simp))
  | x :: t, hs, j + 2, u, h => setV_shape (U := t) (fun u hu => hs u (by simp [hu])) j u (by simpa [setV] using h)
/-- a set stays where something is written into the row of sets -/
theorem SetR.farx {w : World} {v : Value} {x : List Bool} (h : SetR w v x) {s n q : Nat} {xs : List Value} {y : Value} (hO : w.ownsRow s 35 2 (.slice (some ⟨s, 0, none⟩) n n) n xs) (hs : ∀ (j : Nat) (u : Value), xs[j]? = some u → (∃ z, u = .int .i64 z) ∨ ∃ a q c, u = .slice a q c) : SetR (w.setCell ⟨s, q, none⟩ y) v x := by
  obtain ⟨ws, a', c', h1, h2, h3, h4⟩ := h
  refine ⟨ws, a', c', h1, h2, h3, fun h0 => ?_⟩
  obtain ⟨b, o, e, l1, l2, l3, l4⟩ := h4 h0
  refine ⟨b, o, e, l1, l2, by rw [World.size_setCell]; exact l3, fun k hk => ?_⟩
  have hne : ¬ b = s := by
    rintro rfl
    have hc := l4 k hk
    by_cases hj : o + k < n * 2
    · rw [hO.cellAt (o + k) hj] at hc
      rcases hs _ _ hc with ⟨z, h⟩ | ⟨a, q, c, h⟩ <;> cases h
    · rcases hO.2 with ⟨h, _⟩ | ⟨g, cap, cur, h, _, hg, _, _, hcs, _⟩
      · cases h
      · cases h
        rw [cell_of_row w b (o + k) cur _ (0, 0) hg, Array.getElem?_eq_none (by omega)] at hc
        cases hc
  rw [far_cell (fun h => hne h.symm)]
  exact l4 k hk
theorem SetR.far {w : World} {v : Value} {x : List Bool} (h : SetR w v x) {s n q : Nat} {U : List Value} {y : Value} (hO : w.ownsRow s 35 2 (.slice (some ⟨s, 0, none⟩) n n) n (setV n U)) (hs : ∀ u ∈ U, ∃ a q c, u = .slice a q c) : SetR (w.setCell ⟨s, q, none⟩ y) v x :=
  h.farx hO (fun j u hu => by
    rcases setV_shape hs j u hu with h | h
    · exact .inl ⟨_, h⟩
    · exact .inr h)
theorem SetsAt.at_ {s n : Nat} {w : World} {U : List Value} {S : List (List Bool)} (h : SetsAt s n w U S) (hS : S.length = n) {i : Nat} (hi : i < n) :
    ∃ a q c, U[i]? = some (.slice a q c) ∧ w.cell? ⟨s, i * 2, none⟩ = some (.int .i64 (n : Int)) ∧ w.cell? ⟨s, i * 2 + 1, none⟩ = some (.slice a q c) ∧ w.frozen? ⟨s, i * 2, none⟩ = false ∧ w.frozen? ⟨s, i * 2 + 1, none⟩ = false ∧
      (S.getD i []).length = n ∧ SetR w (.agg #[.int .i64 (n : Int), .slice a q c]) (S.getD i []) := by
  obtain ⟨u, hu⟩ := get_some (L := U) (n := i) (by rw [h.len]; exact hi)
  obtain ⟨x, hx⟩ := get_some (L := S) (n := i) (by rw [hS]; exact hi)
  obtain ⟨a, q, c, rfl⟩ := h.sl u (List.mem_of_getElem? hu)
  have hg := setV_get n U i _ hu
  have e : S.getD i [] = x := by simp [List.getD, hx]
  rw [e]
  have := h.sets i _ x hu hx
  exact ⟨a, q, c, hu, (h.own.cellAt _ (by omega)).trans hg.1, (h.own.cellAt _ (by omega)).trans hg.2, h.own.frozenAt _, h.own.frozenAt _, this.1, this.2⟩
/-- one set is written -/
theorem SetsAt.put {s n : Nat} {w : World} {U : List Value} {S : List (List Bool)} (h : SetsAt s n w U S) {i : Nat} (hi : i < n) {a : Option Addr} {q c : Nat} {x : List Bool} (hx : x.length = n) (hR : SetR w (.agg #[.int .i64 (n : Int), .slice a q c]) x) :
    SetsAt s n ((w.setCell ⟨s, i * 2, none⟩ (.int .i64 (n : Int))).setCell ⟨s, i * 2 + 1, none⟩ (.slice a q c)) (U.set i (.slice a q c)) (S.set i x) := by
  have o1 := (h.own.stored (i * 2) (.int .i64 (n : Int))).1
  rw [setV_same] at o1
  have o2 := (o1.stored (i * 2 + 1) (.slice a q c)).1
  rw [setV_set] at o2
  have far : ∀ {v : Value} {y : List Bool}, SetR w v y → SetR ((w.setCell ⟨s, i * 2, none⟩ (.int .i64 (n : Int))).setCell ⟨s, i * 2 + 1, none⟩ (.slice a q c)) v y := fun hy => (hy.far h.own h.sl).far o1 h.sl
  refine ⟨o2, by rw [List.length_set]; exact h.len, fun u hu => ?_, fun j u y hu hy => ?_⟩
  · rcases List.mem_or_eq_of_mem_set hu with hu | rfl
    · exact h.sl u hu
    · exact ⟨_, _, _, rfl⟩
  · rw [List.getElem?_set] at hu hy
    by_cases hij : i = j
    · subst hij
      have hSi := lt_of_get (show (S.set i x)[i]? = some y by rw [List.getElem?_set]; exact hy)
      rw [List.length_set] at hSi
      rw [if_pos rfl, if_pos (by rw [h.len]; exact hi)] at hu
      rw [if_pos rfl, if_pos hSi] at hy
      cases hu; cases hy
      exact ⟨hx, far hR⟩
    · rw [if_neg hij] at hu hy
      have := h.sets j u y hu hy
      exact ⟨this.1, far this.2⟩
theorem SetsAt.below {s n : Nat} {w w' : World} {U : List Value} {S : List (List Bool)} (h : SetsAt s n w U S) (hb : Below w.heap.size w w') : SetsAt s n w' U S :=
  ⟨owns_below h.own hb, h.len, h.sl, fun i u x hu hx => ⟨(h.sets i u x hu hx).1, (h.sets i u x hu hx).2.below hb⟩⟩
theorem madeSet (m : Nat) : madeCells (Value.agg #[.int .i64 0, .slice none 0 0]).cells (m * 2) = (setV 0 (List.replicate m (.slice none 0 0))).toArray := by
  apply Array.ext_getElem?
  intro i
  have hl : (setV 0 (List.replicate m (.slice none 0 0))).length = m * 2 := by rw [setV_len]; simp
  by_cases h : i < m * 2
  · obtain ⟨k, r, hi, hr⟩ : ∃ k r, i = k * 2 + r ∧ r < 2 := ⟨i / 2, i % 2, by omega, by omega⟩
    have hk : (List.replicate m (Value.slice none 0 0))[k]? = some (.slice none 0 0) := by rw [List.getElem?_replicate, if_pos (by omega)]
    have hg := setV_get 0 _ k _ hk
    subst hi
    rcases (show r = 0 ∨ r = 1 by omega) with rfl | rfl
    · simp only [Nat.add_zero]
      rw [show ((setV 0 (List.replicate m (.slice none 0 0))).toArray)[k * 2]? = (setV 0 (List.replicate m (.slice none 0 0)))[k * 2]? from List.getElem?_toArray, hg.1]
      simp [madeCells, Value.cells, show k < m by omega]
    · rw [show ((setV 0 (List.replicate m (.slice none 0 0))).toArray)[k * 2 + 1]? = (setV 0 (List.replicate m (.slice none 0 0)))[k * 2 + 1]? from List.getElem?_toArray, hg.2]
      simp [madeCells, Value.cells, h]
  · rw [Array.getElem?_eq_none (by simp [madeCells]; omega), Array.getElem?_eq_none (by simp [hl]; omega)]
theorem with_formS (v : Value) (x : List Bool) (i : Int) (n : Nat) (hn : x.length = n) (w : World) (hx : SetR w v x) : Calls Try.prog 24 #[v, .int .i64 i] w fun e w' => ∃ a q c, e = .returned (.agg #[.int .i64 n, .slice a q c]) ∧ SetR w' (.agg #[.int .i64 n, .slice a q c]) (withB x i) ∧ Below w.heap.size w w' :=
  (bits_With v x i w hx).mono (by
    rintro e w' ⟨v', rfl, hS, hb⟩
    obtain ⟨ws, a, c, rfl, h⟩ := id hS
    rw [withB_len, hn] at hS ⊢
    exact ⟨a, _, c, rfl, hS, hb⟩)
theorem owns_apart {w : World} {s : Nat} {e : TypeId} {q n o : Nat} {v y : Value} {xs : List Value} (h : w.ownsRow (s + 1) e q v n xs) : (w.setCell ⟨s, o, none⟩ y).ownsRow (s + 1) e q v n xs :=
  owns_set h (fun hg => by have := (owns_lt h hg).1; omega)
theorem setV_app (n : Nat) (A B : List Value) : setV n (A ++ B) = setV n A ++ setV n B := by simp [setV]
/-- so many are set -/
def mixV (n k : Nat) (u : Value) : List Value := setV n (List.replicate k u) ++ setV 0 (List.replicate (n - k) (.slice none 0 0))
theorem mix_step {n k : Nat} {u : Value} (h : k < n) : ((mixV n k u).set (k * 2) (.int .i64 n)).set (k * 2 + 1) u = mixV n (k + 1) u := by
  unfold mixV
  have hl : (setV n (List.replicate k u)).length = k * 2 := by rw [setV_len]; simp
  obtain ⟨m, hm⟩ : ∃ m, n - k = m + 1 := ⟨n - k - 1, by omega⟩
  rw [hm, show n - (k + 1) = m by omega, List.replicate_succ' (n := k), setV_app, List.replicate_succ]
  rw [List.set_append_right _ _ (by omega), hl, Nat.sub_self, List.set_append_right _ _ (by omega), hl, show k * 2 + 1 - k * 2 = 1 by omega, List.append_assoc]
  rfl
theorem mix_shape {n k : Nat} {a : Option Addr} {q c : Nat} : ∀ (j : Nat) (u : Value), (mixV n k (.slice a q c))[j]? = some u → (∃ z, u = .int .i64 z) ∨ ∃ a q c, u = .slice a q c := by
  intro j u h
  have hx := List.mem_of_getElem? h
  unfold mixV at hx
  rcases List.mem_append.1 hx with hx | hx
  · obtain ⟨i, hi, e⟩ := List.getElem_of_mem hx
    rcases setV_shape (n := n) (U := List.replicate k (.slice a q c)) (fun u hu => by rw [List.eq_of_mem_replicate hu]; exact ⟨_, _, _, rfl⟩) i u (by rw [List.getElem?_eq_getElem hi, e]) with h | h
    · exact .inl ⟨_, h⟩
    · exact .inr h
  · obtain ⟨i, hi, e⟩ := List.getElem_of_mem hx
    rcases setV_shape (n := 0) (U := List.replicate (n - k) (.slice none 0 0)) (fun u hu => by rw [List.eq_of_mem_replicate hu]; exact ⟨_, _, _, rfl⟩) i u (by rw [List.getElem?_eq_getElem hi, e]) with h | h
    · exact .inl ⟨_, h⟩
    · exact .inr h
set_option maxRecDepth 100000 in
set_option maxHeartbeats 8000000 in
theorem dom_Sets (v : Value) (next : List (List Int)) (w : World) (hv : RowR 1 gridR w v next) (hn : next.length ≤ 1024) (hrl : ∀ l ∈ next, l.length ≤ 1024) (d : List Nat) (DF : List Int) (T : Told next d DF) :
    Calls Try.prog 13 #[v] w fun r w' => ∃ U, r = .returned (.slice (some ⟨w.heap.size, 0, none⟩) next.length next.length) ∧ SetsAt w.heap.size next.length w' U (setsF DF d.reverse (List.replicate next.length (List.replicate next.length false))) ∧ Below w.heap.size w w' := by
  obtain ⟨K, hK⟩ := T.ord
  obtain ⟨K2, N2, hS⟩ := T.set
  have HOr := Lib.hid (fun W (h : Below w.heap.size w W) => dom_Order v next W (hv.below gridR_stable h) (by omega) K d hK)
  have HId := Lib.hid (fun W (h : Below w.heap.size w W) => dom_Idom v next W (hv.below gridR_stable h) hn hrl K d hK T.len T.lt K2 N2 DF hS)
  obtain ⟨i, hi, hz, hsize, hby⟩ : ∃ i, Try.prog.info? 35 = some i ∧ i.zero = some (.agg #[.int .i64 0, .slice none 0 0]) ∧ i.size = 2 ∧ i.bytes = 32 := ⟨(Try.prog.info? 35).get!, by kernel_rfl, by kernel_rfl, by kernel_rfl, by kernel_rfl⟩
  obtain ⟨ad, cap, rfl⟩ := row_get hv
  have HT := Lib.hid T
  obtain ⟨n, hN⟩ : ∃ n, next.length = n := ⟨_, rfl⟩
  have HN := Lib.hid hN
  rw [hN] at hn HOr HId ⊢
  have hmk := fun W => run_make W 29 35 i _ Try.underlying29 hi hz .i64 .i64 (n : Int) (n : Int) (by omega) (by omega) (by rw [hby]; omega) (by omega)
  rw [hsize] at hmk
  have hn63 : n ≤ 9223372036854775807 := by omega
  have hcl : clampR (n : Int) = n := by unfold clampR; rw [if_neg (by omega), if_neg (by omega)]; simp
  have HNw := Lib.hid (fun W => bits_New (n : Int) W)
  rw [hcl] at HNw
  have HNB := Lib.hid (And.intro hn trivial)
  rw [madeSet, Int.toNat_natCast] at hmk
  have HLm := Lib.hid (show (mixV n 0 (.slice none 0 0)) = setV 0 (List.replicate n (.slice none 0 0)) by unfold mixV; simp [setV])
  obtain ⟨Z, hZ⟩ : ∃ Z, (setV 0 (List.replicate n (.slice none 0 0))).toArray = Z := ⟨_, rfl⟩
  have HZ := Lib.hid hZ
  rw [hZ] at hmk
  obtain ⟨SF, hSF⟩ : ∃ X, setsF DF d.reverse (List.replicate n (List.replicate n false)) = X := ⟨_, rfl⟩
  rw [hSF]
  have HSF := Lib.hid hSF
  have hT := T
  clear hSF hv hN hi hz hsize hby hcl T hK hS hZ hn hT
  go_enter Try.func13, Try.ntmps13
  go_wp2_with fail
  refine (HNw.out _).mono ?_; rintro r W1 ⟨g, rfl, hFr⟩
  have HFr := Lib.hid hFr
  clear hFr
  go_wp2_with fail
  obtain ⟨q, hq⟩ : ∃ q, (n + 63) / 64 = q := ⟨_, rfl⟩
  have hwn := wds_none n
  rw [hq] at HFr hwn ⊢
  obtain ⟨p, hp⟩ : ∃ p, W1.heap.size = p := ⟨_, rfl⟩
  obtain ⟨W2, hW2⟩ : ∃ W, W = W1.alloc (.cells #[.int .i64 (n : Int), .slice (some ⟨g, 0, none⟩) q q] 35) := ⟨_, rfl⟩
  rw [← hW2, hp]
  have HI := Lib.hid (show W2.ownsRow w.heap.size 35 2 (.slice (some ⟨w.heap.size, 0, none⟩) n n) n (mixV n 0 (.slice (some ⟨g, 0, none⟩) q q)) ∧ W2.heap[p]? = some (.cells #[.int .i64 (n : Int), .slice (some ⟨g, 0, none⟩) q q] 35) ∧
      SetR W2 (.agg #[.int .i64 (n : Int), .slice (some ⟨g, 0, none⟩) q q]) (List.replicate n false) ∧ Below w.heap.size w W2 ∧ w.heap.size < p by
    have k1 := owns_arr w Z 35 2 n (by rw [← HZ.out]; simp [setV_len]) (by have := HNB.out.1; unfold maxLen; omega)
    have hz : Z.toList = mixV n 0 (.slice (some ⟨g, 0, none⟩) q q) := by rw [← HZ.out]; unfold mixV; simp [setV]
    rw [hz] at k1
    have k2 := owns_below k1 HFr.out.below
    have hsz := HFr.out.below.size
    rw [World.size_alloc] at hsz
    have hS := HFr.out.set hwn (by simp; have := HNB.out.1; omega) (m := q) (by simp)
    rw [List.length_replicate] at hS
    have hba := (Below.refl W1.heap.size W1).alloc (Nat.le_refl _) (.cells #[.int .i64 (n : Int), .slice (some ⟨g, 0, none⟩) q q] 35)
    rw [hW2]
    refine ⟨owns_below k2 hba, get_last hp.symm, hS.below hba, ?_, by omega⟩
    exact (((Below.refl _ w).alloc (Nat.le_refl _) (.cells Z 35)).trans (Below.mono HFr.out.below (by simp))).trans (Below.mono hba (by omega)))
  clear hW2 hmk hwn hp
  go_loopw [17] (fun jj wr => ∃ k : Nat, k ≤ n ∧ jj = .int .i64 k ∧ Hid (wr.ownsRow w.heap.size 35 2 (.slice (some ⟨w.heap.size, 0, none⟩) n n) n (mixV n k (.slice (some ⟨g, 0, none⟩) q q)) ∧ wr.heap[p]? = some (.cells #[.int .i64 (n : Int), .slice (some ⟨g, 0, none⟩) q q] 35) ∧
      SetR wr (.agg #[.int .i64 (n : Int), .slice (some ⟨g, 0, none⟩) q q]) (List.replicate n false) ∧ Below w.heap.size w wr ∧ w.heap.size < p)) (fun jj _ => n - (intOf jj).toNat)
  case atStart => exact ⟨0, Nat.zero_le _, rfl, HI⟩
  case round =>
    obtain ⟨k, hk, rfl, hP⟩ := hrel
    by_cases hlt : k < n
    · have q1 : ((k : Int) < (n : Int)) = True := eq_true (by omega)
      have q1' : (k < n) = True := eq_true hlt
      have hk62 : k ≤ 9223372036854775806 := by omega
      have b0 := obj_cell hP.out.2.1 (i := 0) rfl
      have b1 := obj_cell hP.out.2.1 (i := 1) rfl
      have f0 := hP.out.1.frozenAt (k * 2)
      have f1 := hP.out.1.frozenAt (k * 2 + 1)
      have c0 := hP.out.1.cellAt (k * 2) (by omega)
      have c1 := hP.out.1.cellAt (k * 2 + 1) (by omega)
      obtain ⟨z0, hz0⟩ := get_some (L := mixV n k (.slice (some ⟨g, 0, none⟩) q q)) (n := k * 2) (by have := hP.out.1.1; omega)
      obtain ⟨z1, hz1⟩ := get_some (L := mixV n k (.slice (some ⟨g, 0, none⟩) q q)) (n := k * 2 + 1) (by have := hP.out.1.1; omega)
      rw [hz0] at c0
      rw [hz1] at c1
      obtain ⟨W3, hW3⟩ : ∃ W, W = (wr.setCell ⟨w.heap.size, k * 2, none⟩ (.int .i64 (n : Int))).setCell ⟨w.heap.size, k * 2 + 1, none⟩ (.slice (some ⟨g, 0, none⟩) q q) := ⟨_, rfl⟩
      have HX := Lib.hid (show W3.ownsRow w.heap.size 35 2 (.slice (some ⟨w.heap.size, 0, none⟩) n n) n (mixV n (k + 1) (.slice (some ⟨g, 0, none⟩) q q)) ∧ W3.heap[p]? = some (.cells #[.int .i64 (n : Int), .slice (some ⟨g, 0, none⟩) q q] 35) ∧
          SetR W3 (.agg #[.int .i64 (n : Int), .slice (some ⟨g, 0, none⟩) q q]) (List.replicate n false) ∧ Below w.heap.size w W3 ∧ w.heap.size < p by
        obtain ⟨h1, h2, h3, h4, h5⟩ := hP.out
        have o1 := (h1.stored (k * 2) (.int .i64 (n : Int))).1
        have o2 := (o1.stored (k * 2 + 1) (.slice (some ⟨g, 0, none⟩) q q)).1
        rw [mix_step hlt] at o2
        rw [hW3]
        refine ⟨o2, set_get (set_get h2 (by omega)) (by omega), (h3.farx h1 mix_shape).farx o1 (fun j u hu => ?_), (h4.setCell (p := ⟨w.heap.size, k * 2, none⟩) (Nat.le_refl _) _).setCell (p := ⟨w.heap.size, k * 2 + 1, none⟩) (Nat.le_refl _) _, h5⟩
        rw [List.getElem?_set] at hu
        split at hu
        · split at hu
          · cases hu; exact .inl ⟨_, rfl⟩
          · cases hu
        · exact mix_shape j u hu)
      have HW3 := Lib.hid hW3
      have HLT := Lib.hid hlt
      clear hP hW3 hz0 hz1 hlt hk
      go_upto_region 7 with fail
      rw [← HW3.out]
      clear HW3 b0 b1 f0 f1 c0 c1
      go_wp2_with fail
      go_roundw
      case rel => exact ⟨k + 1, by have := HLT.out; omega, by simp, HX⟩
      case measure => have := HLT.out; first | (simp [intOf]; done) | (simp [intOf]; omega)
    · obtain rfl : n = k := by omega
      have q1 : ((n : Int) < (n : Int)) = False := eq_false (by omega)
      have q1' : (n < n) = False := eq_false (by omega)
      obtain ⟨h1, h2, h3, h4, h5⟩ := hP.out
      have hmx : mixV n n (.slice (some ⟨g, 0, none⟩) q q) = setV n (List.replicate n (.slice (some ⟨g, 0, none⟩) q q)) := by unfold mixV; simp [setV]
      rw [hmx] at h1
      have HS0 := Lib.hid (show SetsAt w.heap.size n wr (List.replicate n (.slice (some ⟨g, 0, none⟩) q q)) (List.replicate n (List.replicate n false)) from
        ⟨h1, by simp, fun u hu => by rw [List.eq_of_mem_replicate hu]; exact ⟨_, _, _, rfl⟩, fun i u x hu hx => by
          rw [List.getElem?_replicate] at hu hx
          split at hu
          · rename_i hh
            rw [if_pos hh] at hx
            cases hu; cases hx
            exact ⟨by simp, h3⟩
          · cases hu⟩)
      have HB0 := Lib.hid h4
      have hs1 : w.heap.size + 1 ≤ wr.heap.size := by
        have := heap_lt h2
        omega
      have HS1 := Lib.hid hs1
      clear hP h1 h2 h3 h4 h5 hmx hlt hk hs1
      go_wp2_with fail
      refine (HId.out _ HB0.out).mono ?_; rintro r Wa ⟨u1, rfl, hO1, hb1, hF1, hL1⟩
      have HD1 := Lib.hid (own_low hO1 HS1.out)
      have HBa := Lib.hid (HB0.out.trans (hb1.mono HB0.out.size))
      have HSa := Lib.hid (HS0.out.below hb1)
      have HSz := Lib.hid (Nat.le_trans HS1.out hb1.size)
      have HFD := Lib.hid (And.intro hF1 hL1)
      obtain ⟨ai, ci, rfl⟩ := owns_form hO1
      clear hO1 hb1 hF1 hL1
      go_wp2_with fail
      refine (HOr.out _ HBa.out).mono ?_; rintro r Wb ⟨u2, rfl, hO2, hb2⟩
      have HO2 := Lib.hid (own_low hO2 HSz.out)
      have HD2 := Lib.hid (owns_below HD1.out hb2)
      have HBb := Lib.hid (HBa.out.trans (hb2.mono HBa.out.size))
      have HSb := Lib.hid (HSa.out.below hb2)
      have HSzb := Lib.hid (Nat.le_trans HSz.out hb2.size)
      obtain ⟨ao, co, rfl⟩ := owns_form hO2
      obtain ⟨M, hM⟩ : ∃ M, d.length = M := ⟨_, rfl⟩
      obtain ⟨order, hor⟩ : ∃ o, d.reverse = o := ⟨_, rfl⟩
      have HMo := Lib.hid (show order.length = M by rw [← hor, List.length_reverse, hM])
      have hM63 : M ≤ 9223372036854775807 := by have h1 := HT.out.len; have h2 := HNB.out.1; have h3 := HN.out; omega
      have HTr := Lib.hid (show (∀ v ∈ order, v < n) ∧ ∀ v ∈ order, v ≠ 0 → ∃ e, DM.dOf DF v = some e ∧ e ∈ order by
        refine ⟨fun v hv => by rw [← HN.out]; exact HT.out.lt v (by rw [← hor] at hv; simpa using hv), fun v hv h0 => ?_⟩
        have hpos : 0 < next.length := by have := HT.out.lt v (by rw [← hor] at hv; simpa using hv); omega
        have h1 := HT.out.tree hpos
        rw [hor] at h1
        exact h1.2.2.2.1.has v hv h0)
      rw [hM, hor] at HO2
      rw [hM]
      rw [hor] at HSF
      clear hO2 hb2 hM hor q1 q1' HI
      go_wp2_with fail
      go_loopw [30] (fun jj wr => ∃ (j : Nat) (U : List Value) (S : List (List Bool)), jj = .int .i64 j ∧ j ≤ M ∧ Hid (setsF DF (order.drop j) S = SF ∧ S.length = n) ∧ Hid (SetsAt w.heap.size n wr U S ∧ Below w.heap.size w wr ∧ w.heap.size + 1 ≤ wr.heap.size) ∧ Hid (wr.ownsRow (w.heap.size + 1) 3 1 (.slice ai n ci) n (iV DF) ∧ wr.ownsRow (w.heap.size + 1) 3 1 (.slice ao M co) M (iV (nI order)))) (fun jj _ => M - (intOf jj).toNat)
      case atStart => exact ⟨0, _, _, rfl, Nat.zero_le _, Lib.hid ⟨HSF.out, by simp⟩, Lib.hid ⟨HSb.out, HBb.out, HSzb.out⟩, Lib.hid ⟨HD2.out, HO2.out⟩⟩
      case round =>
        obtain ⟨j, U, S, rfl, hj, hR, hP, hQ⟩ := hrel
        by_cases hlt : j < M
        case neg =>
          obtain rfl : M = j := by omega
          have q1 : ((M : Int) < (M : Int)) = False := eq_false (by omega)
          have q1' : (M < M) = False := eq_false (by omega)
          have hSe : S = SF := by
            have h := hR.out.1
            rw [List.drop_of_length_le (by rw [HMo.out]; exact Nat.le_refl _)] at h
            exact h
          subst hSe
          clear hlt hj hR
          go_wp2_with fail
          go_ret
          exact ⟨_, rfl, hP.out.1, hP.out.2.1⟩
        have q1 : ((j : Int) < (M : Int)) = True := eq_true (by omega)
        have q1' : (j < M) = True := eq_true hlt
        have hj62 : j ≤ 9223372036854775806 := by omega
        have HJ := Lib.hid hlt
        obtain ⟨go, co', hgo, hco1, hco2⟩ := owned_int hQ.out.2 (by omega)
        obtain ⟨rfl, rfl⟩ : ao = some ⟨go, 0, none⟩ ∧ co = co' := by cases hgo; exact ⟨rfl, rfl⟩
        have co1 := owns_iV_at hQ.out.2 hlt
        rw [getD_nI (by rw [HMo.out]; exact hlt)] at co1
        have hvn := HTr.out.1 _ (mem_getD (l := order) (j := j) (by rw [HMo.out]; exact hlt))
        have HMem := Lib.hid (mem_getD (l := order) (j := j) (by rw [HMo.out]; exact hlt))
        have HRj := Lib.hid hR.out.1
        rw [drop_at (by rw [HMo.out]; exact hlt)] at HRj
        have HSl := Lib.hid hR.out.2
        generalize order.getD j 0 = v at *
        have qv : ((v : Int) < (n : Int)) = True := eq_true (by omega)
        have qv' : (v < n) = True := eq_true hvn
        have HVN := Lib.hid hvn
        clear hR hlt hj hvn hgo
        by_cases h0 : v = 0
        · subst h0
          have e0 : (((0 : Nat) : Int) != 0) = false := by decide
          have HR2 := Lib.hid (show setsF DF (order.drop (j + 1)) (S.set 0 (withB (S.getD 0 []) ((0 : Nat) : Int))) = SF by have h := HRj.out; unfold setsF at h; rwa [if_pos rfl] at h)
          obtain ⟨a, c, e, hU, x0, x1, y0, y1, hl, hS⟩ := hP.out.1.at_ HSl.out HVN.out
          have HLx := Lib.hid hl
          have HSl2 := HSl
          have HQw := hQ
          have HW := Lib.hid (with_formS (.agg #[.int .i64 (n : Int), .slice a c e]) (S.getD 0 []) (((0 : Nat) : Int) : Int) n hl wr hS)
          clear hU hl hS
          go_wp2_with fail
          refine HW.out.mono ?_; rintro r Ws ⟨a2, c2, e2, rfl, hS2, hb2⟩
          have hPs := hP.out.1.below hb2
          have hown := hPs.own
          have y0 := hown.frozenAt (0 * 2)
          have y1 := hown.frozenAt (0 * 2 + 1)
          obtain ⟨a3, c3, e3, _, x0, x1, _, _, _, _⟩ := hPs.at_ HSl2.out HVN.out
          obtain ⟨W4, hW4⟩ : ∃ W, W = (Ws.setCell ⟨w.heap.size, 0 * 2, none⟩ (.int .i64 (n : Int))).setCell ⟨w.heap.size, 0 * 2 + 1, none⟩ (.slice a2 c2 e2) := ⟨_, rfl⟩
          have HX := Lib.hid (show SetsAt w.heap.size n W4 (List.set U 0 (.slice a2 c2 e2)) (List.set S 0 (withB (S.getD 0 []) (((0 : Nat) : Int) : Int))) ∧ Below w.heap.size w W4 ∧ w.heap.size + 1 ≤ W4.heap.size by
            rw [hW4]
            refine ⟨hPs.put HVN.out (by rw [withB_len]; exact HLx.out) hS2, ((hP.out.2.1.trans (Below.mono hb2 (by have := hP.out.2.2; omega))).setCell (p := ⟨w.heap.size, 0 * 2, none⟩) (Nat.le_refl _) _).setCell (p := ⟨w.heap.size, 0 * 2 + 1, none⟩) (Nat.le_refl _) _, ?_⟩
            rw [World.size_setCell, World.size_setCell]
            exact Nat.le_trans hP.out.2.2 hb2.size)
          have HQ2 := Lib.hid (show W4.ownsRow (w.heap.size + 1) 3 1 (.slice ai n ci) n (iV DF) ∧ W4.ownsRow (w.heap.size + 1) 3 1 (.slice (some ⟨go, 0, none⟩) M co) M (iV (nI order)) by
            rw [hW4]
            exact ⟨owns_apart (owns_apart (owns_below HQw.out.1 hb2)), owns_apart (owns_apart (owns_below HQw.out.2 hb2))⟩)
          have HW4 := Lib.hid hW4
          have HS4 := Lib.hid (show (List.set S 0 (withB (S.getD 0 []) (((0 : Nat) : Int) : Int))).length = n by rw [List.length_set]; exact HSl2.out)
          clear hPs hown hS2 hb2 hW4 HW
          go_upto_region 15 with fail
          rw [← HW4.out]
          clear x0 x1 y0 y1 HW4
          go_wp2_with fail
          go_roundw
          case rel => exact ⟨j + 1, _, _, by simp, by have := HJ.out; omega, Lib.hid ⟨HR2.out, HS4.out⟩, HX, HQ2⟩
          case measure => have := HJ.out; first | (simp [intOf]; done) | (simp [intOf]; omega)
        have e0 : ((v : Int) != 0) = true := by have : ¬ (v : Int) = 0 := by omega
                                                simpa using this
        obtain ⟨ee, hee, hRe⟩ := HTr.out.2 v HMem.out h0
        obtain ⟨g1, g2, _⟩ := DM.dOf_some hee
        have hen := HTr.out.1 ee hRe
        have HEN := Lib.hid hen
        have HR2 := Lib.hid (show setsF DF (order.drop (j + 1)) (S.set v (withB (S.getD ee []) (v : Int))) = SF by have h := HRj.out; unfold setsF at h; rwa [if_neg h0, g1, Int.toNat_natCast] at h)
        obtain ⟨gi, ci', hgi, hci1, hci2⟩ := owned_int hQ.out.1 (by have := HVN.out; omega)
        obtain ⟨rfl, rfl⟩ : ai = some ⟨gi, 0, none⟩ ∧ ci = ci' := by cases hgi; exact ⟨rfl, rfl⟩
        have cd1 := owns_iV_at hQ.out.1 HVN.out
        rw [show DF.getD v 0 = (ee : Int) from g1] at cd1
        have qe : ((ee : Int) < (n : Int)) = True := eq_true (by omega)
        have qe' : (ee < n) = True := eq_true hen
        obtain ⟨a, c, e, hU, x0, x1, _, _, hl, hS⟩ := hP.out.1.at_ HSl.out hen
        have HLx := Lib.hid hl
        have z0 := hP.out.1.own.frozenAt (v * 2)
        have z1 := hP.out.1.own.frozenAt (v * 2 + 1)
        obtain ⟨a9, c9, e9, _, w0, w1, _, _, _, _⟩ := hP.out.1.at_ HSl.out HVN.out
        obtain ⟨W3, hW3⟩ : ∃ W, W = (wr.setCell ⟨w.heap.size, v * 2, none⟩ (.int .i64 (n : Int))).setCell ⟨w.heap.size, v * 2 + 1, none⟩ (.slice a c e) := ⟨_, rfl⟩
        have HP3 := Lib.hid (show SetsAt w.heap.size n W3 (U.set v (.slice a c e)) (S.set v (S.getD ee [])) ∧ Below w.heap.size w W3 ∧ w.heap.size + 1 ≤ W3.heap.size by
          rw [hW3]
          refine ⟨hP.out.1.put HVN.out hl hS, (hP.out.2.1.setCell (p := ⟨w.heap.size, v * 2, none⟩) (Nat.le_refl _) _).setCell (p := ⟨w.heap.size, v * 2 + 1, none⟩) (Nat.le_refl _) _, ?_⟩
          rw [World.size_setCell, World.size_setCell]
          exact hP.out.2.2)
        have HQw := Lib.hid (show W3.ownsRow (w.heap.size + 1) 3 1 (.slice (some ⟨gi, 0, none⟩) n ci) n (iV DF) ∧ W3.ownsRow (w.heap.size + 1) 3 1 (.slice (some ⟨go, 0, none⟩) M co) M (iV (nI order)) by
          rw [hW3]
          exact ⟨owns_apart (owns_apart hQ.out.1), owns_apart (owns_apart hQ.out.2)⟩)
        have HSl2 := Lib.hid (show (S.set v (S.getD ee [])).length = n by rw [List.length_set]; exact HSl.out)
        have HW3 := Lib.hid hW3
        clear hU hl hS hP hQ hW3 hgi hee hRe g1 g2 hen h0
        go_upto_region 14 with fail
        rw [← HW3.out]
        clear x0 x1 z0 z1 w0 w1 cd1 co1 HW3
        obtain ⟨a, c, e, hU, x0, x1, y0, y1, hl, hS⟩ := HP3.out.1.at_ HSl2.out HVN.out
        have hgd : (S.set v (S.getD ee [])).getD v [] = S.getD ee [] := by rw [getD_setS, if_pos ⟨rfl, by rw [HSl.out]; exact HVN.out⟩]
        rw [hgd] at hl hS
        clear hgd
        have HW := Lib.hid (with_formS (.agg #[.int .i64 (n : Int), .slice a c e]) (S.getD ee []) ((v : Int) : Int) n hl W3 hS)
        clear hU hl hS
        go_wp2_with fail
        refine HW.out.mono ?_; rintro r Ws ⟨a2, c2, e2, rfl, hS2, hb2⟩
        have hPs := HP3.out.1.below hb2
        have hown := hPs.own
        have y0 := hown.frozenAt (v * 2)
        have y1 := hown.frozenAt (v * 2 + 1)
        obtain ⟨a3, c3, e3, _, x0, x1, _, _, _, _⟩ := hPs.at_ HSl2.out HVN.out
        obtain ⟨W4, hW4⟩ : ∃ W, W = (Ws.setCell ⟨w.heap.size, v * 2, none⟩ (.int .i64 (n : Int))).setCell ⟨w.heap.size, v * 2 + 1, none⟩ (.slice a2 c2 e2) := ⟨_, rfl⟩
        have HX := Lib.hid (show SetsAt w.heap.size n W4 (_) (List.set (S.set v (S.getD ee [])) v (withB (S.getD ee []) ((v : Int) : Int))) ∧ Below w.heap.size w W4 ∧ w.heap.size + 1 ≤ W4.heap.size by
          rw [hW4]
          refine ⟨hPs.put HVN.out (by rw [withB_len]; exact HLx.out) hS2, ((HP3.out.2.1.trans (Below.mono hb2 (by have := HP3.out.2.2; omega))).setCell (p := ⟨w.heap.size, v * 2, none⟩) (Nat.le_refl _) _).setCell (p := ⟨w.heap.size, v * 2 + 1, none⟩) (Nat.le_refl _) _, ?_⟩
          rw [World.size_setCell, World.size_setCell]
          exact Nat.le_trans HP3.out.2.2 hb2.size)
        have HQ2 := Lib.hid (show W4.ownsRow (w.heap.size + 1) 3 1 (.slice (some ⟨gi, 0, none⟩) n ci) n (iV DF) ∧ W4.ownsRow (w.heap.size + 1) 3 1 (.slice (some ⟨go, 0, none⟩) M co) M (iV (nI order)) by
          rw [hW4]
          exact ⟨owns_apart (owns_apart (owns_below HQw.out.1 hb2)), owns_apart (owns_apart (owns_below HQw.out.2 hb2))⟩)
        have HW4 := Lib.hid hW4
        have HS4 := Lib.hid (show (List.set (S.set v (S.getD ee [])) v (withB (S.getD ee []) ((v : Int) : Int))).length = n by rw [List.length_set]; exact HSl2.out)
        clear hPs hown hS2 hb2 hW4 HW
        go_upto_region 15 with fail
        rw [← HW4.out]
        clear x0 x1 y0 y1 HW4
        go_wp2_with fail
        go_roundw
        case rel => exact ⟨j + 1, _, _, by simp, by have := HJ.out; omega, Lib.hid ⟨by rw [List.set_set]; exact HR2.out, HS4.out⟩, HX, HQ2⟩
        case measure => have := HJ.out; first | (simp [intOf]; done) | (simp [intOf]; omega)
end Go.Proofs.Ytemihfcenmhieaa
