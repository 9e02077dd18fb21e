/- pdom.Turned. -/
import Derived.Test.YtkjafkegkllbiaaPdD
namespace Go.Proofs.Ytkjafkegkllbiaa
open Go.RowKit
set_option linter.unusedSimpArgs false
set_option linter.unusedVariables false
open DM (okN rowN lastB fpF ends0 turnF)
/-- the first q are changed -/
def mapTo {α : Type} (f : α → α) (l : List α) (q : Nat) : List α := (l.take q).map f ++ l.drop q
theorem mapTo_zero {α : Type} (f : α → α) (l : List α) : mapTo f l 0 = l := by simp [mapTo]
theorem mapTo_all {α : Type} (f : α → α) (l : List α) {q : Nat} (h : l.length ≤ q) : mapTo f l q = l.map f := by simp [mapTo, List.take_of_length_le h, List.drop_of_length_le h]
theorem mapTo_len {α : Type} (f : α → α) (l : List α) (q : Nat) : (mapTo f l q).length = l.length := by simp [mapTo]; omega
theorem mapTo_get {α : Type} {f : α → α} {l : List α} {q : Nat} {x : α} (h : l[q]? = some x) : (mapTo f l q)[q]? = some x := by
  have hq := lt_of_get h
  unfold mapTo
  rw [List.getElem?_append_right (by simp; omega)]
  simp only [List.length_map, List.length_take, List.getElem?_drop]
  rw [show q + (q - min q l.length) = q by omega]; exact h
theorem mapTo_set {α : Type} {f : α → α} {l : List α} {q : Nat} {x : α} (h : l[q]? = some x) : (mapTo f l q).set q (f x) = mapTo f l (q + 1) := by
  have hq := lt_of_get h
  unfold mapTo
  rw [List.set_append_right _ _ (by simp; omega)]
  simp only [List.length_map, List.length_take]
  rw [show q - min q l.length = 0 by omega, List.drop_eq_getElem_cons hq, List.set_cons_zero, List.take_add_one, h, List.map_append, List.append_assoc]
  rfl
/-- rows of the call's own, read as a grid -/
theorem grid_own {w : World} {B : Nat} {e : TypeId} {o : Value} {next : List (List Int)} {U : List Value} (h : w.ownsRow B e 1 o next.length U) (hr : ∀ (i : Nat) (u : Value) (l : List Int), U[i]? = some u → next[i]? = some l → RowR 1 intR w u l) : RowR 1 gridR w o next := by
  have hUl := h.1
  rcases h.2 with ⟨rfl, h0⟩ | ⟨g, cap, cur, rfl, hbg, hg, hnc, hcm, hcs, htake⟩
  · exact Or.inl ⟨none, 0, rfl, List.eq_nil_of_length_eq_zero h0, fun _ => rfl⟩
  · by_cases h0 : next.length = 0
    · exact Or.inl ⟨some ⟨g, 0, none⟩, cap, by rw [h0], List.eq_nil_of_length_eq_zero h0, fun h => by cases h⟩
    refine Or.inr ⟨g, 0, cap, rfl, by omega, hnc, hcm, heap_lt hg, fun i l hl => ?_⟩
    obtain ⟨u, hu⟩ := get_some (L := U) (n := i) (by have := lt_of_get hl; omega)
    have hc := h.cellAt i (by have := lt_of_get hl; omega)
    rw [hu] at hc
    refine ⟨[u], rfl, fun j x hx => ?_, u, rfl, hr i u l hu hl⟩
    cases j with
    | zero => cases hx; simpa using hc
    | succ j => simp at hx
theorem OwnRows.in_ {B : Nat} {e : TypeId} {w : World} {U : List Value} {L : List (List Int)} {k g n c q : Nat} {l : List Int} {z : Int} (h : OwnRows B e w U L) (hu : U[k]? = some (.slice (some ⟨g, 0, none⟩) n c)) (hl : L[k]? = some l) (hn : l.length = n) :
    OwnRows B e (w.setCell ⟨g, q, none⟩ (.int .i64 z)) U (L.set k (l.set q z)) := by
  subst hn
  refine ⟨by rw [List.length_set]; exact h.len, fun i x m hx hm => ?_, h.apart⟩
  rw [List.getElem?_set] at hm
  by_cases hik : k = i
  · subst hik
    rw [if_pos rfl, if_pos (by rw [← h.len]; exact lt_of_get hu)] at hm
    cases hm
    rw [hu] at hx
    cases hx
    have := (h.row k _ l hu hl).stored q (.int .i64 z)
    rw [iV_set, List.length_set]
    exact this.1
  · rw [if_neg hik] at hm
    refine owns_set (h.row i x m hx hm) (fun hg => ?_)
    rcases Nat.lt_or_ge i k with h1 | h1
    · exact h.apart i k x _ g h1 hx hu hg rfl
    · exact h.apart k i _ x g (by omega) hu hx rfl hg
/-- the list of the ends, in its row of one -/
structure TSt0 (s n : Nat) (w wr : World) (u0 : Value) (E : List Nat) : Prop where
  hb : Below s w wr
  ho : wr.ownsRow s 25 1 (.slice (some ⟨s, 0, none⟩) 1 (n + 1)) 1 [u0]
  hr : wr.ownsRow (s + 1) 3 1 u0 E.length (iV (nI E))
theorem TSt0.app {s n : Nat} {w wr w6 : World} {a : Nat} {o : Obj} {u0 v6 : Value} {l : List Nat} (h : TSt0 s n w wr u0 l) (hs : s + 1 ≤ wr.heap.size)
    (hO : w6.ownsRow (s + 1) 3 1 v6 (l.length + 1) (iV (nI l) ++ [.int .i64 (a : Int)])) (hG : (wr.alloc o).grownBy w6 u0.ownBlock) :
    TSt0 s n w (w6.setCell ⟨s, 0, none⟩ v6) v6 (l ++ [a]) ∧ w6.ownsRow s 25 1 (.slice (some ⟨s, 0, none⟩) 1 (n + 1)) 1 [u0] ∧ s + 1 ≤ w6.heap.size := by
  have hba := (Below.refl wr.heap.size wr).alloc (Nat.le_refl _) o
  have hne : ∀ k, k < s + 1 → u0.ownBlock ≠ some k := fun k hk hh => by have := (owns_lt h.hr hh).1; omega
  have hb6 : Below s w w6 := ⟨hG.os.trans (h.hb.os), hG.tape.trans h.hb.tape, hG.output.trans h.hb.output, Nat.le_trans h.hb.size (Nat.le_trans (by simp) hG.size), fun k hk => by
    have h1 := h.hb.block k hk
    rw [← h1]
    have h2 := hG.block k (by simp; omega) (fun e => hne k (by omega) e.symm)
    rw [h2]
    exact get_past (by omega)⟩
  have o3 := owns_grown (owns_below h.ho hba) hG (fun g hg => by cases hg; exact hne s (by omega))
  refine ⟨⟨hb6.setCell (p := ⟨s, 0, none⟩) (Nat.le_refl _) _, (o3.stored 0 v6).1, ?_⟩, o3, Nat.le_trans hs (Nat.le_trans (by simp) hG.size)⟩
  have o1 : w6.ownsRow (s + 1) 3 1 v6 (l ++ [a]).length (iV (nI (l ++ [a]))) := own_owns hO (by simp) (by rw [nI_app, iV_app]; rfl)
  exact owns_set o1 (fun hg => by have := (owns_lt o1 hg).1; omega)
/-- who comes ahead, in turn appended -/
structure TSt (s sP n k : Nat) (w wr : World) (o u0 : Value) (E : List Nat) (U : List Value) (L : List (List Int)) : Prop where
  hb : Below s w wr
  ho : wr.ownsRow s 25 1 o (k + 1) (u0 :: U.take k)
  ho2 : o.ownBlock ≠ some sP
  hr : wr.ownsRow (s + 1) 3 1 u0 E.length (iV (nI E))
  hr2 : ∀ g, u0.ownBlock = some g → g < sP
  hpp : wr.ownsRow sP 25 1 (.slice (some ⟨sP, 0, none⟩) n n) n U
  hrows : OwnRows (sP + 1) 3 wr U L
  hs : s < sP
/-- one of a row is written -/
theorem TSt.put {s sP n k : Nat} {w wr : World} {o u0 : Value} {E : List Nat} {U : List Value} {L : List (List Int)} {i g m c q : Nat} {l : List Int} {z : Int} (h : TSt s sP n k w wr o u0 E U L) (hu : U[i]? = some (.slice (some ⟨g, 0, none⟩) m c)) (hl : L[i]? = some l) (hm : l.length = m) :
    TSt s sP n k w (wr.setCell ⟨g, q, none⟩ (.int .i64 z)) o u0 E U (L.set i (l.set q z)) := by
  have hrow := h.hrows.row i _ l hu hl
  have hg := (owns_lt hrow (g := g) rfl).1
  have hs := h.hs
  refine ⟨h.hb.setCell (p := ⟨g, q, none⟩) (by show s ≤ g; omega) _, owns_set h.ho ?_, h.ho2, owns_set h.hr (fun hh => by have := h.hr2 _ hh; omega), h.hr2, owns_set h.hpp ?_, h.hrows.in_ hu hl hm, h.hs⟩
  · intro hh
    exact owns_type h.ho hrow (by decide) hh rfl
  · intro hh
    exact owns_type h.hpp hrow (by decide) hh rfl
/-- a row is appended -/
theorem TSt.app {s sP n k : Nat} {w wr w6 : World} {o v6 u u0 : Value} {E : List Nat} {U : List Value} {L : List (List Int)} {ob : Obj} (h : TSt s sP n k w wr o u0 E U L) (hu : U[k]? = some u) (hsz : sP < wr.heap.size)
    (hO : w6.ownsRow s 25 1 v6 (k + 1 + 1) (u0 :: U.take k ++ [u])) (hG : (wr.alloc ob).grownBy w6 o.ownBlock) (hN : Near (wr.alloc ob) o v6) : TSt s sP n (k + 1) w w6 v6 u0 E U L := by
  have hba := (Below.refl wr.heap.size wr).alloc (Nat.le_refl _) ob
  have hs := h.hs
  have hoo := owns_below h.ho hba
  have hne : ∀ g, g < s → o.ownBlock ≠ some g := fun g hg hh => by have := (owns_lt h.ho hh).1; omega
  have hty : ∀ {B : Nat} {v : Value} {m : Nat} {xs : List Value}, (wr.alloc ob).ownsRow B 3 1 v m xs → ∀ g, v.ownBlock = some g → o.ownBlock ≠ some g := fun hv g hg hh => owns_type hoo hv (by decide) hh hg
  refine ⟨⟨hG.os.trans (h.hb.os), hG.tape.trans h.hb.tape, hG.output.trans h.hb.output, Nat.le_trans h.hb.size (Nat.le_trans (by simp) hG.size), fun g hg => ?_⟩, ?_, ?_, ?_, h.hr2, ?_, ?_, hs⟩
  · rw [← h.hb.block g hg, hG.block g (by simp; omega) (fun e => hne g hg e.symm)]
    exact get_past (by omega)
  · rw [List.take_add_one, hu]
    exact hO
  · rcases hN with hN | ⟨g, hN, hg⟩
    · rw [hN]; exact h.ho2
    · rw [hN]; intro hh; cases hh; simp at hg; omega
  · exact owns_grown (owns_below h.hr hba) hG (hty (owns_below h.hr hba))
  · exact owns_grown (owns_below h.hpp hba) hG (fun g hg => by cases hg; exact h.ho2)
  · exact (h.hrows.below hba).grown hoo (by decide) hG
theorem set_self {α : Type} {L : List α} {k : Nat} {x : α} (h : L[k]? = some x) : L.set k x = L := by
  apply List.ext_getElem?
  intro i
  rw [List.getElem?_set]
  by_cases hik : k = i
  · subst hik; rw [if_pos rfl, if_pos (lt_of_get h), h]
  · rw [if_neg hik]
theorem own_at {w : World} {B : Nat} {e : TypeId} {a : Option Addr} {n c q : Nat} {l : List Int} (h : w.ownsRow B e 1 (.slice a n c) n (iV l)) (hq : q < n) {z : Int} (hz : l[q]? = some z) : ∃ g, a = some ⟨g, 0, none⟩ ∧ w.cell? ⟨g, q, none⟩ = some (.int .i64 z) ∧ n ≤ c ∧ c ≤ 9223372036854775807 ∧ w.frozen? ⟨g, q, none⟩ = false := by
  rcases h.2 with ⟨h1, h0⟩ | ⟨g, cap, cur, h1, _, _, h2, h3, _⟩
  · omega
  · cases h1
    refine ⟨g, rfl, ?_, h2, h3, h.frozenAt q⟩
    rw [h.cellAt q (by omega)]
    simp [iV, hz]
/-- the ends among the first k, one up -/
def endsK (next : List (List Int)) (k : Nat) : List Nat := ((List.range k).filter (lastB next)).map (· + 1)
theorem endsK_len (next : List (List Int)) (k : Nat) : (endsK next k).length ≤ k := by
  unfold endsK
  rw [List.length_map]
  exact Nat.le_trans (List.length_filter_le _ _) (by simp)
theorem endsK_step (next : List (List Int)) (k : Nat) : endsK next (k + 1) = if lastB next k = true then endsK next k ++ [k + 1] else endsK next k := by
  unfold endsK
  rw [List.range_succ, List.filter_append]
  by_cases h : lastB next k = true
  · rw [if_pos h]; simp [h]
  · rw [if_neg h]; simp [h]
theorem endsK_all (next : List (List Int)) : nI (endsK next next.length) = ends0 next := by
  unfold endsK ends0 nI
  rw [List.map_map]; rfl
theorem endsK_lt {next : List (List Int)} {k : Nat} : ∀ p ∈ endsK next k, p ≤ k := by
  intro p hp
  unfold endsK at hp
  obtain ⟨i, hi, rfl⟩ := List.mem_map.1 hp
  have := List.mem_range.1 (List.mem_filter.1 hi).1
  omega
set_option maxRecDepth 100000 in
set_option maxHeartbeats 8000000 in
theorem pdom_Turned (R : Nat) (v : Value) (next : List (List Int)) (w : World) (hv : RowR 1 gridR w v next) (hn : next.length ≤ 1024) (hR : R ≤ 1024) (hrl : ∀ l ∈ next, l.length ≤ R) :
    Calls Try.prog 10 #[v] w fun r w' => ∃ u, r = .returned u ∧ RowR 1 gridR w' u (turnF next) ∧ Below w.heap.size w w' ∧ ∀ l ∈ turnF next, l.length ≤ R * next.length + next.length := by
  obtain ⟨i2, hi2, hz2, hsize2, hby2⟩ : ∃ i, Try.prog.info? 3 = some i ∧ i.zero = some (.int .i64 0) ∧ i.size = 1 ∧ i.bytes = 8 := ⟨(Try.prog.info? 3).get!, by kernel_rfl, by kernel_rfl, by kernel_rfl, by kernel_rfl⟩
  obtain ⟨i3, hi3, hz3, hsize3, hby3⟩ : ∃ i, Try.prog.info? 25 = some i ∧ i.zero = some (.slice none 0 0) ∧ i.size = 1 ∧ i.bytes = 24 := ⟨(Try.prog.info? 25).get!, by kernel_rfl, by kernel_rfl, by kernel_rfl, by kernel_rfl⟩
  have HPr := Lib.hid (fun W (h : Below w.heap.size w W) => flow_Preds R v next W (hv.below gridR_stable h) hn hR hrl)
  have HLa := Lib.hid (fun i (hi : i < next.length) W (h : Below w.heap.size w W) => pdom_last v next i W (hv.below gridR_stable h) hi)
  obtain ⟨ad, cap, rfl⟩ := row_get hv
  obtain ⟨n, hN⟩ : ∃ n, next.length = n := ⟨_, rfl⟩
  have HN := Lib.hid hN
  rw [hN] at hn HLa HPr ⊢
  have hmp := fun W => run_make W 22 25 i3 _ Try.underlying22 hi3 hz3 .i64 .i64 (1 : Int) ((n : Int) + 1) (by omega) (by omega) (by rw [hby3]; omega) (by omega)
  rw [hsize3, Nat.mul_one, madeS, show ((n : Int) + 1).toNat = n + 1 by omega] at hmp
  have HB := Lib.hid (And.intro hn hR)
  have hn62 : n ≤ 9223372036854775806 := by omega
  obtain ⟨ZP, hZP⟩ : ∃ Z, (List.replicate (n + 1) (Value.slice none 0 0)).toArray = Z := ⟨_, rfl⟩
  rw [hZP] at hmp
  obtain ⟨s, hs⟩ : ∃ s, w.heap.size = s := ⟨_, rfl⟩
  have HSz := Lib.hid hs
  have HP0 := Lib.hid (show TSt0 s n w (w.alloc (.cells ZP 25)) (.slice none 0 0) [] ∧ s + 1 ≤ (w.alloc (.cells ZP 25)).heap.size by
    subst hs
    refine ⟨⟨by (repeat' (first | (with_reducible exact Below.refl _ _) | (with_reducible assumption) | (with_reducible refine below_drewN ?_ _) | (with_reducible refine Below.alloc ?_ ?_ _) | (with_reducible refine Below.drew ?_) | (with_reducible refine Below.setCell ?_ ?_ _) | go_size)), ?_, World.ownsRow_nil _ _ _ _⟩, by simp⟩
    exact ⟨by simp, Or.inr ⟨w.heap.size, n + 1, ZP, rfl, Nat.le_refl _, alloc_get rfl, by omega, by unfold maxLen; omega, by rw [← hZP]; simp, by rw [← hZP]; simp [List.replicate_succ]⟩⟩)
  clear hv hN hn hR hrl hZP
  go_enter Try.func10, Try.ntmps10
  go_wp2_with fail
  obtain ⟨W0, hW0⟩ : ∃ W, W = w.alloc (.cells ZP 25) := ⟨_, rfl⟩
  rw [← hW0] at HP0 ⊢
  clear hmp hW0
  have hs1 : s + 1 ≤ W0.heap.size := HP0.out.2
  have HLst := HLa
  have HLa := Lib.hid (fun i (hi : i < n) W (h : Below s w W) => HLa.out i hi W (by rw [HSz.out]; exact h))
  go_loopw [14] (fun jj wr => ∃ (j : Nat) (u0 : Value), jj = .int .i64 j ∧ j ≤ n ∧ Hid (TSt0 s n w wr u0 (endsK next j) ∧ s + 1 ≤ wr.heap.size)) (fun jj _ => n - (intOf jj).toNat)
  case atStart => exact ⟨0, _, rfl, Nat.zero_le _, HP0⟩
  case round =>
    obtain ⟨j, u0, rfl, hj, hP⟩ := hrel
    by_cases hlt : j < n
    case neg =>
      obtain rfl : n = j := by omega
      have q1 : ((n : Int) < (n : Int)) = False := eq_false (by omega)
      have q1' : (n < n) = False := eq_false (by omega)
      have HPP := hP
      clear hP hlt hj
      go_wp2_with fail
      refine (HPr.out _ (by rw [HSz.out]; exact HPP.out.1.hb)).mono ?_; rintro r W1 ⟨U, sP, rfl, hsP, hsz1, hPP, hbd⟩
      have hws : s < sP := by have := HPP.out.2; omega
      obtain ⟨LL, hLL⟩ : ∃ X, (fpF n 0 next (List.replicate n [])).map nI = X := ⟨_, rfl⟩
      have hLLn : LL.length = n := by rw [← hLL]; simp [DM.fpF_len]
      have HLL := Lib.hid (show LL.length = n ∧ (∀ l ∈ LL, l.length ≤ R * n ∧ ∀ z ∈ l, ∃ p : Nat, z = (p : Int) ∧ p < n) ∧ turnF next = nI (endsK next n) :: LL.map (List.map (· + 1)) by
        refine ⟨hLLn, fun l hl => ?_, ?_⟩
        · rw [← hLL] at hl
          obtain ⟨l', hl', rfl⟩ := List.mem_map.1 hl
          have := hbd l' hl'
          refine ⟨by rw [nI_len]; exact this.1, fun z hz => ?_⟩
          obtain ⟨p, hp, rfl⟩ := List.mem_map.1 hz
          exact ⟨p, rfl, this.2 p hp⟩
        · have e := endsK_all next
          rw [HN.out] at e
          unfold turnF
          rw [e, HN.out, ← hLL, List.map_map]
          congr 1
          apply List.map_congr_left
          intro l _
          simp [nI])
      have HEb := Lib.hid (show ∀ p ∈ endsK next n, p < n + 1 from fun p hp => by have := endsK_lt p hp; omega)
      have HEl := Lib.hid (endsK_len next n)
      have hPr := hPP.hrows
      rw [hLL] at hPr
      have hbW : Below wr.heap.size wr W1 := by rw [hsP]; exact hPP.hb
      have HT0 := Lib.hid (show TSt s sP n 0 w W1 (.slice (some ⟨s, 0, none⟩) 1 (n + 1)) u0 (endsK next n) U (mapTo (List.map (· + 1)) LL 0) ∧ sP < W1.heap.size from ⟨⟨HPP.out.1.hb.trans (hPP.hb.mono (by omega)), owns_below HPP.out.1.ho hbW, by simp [Value.ownBlock]; omega, owns_below HPP.out.1.hr hbW, fun g hg => by have := (owns_lt HPP.out.1.hr hg).2; omega, hPP.hpp, by rw [mapTo_zero]; exact hPr, hws⟩, by omega⟩)
      generalize hEE : endsK next n = EE at *
      clear HPP hPP hbW hPr hLL hLLn hbd hsP hsz1 hEE
      go_wp2_with fail
      go_loopw [33, 3] (fun jj oo wr => ∃ (k oc : Nat) (oa : Option Addr), jj = .int .i64 k ∧ k ≤ n ∧ oo = .slice oa (k + 1) oc ∧ Hid (TSt s sP n k w wr (.slice oa (k + 1) oc) u0 EE U (mapTo (List.map (· + 1)) LL k) ∧ sP < wr.heap.size)) (fun jj _ _ => n - (intOf jj).toNat)
      case atStart => exact ⟨0, _, _, rfl, Nat.zero_le _, rfl, HT0⟩
      case round =>
        obtain ⟨k, oc, oa, rfl, hk, rfl, hT⟩ := hrel
        by_cases hlt : k < n
        case neg =>
          obtain rfl : n = k := by omega
          have q3 : ((n : Int) < (n : Int)) = False := eq_false (by omega)
          have q3' : (n < n) = False := eq_false (by omega)
          have hT1 := hT.out.1
          have hUl : U.length = n := by have := hT1.hpp.1; omega
          have HG := Lib.hid (show RowR 1 gridR wr (.slice oa (n + 1) oc) (turnF next) from by
            have ho := hT1.ho
            have htl : n + 1 = (turnF next).length := by rw [HLL.out.2.2]; simp [HLL.out.1]
            rw [List.take_of_length_le (by omega)] at ho
            have ho' : wr.ownsRow s 25 1 (.slice oa (n + 1) oc) (turnF next).length (u0 :: U) := by rw [← htl]; exact ho
            refine grid_own ho' (fun i u l hu hl => ?_)
            rw [HLL.out.2.2] at hl
            cases i with
            | zero =>
              cases hu
              have hl : nI EE = l := by simpa using hl
              subst hl
              have hr := hT1.hr
              rw [← nI_len] at hr
              exact row_of_owns hr (nI_i64 (n := n + 1) (by have := HB.out.1; omega) HEb.out)
            | succ i =>
              have hu : U[i]? = some u := by simpa using hu
              have hl : (LL.map (List.map (· + 1)))[i]? = some l := by simpa using hl
              have hrow := hT1.hrows.row i u l hu (by rw [mapTo_all _ _ (by rw [HLL.out.1]; exact Nat.le_refl _)]; exact hl)
              refine row_of_owns hrow (fun z hz => ?_)
              rw [List.getElem?_map] at hl
              cases hl' : LL[i]? with
              | none => rw [hl'] at hl; cases hl
              | some l' =>
                rw [hl'] at hl
                have hl : l'.map (· + 1) = l := by simpa using hl
                rw [← hl] at hz
                obtain ⟨y, hy, rfl⟩ := List.mem_map.1 hz
                obtain ⟨p, rfl, hp⟩ := (HLL.out.2.1 l' (List.mem_of_getElem? hl')).2 y hy
                have := HB.out.1
                unfold I64; omega)
          have HFin := Lib.hid (show Below w.heap.size w wr ∧ ∀ l ∈ turnF next, l.length ≤ R * n + n by
            refine ⟨by rw [HSz.out]; exact hT1.hb, fun l hl => ?_⟩
            rw [HLL.out.2.2] at hl
            rcases List.mem_cons.1 hl with rfl | hl
            · rw [nI_len]; have := HEl.out; omega
            · obtain ⟨l', hl', rfl⟩ := List.mem_map.1 hl
              have := (HLL.out.2.1 l' hl').1
              simp; omega)
          clear hT hT1 hUl hlt hk
          go_wp2_with fail
          go_ret
          exact ⟨_, rfl, HG.out, HFin.out.1, HFin.out.2⟩
        have q3 : ((k : Int) < (n : Int)) = True := eq_true (by omega)
        have q3' : (k < n) = True := eq_true hlt
        have hk62 : k ≤ 9223372036854775806 := by omega
        have HK := Lib.hid hlt
        have hUl : U.length = n := by have := hT.out.1.hpp.1; omega
        obtain ⟨u, hu⟩ := get_some (L := U) (n := k) (by omega)
        obtain ⟨l, hl⟩ := get_some (L := LL) (n := k) (by rw [HLL.out.1]; exact hlt)
        have hlk := mapTo_get (f := List.map (· + 1)) hl
        have hrow := hT.out.1.hrows.row k u l hu hlk
        obtain ⟨ua, uc, rfl⟩ := owns_form hrow
        have cU := hT.out.1.hpp.cellAt k (by omega)
        rw [hu] at cU
        have HU := Lib.hid hu
        have HLk := Lib.hid hl
        have HLl := Lib.hid (HLL.out.2.1 l (List.mem_of_getElem? hl))
        have hlm : l.length ≤ 1048576 := by
          have h1 := HLl.out.1; have h2 := HB.out.1; have h3 := HB.out.2
          have h4 : R * n ≤ 1024 * 1024 := Nat.mul_le_mul h3 h2
          omega
        have HTs := Lib.hid (show TSt s sP n k w wr (.slice oa (k + 1) oc) u0 EE U ((mapTo (List.map (· + 1)) LL k).set k (mapTo (· + 1) l 0)) ∧ sP < wr.heap.size by rw [mapTo_zero, set_self hlk]; exact hT.out)
        obtain ⟨Lr, hLr⟩ : ∃ L, l.length = L := ⟨_, rfl⟩
        have HLr := Lib.hid hLr
        rw [hLr] at cU hlm HU
        have HLK := Lib.hid (show (mapTo (List.map (· + 1)) LL k).set k (l.map (· + 1)) = mapTo (List.map (· + 1)) LL (k + 1) from mapTo_set hl)
        have hmk : k < (mapTo (List.map (· + 1)) LL k).length := by rw [mapTo_len, HLL.out.1]; exact hlt
        have HMk := Lib.hid hmk
        generalize mapTo (List.map (· + 1)) LL k = Lk at *
        clear hT hrow hu hl hlk hUl hLr hlt hk hmk
        go_wp2_with fail
        go_loopw [39] (fun jj wr3 => ∃ q : Nat, jj = .int .i64 q ∧ q ≤ Lr ∧ Hid (TSt s sP n k w wr3 (.slice oa (k + 1) oc) u0 EE U (Lk.set k (mapTo (· + 1) l q)) ∧ sP < wr3.heap.size)) (fun jj _ => Lr - (intOf jj).toNat)
        case atStart => exact ⟨0, rfl, Nat.zero_le _, HTs⟩
        case round =>
          obtain ⟨q, rfl, hq, hT⟩ := hrel
          by_cases hlt : q < Lr
          case neg =>
            obtain rfl : Lr = q := by omega
            have q4 : ((Lr : Int) < (Lr : Int)) = False := eq_false (by omega)
            have q4' : (Lr < Lr) = False := eq_false (by omega)
            have HT1 := Lib.hid (show TSt s sP n k w wr (.slice oa (k + 1) oc) u0 EE U (mapTo (List.map (· + 1)) LL (k + 1)) ∧ sP < wr.heap.size by
              have h := hT.out
              rw [mapTo_all _ _ (by rw [HLr.out]; exact Nat.le_refl _), HLK.out] at h
              exact h)
            have hsz := hT.out.2
            clear hT hlt hq
            go_wp2_with (first | (at_builtin; go_loud (refine wpList_append_near rfl (.tmp 49) (.tmp 51) 22 rfl s 25 i3 (.slice none 0 0) 1 24 Try.underlying22 hi3 hz3 hsize3 hby3 rfl (by omega) _ (k + 1) _ rfl (owns_below HT1.out.1.ho ((Below.refl _ _).alloc (Nat.le_refl _) _)) ⟨wr.heap.size, 0, none⟩ 1 1 [.slice ua Lr uc] rfl rfl (new_cells _ _ _) (by intro u hu; simp at hu; rw [hu]; rfl) (by have := HB.out.1; have := HK.out; unfold maxLen; omega) (by have := HB.out.1; have := HK.out; omega) (by simp; have := HT1.out.1.hs; omega) ?_; intro v6 w6 hO6 hG6 hN6; have HQ6 := Lib.hid (HT1.out.1.app HU.out hsz hO6 hG6 hN6); obtain ⟨av6, cv6, rfl⟩ := owns_form hO6; have HS6 := Lib.hid (show sP < w6.heap.size from Nat.lt_of_lt_of_le hsz (Nat.le_trans (by simp) hG6.size)); clear hO6 hG6 hN6)) | fail)
            go_roundw
            case rel => exact ⟨k + 1, _, _, by simp, by have := HK.out; omega, rfl, Lib.hid ⟨HQ6.out, HS6.out⟩⟩
            case measure => have := HK.out; first | (simp [intOf]; done) | (simp [intOf]; omega)
          have q4 : ((q : Int) < (Lr : Int)) = True := eq_true (by omega)
          have q4' : (q < Lr) = True := eq_true hlt
          have hq62 : q ≤ 9223372036854775806 := by omega
          have HQ := Lib.hid hlt
          obtain ⟨z, hz⟩ := get_some (L := l) (n := q) (by rw [HLr.out]; exact hlt)
          obtain ⟨p, rfl, hp⟩ := HLl.out.2 z (List.mem_of_getElem? hz)
          have hkk : (Lk.set k (mapTo (· + 1) l q))[k]? = some (mapTo (· + 1) l q) := by rw [List.getElem?_set, if_pos rfl, if_pos HMk.out]
          have hrow := hT.out.1.hrows.row k _ _ HU.out hkk
          rw [mapTo_len, HLr.out] at hrow
          obtain ⟨g, rfl, cz, hc1, hc2, fz⟩ := own_at hrow hlt (mapTo_get hz)
          have hp62 : p ≤ 9223372036854775806 := by have := HB.out.1; omega
          have HTn := Lib.hid (show TSt s sP n k w (wr.setCell ⟨g, q, none⟩ (.int .i64 ((p : Int) + 1))) (.slice oa (k + 1) oc) u0 EE U (Lk.set k (mapTo (· + 1) l (q + 1))) ∧ sP < (wr.setCell ⟨g, q, none⟩ (.int .i64 ((p : Int) + 1))).heap.size by
            have h := hT.out.1.put (q := q) (z := (p : Int) + 1) HU.out hkk (by rw [mapTo_len, HLr.out])
            rw [List.set_set, mapTo_set hz] at h
            exact ⟨h, by simpa using hT.out.2⟩)
          clear hT hlt hq hz hp hkk hrow
          go_wp2_with fail
          go_roundw
          case rel => exact ⟨q + 1, by simp, by have := HQ.out; omega, HTn⟩
          case measure => have := HQ.out; first | (simp [intOf]; done) | (simp [intOf]; omega)
    have q1 : ((j : Int) < (n : Int)) = True := eq_true (by omega)
    have q1' : (j < n) = True := eq_true hlt
    have hj62 : j ≤ 9223372036854775806 := by omega
    have HJ := Lib.hid hlt
    have HCL := Lib.hid (HLa.out j hlt wr hP.out.1.hb)
    have HPP := hP
    have HSt := Lib.hid (endsK_step next j)
    generalize lastB next j = Lb at *
    clear hP hlt hj
    cases Lb
    · go_wp2_with fail
      refine HCL.out.mono ?_; rintro r w2 ⟨rfl, rfl⟩
      go_wp2_with fail
      go_roundw
      case rel => exact ⟨j + 1, u0, by simp, by have := HJ.out; omega, Lib.hid ⟨by rw [HSt.out, if_neg (by simp)]; exact HPP.out.1, HPP.out.2⟩⟩
      case measure => have := HJ.out; first | (simp [intOf]; done) | (simp [intOf]; omega)
    · have hc := HPP.out.1.ho.cellAt 0 (by omega)
      have fc := HPP.out.1.ho.frozenAt 0
      have hr := HPP.out.1.hr
      have hEl := Lib.hid (endsK_len next j)
      obtain ⟨ua, uc, rfl⟩ := owns_form hr
      have HR0 := Lib.hid hr
      have hsz := HPP.out.2
      generalize hEE : endsK next j = EE at *
      clear hr hEE
      go_wp2_with fail
      refine HCL.out.mono ?_; rintro r w2 ⟨rfl, rfl⟩
      go_wp2_with (first | (at_builtin; go_loud (refine wpList_append_near rfl (.tmp 23) (.tmp 26) 25 rfl (s + 1) 3 i2 (.int .i64 0) 1 8 Try.underlying25 hi2 hz2 hsize2 hby2 rfl (by omega) _ EE.length _ rfl (owns_below HR0.out ((Below.refl _ _).alloc (Nat.le_refl _) _)) ⟨wr.heap.size, 0, none⟩ 1 1 [.int .i64 (1 + (j : Int))] rfl rfl (new_cells _ _ _) (by intro u hu; simp at hu; rw [hu]; rfl) (by have := hEl.out; have := HB.out.1; have := HJ.out; unfold maxLen; omega) (by have := hEl.out; have := HB.out.1; have := HJ.out; omega) (by simp; omega) ?_; intro v6 w6 hO6 hG6 hN6; have HQ6 := Lib.hid (HPP.out.1.app (a := j + 1) hsz (by rw [show ((j + 1 : Nat) : Int) = 1 + (j : Int) by omega]; exact hO6) hG6); obtain ⟨av6, cv6, rfl⟩ := owns_form hO6; have c6 := HQ6.out.2.1.cellAt 0 (by omega); have f6 := HQ6.out.2.1.frozenAt 0; have HS6 := Lib.hid HQ6.out.2.2; clear hO6 hG6 hN6)) | fail)
      go_roundw
      case rel => exact ⟨j + 1, _, by simp, by have := HJ.out; omega, Lib.hid ⟨by rw [HSt.out]; simp only [if_true]; exact HQ6.out.1, by simpa using HS6.out⟩⟩
      case measure => have := HJ.out; first | (simp [intOf]; done) | (simp [intOf]; omega)
end Go.Proofs.Ytkjafkegkllbiaa
