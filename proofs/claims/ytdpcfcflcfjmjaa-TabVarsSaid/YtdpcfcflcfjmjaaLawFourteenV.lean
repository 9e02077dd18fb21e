/- Layer 14: the reference's table of variables as bytes; the walk of TabVars. -/
import Derived.Test.YtdpcfcflcfjmjaaTabPutY
import Derived.Test.YtdpcfcflcfjmjaaTabRef
import Derived.Test.YtdpcfcflcfjmjaaOctetRef
import Derived.Test.YtdpcfcflcfjmjaaOctetRefText
import Derived.Test.YtdpcfcflcfjmjaaRefGetV
import Derived.Test.YtdpcfcflcfjmjaaLawFourteenA
namespace Go.Proofs.Ytdpcfcflcfjmjaa
open Go.RowKit
set_option linter.unusedSimpArgs false
set_option linter.unusedVariables false
theorem ref03_Put8 (v : Value) (l : List UInt8) (z : Int) (w : World) (hv : RowAt w v l.length (byteV l)) (hm : l.length ≤ 100000000) :
    Calls Try.prog 27 #[v, .int .i64 8, .int .i64 z] w fun e w' => ∃ r, e = .returned r ∧ w'.ownsRow w.heap.size 5 1 r (l ++ putL 8 z).length (bytesV (l ++ putL 8 z)) ∧ Below w.heap.size w w' := by
  have h := ref03_Put v l 8 z w hv hm
  rw [show (near8 8).toNat = 8 from by decide] at h
  rw [List.length_append, putL_len]
  exact h
theorem cellBd {B : Nat} {a b : World} (k : Below B a b) {g o : Nat} {v : Value} (hc : a.cell? ⟨g, o, none⟩ = some v) (hp : g < B) : b.cell? ⟨g, o, none⟩ = some v := (k.cell (p := ⟨g, o, none⟩) hp).trans hc
set_option maxHeartbeats 4000000 in
theorem ref14_Vars_in (v : Value) (L : List Vr) (w : World) (hv : RowR 5 varR w v L) (hn : ∀ x ∈ L, x.name.length ≤ 1000000) (hlen : L.length ≤ 64) :
    Calls Try.prog 13 #[v] w (PutsV w L) := by
  obtain ⟨i, hi, hz, hsize, hby⟩ : ∃ i, Try.prog.info? 5 = some i ∧ i.zero = some (.int .u8 0) ∧ i.size = 1 ∧ i.bytes = 1 := ⟨(Try.prog.info? 5).get!, by kernel_rfl, by kernel_rfl, by kernel_rfl, by kernel_rfl⟩
  have ho : okVs L = L.all varOk := by unfold okVs; rw [decide_eq_true hlen]; rfl
  unfold PutsV
  rw [ho]
  obtain ⟨sa, ca, rfl⟩ := row_get hv
  have HY := Lib.hid (show L.take L.length = L from List.take_length)
  obtain ⟨n, hN⟩ : ∃ n, L.length = n := ⟨_, rfl⟩
  rw [hN] at hv hlen HY ⊢
  have q0 : (64 < (n : Int)) = False := eq_false (by omega)
  go_enter Try.func13, Try.ntmps13
  go_wp2_with fail
  refine (ref03_Put (.slice none 0 0) [] 2 (n : Int) _ (Or.inl ⟨none, 0, rfl, rfl, fun _ => rfl⟩) (by simp)).mono ?_; rintro e w1 ⟨r1, rfl, hO1, hb1⟩
  have hO1 : w1.ownsRow w.heap.size 5 1 r1 2 (bytesV (putL 2 n)) := hO1
  go_wp2_with fail
  go_loopw [4, 5, 6] (fun o j pv wr => ∃ k : Nat, k ≤ n ∧ j = .int .i64 k ∧ Hid ((L.take k).all varOk = true) ∧ Hid (wr.ownsRow w.heap.size 5 1 o (2 + (varsL (L.take k)).length) (bytesV (putL 2 n ++ varsL (L.take k)))) ∧ Below w.heap.size w wr) (fun _ j _ _ => n - (intOf j).toNat)
  case atStart => exact ⟨0, by omega, rfl, Lib.hid (by simp), Lib.hid (by simpa [varsL] using hO1), hb1⟩
  case round =>
    obtain ⟨k, hk, rfl, hall, hO, hB⟩ := hrel
    have hz' := hB.size
    by_cases hlt : k < n
    · obtain ⟨x, hx⟩ : ∃ x, L[k]? = some x := get_some (by omega)
      obtain ⟨bk, off, rfl, hbw, hc⟩ := var_at hv (k := k) (by omega)
      obtain ⟨d0, d1, d2, d3, d4, _, y1, y2, y3, y4⟩ := hc k x hx
      have c0 := (hB.cell (p := ⟨bk, off + k * 5, none⟩) hbw).trans d0
      have c1 := (hB.cell (p := ⟨bk, off + k * 5 + 1, none⟩) hbw).trans d1
      have c2 := (hB.cell (p := ⟨bk, off + k * 5 + 2, none⟩) hbw).trans d2
      have c3 := (hB.cell (p := ⟨bk, off + k * 5 + 3, none⟩) hbw).trans d3
      have c4 := (hB.cell (p := ⟨bk, off + k * 5 + 4, none⟩) hbw).trans d4
      clear hc d0 d1 d2 d3 d4
      have hn1 := hn x (List.mem_of_getElem? hx)
      have hts := Lib.hid (take_snoc hx)
      have hmem := Lib.hid (List.mem_of_getElem? hx)
      have hno := Lib.hid (fun h : varOk x = false => (show L.all varOk = false from List.all_eq_false.2 ⟨x, hmem.out, by simp [h]⟩))
      have hbl : (varsL (L.take k)).length ≤ 900000 := by have := varsL_len (L.take k) hall.out; rw [List.length_take] at this; omega
      have hsz : (⟨x.name.toArray⟩ : ByteArray).size = x.name.length := by simp [ByteArray.size]
      clear hx hmem hn
      by_cases hl255 : x.name.length ≤ 255
      · have q1 : (255 < (x.name.length : Int)) = False := eq_false (by omega)
        have HS := Lib.hid (fun z W => ref14_small z W)
        go_wp2_with fail
        refine (HS.out x.t _).mono ?_; rintro e w' ⟨rfl, rfl⟩
        have hb0 : Below wr.heap.size wr (wr.alloc (.cells #[.string ⟨x.name.toArray⟩, .int .i64 x.t, .int .i64 x.n, .int .i64 x.area, .int .i64 x.init] 34)) := (Below.refl _ _).alloc (Nat.le_refl _) _
        have hB0 := hB.trans (hb0.mono hz')
        have bx := Boxed.new wr [.string ⟨x.name.toArray⟩, .int .i64 x.t, .int .i64 x.n, .int .i64 x.area, .int .i64 x.init] 34 (Below.refl _ _)
        have e0 := bx 0 _ rfl
        have e1 := bx 1 _ rfl
        have e2 := bx 2 _ rfl
        have e3 := bx 3 _ rfl
        have e4 := bx 4 _ rfl
        have zb : wr.heap.size < (wr.alloc (.cells #[.string ⟨x.name.toArray⟩, .int .i64 x.t, .int .i64 x.n, .int .i64 x.area, .int .i64 x.init] 34)).heap.size := by simp
        have HO0 := Lib.hid (owns_below hO.out hb0)
        obtain ⟨W0, hW0⟩ : ∃ W0, W0 = wr.alloc (.cells #[.string ⟨x.name.toArray⟩, .int .i64 x.t, .int .i64 x.n, .int .i64 x.area, .int .i64 x.init] 34) := ⟨_, rfl⟩
        have e0 : W0.cell? ⟨wr.heap.size, 0, none⟩ = some (.string ⟨x.name.toArray⟩) := by rw [hW0]; simp
        have e1 : W0.cell? ⟨wr.heap.size, 1, none⟩ = some (.int .i64 x.t) := by rw [hW0]; simp
        have e2 : W0.cell? ⟨wr.heap.size, 2, none⟩ = some (.int .i64 x.n) := by rw [hW0]; simp
        have e3 : W0.cell? ⟨wr.heap.size, 3, none⟩ = some (.int .i64 x.area) := by rw [hW0]; simp
        have e4 : W0.cell? ⟨wr.heap.size, 4, none⟩ = some (.int .i64 x.init) := by rw [hW0]; simp
        rw [← hW0] at hb0 hB0 zb HO0 ⊢
        clear bx hW0
        cases hf1 : fitB x.t
        · have hA := Lib.hid (hno.out (show varOk x = false by unfold varOk; rw [hf1]; simp))
          go_wp2_with fail
          go_returns
          exact ⟨_, by rw [hA.out]; rfl, fun h => (by rw [hA.out] at h; cases h), fun _ => rfl, hB0⟩
        · go_wp2_with fail
          refine (HS.out x.n _).mono ?_; rintro e w' ⟨rfl, rfl⟩
          cases hf2 : fitB x.n
          · have hA := Lib.hid (hno.out (show varOk x = false by unfold varOk; rw [hf2]; simp))
            go_wp2_with fail
            go_returns
            exact ⟨_, by rw [hA.out]; rfl, fun h => (by rw [hA.out] at h; cases h), fun _ => rfl, hB0⟩
          · go_wp2_with fail
            refine (HS.out x.area _).mono ?_; rintro e w' ⟨rfl, rfl⟩
            cases hf3 : fitB x.area
            · have hA := Lib.hid (hno.out (show varOk x = false by unfold varOk; rw [hf3]; simp))
              go_wp2_with fail
              go_returns
              exact ⟨_, by rw [hA.out]; rfl, fun h => (by rw [hA.out] at h; cases h), fun _ => rfl, hB0⟩
            · have hok := Lib.hid (show varOk x = true by unfold varOk; rw [hf1, hf2, hf3, decide_eq_true hl255]; rfl)
              obtain ⟨l, hl⟩ : ∃ l, putL 2 (n : Int) ++ varsL (L.take k) = l := ⟨_, rfl⟩
              have hll : l.length = 2 + (varsL (L.take k)).length := by rw [← hl, List.length_append, putL_len]
              rw [hl, ← hll] at HO0
              obtain ⟨T, hT⟩ : ∃ T, T = l ++ [UInt8.ofNat (cut255 ⟨x.name.toArray⟩).size] ++ (cut255 ⟨x.name.toArray⟩).data.toList := ⟨_, rfl⟩
              obtain ⟨M, hM⟩ : ∃ M, M = l.length + 1 + (cut255 ⟨x.name.toArray⟩).size := ⟨_, rfl⟩
              have hM1 : M ≤ 2000000 := by rw [hM]; unfold cut255; rw [if_neg (by omega), hsz]; omega
              have HTX := Lib.hid ((ref03_Text _ l ⟨x.name.toArray⟩ W0 (RowAt.owns HO0.out (fun i hi => byteV_at hi)) (by omega)).mono (R' := fun e w' => ∃ r, e = .returned r ∧ w'.ownsRow W0.heap.size 5 1 r M (bytesV T) ∧ Below W0.heap.size W0 w') (by rintro e w' ⟨r, h1, h2, h3⟩; exact ⟨r, h1, by rw [hT, hM]; exact h2, h3⟩))
              have HD := Lib.hid (show (T ++ [byteO x.t, byteO x.n, byteO x.area]) ++ putL 8 x.init = l ++ varL x ∧ (T ++ [byteO x.t, byteO x.n, byteO x.area]).length = M + 3 by
                have hc : cut255 (⟨x.name.toArray⟩ : ByteArray) = ⟨x.name.toArray⟩ := by unfold cut255; rw [if_neg (by omega)]
                rw [hT, hM, hc, hsz]; unfold varL; refine ⟨by simp, ?_⟩
                simp; omega)
              have HL2 := Lib.hid (And.intro hl hll)
              clear hT hM hl hll HS
              go_wp2_with fail
              refine HTX.out.mono ?_; rintro e v1 ⟨r1', rfl, hO2, hb2⟩
              have hB2 := hB0.trans (hb2.mono hB0.size)
              have hz2 := hB2.size
              have g1 := cellB hb2 e1 zb
              have g2 := cellB hb2 e2 zb
              have g3 := cellB hb2 e3 zb
              have g4 := cellB hb2 e4 zb
              have hz0 := hB0.size
              have hzz2 := hb2.size
              have HO2 := Lib.hid hO2
              have HO3 := Lib.hid (owns_below hO2 ((Below.refl _ _).alloc (Nat.le_refl _) (.cells #[.int .u8 (x.t % 256), .int .u8 (x.n % 256), .int .u8 (x.area % 256)] 5)))
              have HB3 := Lib.hid ((Below.refl W0.heap.size v1).alloc hzz2 (.cells #[.int .u8 (x.t % 256), .int .u8 (x.n % 256), .int .u8 (x.area % 256)] 5))
              have HS3 := Lib.hid (show Src (v1.alloc (.cells #[.int .u8 (x.t % 256), .int .u8 (x.n % 256), .int .u8 (x.area % 256)] 5)) (.slice (some ⟨v1.heap.size, 0, none⟩) 3 3) 3 [.int .u8 (x.t % 256), .int .u8 (x.n % 256), .int .u8 (x.area % 256)] from Or.inr ⟨⟨v1.heap.size, 0, none⟩, 3, rfl, fun j u hu => by rw [add_at, Nat.zero_add]; exact cell_new v1 _ _ (0, 0) j (by simpa using hu)⟩)
              clear HTX hO2 e0 e1 e2 e3 e4 c0 c1 c2 c3 c4
              go_wp2_with (first | (at_builtin; go_loud (refine wpList_append_src rfl (.tmp 49) (.tmp 59) 23 rfl W0.heap.size 5 i (.int .u8 0) 1 1 Try.underlying23 hi hz hsize hby rfl (by omega) _ M _ rfl HO3.out _ 3 _ rfl HS3.out rfl (by intro u hu; simp at hu; rcases hu with rfl | rfl | rfl <;> rfl) (by unfold maxLen; omega) (by omega) (by first | omega | (simp; omega)) ?_; intro v3 w3 hO4 hG4; have HO4 := Lib.hid hO4; have hB4 := grown3 HB3.out (Nat.le_trans hzz2 (by simp)) HO3.out hG4; have g4 := cellBd hB4 g4 zb; clear hO4 hG4)) | fail)
              have hB5 := hB2.trans (hB4.mono hB0.size)
              have hO5 : w3.ownsRow W0.heap.size 5 1 v3 (T ++ [byteO x.t, byteO x.n, byteO x.area]).length (bytesV (T ++ [byteO x.t, byteO x.n, byteO x.area])) := own_eq2 HO4.out HD.out.2.symm (by simp [bytesV, byteO_val])
              refine (ref03_Put8 v3 (T ++ [byteO x.t, byteO x.n, byteO x.area]) x.init _ (RowAt.owns hO5 (fun i hi => byteV_at hi)) (by rw [HD.out.2]; omega)).mono ?_; rintro e v6 ⟨r6, rfl, hO6, hb6⟩
              rw [HD.out.1] at hO6
              have hB6 := hB5.trans (hb6.mono hB5.size)
              have HO6 := Lib.hid (own_low hO6 hB5.size)
              clear hO6 hO5
              go_wp2_with fail
              go_roundw
              case rel => exact ⟨k + 1, by omega, by simp, Lib.hid (by rw [hts.out, List.all_append, hall.out]; simp [hok.out]), Lib.hid (own_eq2 HO6.out (by rw [hts.out, varsL_snoc, List.length_append, List.length_append, HL2.out.2]; omega) (by rw [hts.out, varsL_snoc, ← List.append_assoc, HL2.out.1])), hB6⟩
              case measure => first | (simp [intOf]; done) | (simp [intOf]; omega)
      · have q1 : (255 < (x.name.length : Int)) = True := eq_true (by omega)
        have hA := Lib.hid (hno.out (show varOk x = false by unfold varOk; rw [decide_eq_false hl255]; rfl))
        go_wp2_with fail
        go_returns
        exact ⟨_, by rw [hA.out]; rfl, fun h => (by rw [hA.out] at h; cases h), fun _ => rfl, (by (repeat' (first | (with_reducible exact Below.refl _ _) | (with_reducible assumption) | (with_reducible refine below_drewN ?_ _) | (with_reducible refine Below.alloc ?_ ?_ _) | (with_reducible refine Below.drew ?_) | (with_reducible refine Below.setCell ?_ ?_ _) | go_size)))⟩
    · obtain rfl : k = n := by omega
      have hA := Lib.hid (show L.all varOk = true by have := hall.out; rwa [HY.out] at this)
      go_wp2_with fail
      go_returns
      exact ⟨_, by rw [hA.out]; rfl, fun _ => (by have := hO.out; rwa [HY.out] at this), fun h => (by rw [hA.out] at h; cases h), hB⟩
theorem ref14_Vars_long (v : Value) (L : List Vr) (w : World) (hv : RowR 5 varR w v L) (hlen : 64 < L.length) :
    Calls Try.prog 13 #[v] w fun e w' => e = .returned (.tuple #[.slice none 0 0, .bool false]) ∧ Below w.heap.size w w' := by
  have hl := hv.len
  obtain ⟨sa, ca, rfl⟩ := row_get hv
  obtain ⟨n, hN⟩ : ∃ n, L.length = n := ⟨_, rfl⟩
  rw [hN] at hv hlen hl ⊢
  have q0 : (64 < (n : Int)) = True := eq_true (by omega)
  go_enter Try.func13, Try.ntmps13
  go_wp2_with fail
  go_returns
  exact ⟨rfl, by (repeat' (first | (with_reducible exact Below.refl _ _) | (with_reducible assumption) | (with_reducible refine below_drewN ?_ _) | (with_reducible refine Below.alloc ?_ ?_ _) | (with_reducible refine Below.drew ?_) | (with_reducible refine Below.setCell ?_ ?_ _) | go_size))⟩
theorem ref14_Vars (v : Value) (L : List Vr) (w : World) (hv : RowR 5 varR w v L) (hn : ∀ x ∈ L, x.name.length ≤ 1000000) :
    Calls Try.prog 13 #[v] w (PutsV w L) := by
  by_cases h : L.length ≤ 64
  · exact ref14_Vars_in v L w hv hn h
  · have ho : okVs L = false := by unfold okVs; rw [decide_eq_false h]; rfl
    refine (ref14_Vars_long v L w hv (by omega)).mono ?_
    rintro e w' ⟨rfl, h3⟩
    exact ⟨_, by rw [ho], fun h => (by rw [ho] at h; cases h), fun _ => rfl, h3⟩
def putVs (L : List Vr) : List UInt8 := if okVs L = true then putL 2 L.length ++ varsL L else []
def getVs (L : List UInt8) : List Vr × Int := getR (rVar L) 64 L
theorem putsV_row {w : World} {L : List Vr} {e : Ending} {w' : World} (h : PutsV w L e w') : ∃ r, e = .returned (.tuple #[r, .bool (okVs L)]) ∧ RowAt w' r (putVs L).length (byteV (putVs L)) ∧ Below w.heap.size w w' := by
  obtain ⟨r, h1, h2, h3, h4⟩ := h
  refine ⟨r, h1, ?_, h4⟩
  unfold putVs
  cases hok : okVs L
  · rw [if_neg (by simp), h3 hok]
    exact Or.inl ⟨none, 0, rfl, rfl, fun _ => rfl⟩
  · rw [if_pos rfl]
    have hl : (putL 2 L.length ++ varsL L).length = 2 + (varsL L).length := by rw [List.length_append, putL_len]
    rw [hl]
    exact RowAt.owns (h2 hok) (fun i hi => byteV_at (by rw [hl]; exact hi))
theorem getsV_good (L : List UInt8) (hL : L.length ≤ 1000000) : ∀ x ∈ (getVs L).1, goodV x := by
  intro x hx
  by_cases h : (getVs L).2 = 0
  · obtain ⟨c, n, l, n', h1, h2, h3, h4, h5⟩ := getR_cases h
    have h6 : (getVs L).1 = l := by unfold getVs; rw [h5]
    obtain ⟨hz, hn, _⟩ := num2 h1 rfl
    have := (readsV.rows L (by omega) c.toNat n false (by omega)).2.2.2
    rw [h3] at this
    rw [h6] at hx
    exact this x hx
  · exfalso
    have : (getVs L).1 = [] := by
      unfold getVs getR at h ⊢
      split
      · rfl
      · split
        · rfl
        · split
          · rfl
          · split
            · rfl
            · rename_i h1 h2 h3 h4
              rw [if_neg h1, if_neg h2, if_neg h3, if_neg h4] at h
              exact absurd rfl h
    rw [this] at hx
    cases hx
theorem getsV_row {w : World} {L : List UInt8} {e : Ending} {w' : World} (hL : L.length ≤ 1000000) (h : GetsV w L e w') : ∃ r, e = .returned (.tuple #[r, .int .i64 (getVs L).2]) ∧ RowR 5 varR w' r (getVs L).1 ∧ Below w.heap.size w w' := by
  obtain ⟨r, h1, h2, h3⟩ := h
  exact ⟨r, h1, vars_owned h2 (fun x hx => ⟨by have := (getsV_good L hL x hx).1; unfold sz; omega, (getsV_good L hL x hx).2⟩), h3⟩
theorem vars_good {w : World} {v : Value} {L : List Vr} (h : RowR 5 varR w v L) : ∀ x ∈ L, I64 x.t ∧ I64 x.n ∧ I64 x.area ∧ I64 x.init := by
  intro x hx
  obtain ⟨k, hk, rfl⟩ := List.getElem_of_mem hx
  obtain ⟨a, cap, rfl⟩ := row_get h
  obtain ⟨b, off, _, _, hc⟩ := var_at h hk
  exact (hc k L[k] (by simp [hk])).2.2.2.2.2.2
theorem lawV_back {L : List Vr} (hg : ∀ x ∈ L, goodV x) (h : okVs L = true) : getVs (putVs L) = (L, 0) := by
  have h' := h
  unfold okVs at h'
  rw [Bool.and_eq_true] at h'
  have hl : L.length ≤ 64 := of_decide_eq_true h'.1
  have ha := List.all_eq_true.1 h'.2
  unfold getVs
  exact readsV.get_back 64 L _ (by unfold putVs; rw [if_pos h]; rfl) hl (by omega) (fun x hx => ⟨ha x hx, hg x hx⟩)
theorem lawV_forth {B : List UInt8} (hB : B.length ≤ 1000000) (h : (getVs B).2 = 0) : okVs (getVs B).1 = true ∧ putVs (getVs B).1 = B := by
  obtain ⟨h1, h2, h3⟩ := readsV.get_forth 64 B (by omega) h
  have hok : okVs (getVs B).1 = true := by
    unfold okVs
    rw [Bool.and_eq_true]
    exact ⟨decide_eq_true h1, List.all_eq_true.2 h2⟩
  refine ⟨hok, ?_⟩
  unfold putVs
  rw [if_pos hok]
  exact h3
set_option maxHeartbeats 4000000 in
theorem tabVars_walk (lv : Value) (L : List Vr) (bv : Value) (B : List UInt8) (w : World) (hl : RowR 5 varR w lv L) (hb : RowAt w bv B.length (byteV B)) :
    Calls Try.prog 4 #[lv, bv] w fun e w' => e = .returned (.bool true) ∧ Below w.heap.size w w' := by
  have hll := hl.len
  have hbl := hb.le
  have HL := Lib.hid (fun W (hW : Below w.heap.size w W) => hl.below varR_stable hW)
  have HB := Lib.hid (fun W (hW : Below w.heap.size w W) => hb.below hW)
  have HG := Lib.hid (vars_good hl)
  obtain ⟨sa, sc, rfl⟩ := row_get hl
  obtain ⟨ba, bc, rfl⟩ := row_form hb
  have HN := Lib.hid (show L.length = L.length from rfl)
  obtain ⟨n, hN⟩ : ∃ n, L.length = n := ⟨_, rfl⟩
  obtain ⟨m, hM⟩ : ∃ m, B.length = m := ⟨_, rfl⟩
  rw [hN] at hl hll HL
  rw [hM] at hb hbl HB
  rw [hN, hM]
  by_cases h1 : n ≤ 70
  · by_cases h2 : m ≤ 500
    · have q1 : (70 < (n : Int)) = False := eq_false (by omega)
      have q2 : (500 < (m : Int)) = False := eq_false (by omega)
      clear hb
      go_enter Try.func4, Try.ntmps4
      go_wp2_with fail
      go_loopw [5] (fun j wr => ∃ k d : Nat, k ≤ n ∧ j = .int .i64 k ∧ Hid (∀ i x, i < k → L[i]? = some x → x.name.length ≤ 300) ∧ wr = w.drewN d) (fun j _ => n - (intOf j).toNat)
      case atStart => exact ⟨0, 0, by omega, rfl, Lib.hid (fun i x h => by omega), rfl⟩
      case round =>
        obtain ⟨k, d, hk, rfl, hall, rfl⟩ := hrel
        by_cases hlt : k < n
        · obtain ⟨x, hx⟩ : ∃ x, L[k]? = some x := get_some (by omega)
          obtain ⟨b, off, rfl, hbw, hc⟩ := var_at hl (k := k) (by omega)
          obtain ⟨c0, c1, c2, c3, c4, hs, _⟩ := hc k x hx
          have hsz : (⟨x.name.toArray⟩ : ByteArray).size = x.name.length := by simp [ByteArray.size]
          unfold sz at hs
          clear hc
          by_cases h3 : x.name.length ≤ 300
          · have q3 : (300 < (x.name.length : Int)) = False := eq_false (by omega)
            have hnx := Lib.hid (show ∀ i y, i < k + 1 → L[i]? = some y → y.name.length ≤ 300 from fun i y hi hy => by
              by_cases hik : i < k
              · exact hall.out i y hik hy
              · obtain rfl : i = k := by omega
                rw [hx] at hy
                obtain rfl := Option.some.inj hy
                exact h3)
            clear hx
            go_wp2_with fail
            go_roundw
            case rel => exact ⟨k + 1, _, by omega, by simp, hnx, rfl⟩
            case measure => first | (simp [intOf]; done) | (simp [intOf]; omega)
          · have q3 : (300 < (x.name.length : Int)) = True := eq_true (by omega)
            clear hx
            go_wp2_with fail
            refine (law14_awake _).mono ?_; rintro e w1 ⟨rfl, hb⟩
            have hB1 : Below w.heap.size w w1 := (Below_drewN w.heap.size w d).trans hb
            go_wp2_with fail
            go_ret
            exact ⟨rfl, hB1⟩
        · obtain rfl : k = n := by omega
          have hnames : ∀ x ∈ L, x.name.length ≤ 300 := fun x hx => by
            obtain ⟨i, hi, rfl⟩ := List.getElem_of_mem hx
            exact hall.out i _ (by omega) (by simp)
          have hgood : ∀ x ∈ L, goodV x := fun x hx => ⟨by have := hnames x hx; omega, HG.out x hx⟩
          have hB0 : Below w.heap.size w (w.drewN d) := Below_drewN _ _ _
          have HP := Lib.hid (fun W (hW : Below w.heap.size w W) => (tab_PutVars _ L W (HL.out W hW) (fun x hx => (hgood x hx).1)).mono (fun _ _ h => putsV_row h))
          have HQ := Lib.hid (fun W (hW : Below w.heap.size w W) => (ref14_Vars _ L W (HL.out W hW) (fun x hx => (hgood x hx).1)).mono (fun _ _ h => putsV_row h))
          have HR := Lib.hid (fun W (hW : Below w.heap.size w W) => (tab_GetVars _ B W (by rw [hM]; exact HB.out W hW) (by omega)).mono (fun _ _ h => getsV_row (by omega) h))
          have HS := Lib.hid (fun W (hW : Below w.heap.size w W) => (ref14_GetVars _ B W (by rw [hM]; exact HB.out W hW) (by omega)).mono (fun _ _ h => getsV_row (by omega) h))
          have hpl : (putVs L).length ≤ 1000000 := by
            unfold putVs
            split
            · rename_i hok
              unfold okVs at hok
              rw [Bool.and_eq_true] at hok
              have h5 := varsL_len L hok.2
              rw [List.length_append, putL_len]; omega
            · simp
          have HT := Lib.hid (fun W r (hr : RowAt W r (putVs L).length (byteV (putVs L))) => (tab_GetVars r (putVs L) W hr hpl).mono (fun _ _ h => getsV_row hpl h))
          have HU := Lib.hid (fun W r (hr : RowR 5 varR W r (getVs B).1) => (tab_PutVars r (getVs B).1 W hr (fun x hx => (getsV_good B (by omega) x hx).1)).mono (fun _ _ h => putsV_row h))
          have hF1 := fun h => lawV_back hgood h
          have hF2 := fun h => lawV_forth (B := B) (by omega) h
          have HSm := Lib.hid (fun A W u v hu hv => ref14_SameVars u v A W hu hv)
          obtain ⟨PB, hPB⟩ : ∃ PB, putVs L = PB := ⟨_, rfl⟩
          obtain ⟨ok, hok⟩ : ∃ ok, okVs L = ok := ⟨_, rfl⟩
          obtain ⟨GB, hGB⟩ : ∃ GB, getVs B = GB := ⟨_, rfl⟩
          rw [hPB] at HP HQ HT hF1
          rw [hok] at HP HQ hF1
          rw [hGB] at HR HS HU hF2
          obtain ⟨GP, hGP⟩ : ∃ GP, getVs PB = GP := ⟨_, rfl⟩
          rw [hGP] at HT hF1
          obtain ⟨R3, ge⟩ := GB
          obtain ⟨R5, gx⟩ := GP
          dsimp only at HR HS HU HT hF1 hF2
          obtain ⟨P6, hP6⟩ : ∃ P6, putVs R3 = P6 := ⟨_, rfl⟩
          obtain ⟨ok6, hok6⟩ : ∃ ok6, okVs R3 = ok6 := ⟨_, rfl⟩
          rw [hP6, hok6] at HU hF2
          have HF1 := Lib.hid hF1
          have HF2 := Lib.hid hF2
          have HMB := Lib.hid hM
          clear hF1 hF2 hPB hok hGB hGP hP6 hok6 hgood hnames hpl hall HG hN hM
          go_wp2_with fail
          refine (HP.out _ hB0).mono ?_; rintro e w1 ⟨r1, rfl, hr1, hb1⟩
          have hB1 := hB0.trans (hb1.mono hB0.size)
          have Hr1 := Lib.hid hr1
          clear hr1 hb1 HP
          go_wp2_with fail
          refine (HQ.out _ hB1).mono ?_; rintro e w2 ⟨r2, rfl, hr2, hb2⟩
          have hB2 := hB1.trans (hb2.mono hB1.size)
          have Hr1 := Lib.hid (Hr1.out.below hb2)
          have Hr2 := Lib.hid hr2
          clear hr2 hb2 HQ
          go_wp2_with fail
          refine (HR.out _ hB2).mono ?_; rintro e w3 ⟨r3, rfl, hr3, hb3⟩
          have hB3 := hB2.trans (hb3.mono hB2.size)
          have Hr1 := Lib.hid (Hr1.out.below hb3)
          have Hr2 := Lib.hid (Hr2.out.below hb3)
          have Hr3 := Lib.hid hr3
          clear hr3 hb3 HR
          go_wp2_with fail
          refine (HS.out _ hB3).mono ?_; rintro e w4 ⟨r4, rfl, hr4, hb4⟩
          have hB4 := hB3.trans (hb4.mono hB3.size)
          have Hr1 := Lib.hid (Hr1.out.below hb4)
          have Hr2 := Lib.hid (Hr2.out.below hb4)
          have Hr3 := Lib.hid (Hr3.out.below varR_stable hb4)
          have Hr4 := Lib.hid hr4
          have hc1 := conv_row (P := Try.prog) (src := 23) (dst := 9) (e := 5) Try.underlying23 Try.underlying5 Try.underlying9 Hr1.out
          have hc2 := conv_row (P := Try.prog) (src := 23) (dst := 9) (e := 5) Try.underlying23 Try.underlying5 Try.underlying9 Hr2.out
          clear hr4 hb4 HS
          go_wp2_with fail
          refine (HSm.out R3 _ _ _ Hr3.out Hr4.out).mono ?_; rintro e w4' ⟨rfl, d4, rfl⟩
          have hB5 : Below w.heap.size w (w4.drewN d4) := below_drewN hB4 d4
          clear hc1 hc2
          go_wp2_with fail
          refine (HT.out _ _ (show RowAt (w4.drewN d4) r1 PB.length (byteV PB) from Hr1.out.below (Below_drewN _ _ _))).mono ?_; rintro e w5 ⟨r5, rfl, hr5, hb5⟩
          have hB6 := hB5.trans (hb5.mono hB5.size)
          have Hr3 := Lib.hid ((Hr3.out.below varR_stable (Below_drewN _ _ d4)).below varR_stable hb5)
          have Hr5 := Lib.hid hr5
          clear hr5 hb5 HT
          go_wp2_with fail
          refine (HU.out _ _ Hr3.out).mono ?_; rintro e w6 ⟨r6, rfl, hr6, hb6⟩
          have hB7 := hB6.trans (hb6.mono hB6.size)
          have Hr5 := Lib.hid (Hr5.out.below varR_stable hb6)
          have hrb := HB.out _ hB7
          have HLw := Lib.hid (HL.out _ hB7)
          have Hr6 := Lib.hid hr6
          have Hrb := Lib.hid (show RowAt w6 (.slice ba m bc) B.length (byteV B) by rw [HMB.out]; exact hrb)
          have hc6 := conv_row (P := Try.prog) (src := 23) (dst := 9) (e := 5) Try.underlying23 Try.underlying5 Try.underlying9 Hr6.out
          have hcb := conv_row (P := Try.prog) (src := 23) (dst := 9) (e := 5) Try.underlying23 Try.underlying5 Try.underlying9 Hrb.out
          clear hr6 hb6 HU hrb
          cases ok
          · by_cases hge : ge = 0
            · obtain ⟨rfl, rfl⟩ := HF2.out hge
              subst hge
              go_wp2_with fail
              refine (law14_awake _).mono ?_; rintro e w7 ⟨rfl, hb7⟩
              go_wp2_with fail
              go_ret
              exact ⟨rfl, hB7.trans (hb7.mono hB7.size)⟩
            · go_wp2_with fail
              refine (law14_awake _).mono ?_; rintro e w7 ⟨rfl, hb7⟩
              go_wp2_with fail
              go_ret
              exact ⟨rfl, hB7.trans (hb7.mono hB7.size)⟩
          · obtain ⟨hgx1, hgx2⟩ := Prod.mk.inj (HF1.out rfl)
            subst hgx1 hgx2
            have hcm : ∀ mm, (w6.drewN mm).heap.size = w6.heap.size := fun _ => rfl
            have hc6' := fun mm => conv_row (P := Try.prog) (src := 23) (dst := 9) (e := 5) Try.underlying23 Try.underlying5 Try.underlying9 (w := w6.drewN mm) (Hr6.out.below (Below_drewN _ _ mm))
            have hcb' := fun mm => conv_row (P := Try.prog) (src := 23) (dst := 9) (e := 5) Try.underlying23 Try.underlying5 Try.underlying9 (w := w6.drewN mm) (Hrb.out.below (Below_drewN _ _ mm))
            clear hc6 hcb
            by_cases hge : ge = 0
            · obtain ⟨rfl, rfl⟩ := HF2.out hge
              subst hge
              go_wp2_with fail
              refine (HSm.out _ _ _ _ Hr5.out HLw.out).mono ?_; rintro e w6' ⟨rfl, d6, rfl⟩
              have hB8 : Below w.heap.size w (w6.drewN d6) := below_drewN hB7 d6
              go_wp2_with fail
              refine (law14_awake _).mono ?_; rintro e w7 ⟨rfl, hb7⟩
              go_wp2_with fail
              go_ret
              exact ⟨rfl, hB8.trans (hb7.mono hB8.size)⟩
            · go_wp2_with fail
              refine (HSm.out _ _ _ _ Hr5.out HLw.out).mono ?_; rintro e w6' ⟨rfl, d6, rfl⟩
              have hB8 : Below w.heap.size w (w6.drewN d6) := below_drewN hB7 d6
              go_wp2_with fail
              refine (law14_awake _).mono ?_; rintro e w7 ⟨rfl, hb7⟩
              go_wp2_with fail
              go_ret
              exact ⟨rfl, hB8.trans (hb7.mono hB8.size)⟩
    · have q1 : (70 < (n : Int)) = False := eq_false (by omega)
      have q2 : (500 < (m : Int)) = True := eq_true (by omega)
      clear hl hb
      go_enter Try.func4, Try.ntmps4
      go_wp2_with fail
      refine (law14_awake _).mono ?_; rintro e w1 ⟨rfl, hb⟩
      go_wp2_with fail
      go_ret
      exact ⟨rfl, hb⟩
  · have q1 : (70 < (n : Int)) = True := eq_true (by omega)
    clear hl hb
    go_enter Try.func4, Try.ntmps4
    go_wp2_with fail
    refine (law14_awake _).mono ?_; rintro e w1 ⟨rfl, hb⟩
    go_wp2_with fail
    go_ret
    exact ⟨rfl, hb⟩
end Go.Proofs.Ytdpcfcflcfjmjaa
