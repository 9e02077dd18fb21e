/- Layer 5: names that are unlike: the program's walk. -/
import Derived.Test.YthammifbpdoggaaDoorIdFree
import Derived.Test.YthammifbpdoggaaDoorOwn
namespace Go.Proofs.YthammifbpdoggaaDoor
open Go.RowKit Go.Maps
set_option linter.unusedSimpArgs false
set_option linter.unusedVariables false
def strV (L : List (List UInt8)) (i : Nat) : Value := .string ⟨(L.getD i []).toArray⟩
def sV (L : List (List UInt8)) : List Value := L.map fun x => .string ⟨x.toArray⟩
theorem sV_app (a b : List (List UInt8)) : sV (a ++ b) = sV a ++ sV b := by simp [sV]
theorem sV_at {L : List (List UInt8)} {i : Nat} (h : i < L.length) : (sV L)[i]? = some (strV L i) := by simp [sV, strV, List.getD, h]
theorem row_any {w : World} {v : Value} {n : Nat} {f : Nat → Value} (h : RowAt w v n f) : ∃ a cap, v = .slice a n cap ∧ ∀ k, k < n → ∃ b off, a = some ⟨b, off, none⟩ ∧ n ≤ cap ∧ cap ≤ maxLen ∧ b < w.heap.size ∧ w.cell? ⟨b, off + k, none⟩ = some (f k) := by
  rcases h with ⟨a, cap, rfl, rfl, _⟩ | ⟨b, off, cap, rfl, h1, h2, h3, h4, h5⟩
  · exact ⟨a, cap, rfl, fun k hk => by omega⟩
  · exact ⟨_, cap, rfl, fun k hk => ⟨b, off, rfl, h2, h3, h4, h5 k hk⟩⟩
theorem own_low {w : World} {B C : Nat} {e : TypeId} {q : Nat} {r : Value} {n : Nat} {xs : List Value} (h : w.ownsRow B e q r n xs) (h1 : C ≤ B) : w.ownsRow C e q r n xs := by
  refine ⟨h.1, ?_⟩
  rcases h.2 with h | ⟨g, cap, cur, h2, h3, h4⟩
  · exact Or.inl h
  · exact Or.inr ⟨g, cap, cur, h2, Nat.le_trans h1 h3, h4⟩
theorem count_le40 {L : List (List UInt8)} {x : List UInt8} (h : L.length ≤ 40) : L.count x ≤ 40 := Nat.le_trans List.count_le_length h
theorem owns_not_map {w : World} {P : Program} {K : TypeId} {R : Value → Option (DataW Unit × List MemPlace)} {b n m base : Nat} {D : DataW Unit} {e : TypeId} {v : Value} {xs : List Value} (h : w.ownsMap P K R b n D) (ho : w.ownsRow base e 1 v m xs) : some b ≠ v.ownBlock := by
  obtain ⟨es, clock, hm, _⟩ := h
  rcases ho.2 with ⟨rfl, _⟩ | ⟨g, cap, cur, rfl, _, hg, _⟩
  · simp [Value.ownBlock]
  · intro e
    obtain rfl : b = g := by simpa [Value.ownBlock] using e
    rw [hm] at hg
    cases hg
theorem CntMap.not_row {P : Program} {K E : TypeId} {w : World} {b n m base : Nat} {L : List (List UInt8)} {e : TypeId} {v : Value} {xs : List Value} (h : CntMap P K E w b n L) (ho : w.ownsRow base e 1 v m xs) : some b ≠ v.ownBlock := by
  obtain ⟨D, h1, _⟩ := h
  exact owns_not_map h1 ho
theorem CntMap.appended {P : Program} {K E : TypeId} {w w' : World} {b n m base : Nat} {L : List (List UInt8)} {e : TypeId} {v : Value} {xs : List Value} (h : CntMap P K E w b n L) (o : Obj) (ho : w.ownsRow base e 1 v m xs) (hg : (w.alloc o).grownBy w' v.ownBlock) : CntMap P K E w' b n L := by
  have h1 : CntMap P K E (w.alloc o) b n L := CntMap.kept h (World.grownBy_alloc w o none) (by simp)
  exact CntMap.kept h1 hg (CntMap.not_row h1 (owns_below ho ((Below.refl _ _).alloc (Nat.le_refl _) _)))
set_option maxHeartbeats 4000000 in
theorem ident_Unique (v : Value) (L : List (List UInt8)) (w : World) (hv : RowAt w v L.length (strV L)) (hT : IdTab w) (hL : L.length ≤ 40) (hl : ∀ k, k < L.length → (L.getD k []).length ≤ 1000000) :
    Calls Tryd.prog 13 #[v] w fun e w' => ∃ r, e = .returned r ∧ RowAt w' r L.length (strV (uniqL L)) ∧ Below w.heap.size w w' := by
  obtain ⟨i, hi, hz, hsize, hby⟩ : ∃ i, Tryd.prog.info? 9 = some i ∧ i.zero = some (.string ⟨#[]⟩) ∧ i.size = 1 ∧ i.bytes = 16 := ⟨(Tryd.prog.info? 9).get!, by kernel_rfl, by kernel_rfl, by kernel_rfl, by kernel_rfl⟩
  have hmm := @run_makeMap Tryd.prog
  obtain ⟨a, cap, rfl, hcell⟩ := row_any hv
  obtain ⟨N, hN⟩ : ∃ N, L.length = N := ⟨_, rfl⟩
  have hmk : ∀ W, (Instr.makeSlice 25 (.int .i64 0) (.int .i64 (N : Int))).run Tryd.prog W = .ok (.slice (some ⟨W.heap.size, 0, none⟩) 0 N) (W.alloc (.cells (madeCells (Value.string ⟨#[]⟩).cells N) 9)) := fun W => by
    have := run_make W 25 9 i _ Tryd.underlying25 hi hz .i64 .i64 (0 : Int) (N : Int) (by omega) (by omega) (by rw [hby]; omega) (by omega)
    rw [hsize, Nat.mul_one, show ((N : Int)).toNat = N by omega] at this
    exact this
  have HZ := Lib.hid (show (madeCells (Value.string ⟨#[]⟩).cells N).size = N * 1 by simp [madeCells, Value.cells])
  generalize madeCells (Value.string ⟨#[]⟩).cells N = Z at *
  have HT := Lib.hid hT
  have HN := Lib.hid hN
  rw [hN] at hcell hL
  have HLn := Lib.hid (show ∀ k, k < N → (L.getD k []).length ≤ 1000000 from fun k hk => hl k (by omega))
  have HCl := Lib.hid hcell
  have q1 : (200 < (N : Int)) = False := eq_false (by omega)
  have q1' : (200 < N) = False := eq_false (by omega)
  rw [hN]
  clear hv hT hl hN hcell
  go_enter Tryd.func13, Tryd.ntmps13
  go_wp2_with fail
  go_loopw [17] (fun jj wr => ∃ k : Nat, k ≤ N ∧ jj = .int .i64 k ∧ Hid (Cnt wr w.heap.size k ((L.map cleanL).take k)) ∧ Hid (Below w.heap.size w wr) ∧ Hid (w.heap.size + 1 ≤ wr.heap.size)) (fun jj _ => N - (intOf jj).toNat)
  case atStart => exact ⟨0, by omega, rfl, Lib.hid (CntMap.made _ _ _ _), Lib.hid ((Below.refl _ _).alloc (Nat.le_refl _) _), Lib.hid (by simp)⟩
  case round =>
    obtain ⟨k, hk, rfl, hC, hB, hS⟩ := hrel
    by_cases hlt : k < N
    · have qk : ((k : Int) < (N : Int)) = True := eq_true (by omega)
      have qk' : (k < N) = True := eq_true hlt
      obtain ⟨b, off, rfl, hc1, hc2, hbw, hcell0⟩ := HCl.out k hlt
      have hcell1 := (hB.out.cell (p := ⟨b, off + k, none⟩) hbw).trans hcell0
      have hc3 : cap ≤ 9223372036854775807 := hc2
      have hxl := HLn.out k hlt
      have HT2 := HT.out.below hB.out
      have HX := Lib.hid (show cleanL (L.getD k []) = cleanL (L.getD k []) from rfl)
      have HTk := Lib.hid (show (L.map cleanL).take (k + 1) = (L.map cleanL).take k ++ [cleanL (L.getD k [])] from take_snoc (by simp [List.getD, show k < L.length by rw [HN.out]; exact hlt]))
      have hcl := ident_Clean (L.getD k []) wr HT2 hxl
      have hcnt := count_le40 (L := (L.map cleanL).take k) (x := cleanL (L.getD k [])) (by simp; omega)
      have hnl := clean_len (L.getD k [])
      have hcell : wr.cell? ⟨b, off + k, none⟩ = some (.string ⟨(L.getD k []).toArray⟩) := hcell1
      have HLT := Lib.hid hlt
      have HBW := Lib.hid hbw
      clear HT2 hxl hlt HX hcell0 hcell1 hc2 hbw
      generalize hx : L.getD k [] = x at *
      generalize hnm : cleanL x = nm at *
      clear hx hnm
      generalize (L.map cleanL).take k = Lk at *
      go_wp2_with fail
      refine hcl.mono ?_; rintro e w2 ⟨rfl, hb2⟩
      obtain ⟨D, hown, hI, hat⟩ := CntMap.below hC.out hb2
      have hlo := Cnt.look (CntMap.below hC.out hb2) (s := ⟨nm.toArray⟩) (x := nm) rfl (by omega)
      have HAt := Lib.hid (⟨hI, hat⟩ : IsMap D ∧ ∀ x, D.atKey (.string x) (.lit (.int .i64 0)) = .lit (.int .i64 (Lk.count x : Int)))
      have HB2 := Lib.hid (hB.out.trans (hb2.mono hB.out.size))
      have HS2 := Lib.hid (Nat.le_trans hS.out hb2.size)
      have hkeyn : keyOf Tryd.prog 9 (.string ⟨nm.toArray⟩) = some (.string nm) := WideMaps.keyOf_string_mk Tryd.underlying9 (s := ⟨nm.toArray⟩) (by show nm.toArray.size ≤ _; unfold maxLen; simp; omega)
      obtain ⟨c, hcc⟩ : ∃ c, Lk.count nm = c := ⟨_, rfl⟩
      have HCC := Lib.hid hcc
      rw [hcc] at hlo hcnt
      have hwf : (Lit.int .i64 ((c : Int) + 1)).wf = true := WalkArith.wf_i64 (by omega)
      clear hb2 hI hat hcc hC hB hS hcl
      go_wp2_with (first | (at_mapUpdate; go_loud (refine wpList_mapUpdate_own _ rfl _ _ _ 34 rfl 9 3 (string_keyed Tryd.underlying9) Tryd.underlying34 _ w.heap.size k D rfl hown (by unfold maxLen; omega) _ _ (.string nm) rfl rfl hkeyn (.lit (.int .i64 ((c : Int) + 1))) [] (plainElem_int Tryd.underlying3 hwf) ?_; intro w3 hown3 hgrow3; have HB3 := Lib.hid (HB2.out.grown hgrow3 HB2.out.size (fun j hj => by cases hj; exact Nat.le_refl _)); have HS3 := Lib.hid (Nat.le_trans HS2.out hgrow3.size); have HC3 := Lib.hid (CntMap.put HAt.out.1 HAt.out.2 (by rw [HCC.out]) hown3); clear hown3 hgrow3)) | fail)
      go_roundw
      case rel => exact ⟨k + 1, by have := HLT.out; omega, by simp, Lib.hid (by rw [HTk.out]; exact HC3.out), HB3, HS3⟩
      case measure => have := HLT.out; first | (simp [intOf]; done) | (simp [intOf]; omega)
    · obtain rfl : N = k := by omega
      have qk : ((N : Int) < (N : Int)) = False := eq_false (by omega)
      have qk' : (N < N) = False := eq_false (by omega)
      clear hlt hk
      --LOOP2
      rename World => A
      have HR := Lib.hid (show w.heap.size ≤ A.heap.size from hB.out.size)
      have HNE := Lib.hid (show some w.heap.size ≠ some A.heap.size from fun e => by have := hS.out; injection e with e; omega)
      have hfull : (L.map cleanL).take N = L.map cleanL := List.take_of_length_le (by simp; have := HN.out; omega)
      have HK0 := Lib.hid (show Cnt ((A.alloc (.map #[] 0)).alloc (.cells Z 9)) w.heap.size N (L.map cleanL) from CntMap.kept (CntMap.kept (hfull ▸ hC.out) (World.grownBy_alloc _ _ none) (by simp)) (World.grownBy_alloc _ _ none) (by simp))
      have HC0 := Lib.hid (show Cnt ((A.alloc (.map #[] 0)).alloc (.cells Z 9)) A.heap.size 0 (uniqK L 0) from CntMap.kept (CntMap.made _ _ _ _) (World.grownBy_alloc _ _ none) (by simp))
      have HB0 := Lib.hid (show Below w.heap.size w ((A.alloc (.map #[] 0)).alloc (.cells Z 9)) from (hB.out.alloc hB.out.size _).alloc (by have := hB.out.size; simp; omega) _)
      have HO0 := Lib.hid (show ((A.alloc (.map #[] 0)).alloc (.cells Z 9)).ownsRow w.heap.size 9 1 (.slice (some ⟨A.heap.size + 1, 0, none⟩) 0 N) 0 (sV (uniqK L 0)) from by
        have h := owns_made (A.alloc (.map #[] 0)) Z 9 1 N HZ.out (by unfold maxLen; omega)
        rw [show (A.alloc (.map #[] 0)).heap.size = A.heap.size + 1 by simp] at h
        exact own_low h (by have := hB.out.size; omega))
      clear hC hB hfull
      go_wp2_with fail
      clear hmm hmk
      go_loopw [7, 33] (fun o jj wr => ∃ m : Nat, m ≤ N ∧ jj = .int .i64 m ∧ Hid (wr.ownsRow w.heap.size 9 1 o m (sV (uniqK L m))) ∧ Hid (Cnt wr w.heap.size N (L.map cleanL)) ∧ Hid (Cnt wr A.heap.size m (uniqK L m)) ∧ Hid (Below w.heap.size w wr) ∧ Hid (A.heap.size + 1 ≤ wr.heap.size)) (fun _ jj _ => N - (intOf jj).toNat)
      case atStart => exact ⟨0, by omega, rfl, HO0, HK0, HC0, HB0, Lib.hid (by simp)⟩
      case round =>
        obtain ⟨m, hm, rfl, hO, hK, hC, hB, hS2⟩ := hrel
        clear HO0 HK0 HC0 HB0
        by_cases hlt : m < N
        · have qk : ((m : Int) < (N : Int)) = True := eq_true (by omega)
          have qk' : (m < N) = True := eq_true hlt
          obtain ⟨b, off, rfl, hc1, hc2, hbw, hcell0⟩ := HCl.out m hlt
          have hcell1 := (hB.out.cell (p := ⟨b, off + m, none⟩) hbw).trans hcell0
          have hc3 : cap ≤ 9223372036854775807 := hc2
          have hxl := HLn.out m hlt
          have HT2 := HT.out.below hB.out
          have HU := Lib.hid (uniqK_succ (L := L) (k := m) (by rw [HN.out]; exact hlt))
          have hcl := ident_Clean (L.getD m []) wr HT2 hxl
          have hnl := clean_len (L.getD m [])
          have hOl : (uniqK L m).length = m := uniqK_len L m (by rw [HN.out]; exact hm)
          have hCl : (L.map cleanL).length = N := by rw [List.length_map]; exact HN.out
          have hcell : wr.cell? ⟨b, off + m, none⟩ = some (.string ⟨(L.getD m []).toArray⟩) := hcell1
          have HLT := Lib.hid hlt
          clear HT2 hxl hlt hcell0 hcell1 hc2 hbw
          generalize hx : L.getD m [] = x at *
          generalize hnm : cleanL x = nm at *
          clear hx hnm
          generalize hU1 : uniqK L (m + 1) = U1 at *
          have HE1 := Lib.hid hU1
          clear hU1
          generalize uniqK L m = O at *
          generalize L.map cleanL = C at *
          go_wp2_with fail
          refine hcl.mono ?_; rintro e w2 ⟨rfl, hb2⟩
          have HC2 := CntMap.below hC.out hb2
          have HK2 := Lib.hid (CntMap.below hK.out hb2)
          have HO2 := Lib.hid (owns_below hO.out hb2)
          have HB2 := Lib.hid (hB.out.trans (hb2.mono hB.out.size))
          have HS2 := Lib.hid (Nat.le_trans hS2.out hb2.size)
          have HNR := Lib.hid (CntMap.not_row HC2 HO2.out)
          have HLk := Lib.hid (fun (s : ByteArray) (x : List UInt8) (h : s = ⟨x.toArray⟩) (hl : x.length ≤ 1000000) => Cnt.look HC2 h hl)
          have HFr := Lib.hid (fun (s : List UInt8) (hs : s.length ≤ 16) => ident_free s w.heap.size A.heap.size N m C O w2 HK2.out HC2 hs (by omega))
          have HFs := Lib.hid (fun (s : List UInt8) => free_spec (C := C) (O := O) s (by omega))
          obtain ⟨D, hown, hI, hat⟩ := HC2
          have HAt := Lib.hid (⟨hI, hat⟩ : IsMap D ∧ ∀ x, D.atKey (.string x) (.lit (.int .i64 0)) = .lit (.int .i64 (O.count x : Int)))
          have hlo := HLk.out ⟨nm.toArray⟩ nm rfl (by omega)
          clear hb2 hI hat hcl hK hC hB hO hOl hCl
          cases hct : O.contains nm
          · have H0 := Lib.hid (cnt_zero hct)
            have HU := Lib.hid (show U1 = O ++ [nm] by rw [HU.out]; unfold uniqS; rw [if_neg (by rw [hct]; simp)])
            rw [H0.out] at hlo
            have hlo : (Instr.lookup 34 (.map (some A.heap.size)) (.string ⟨nm.toArray⟩) false).run Tryd.prog w2 = .ok (.int .i64 0) w2 := hlo
            clear hct
            generalize hnx : nm = nx at *
            have hkeyn : keyOf Tryd.prog 9 (.string ⟨nx.toArray⟩) = some (.string nx) := WideMaps.keyOf_string_mk Tryd.underlying9 (s := ⟨nx.toArray⟩) (by show nx.toArray.size ≤ _; unfold maxLen; simp; omega)
            go_wp2_with (first | (at_mapUpdate; go_loud (refine wpList_mapUpdate_own _ rfl _ _ _ 34 rfl 9 3 (string_keyed Tryd.underlying9) Tryd.underlying34 _ A.heap.size m D rfl hown (by unfold maxLen; omega) _ _ (.string nx) rfl rfl hkeyn (.lit (.int .i64 1)) [] (plainElem_int Tryd.underlying3 (by decide)) ?_; intro w3 hown3 hgrow3; have HB3 := Lib.hid (HB2.out.grown hgrow3 HB2.out.size (fun j hj => by cases hj; exact HR.out)); have HS3 := Lib.hid (Nat.le_trans HS2.out hgrow3.size); have HC3 := Lib.hid (CntMap.put HAt.out.1 HAt.out.2 (by rw [H0.out]; rfl) hown3); have HK3 := Lib.hid (CntMap.kept HK2.out hgrow3 HNE.out); have HO3 := Lib.hid (HO2.out.kept hgrow3 (Or.inr (fun e => HNR.out e.symm))); clear hown3 hgrow3)) | (at_builtin; go_loud (refine wpList_append_src rfl (.tmp 51) (.tmp 53) 25 rfl w.heap.size 9 i (.string ⟨#[]⟩) 1 16 Tryd.underlying25 hi hz hsize hby rfl (by omega) _ m _ rfl (owns_below HO3.out ((Below.refl _ _).alloc (Nat.le_refl _) _)) _ 1 [.string ⟨nx.toArray⟩] rfl (src_new _ _ _) rfl (by intro u hu; simp at hu; rw [hu]; rfl) (by unfold maxLen; omega) (by omega) (by have := HB3.out.size; simp; omega) ?_; intro v4 w4 hO4 hG4; have HB4 := Lib.hid (grown3 (HB3.out.alloc HB3.out.size _) (by have := HB3.out.size; simp; omega) (owns_below HO3.out ((Below.refl _ _).alloc (Nat.le_refl _) _)) hG4); have HS4 := Lib.hid (Nat.le_trans (Nat.le_trans HS3.out (by simp)) hG4.size); have HC4 := Lib.hid (CntMap.appended HC3.out _ HO3.out hG4); have HK4 := Lib.hid (CntMap.appended HK3.out _ HO3.out hG4); have HO4 := Lib.hid hO4; clear hO4 hG4)) | fail)
            go_roundw
            case rel => exact ⟨m + 1, by have := HLT.out; omega, by simp, Lib.hid (by rw [HE1.out, HU.out, sV_app]; exact HO4.out), HK4, Lib.hid (by rw [HE1.out, HU.out]; exact HC4.out), HB4, HS4⟩
            case measure => have := HLT.out; first | (simp [intOf]; done) | (simp [intOf]; omega)
          · obtain ⟨f1, f2, f3, f4⟩ := HFs.out nm
            have HU := Lib.hid (show U1 = O ++ [nameL nm (freeN C O nm)] by rw [HU.out]; unfold uniqS; rw [if_pos hct])
            have hfr := HFr.out nm hnl
            have hxl := name_len nm (show freeN C O nm < 100 by omega)
            unfold busyB at f3
            rw [Bool.or_eq_false_iff] at f3
            have H0 := Lib.hid (cnt_zero f3.1)
            have hlo2 := HLk.out ⟨(nameL nm (freeN C O nm)).toArray⟩ _ rfl (by omega)
            rw [H0.out] at hlo2
            have hlo2 : (Instr.lookup 34 (.map (some A.heap.size)) (.string ⟨(nameL nm (freeN C O nm)).toArray⟩) false).run Tryd.prog w2 = .ok (.int .i64 0) w2 := hlo2
            have hpos := cnt_pos hct
            obtain ⟨c, hc⟩ : ∃ c, O.count nm = c := ⟨_, rfl⟩
            rw [hc] at hlo hpos
            have q3 : (0 < (c : Int)) = True := eq_true (by omega)
            have q3' : (0 < c) = True := eq_true hpos
            clear f1 f2 f3 f4 hct hc hpos
            generalize nameL nm (freeN C O nm) = nx at *
            go_wp2_with fail
            refine hfr.mono ?_; rintro e w5 ⟨rfl, rfl⟩
            have hkeyn : keyOf Tryd.prog 9 (.string ⟨nx.toArray⟩) = some (.string nx) := WideMaps.keyOf_string_mk Tryd.underlying9 (s := ⟨nx.toArray⟩) (by show nx.toArray.size ≤ _; unfold maxLen; simp; omega)
            go_wp2_with (first | (at_mapUpdate; go_loud (refine wpList_mapUpdate_own _ rfl _ _ _ 34 rfl 9 3 (string_keyed Tryd.underlying9) Tryd.underlying34 _ A.heap.size m D rfl hown (by unfold maxLen; omega) _ _ (.string nx) rfl rfl hkeyn (.lit (.int .i64 1)) [] (plainElem_int Tryd.underlying3 (by decide)) ?_; intro w3 hown3 hgrow3; have HB3 := Lib.hid (HB2.out.grown hgrow3 HB2.out.size (fun j hj => by cases hj; exact HR.out)); have HS3 := Lib.hid (Nat.le_trans HS2.out hgrow3.size); have HC3 := Lib.hid (CntMap.put HAt.out.1 HAt.out.2 (by rw [H0.out]; rfl) hown3); have HK3 := Lib.hid (CntMap.kept HK2.out hgrow3 HNE.out); have HO3 := Lib.hid (HO2.out.kept hgrow3 (Or.inr (fun e => HNR.out e.symm))); clear hown3 hgrow3)) | (at_builtin; go_loud (refine wpList_append_src rfl (.tmp 51) (.tmp 53) 25 rfl w.heap.size 9 i (.string ⟨#[]⟩) 1 16 Tryd.underlying25 hi hz hsize hby rfl (by omega) _ m _ rfl (owns_below HO3.out ((Below.refl _ _).alloc (Nat.le_refl _) _)) _ 1 [.string ⟨nx.toArray⟩] rfl (src_new _ _ _) rfl (by intro u hu; simp at hu; rw [hu]; rfl) (by unfold maxLen; omega) (by omega) (by have := HB3.out.size; simp; omega) ?_; intro v4 w4 hO4 hG4; have HB4 := Lib.hid (grown3 (HB3.out.alloc HB3.out.size _) (by have := HB3.out.size; simp; omega) (owns_below HO3.out ((Below.refl _ _).alloc (Nat.le_refl _) _)) hG4); have HS4 := Lib.hid (Nat.le_trans (Nat.le_trans HS3.out (by simp)) hG4.size); have HC4 := Lib.hid (CntMap.appended HC3.out _ HO3.out hG4); have HK4 := Lib.hid (CntMap.appended HK3.out _ HO3.out hG4); have HO4 := Lib.hid hO4; clear hO4 hG4)) | fail)
            go_roundw
            case rel => exact ⟨m + 1, by have := HLT.out; omega, by simp, Lib.hid (by rw [HE1.out, HU.out, sV_app]; exact HO4.out), HK4, Lib.hid (by rw [HE1.out, HU.out]; exact HC4.out), HB4, HS4⟩
            case measure => have := HLT.out; first | (simp [intOf]; done) | (simp [intOf]; omega)
        · obtain rfl : N = m := by omega
          have qk : ((N : Int) < (N : Int)) = False := eq_false (by omega)
          have qk' : (N < N) = False := eq_false (by omega)
          have HRow := Lib.hid (RowAt.owns (f := strV (uniqK L N)) hO.out (fun i hi => sV_at (by rw [uniqK_len L N (by rw [HN.out]; omega)]; exact hi)))
          have HUL := Lib.hid (show uniqL L = uniqK L N by unfold uniqL; rw [HN.out])
          go_wp2_with fail
          go_returns
          exact ⟨_, rfl, by rw [HUL.out]; exact HRow.out, hB.out⟩
      --END2
end Go.Proofs.YthammifbpdoggaaDoor
