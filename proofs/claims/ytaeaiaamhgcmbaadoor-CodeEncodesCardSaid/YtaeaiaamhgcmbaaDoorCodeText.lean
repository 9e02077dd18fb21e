/- Layer 13: instructions as text. -/
import Derived.Test.YtaeaiaamhgcmbaaDoorCodeSame
import Derived.Test.YtaeaiaamhgcmbaaDoorOpM
import Derived.Lib.AppendStr
namespace Go.Proofs.YtaeaiaamhgcmbaaDoor
open Go.RowKit
set_option linter.unusedSimpArgs false
set_option linter.unusedVariables false
def oLl (o a b : Int) : List UInt8 := (oLine o a b).data.toList
theorem oLine_ba (o a b : Int) : oLine o a b = ⟨(oLl o a b).toArray⟩ := by unfold oLl; simp
theorem oLl_len {o a b : Int} (ha : -9223372036854775808 ≤ a ∧ a ≤ 9223372036854775807) (hb : -9223372036854775808 ≤ b ∧ b ≤ 9223372036854775807) : (oLl o a b).length ≤ 60 := by
  have z1 := oW_size o
  have z2 := prS_sz ha
  have z3 := prS_sz hb
  unfold oLl oLine
  split
  · unfold oPart
    have e1 : (oW o).data.size ≤ 10 := z1
    have e2 : (prS a).data.size ≤ 20 := z2
    have e3 : (prS b).data.size ≤ 20 := z3
    split <;> split <;> simp <;> omega
  · simp
def lnL (x : Ins) : List UInt8 := if oLl x.1 x.2.1 x.2.2 = [] then [63] else oLl x.1 x.2.1 x.2.2
theorem lnL_no {x : Ins} (h : oLl x.1 x.2.1 x.2.2 = []) : lnL x = [63] := if_pos h
theorem lnL_yes {x : Ins} (h : ¬ oLl x.1 x.2.1 x.2.2 = []) : lnL x = oLl x.1 x.2.1 x.2.2 := if_neg h
def rowT (k : Nat) (x : Ins) : List UInt8 := pr k ++ ([58, 32] ++ (lnL x ++ [10]))
def txt (L : List Ins) (k : Nat) : List UInt8 := (List.range k).flatMap fun i => rowT i (L.getD i (0, 0, 0))
theorem txt_succ {L : List Ins} {k : Nat} {x : Ins} (hx : L[k]? = some x) : txt L (k + 1) = txt L k ++ rowT k x := by
  unfold txt
  rw [List.range_succ, List.flatMap_append]
  simp [List.getD, hx]
theorem lnL_len {x : Ins} (ha : I64 x.2.1) (hb : I64 x.2.2) : (lnL x).length ≤ 60 := by
  unfold lnL
  split
  · simp
  · exact oLl_len ha hb
theorem pr_sz (k : Nat) (h : k ≤ 1000) : (pr k).length ≤ 20 := pr_len (by omega)
theorem txt_len {L : List Ins} (hL : ∀ x ∈ L, I64 x.2.1 ∧ I64 x.2.2) : ∀ k, k ≤ L.length → k ≤ 1000 → (txt L k).length ≤ 100 * k := by
  intro k
  induction k with
  | zero => intro _ _; simp [txt]
  | succ k ih =>
    intro h1 h2
    have hx : L[k]? = some L[k] := by simp [show k < L.length by omega]
    rw [txt_succ hx, List.length_append]
    have h3 := ih (by omega) (by omega)
    obtain ⟨w1, w2⟩ := hL L[k] (List.getElem_mem _)
    have h4 := lnL_len w1 w2
    have h5 := pr_sz k (by omega)
    unfold rowT
    simp only [List.length_append, List.length_cons, List.length_nil]
    omega
theorem rowT_len {k : Nat} {x : Ins} {t : List UInt8} (h : lnL x = t) : (rowT k x).length = (pr k).length + 2 + t.length + 1 := by
  unfold rowT; rw [h]; simp; omega
theorem rowT_eq {k : Nat} {x : Ins} {t : List UInt8} (h : lnL x = t) : rowT k x = pr k ++ ([58, 32] ++ (t ++ [10])) := by unfold rowT; rw [h]
theorem strC (s : List UInt8) : Lib.strCells ⟨s.toArray⟩ = bytesV s := by simp [Lib.strCells, bytesV]
theorem txt_val (E : List UInt8) (k : Nat) (t : List UInt8) : bytesV E ++ Lib.strCells (prS k) ++ Lib.strCells ⟨#[58, 32]⟩ ++ Lib.strCells ⟨t.toArray⟩ ++ (List.range 1).map (fun _ => Value.int .u8 10) = bytesV (E ++ (pr k ++ ([58, 32] ++ (t ++ [10])))) := by
  have e1 : prS k = ⟨(pr k).toArray⟩ := rfl
  have e2 : Lib.strCells ⟨#[58, 32]⟩ = bytesV [58, 32] := strC [58, 32]
  rw [e1, strC (pr k), e2, strC t]
  simp [bytesV]
set_option maxHeartbeats 8000000 in
theorem code_Text (v : Value) (L : List Ins) (w : World) (hT : OTab w) (hv : RowR 3 insR w v L) (hn : L.length ≤ 500) :
    Calls Tryd.prog 9 #[v] w fun e w' => e = .returned (.string ⟨(txt L L.length).toArray⟩) ∧ Below w.heap.size w w' := by
  obtain ⟨i, hi, hz, hsize, hby⟩ : ∃ i, Tryd.prog.info? 5 = some i ∧ i.zero = some (.int .u8 0) ∧ i.size = 1 ∧ i.bytes = 1 := ⟨(Tryd.prog.info? 5).get!, by kernel_rfl, by kernel_rfl, by kernel_rfl, by kernel_rfl⟩
  have hLL : ∀ x ∈ L, I64 x.2.1 ∧ I64 x.2.2 := by
    intro x hx
    obtain ⟨k, hk, rfl⟩ := List.getElem_of_mem hx
    obtain ⟨sa, cap, rfl⟩ := ins_get hv
    obtain ⟨b, off, rfl, hbw, hc⟩ := ins_at hv (k := k) hk
    have := hc k L[k] (by simp [hk])
    exact ⟨this.2.2.2.2.1, this.2.2.2.2.2⟩
  have hTL := txt_len hLL
  obtain ⟨sa, cap, rfl⟩ := ins_get hv
  clear hLL
  generalize hN : L.length = N at *
  go_enter Tryd.func9, Tryd.ntmps9
  go_wp2_with fail
  go_loopw [3, 9] (fun o j wr => ∃ k : Nat, k ≤ N ∧ j = .int .i64 k ∧ Hid (wr.ownsRow w.heap.size 5 1 o (txt L k).length (bytesV (txt L k))) ∧ Below w.heap.size w wr) (fun _ j _ => N - (intOf j).toNat)
  case atStart => exact ⟨0, by omega, rfl, Lib.hid (World.ownsRow_nil _ _ _ _), Below.refl _ _⟩
  case round =>
    obtain ⟨k, hk, rfl, hO, hB⟩ := hrel
    have hz' := hB.size
    have htl := hTL k (by omega) (by omega)
    by_cases hlt : k < N
    · obtain ⟨b, off, rfl, hbw, hc⟩ := ins_at hv (k := k) (by omega)
      obtain ⟨x, hx⟩ : ∃ x, L[k]? = some x := ⟨L[k]'(by omega), by simp [hN, hlt]⟩
      obtain ⟨c0, c1, c2, w0, w1, w2⟩ := hc k x hx
      have c0 := (hB.cell (p := ⟨b, off + k * 3, none⟩) hbw).trans c0
      have c1 := (hB.cell (p := ⟨b, off + k * 3 + 1, none⟩) hbw).trans c1
      have c2 := (hB.cell (p := ⟨b, off + k * 3 + 2, none⟩) hbw).trans c2
      have hsu := Lib.hid (txt_succ hx)
      have hLn := @op_Line x.1 x.2.1 x.2.2 w1 w2
      rw [oLine_ba] at hLn
      have hll := oLl_len (o := x.1) w1 w2
      have hps : (prS k).size = (pr k).length := List.size_toArray
      have h2s : (⟨#[58, 32]⟩ : ByteArray).size = 2 := rfl
      have hpz := pr_sz k (by omega)
      clear hc hx hTL
      generalize hee : txt L k = E at *
      have HE := Lib.hid hee
      clear hee
      by_cases hem : oLl x.1 x.2.1 x.2.2 = []
      · have hrw := Lib.hid (lnL_no hem)
        have hTs : (⟨([63] : List UInt8).toArray⟩ : ByteArray).size = 1 := rfl
        rw [hem] at hLn
        clear hem hll
        go_wp2_with fail
        refine (hLn _ (hT.below (by (repeat' (first | (with_reducible exact Below.refl _ _) | (with_reducible assumption) | (with_reducible refine more_below ?_ ?_ _ _) | (with_reducible refine below_drewN ?_ _) | (with_reducible refine Below.alloc ?_ ?_ _) | (with_reducible refine Below.drew ?_) | (with_reducible refine Below.setCell ?_ ?_ _) | (simp only [World.size_alloc, World.size_setCell, World.size_drew, more_size, World.heap_drewN]; omega) | go_size))))).mono ?_; rintro e W1 ⟨rfl, hb1⟩
        have hbr : Below wr.heap.size wr W1 := Below.trans (by (repeat' (first | (with_reducible exact Below.refl _ _) | (with_reducible assumption) | (with_reducible refine below_drewN ?_ _) | (with_reducible refine Below.alloc ?_ ?_ _) | (with_reducible refine Below.drew ?_) | (with_reducible refine Below.setCell ?_ ?_ _) | go_size))) (hb1.mono (by simp))
        have hO1 := Lib.hid (owns_below hO.out hbr)
        have hB1 : Below w.heap.size w W1 := Below.trans hB (hbr.mono hz')
        clear hb1 hbr hO
        go_wp2_with fail
        refine (num_Print k (by omega) _).mono ?_; rintro e W2 ⟨rfl, hb2⟩
        have HO2 := Lib.hid (owns_below hO1.out hb2)
        have hB2 := hB1.trans (hb2.mono hB1.size)
        have hz2 := hB2.size
        clear hO1 hb2
        go_wp2_with (first | (at_builtin; (refine Lib.wpList_append_own_string _ rfl (.tmp 18) (.tmp 20) 24 9 rfl w.heap.size 5 i Tryd.underlying24 Tryd.underlying9 hi hz hsize hby _ E.length _ rfl HO2.out (prS k) rfl (by unfold maxLen; omega) (by omega) (by omega) ?_; intro v3 w3 hO3 hG3 _; have HO3 := Lib.hid hO3; have hB3 := below_grownV hB2 hB2.size HO2.out hG3; have hz3 := hB3.size; clear hO3 hG3)) | (at_builtin; (refine Lib.wpList_append_own_string _ rfl (.tmp 22) _ 24 9 rfl w.heap.size 5 i Tryd.underlying24 Tryd.underlying9 hi hz hsize hby _ (E.length + (prS k).size) _ rfl HO3.out ⟨#[58, 32]⟩ rfl (by unfold maxLen; rw [h2s]; omega) (by rw [h2s]; omega) (by omega) ?_; intro v4 w4 hO4 hG4 _; rw [h2s] at hO4; have HO4 := Lib.hid hO4; have hB4 := below_grownV hB3 hB3.size HO3.out hG4; have hz4 := hB4.size; clear hO4 hG4)) | (at_builtin; (refine Lib.wpList_append_own_string _ rfl (.tmp 24) (.tmp 25) 24 9 rfl w.heap.size 5 i Tryd.underlying24 Tryd.underlying9 hi hz hsize hby _ (E.length + (prS k).size + 2) _ rfl HO4.out ⟨([63] : List UInt8).toArray⟩ rfl (by unfold maxLen; rw [hTs]; omega) (by rw [hTs]; omega) (by omega) ?_; intro v5 w5 hO5 hG5 _; have HO5 := Lib.hid hO5; have hB5 := below_grownV hB4 hB4.size HO4.out hG5; have hz5 := hB5.size; clear hO5 hG5)) | (at_builtin; (refine wpList_append_row1 rfl (.tmp 27) (.tmp 28) 24 rfl w.heap.size 5 i (.int .u8 0) 1 Tryd.underlying24 hi hz hsize hby rfl _ (E.length + (prS k).size + 2 + (⟨([63] : List UInt8).toArray⟩ : ByteArray).size) _ rfl (HO5.out.alloc _) _ 1 (fun _ => .int .u8 10) rfl (RowAt.new _ _ _ _ _ 1 1 (by omega) (by omega) (by omega) (fun i hi => by obtain rfl : i = 0 := (by omega); rfl)) (fun _ _ => rfl) (by unfold maxLen; rw [hTs]; omega) (by rw [hTs]; omega) (by rw [World.size_alloc]; omega) ?_; intro v6 w6 hO6 hG6; have HO6 := Lib.hid hO6; have hB6 := below_grownV (hB5.alloc (by omega) _) (by rw [World.size_alloc]; omega) (HO5.out.alloc _) hG6; clear hO6 hG6)) | fail)
        go_roundw
        case rel => exact ⟨k + 1, by omega, by simp, Lib.hid (own_eq HO6.out (by rw [hsu.out, List.length_append, rowT_len hrw.out]; simp [hps]; try omega) (by rw [hsu.out, rowT_eq hrw.out]; exact txt_val E k _)), hB6⟩
        case measure => first | (simp [intOf]; done) | (simp [intOf]; omega)
      · have hrw := Lib.hid (lnL_yes hem)
        have hie : (oLl x.1 x.2.1 x.2.2).isEmpty = false := by simpa using hem
        generalize oLl x.1 x.2.1 x.2.2 = t at *
        have hTs : (⟨t.toArray⟩ : ByteArray).size = t.length := List.size_toArray
        clear hem
        go_wp2_with fail
        refine (hLn _ (hT.below (by (repeat' (first | (with_reducible exact Below.refl _ _) | (with_reducible assumption) | (with_reducible refine more_below ?_ ?_ _ _) | (with_reducible refine below_drewN ?_ _) | (with_reducible refine Below.alloc ?_ ?_ _) | (with_reducible refine Below.drew ?_) | (with_reducible refine Below.setCell ?_ ?_ _) | (simp only [World.size_alloc, World.size_setCell, World.size_drew, more_size, World.heap_drewN]; omega) | go_size))))).mono ?_; rintro e W1 ⟨rfl, hb1⟩
        have hbr : Below wr.heap.size wr W1 := Below.trans (by (repeat' (first | (with_reducible exact Below.refl _ _) | (with_reducible assumption) | (with_reducible refine below_drewN ?_ _) | (with_reducible refine Below.alloc ?_ ?_ _) | (with_reducible refine Below.drew ?_) | (with_reducible refine Below.setCell ?_ ?_ _) | go_size))) (hb1.mono (by simp))
        have hO1 := Lib.hid (owns_below hO.out hbr)
        have hB1 : Below w.heap.size w W1 := Below.trans hB (hbr.mono hz')
        clear hb1 hbr hO
        go_wp2_with fail
        refine (num_Print k (by omega) _).mono ?_; rintro e W2 ⟨rfl, hb2⟩
        have HO2 := Lib.hid (owns_below hO1.out hb2)
        have hB2 := hB1.trans (hb2.mono hB1.size)
        have hz2 := hB2.size
        clear hO1 hb2
        go_wp2_with (first | (at_builtin; (refine Lib.wpList_append_own_string _ rfl (.tmp 18) (.tmp 20) 24 9 rfl w.heap.size 5 i Tryd.underlying24 Tryd.underlying9 hi hz hsize hby _ E.length _ rfl HO2.out (prS k) rfl (by unfold maxLen; omega) (by omega) (by omega) ?_; intro v3 w3 hO3 hG3 _; have HO3 := Lib.hid hO3; have hB3 := below_grownV hB2 hB2.size HO2.out hG3; have hz3 := hB3.size; clear hO3 hG3)) | (at_builtin; (refine Lib.wpList_append_own_string _ rfl (.tmp 22) _ 24 9 rfl w.heap.size 5 i Tryd.underlying24 Tryd.underlying9 hi hz hsize hby _ (E.length + (prS k).size) _ rfl HO3.out ⟨#[58, 32]⟩ rfl (by unfold maxLen; rw [h2s]; omega) (by rw [h2s]; omega) (by omega) ?_; intro v4 w4 hO4 hG4 _; rw [h2s] at hO4; have HO4 := Lib.hid hO4; have hB4 := below_grownV hB3 hB3.size HO3.out hG4; have hz4 := hB4.size; clear hO4 hG4)) | (at_builtin; (refine Lib.wpList_append_own_string _ rfl (.tmp 24) (.tmp 25) 24 9 rfl w.heap.size 5 i Tryd.underlying24 Tryd.underlying9 hi hz hsize hby _ (E.length + (prS k).size + 2) _ rfl HO4.out ⟨t.toArray⟩ rfl (by unfold maxLen; rw [hTs]; omega) (by rw [hTs]; omega) (by omega) ?_; intro v5 w5 hO5 hG5 _; have HO5 := Lib.hid hO5; have hB5 := below_grownV hB4 hB4.size HO4.out hG5; have hz5 := hB5.size; clear hO5 hG5)) | (at_builtin; (refine wpList_append_row1 rfl (.tmp 27) (.tmp 28) 24 rfl w.heap.size 5 i (.int .u8 0) 1 Tryd.underlying24 hi hz hsize hby rfl _ (E.length + (prS k).size + 2 + (⟨t.toArray⟩ : ByteArray).size) _ rfl (HO5.out.alloc _) _ 1 (fun _ => .int .u8 10) rfl (RowAt.new _ _ _ _ _ 1 1 (by omega) (by omega) (by omega) (fun i hi => by obtain rfl : i = 0 := (by omega); rfl)) (fun _ _ => rfl) (by unfold maxLen; rw [hTs]; omega) (by rw [hTs]; omega) (by rw [World.size_alloc]; omega) ?_; intro v6 w6 hO6 hG6; have HO6 := Lib.hid hO6; have hB6 := below_grownV (hB5.alloc (by omega) _) (by rw [World.size_alloc]; omega) (HO5.out.alloc _) hG6; clear hO6 hG6)) | fail)
        go_roundw
        case rel => exact ⟨k + 1, by omega, by simp, Lib.hid (own_eq HO6.out (by rw [hsu.out, List.length_append, rowT_len hrw.out]; simp [hps]; try omega) (by rw [hsu.out, rowT_eq hrw.out]; exact txt_val E k _)), hB6⟩
        case measure => first | (simp [intOf]; done) | (simp [intOf]; omega)
    · obtain rfl : k = N := by omega
      have hrow := owns_bytes hO.out rfl
      have hcv := conv_row (P := Tryd.prog) (src := 24) (dst := 9) (e := 5) Tryd.underlying24 Tryd.underlying5 Tryd.underlying9 hrow
      clear hrow hO
      go_wp2_with fail
      go_ret
      exact ⟨rfl, hB⟩
theorem ba_txt (E : List UInt8) (k : Nat) (t : List UInt8) : (⟨E.toArray⟩ : ByteArray) ++ prS k ++ ⟨#[58, 32]⟩ ++ ⟨t.toArray⟩ ++ ⟨#[10]⟩ = ⟨(E ++ (pr k ++ ([58, 32] ++ (t ++ [10])))).toArray⟩ := by
  apply ByteArray.ext
  simp [prS]
set_option maxHeartbeats 4000000 in
theorem ref13_Text (v : Value) (L : List Ins) (w : World) (hv : RowR 3 insR w v L) (hn : L.length ≤ 500) :
    Calls Tryd.prog 10 #[v] w fun e w' => e = .returned (.string ⟨(txt L L.length).toArray⟩) ∧ Below w.heap.size w w' := by
  have hLL : ∀ x ∈ L, I64 x.2.1 ∧ I64 x.2.2 := by
    intro x hx
    obtain ⟨k, hk, rfl⟩ := List.getElem_of_mem hx
    obtain ⟨sa, cap, rfl⟩ := ins_get hv
    obtain ⟨b, off, rfl, hbw, hc⟩ := ins_at hv (k := k) hk
    have := hc k L[k] (by simp [hk])
    exact ⟨this.2.2.2.2.1, this.2.2.2.2.2⟩
  have hTL := txt_len hLL
  obtain ⟨sa, cap, rfl⟩ := ins_get hv
  clear hLL
  generalize hN : L.length = N at *
  go_enter Tryd.func10, Tryd.ntmps10
  go_wp2_with fail
  go_loopw [3, 4] (fun o j wr => ∃ k : Nat, k ≤ N ∧ j = .int .i64 k ∧ o = .string ⟨(txt L k).toArray⟩ ∧ Below w.heap.size w wr) (fun _ j _ => N - (intOf j).toNat)
  case atStart => exact ⟨0, by omega, rfl, rfl, Below.refl _ _⟩
  case round =>
    obtain ⟨k, hk, rfl, rfl, hB⟩ := hrel
    have hz' := hB.size
    have htl := hTL k (by omega) (by omega)
    by_cases hlt : k < N
    · obtain ⟨b, off, rfl, hbw, hc⟩ := ins_at hv (k := k) (by omega)
      obtain ⟨x, hx⟩ : ∃ x, L[k]? = some x := ⟨L[k]'(by omega), by simp [hN, hlt]⟩
      obtain ⟨c0, c1, c2, w0, w1, w2⟩ := hc k x hx
      have c0 := (hB.cell (p := ⟨b, off + k * 3, none⟩) hbw).trans c0
      have c1 := (hB.cell (p := ⟨b, off + k * 3 + 1, none⟩) hbw).trans c1
      have c2 := (hB.cell (p := ⟨b, off + k * 3 + 2, none⟩) hbw).trans c2
      have hsu := Lib.hid (txt_succ hx)
      have hLn := @ref12_Line x.1 x.2.1 x.2.2 w1 w2
      rw [oLine_ba] at hLn
      have hll := oLl_len (o := x.1) w1 w2
      have hps : (prS k).size = (pr k).length := List.size_toArray
      have hpz := pr_sz k (by omega)
      clear hc hx hTL
      generalize hee : txt L k = E at *
      have HE := Lib.hid hee
      clear hee
      by_cases hem : oLl x.1 x.2.1 x.2.2 = []
      · have hrw := Lib.hid (lnL_no hem)
        have hba := Lib.hid (ba_txt E k [63])
        rw [hem] at hLn
        clear hem hll
        go_wp2_with fail
        refine (hLn _).mono ?_; rintro e W1 ⟨rfl, hb1⟩
        have hB1 : Below w.heap.size w W1 := Below.trans hB (hb1.mono hz')
        clear hb1
        go_wp2_with fail
        refine (ref04_Print k (by omega) _).mono ?_; rintro e W2 ⟨rfl, rfl⟩
        go_wp2_with fail
        go_roundw
        case rel => exact ⟨k + 1, by omega, by simp, by rw [hsu.out, rowT_eq hrw.out, ← hba.out], hB1⟩
        case measure => first | (simp [intOf]; done) | (simp [intOf]; omega)
      · have hrw := Lib.hid (lnL_yes hem)
        have hie : (oLl x.1 x.2.1 x.2.2).isEmpty = false := by simpa using hem
        generalize oLl x.1 x.2.1 x.2.2 = t at *
        have hba := Lib.hid (ba_txt E k t)
        clear hem
        go_wp2_with fail
        refine (hLn _).mono ?_; rintro e W1 ⟨rfl, hb1⟩
        have hB1 : Below w.heap.size w W1 := Below.trans hB (hb1.mono hz')
        clear hb1
        go_wp2_with fail
        refine (ref04_Print k (by omega) _).mono ?_; rintro e W2 ⟨rfl, rfl⟩
        go_wp2_with fail
        go_roundw
        case rel => exact ⟨k + 1, by omega, by simp, by rw [hsu.out, rowT_eq hrw.out, ← hba.out], hB1⟩
        case measure => first | (simp [intOf]; done) | (simp [intOf]; omega)
    · obtain rfl : k = N := by omega
      go_wp2_with fail
      go_ret
      exact ⟨rfl, hB⟩
end Go.Proofs.YtaeaiaamhgcmbaaDoor
