/- Layer 13: instructions as bytes: Encode of both sides. -/
import Derived.Test.YtpeogdbfhfkngaaDoorCodePure
import Derived.Test.YtpeogdbfhfkngaaDoorOctetRef
import Derived.Test.YtpeogdbfhfkngaaDoorCThree
import Derived.Test.YtpeogdbfhfkngaaDoorSeq
import Derived.LoopTactic
import Derived.Test.YtpeogdbfhfkngaaDoorHeldMore
import Derived.OwnWalk
namespace Go.Proofs.YtpeogdbfhfkngaaDoor
open Go.RowKit
set_option linter.unusedSimpArgs false
set_option linter.unusedVariables false
def encO (L : List Ins) : List UInt8 := if L.all rI then enc L else []
theorem encO_yes {L : List Ins} (h : L.all rI = true) : encO L = enc L := if_pos h
theorem encO_no {L : List Ins} (h : L.all rI = false) : encO L = [] := by unfold encO; rw [h]; exact if_neg (by decide)
theorem all_take_no {L : List Ins} {k : Nat} {x : Ins} (hx : L[k]? = some x) (h : rI x = false) : L.all rI = false := by
  rw [Bool.eq_false_iff]; intro ha
  rw [List.all_eq_true] at ha
  have := ha x (List.mem_of_getElem? hx)
  rw [h] at this; cases this
theorem owns_make (w : World) (Z : Array Value) (e : TypeId) (q m : Nat) (hZ : Z.size = m * q) (hm : m ≤ maxLen) : (w.alloc (.cells Z e)).ownsRow w.heap.size e q (.slice (some ⟨w.heap.size, 0, none⟩) 0 m) 0 [] := by
  refine ⟨by simp, Or.inr ⟨w.heap.size, m, Z, rfl, Nat.le_refl _, ?_, by omega, hm, hZ, by simp⟩⟩
  show (w.heap.push _)[w.heap.size]? = _
  simp
theorem ins_get {w : World} {v : Value} {L : List Ins} (hv : RowR 3 insR w v L) : ∃ a cap, v = .slice a L.length cap := by
  rcases hv with ⟨a, cap, rfl, rfl, _⟩ | ⟨b, off, cap, h1, _⟩
  · exact ⟨a, cap, rfl⟩
  · exact ⟨_, cap, h1⟩
theorem ins_at {w : World} {a : Option Addr} {n cap : Nat} {L : List Ins} (hv : RowR 3 insR w (.slice a n cap) L) {k : Nat} (hk : k < L.length) : ∃ b off, a = some ⟨b, off, none⟩ ∧ b < w.heap.size ∧ ∀ i x, L[i]? = some x → w.cell? ⟨b, off + i * 3, none⟩ = some (.int .i64 x.1) ∧ w.cell? ⟨b, off + i * 3 + 1, none⟩ = some (.int .i64 x.2.1) ∧ w.cell? ⟨b, off + i * 3 + 2, none⟩ = some (.int .i64 x.2.2) ∧ I64 x.1 ∧ I64 x.2.1 ∧ I64 x.2.2 := by
  rcases hv with ⟨a, cap, h, rfl, _⟩ | ⟨b, off, cap, h1, _, _, _, h5, h6⟩
  · simp at hk
  · have e : a = some ⟨b, off, none⟩ := by injection h1
    exact ⟨b, off, e, h5, fun i x hx => ins_cells h6 hx⟩
theorem bytesV_app (a b : List UInt8) : bytesV (a ++ b) = bytesV a ++ bytesV b := by simp [bytesV]
theorem byte_o (o : Int) : (((byteAt o 0).toNat : Int)) = o % 256 := by rw [byteAt_val]; simp
theorem owns_bytes {w : World} {B : Nat} {e : TypeId} {r : Value} {n : Nat} {L : List UInt8} (h : w.ownsRow B e 1 r n (bytesV L)) (hn : n = L.length) : RowAt w r L.length (byteV L) := by
  subst hn
  exact RowAt.owns h (fun i hi => byteV_at hi)
theorem own_eq {w : World} {B : Nat} {e : TypeId} {q : Nat} {r : Value} {n m : Nat} {xs ys : List Value} (h : w.ownsRow B e q r n xs) (h1 : n = m) (h2 : xs = ys) : w.ownsRow B e q r m ys := by
  subst h1; subst h2; exact h
theorem map_bytesV (l : List UInt8) : (List.range l.length).map (byteV l) = bytesV l := map_byteV l
theorem enc_val (E : List UInt8) (x : Ins) (h : 0 ≤ x.1 ∧ x.1 ≤ 37) : bytesV E ++ (List.range 1).map (fun _ => Value.int .u8 x.1) ++ bytesV (putL 2 x.2.1 ++ putL 2 x.2.2) = bytesV (E ++ encI x) := by
  have h1 : ((byteAt x.1 0).toNat : Int) = x.1 := by rw [byte_o, Int.emod_eq_of_lt h.1 (by omega)]
  unfold encI
  rw [show E ++ (byteAt x.1 0 :: (putL 2 x.2.1 ++ putL 2 x.2.2)) = (E ++ [byteAt x.1 0]) ++ (putL 2 x.2.1 ++ putL 2 x.2.2) by simp, bytesV_app (E ++ [byteAt x.1 0]), bytesV_snoc, h1]
  rfl
set_option maxHeartbeats 4000000 in
theorem code_Encode (v : Value) (L : List Ins) (w : World) (hT : STab w) (hv : RowR 3 insR w v L) (hn : L.length ≤ 1000) :
    Calls Tryd.prog 21 #[v] w fun e w' => ∃ r, e = .returned (.tuple #[r, .bool (L.all rI)]) ∧ RowAt w' r (encO L).length (byteV (encO L)) ∧ Below w.heap.size w w' := by
  obtain ⟨i, hi, hz, hsize, hby⟩ : ∃ i, Tryd.prog.info? 5 = some i ∧ i.zero = some (.int .u8 0) ∧ i.size = 1 ∧ i.bytes = 1 := ⟨(Tryd.prog.info? 5).get!, by kernel_rfl, by kernel_rfl, by kernel_rfl, by kernel_rfl⟩
  obtain ⟨sa, cap, rfl⟩ := ins_get hv
  have hmk := run_make w 28 5 i _ Tryd.underlying28 hi hz .i64 .i64 (0 : Int) (5 * (L.length : Int)) (by omega) (by omega) (by rw [hby]; omega) (by omega)
  rw [hsize, Nat.mul_one, show ((0 : Int)).toNat = 0 from rfl, show (5 * (L.length : Int)).toNat = 5 * L.length by omega] at hmk
  obtain ⟨Z, hZ⟩ : ∃ Z, madeCells (Value.int .u8 0).cells (5 * L.length) = Z := ⟨_, rfl⟩
  have hZs : Z.size = 5 * L.length * 1 := by rw [← hZ]; simp [madeCells]
  rw [hZ] at hmk
  have hO0 := Lib.hid (owns_make w Z 5 1 (5 * L.length) hZs (by unfold maxLen; omega))
  have hB0 : Below w.heap.size w (w.alloc (.cells Z 5)) := (Below.refl _ _).alloc (Nat.le_refl _) _
  have hw5 : IntKind.i64.wrap (5 * (L.length : Int)) = 5 * (L.length : Int) := IntWalk.i64_in _ (by omega)
  clear hZ hZs
  have HY := Lib.hid (encO_yes (L := L))
  have HN := Lib.hid (encO_no (L := L))
  have cp := @cell_past
  generalize hN : L.length = N at *
  go_enter Tryd.func21, Tryd.ntmps21
  go_wp2_with fail
  go_loopw [4, 13] (fun o j wr => ∃ k : Nat, k ≤ N ∧ j = .int .i64 k ∧ Hid ((L.take k).all rI = true) ∧ Hid (wr.ownsRow w.heap.size 5 1 o (enc (L.take k)).length (bytesV (enc (L.take k)))) ∧ Below w.heap.size w wr) (fun _ j _ => N - (intOf j).toNat)
  case atStart => exact ⟨0, by omega, rfl, Lib.hid (by simp), Lib.hid hO0.out, hB0⟩
  case round =>
    obtain ⟨k, hk, rfl, hall, hO, hB⟩ := hrel
    have hz' := hB.size
    by_cases hlt : k < N
    · obtain ⟨b, off, rfl, hbw, hc⟩ := ins_at hv (k := k) (by omega)
      obtain ⟨x, hx⟩ : ∃ x, L[k]? = some x := ⟨L[k]'(by omega), by simp [hN, hlt]⟩
      obtain ⟨c0, c1, c2, w0, w1, w2⟩ := hc k x hx
      have c0 := (hB.cell (p := ⟨b, off + k * 3, none⟩) hbw).trans c0
      have c1 := (hB.cell (p := ⟨b, off + k * 3 + 1, none⟩) hbw).trans c1
      have c2 := (hB.cell (p := ⟨b, off + k * 3 + 2, none⟩) hbw).trans c2
      have hlen : (enc (L.take k)).length = 5 * k := by rw [enc_len, List.length_take, hN]; rw [Nat.min_eq_left (by omega)]
      have hts := Lib.hid (take_snoc hx)
      have hR := op_RightS x.1 x.2.1 x.2.2
      have hno := Lib.hid (all_take_no hx)
      have hxr : oRight x.1 x.2.1 x.2.2 = rI x := rfl
      rw [hxr] at hR
      have hI := Lib.hid (rI_in (x := x))
      clear hc hxr
      cases hr : rI x
      · have hal := hno.out hr
        have hen := Lib.hid (HN.out hal)
        have HAL := Lib.hid hal
        rw [hr] at hR
        clear hal hall hO hts hx
        go_wp2_with fail
        refine (hR _ (hT.below (by (repeat' (first | (with_reducible exact Below.refl _ _) | (with_reducible assumption) | (with_reducible refine more_below ?_ ?_ _ _) | (with_reducible refine below_drewN ?_ _) | (with_reducible refine Below.alloc ?_ ?_ _) | (with_reducible refine Below.drew ?_) | (with_reducible refine Below.setCell ?_ ?_ _) | (simp only [World.size_alloc, World.size_setCell, World.size_drew, more_size, World.heap_drewN]; omega) | go_size))))).mono ?_; rintro e W1 ⟨rfl, hb1⟩
        have hB1 : Below w.heap.size w W1 := Below.trans (by (repeat' (first | (with_reducible exact Below.refl _ _) | (with_reducible assumption) | (with_reducible refine more_below ?_ ?_ _ _) | (with_reducible refine below_drewN ?_ _) | (with_reducible refine Below.alloc ?_ ?_ _) | (with_reducible refine Below.drew ?_) | (with_reducible refine Below.setCell ?_ ?_ _) | (simp only [World.size_alloc, World.size_setCell, World.size_drew, more_size, World.heap_drewN]; omega) | go_size))) (hb1.mono (by simp; omega))
        go_wp2_with fail
        go_returns
        exact ⟨.slice none 0 0, by rw [HAL.out]; rfl, by rw [hen.out]; exact Or.inl ⟨none, 0, rfl, rfl, fun _ => rfl⟩, hB1⟩
      · rw [hr] at hR
        obtain ⟨i0, i1, i2⟩ := hI.out hr
        have hx2 := Lib.hid hx
        clear hx hI
        generalize hee : enc (L.take k) = E at *
        have HE := Lib.hid hee
        clear hee
        go_wp2_with fail
        refine (hR _ (hT.below (by (repeat' (first | (with_reducible exact Below.refl _ _) | (with_reducible assumption) | (with_reducible refine more_below ?_ ?_ _ _) | (with_reducible refine below_drewN ?_ _) | (with_reducible refine Below.alloc ?_ ?_ _) | (with_reducible refine Below.drew ?_) | (with_reducible refine Below.setCell ?_ ?_ _) | (simp only [World.size_alloc, World.size_setCell, World.size_drew, more_size, World.heap_drewN]; omega) | go_size))))).mono ?_; rintro e W1 ⟨rfl, hb1⟩
        have hbn : Below wr.heap.size wr W1 := Below.trans (by (repeat' (first | (with_reducible exact Below.refl _ _) | (with_reducible assumption) | (with_reducible refine below_drewN ?_ _) | (with_reducible refine Below.alloc ?_ ?_ _) | (with_reducible refine Below.drew ?_) | (with_reducible refine Below.setCell ?_ ?_ _) | go_size))) (hb1.mono (by simp))
        have hO1 := Lib.hid (owns_below hO.out hbn)
        have hB1 : Below w.heap.size w W1 := Below.trans hB (hbn.mono hz')
        have e1 := C3.new wr x.1 x.2.1 x.2.2 _ (by simpa using hb1)
        have hz1 : wr.heap.size < W1.heap.size := by have := hb1.size; simp at this; omega
        obtain ⟨k0, k1, k2⟩ := e1
        have hOr := hO
        clear hb1 c0 c1 c2 hO
        go_wp2_with (first | (at_builtin; refine wpList_append_row1_at rfl (.tmp 20) (.tmp 24) 28 rfl w.heap.size 5 i (.int .u8 0) 1 Tryd.underlying28 hi hz hsize hby rfl _ E.length _ rfl (hO1.out.alloc _) _ 1 (fun _ => .int .u8 x.1) rfl (RowAt.new _ _ _ _ _ 1 1 (by omega) (by omega) (by omega) (fun i hi => by obtain rfl : i = 0 := (by omega); rfl)) (by omega) (fun _ _ => rfl) (by unfold maxLen; omega) (by omega) (by rw [World.size_alloc]; omega) ?_; intro v2 w2 hO2 hG2 hat2; have HO2 := Lib.hid hO2; have hB2 := below_grownV (hB1.alloc (by omega) _) (by rw [World.size_alloc]; omega) (hO1.out.alloc _) hG2; have hG := Lib.hid hG2; clear hO2 hG2) | fail)
        have c2 : C3 w2 wr.heap.size x.1 x.2.1 x.2.2 := ⟨(grown_cell hG.out (own_ne hOr.out (Nat.le_refl _)) (by simp; omega)).trans ((cell_past hz1).trans k0), (grown_cell hG.out (own_ne hOr.out (Nat.le_refl _)) (by simp; omega)).trans ((cell_past hz1).trans k1), (grown_cell hG.out (own_ne hOr.out (Nat.le_refl _)) (by simp; omega)).trans ((cell_past hz1).trans k2)⟩
        have z2 : wr.heap.size < w2.heap.size := by have := hG.out.size; simp at this; omega
        have hne : v2.ownBlock ≠ some wr.heap.size := by
          rcases hat2 with h | h
          · rw [h]; exact own_ne hOr.out (Nat.le_refl _)
          · rw [h]; simp; omega
        clear hG hOr k0 k1 k2 hat2
        have hn8 : (near8 2).toNat = 2 := by decide
        refine wp_region_held_drew (S := (fun w' => Below w.heap.size w w' ∧ C3 w' wr.heap.size x.1 x.2.1 x.2.2 ∧ wr.heap.size < w'.heap.size)) (by kernel_rfl) ?_ (fun hHeld => ?_)
        · (try dsimp only); first | exact ⟨hB2.drew, c2, z2⟩ | exact hHeld | (trace_state; fail)
        refine wpAnyH_take (i := 0) (oi := { dst := some 26, op := Op.move (Operand.tmp 4), type := 28, pos := _, after := #[], guard := none }) (v := ?_) rfl (by kernel_rfl) (by kernel_rfl) (by kernel_rfl) (fun _ _ _ h => h) (Or.inl ⟨by rfl, ?_⟩) (by assumption) ?_
        rotate_left
        · intro w hSw; (try dsimp only at hSw); first | (go_simp; done) | (go_simp; with_reducible rfl)
        try simp only [Act.put, List.setIfInBounds_toArray, List.set_cons_zero, List.set_cons_succ]
        refine wpAnyH_take (i := 1) (oi := { dst := some 27, op := Op.fieldAddr 40 (Operand.tmp 6) 1, type := 0, pos := _, after := #[], guard := none }) (v := ?_) rfl (by kernel_rfl) (by kernel_rfl) (by kernel_rfl) (fun _ _ _ h => h) (Or.inl ⟨by rfl, ?_⟩) (by assumption) ?_
        rotate_left
        · intro w hSw; (try dsimp only at hSw); first | (go_simp; done) | (go_simp; with_reducible rfl)
        try simp only [Act.put, List.setIfInBounds_toArray, List.set_cons_zero, List.set_cons_succ]
        refine wpAnyH_take (i := 2) (oi := { dst := some 28, op := Op.load 3 (Operand.tmp 27), type := 3, pos := _, after := #[{ on := 1, ground := Ground.data }], guard := none }) (v := ?_) rfl (by kernel_rfl) (by kernel_rfl) (by kernel_rfl) (fun _ _ _ h => h) (Or.inl ⟨by rfl, ?_⟩) (by assumption) ?_
        rotate_left
        · intro wt hSw; (try dsimp only at hSw); obtain ⟨_, ⟨q0, q1, q2⟩, _⟩ := hSw; first | (go_simp; done) | (go_simp; with_reducible rfl) | (trace_state; fail)
        try simp only [Act.put, List.setIfInBounds_toArray, List.set_cons_zero, List.set_cons_succ]
        refine wpAnyH_take (i := 4) (oi := { dst := some 30, op := Op.fieldAddr 40 (Operand.tmp 6) 2, type := 0, pos := _, after := #[], guard := none }) (v := ?_) rfl (by kernel_rfl) (by kernel_rfl) (by kernel_rfl) (fun _ _ _ h => h) (Or.inl ⟨by rfl, ?_⟩) (by assumption) ?_
        rotate_left
        · intro w hSw; (try dsimp only at hSw); first | (go_simp; done) | (go_simp; with_reducible rfl)
        try simp only [Act.put, List.setIfInBounds_toArray, List.set_cons_zero, List.set_cons_succ]
        refine wpAnyH_take (i := 5) (oi := { dst := some 31, op := Op.load 3 (Operand.tmp 30), type := 3, pos := _, after := #[{ on := 4, ground := Ground.data }], guard := none }) (v := ?_) rfl (by kernel_rfl) (by kernel_rfl) (by kernel_rfl) (fun _ _ _ h => h) (Or.inl ⟨by rfl, ?_⟩) (by assumption) ?_
        rotate_left
        · intro wt hSw; (try dsimp only at hSw); obtain ⟨_, ⟨q0, q1, q2⟩, _⟩ := hSw; first | (go_simp; done) | (go_simp; with_reducible rfl) | (trace_state; fail)
        try simp only [Act.put, List.setIfInBounds_toArray, List.set_cons_zero, List.set_cons_succ]
        refine wpAnyH_ready (rs := [3]) (by kernel_rfl) (by simp) ?_
        refine AllReadyH.cons (o := { dst := some 29, op := Op.call { callee := Callee.value (Operand.func 20), args := #[Operand.const (Value.slice none 0 0), Operand.const (Value.int IntKind.i64 2), Operand.tmp 28], argTypes := #[28, 3, 3] }, type := 28, pos := _, after := #[{ on := 2, ground := Ground.data }], guard := none }) rfl (fun K hK => ?_) AllReadyH.nil
        go_simp
        refine (octet_Put (.slice none 0 0) [] 2 x.2.1 _ (Or.inl ⟨none, 0, rfl, rfl, fun _ => rfl⟩) (by simp)).mono ?_; rintro e wa ⟨r1, rfl, hr1, hba⟩; rw [hn8] at hr1; have HOa := Lib.hid (owns_below (w := World.drew w2) HO2.out hba); have HR1 := Lib.hid (owns_bytes (L := putL 2 x.2.1) (by simpa using hr1) (by simp [putL_len])); clear hr1
        go_wp2_with fail
        refine hK.out _ _ ?_ (fun hHeld => ?_)
        · (try dsimp only); exact ⟨hHeld.1.trans (hba.mono hHeld.1.size), hHeld.2.1.keep hHeld.2.2 hba, Nat.lt_of_lt_of_le hHeld.2.2 hba.size⟩
        clear hK K
        try simp only [Act.put, List.setIfInBounds_toArray, List.set_cons_zero, List.set_cons_succ]
        refine wpAnyH_ready (rs := [6]) (by kernel_rfl) (by simp) ?_
        refine AllReadyH.cons (o := { dst := some 32, op := Op.call { callee := Callee.value (Operand.func 20), args := #[Operand.tmp 29, Operand.const (Value.int IntKind.i64 2), Operand.tmp 31], argTypes := #[28, 3, 3] }, type := 28, pos := _, after := #[{ on := 3, ground := Ground.data }, { on := 5, ground := Ground.data }, { on := 3, ground := Ground.chain }], guard := none }) rfl (fun K hK => ?_) AllReadyH.nil
        go_simp
        refine (octet_Put r1 (putL 2 x.2.1) 2 x.2.2 _ HR1.out (by rw [putL_len]; omega)).mono ?_; rintro e wb ⟨r2, rfl, hr2, hbb⟩; rw [hn8] at hr2; have HOb := Lib.hid (owns_below HOa.out hbb); have HR2 := Lib.hid (owns_bytes (L := putL 2 x.2.1 ++ putL 2 x.2.2) hr2 (by simp [putL_len])); clear hr2
        go_wp2_with fail
        refine hK.out _ _ ?_ (fun hHeld => ?_)
        · (try dsimp only); exact ⟨hHeld.1.trans (hbb.mono hHeld.1.size), hHeld.2.1.keep hHeld.2.2 hbb, Nat.lt_of_lt_of_le hHeld.2.2 hbb.size⟩
        clear hK K
        try simp only [Act.put, List.setIfInBounds_toArray, List.set_cons_zero, List.set_cons_succ]
        refine wpAnyH_ready (rs := [7]) (by kernel_rfl) (by simp) ?_
        refine AllReadyH.cons (o := { dst := some 33, op := Op.call { callee := Callee.builtin Builtin.append, args := #[Operand.tmp 26, Operand.tmp 32], argTypes := #[28, 28] }, type := 28, pos := _, after := #[{ on := 0, ground := Ground.data }, { on := 6, ground := Ground.data }, { on := 6, ground := Ground.chain }], guard := none }) rfl (fun K hK => ?_) AllReadyH.nil
        refine wp_append_row1 (.tmp 26) (.tmp 32) 28 rfl w.heap.size 5 i (.int .u8 0) 1 Tryd.underlying28 hi hz hsize hby rfl _ (E.length + 1) _ rfl HOb.out _ (putL 2 x.2.1 ++ putL 2 x.2.2).length (byteV (putL 2 x.2.1 ++ putL 2 x.2.2)) rfl HR2.out (by simp [putL_len]) (fun _ _ => rfl) (by unfold maxLen; simp only [List.length_append, putL_len]; omega) (by simp only [List.length_append, putL_len]; omega) (by exact hHeld.1.size) ?_; intro v3 w3 hO3 hG3; have HO3 := Lib.hid hO3; have hB3 := below_grownV hHeld.1 hHeld.1.size HOb.out hG3; clear hO3
        refine hK.out _ _ ?_ (fun hHeld => ?_)
        · (try dsimp only); exact ⟨hB3, ⟨(grown_cell hG3 hne hHeld.2.2).trans hHeld.2.1.1, (grown_cell hG3 hne hHeld.2.2).trans hHeld.2.1.2.1, (grown_cell hG3 hne hHeld.2.2).trans hHeld.2.1.2.2⟩, Nat.lt_of_lt_of_le hHeld.2.2 hG3.size⟩
        clear hK K
        try simp only [Act.put, List.setIfInBounds_toArray, List.set_cons_zero, List.set_cons_succ]
        refine wpAnyH_take (i := 8) (oi := { dst := some 4, op := Op.assign (Operand.tmp 33), type := 28, pos := _, after := #[{ on := 7, ground := Ground.data }, { on := 7, ground := Ground.chain }, { on := 0, ground := Ground.phase }, { on := 1, ground := Ground.phase }, { on := 2, ground := Ground.phase }, { on := 3, ground := Ground.phase }, { on := 4, ground := Ground.phase }, { on := 5, ground := Ground.phase }, { on := 6, ground := Ground.phase }, { on := 7, ground := Ground.phase }], guard := none }) (v := ?_) rfl (by kernel_rfl) (by kernel_rfl) (by kernel_rfl) (fun _ _ _ h => h) (Or.inl ⟨by rfl, ?_⟩) (by assumption) ?_
        rotate_left
        · intro w hSw; (try dsimp only at hSw); first | (go_simp; done) | (go_simp; with_reducible rfl)
        try simp only [Act.put, List.setIfInBounds_toArray, List.set_cons_zero, List.set_cons_succ]
        refine wpAnyH_done (by kernel_rfl) ?_ _
        go_wp2_with fail
        go_roundw
        case rel => exact ⟨k + 1, by omega, by simp, Lib.hid (by rw [hts.out, List.all_append, hall.out]; simp [hr]), Lib.hid (own_eq HO3.out (by rw [hts.out, enc_snoc, HE.out]; simp [encI, putL_len]; try omega) (by
          rw [hts.out, enc_snoc, HE.out, map_bytesV]; exact enc_val E x i0)), hB3⟩
        case measure => first | (simp [intOf]; done) | (simp [intOf]; omega)
    · obtain rfl : k = N := by omega
      have htk : L.take k = L := by rw [← hN, List.take_length]
      have h1 := hall.out
      have h2 := hO.out
      rw [htk] at h1 h2
      have h3 := Lib.hid (HY.out h1)
      have h4 := Lib.hid h2
      have h5 := Lib.hid h1
      clear hall hO h1 h2
      go_wp2_with fail
      go_returns
      refine ⟨_, by rw [h5.out]; rfl, ?_, hB⟩
      rw [h3.out]
      exact RowAt.owns h4.out (fun i hi => byteV_at hi)
end Go.Proofs.YtpeogdbfhfkngaaDoor
