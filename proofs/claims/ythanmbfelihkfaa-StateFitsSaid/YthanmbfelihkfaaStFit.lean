/- Layer 23: whether a state fits declarations, by both. -/
import Derived.Test.YthanmbfelihkfaaStRep
import Derived.Test.YthanmbfelihkfaaStRead
import Derived.Test.YthanmbfelihkfaaPgm
import Derived.Test.YthanmbfelihkfaaKind
import Derived.Test.YthanmbfelihkfaaKeep
namespace Go.Proofs.Ythanmbfelihkfaa
open Go.RowKit
set_option linter.unusedSimpArgs false
set_option linter.unusedVariables false
def fitRow (x : Vr) (l : List Int) : Bool := decide ((l.length : Int) = x.n) && l.all (kIn x.t)
def fitRows : List Vr → List (List Int) → Bool
  | x :: V, l :: R => fitRow x l && fitRows V R
  | _, _ => true
def headS (V : List Vr) (nb : Nat) (s : St) : Prop := s.vars.length = V.length ∧ s.blocks.length = nb ∧ 0 ≤ s.now ∧ s.now ≤ 1099511627776 ∧ 0 ≤ s.fault ∧ s.fault ≤ 3
def fitS (V : List Vr) (nb : Nat) (s : St) : Bool := @decide (headS V nb s) (by unfold headS; exact inferInstance) && fitRows V s.vars
theorem fitRows_at {V : List Vr} {R : List (List Int)} : ∀ {k : Nat} {x : Vr} {l : List Int}, V[k]? = some x → R[k]? = some l → fitRow x l = false → fitRows V R = false := by
  induction V generalizing R with
  | nil => intro k x l h; simp at h
  | cons y V ih =>
    intro k x l hx hl hf
    cases R with
    | nil => simp at hl
    | cons m R =>
      cases k with
      | zero =>
        obtain rfl : y = x := by simpa using hx
        obtain rfl : m = l := by simpa using hl
        simp [fitRows, hf]
      | succ k =>
        simp only [fitRows, Bool.and_eq_false_iff]
        exact Or.inr (ih (by simpa using hx) (by simpa using hl) hf)
theorem fitRows_take {V : List Vr} {R : List (List Int)} : ∀ {k : Nat} {x : Vr} {l : List Int}, V[k]? = some x → R[k]? = some l → fitRows (V.take k) R = true → fitRow x l = true → fitRows (V.take (k + 1)) R = true := by
  induction V generalizing R with
  | nil => intro k x l h; simp at h
  | cons y V ih =>
    intro k x l hx hl h1 h2
    cases R with
    | nil => simp at hl
    | cons m R =>
      cases k with
      | zero =>
        obtain rfl : y = x := by simpa using hx
        obtain rfl : m = l := by simpa using hl
        simp [fitRows, h2]
      | succ k =>
        simp only [List.take_succ_cons, fitRows, Bool.and_eq_true] at h1 ⊢
        exact ⟨h1.1, ih (by simpa using hx) (by simpa using hl) h1.2 h2⟩
theorem kIn_all_no {t : Int} {l : List Int} {q : Nat} {z : Int} (hz : l[q]? = some z) (h : kIn t z = false) : l.all (kIn t) = false := List.all_eq_false.2 ⟨z, List.mem_of_getElem? hz, by simp [h]⟩
theorem fitS_head {V : List Vr} {nb : Nat} {s : St} (h : ¬ headS V nb s) : fitS V nb s = false := by unfold fitS; rw [@decide_eq_false _ (_) h]; rfl
theorem fitS_rows {V : List Vr} {nb : Nat} {s : St} (h : fitRows V s.vars = false) : fitS V nb s = false := by unfold fitS; rw [h, Bool.and_false]
theorem fitS_yes {V : List Vr} {nb : Nat} {s : St} (h : headS V nb s) (h2 : fitRows V s.vars = true) : fitS V nb s = true := by unfold fitS; rw [@decide_eq_true _ (_) h, h2]; rfl
set_option maxHeartbeats 4000000 in
theorem state_Fits (vv bv v b : Value) (V : List Vr) (nb : Nat) (s : St) (w : World) (hvv : RowR 5 varR w vv V) (hbv : ∃ a c, bv = .slice a nb c) (h : StAt w v b s) (hsh : shortS s = true) (hV : V.length ≤ 70) (hnb : nb ≤ 40) :
    Calls Try.prog 12 #[vv, bv, .agg #[v, b, .int .i64 s.now, .int .i64 s.fault]] w fun e w' => e = .returned (.bool (fitS V nb s)) ∧ Below w.heap.size w w' := by
  obtain ⟨s1, s2, s3⟩ : s.vars.length ≤ 100 ∧ s.blocks.length ≤ 100 ∧ ∀ l ∈ s.vars, l.length ≤ 100 := of_decide_eq_true hsh
  obtain ⟨ab, cb0, rfl⟩ := hbv
  have hv := h.vs
  obtain ⟨sv, cv, rfl⟩ := row_get hvv
  obtain ⟨sa, ca, rfl⟩ := row_get h.vs
  obtain ⟨sb, cb, rfl⟩ := row_get h.bs
  clear h
  obtain ⟨N, hN⟩ : ∃ N, V.length = N := ⟨_, rfl⟩
  obtain ⟨M, hM⟩ : ∃ N, s.vars.length = N := ⟨_, rfl⟩
  obtain ⟨BL, hBL⟩ : ∃ N, s.blocks.length = N := ⟨_, rfl⟩
  have HL := Lib.hid (And.intro hN (And.intro hM hBL))
  rw [hN] at hvv hV ⊢
  rw [hM] at hv s1 ⊢
  rw [hBL] at s2 ⊢
  clear hN hM hBL
  have cp := @cell_past
  by_cases h0 : M = N
  case neg =>
    have hno := Lib.hid (fitS_head (V := V) (nb := nb) (s := s) (fun g => h0 (by have := g.1; have := g.2.1; have := g.2.2.1; have := g.2.2.2.1; have := g.2.2.2.2.1; have := g.2.2.2.2.2; have := HL.out; omega)))
    have q0 : ((M : Int) != (N : Int)) = true := by rw [bne_iff_ne]; omega
    clear h0
    go_enter Try.func12, Try.ntmps12
    go_wp2_with fail
    go_ret
    exact ⟨by rw [hno.out]; rfl, by (repeat' (first | (with_reducible exact Below.refl _ _) | (with_reducible assumption) | (with_reducible refine below_drewN ?_ _) | (with_reducible refine Below.alloc ?_ ?_ _) | (with_reducible refine Below.drew ?_) | (with_reducible refine Below.setCell ?_ ?_ _) | go_size))⟩
  have q0 : ((M : Int) != (N : Int)) = false := by simp; omega
  by_cases h1 : BL = nb
  case neg =>
    have hno := Lib.hid (fitS_head (V := V) (nb := nb) (s := s) (fun g => h1 (by have := g.1; have := g.2.1; have := g.2.2.1; have := g.2.2.2.1; have := g.2.2.2.2.1; have := g.2.2.2.2.2; have := HL.out; omega)))
    have q1 : ((BL : Int) != (nb : Int)) = true := by rw [bne_iff_ne]; omega
    clear h1 h0
    go_enter Try.func12, Try.ntmps12
    go_wp2_with fail
    go_ret
    exact ⟨by rw [hno.out]; rfl, by (repeat' (first | (with_reducible exact Below.refl _ _) | (with_reducible assumption) | (with_reducible refine below_drewN ?_ _) | (with_reducible refine Below.alloc ?_ ?_ _) | (with_reducible refine Below.drew ?_) | (with_reducible refine Below.setCell ?_ ?_ _) | go_size))⟩
  have q1 : ((BL : Int) != (nb : Int)) = false := by simp; omega
  by_cases h2 : 0 ≤ s.now
  case neg =>
    have hno := Lib.hid (fitS_head (V := V) (nb := nb) (s := s) (fun g => h2 (by have := g.1; have := g.2.1; have := g.2.2.1; have := g.2.2.2.1; have := g.2.2.2.2.1; have := g.2.2.2.2.2; have := HL.out; omega)))
    have q2 : (s.now < 0) = True := eq_true (by omega)
    clear h2 h0 h1
    go_enter Try.func12, Try.ntmps12
    go_wp2_with fail
    go_ret
    exact ⟨by rw [hno.out]; rfl, by (repeat' (first | (with_reducible exact Below.refl _ _) | (with_reducible assumption) | (with_reducible refine below_drewN ?_ _) | (with_reducible refine Below.alloc ?_ ?_ _) | (with_reducible refine Below.drew ?_) | (with_reducible refine Below.setCell ?_ ?_ _) | go_size))⟩
  have q2 : (s.now < 0) = False := eq_false (by omega)
  by_cases h3 : s.now ≤ 1099511627776
  case neg =>
    have hno := Lib.hid (fitS_head (V := V) (nb := nb) (s := s) (fun g => h3 (by have := g.1; have := g.2.1; have := g.2.2.1; have := g.2.2.2.1; have := g.2.2.2.2.1; have := g.2.2.2.2.2; have := HL.out; omega)))
    have q3 : (1099511627776 < s.now) = True := eq_true (by omega)
    clear h3 h0 h1 h2
    go_enter Try.func12, Try.ntmps12
    go_wp2_with fail
    go_ret
    exact ⟨by rw [hno.out]; rfl, by (repeat' (first | (with_reducible exact Below.refl _ _) | (with_reducible assumption) | (with_reducible refine below_drewN ?_ _) | (with_reducible refine Below.alloc ?_ ?_ _) | (with_reducible refine Below.drew ?_) | (with_reducible refine Below.setCell ?_ ?_ _) | go_size))⟩
  have q3 : (1099511627776 < s.now) = False := eq_false (by omega)
  by_cases h4 : 0 ≤ s.fault
  case neg =>
    have hno := Lib.hid (fitS_head (V := V) (nb := nb) (s := s) (fun g => h4 (by have := g.1; have := g.2.1; have := g.2.2.1; have := g.2.2.2.1; have := g.2.2.2.2.1; have := g.2.2.2.2.2; have := HL.out; omega)))
    have q4 : (s.fault < 0) = True := eq_true (by omega)
    clear h4 h0 h1 h2 h3
    go_enter Try.func12, Try.ntmps12
    go_wp2_with fail
    go_ret
    exact ⟨by rw [hno.out]; rfl, by (repeat' (first | (with_reducible exact Below.refl _ _) | (with_reducible assumption) | (with_reducible refine below_drewN ?_ _) | (with_reducible refine Below.alloc ?_ ?_ _) | (with_reducible refine Below.drew ?_) | (with_reducible refine Below.setCell ?_ ?_ _) | go_size))⟩
  have q4 : (s.fault < 0) = False := eq_false (by omega)
  by_cases h5 : s.fault ≤ 3
  case neg =>
    have hno := Lib.hid (fitS_head (V := V) (nb := nb) (s := s) (fun g => h5 (by have := g.1; have := g.2.1; have := g.2.2.1; have := g.2.2.2.1; have := g.2.2.2.2.1; have := g.2.2.2.2.2; have := HL.out; omega)))
    have q5 : (3 < s.fault) = True := eq_true (by omega)
    clear h5 h0 h1 h2 h3 h4
    go_enter Try.func12, Try.ntmps12
    go_wp2_with fail
    go_ret
    exact ⟨by rw [hno.out]; rfl, by (repeat' (first | (with_reducible exact Below.refl _ _) | (with_reducible assumption) | (with_reducible refine below_drewN ?_ _) | (with_reducible refine Below.alloc ?_ ?_ _) | (with_reducible refine Below.drew ?_) | (with_reducible refine Below.setCell ?_ ?_ _) | go_size))⟩
  have q5 : (3 < s.fault) = False := eq_false (by omega)
  have hhead := Lib.hid (show headS V nb s from ⟨by have := HL.out; omega, by have := HL.out; omega, h2, h3, h4, h5⟩)
  obtain rfl : M = N := h0
  obtain rfl : BL = nb := h1
  clear h2 h3 h4 h5
  obtain ⟨Wb, hWb⟩ : ∃ Wb, Wb = w.alloc (.cells #[.slice sa M ca, .slice sb BL cb, .int .i64 s.now, .int .i64 s.fault] 31) := ⟨_, rfl⟩
  have hwb : Below w.heap.size w Wb := by rw [hWb]; exact by (repeat' (first | (with_reducible exact Below.refl _ _) | (with_reducible assumption) | (with_reducible refine below_drewN ?_ _) | (with_reducible refine Below.alloc ?_ ?_ _) | (with_reducible refine Below.drew ?_) | (with_reducible refine Below.setCell ?_ ?_ _) | go_size))
  have gs := C4.new w (.slice sa M ca) (.slice sb BL cb) (.int .i64 s.now) (.int .i64 s.fault) 31 (W' := Wb) (by rw [hWb]; exact by (repeat' (first | (with_reducible exact Below.refl _ _) | (with_reducible assumption) | (with_reducible refine below_drewN ?_ _) | (with_reducible refine Below.alloc ?_ ?_ _) | (with_reducible refine Below.drew ?_) | (with_reducible refine Below.setCell ?_ ?_ _) | go_size)))
  have zb : w.heap.size < Wb.heap.size := World.block_lt_of_cell? _ _ gs.1
  have HG := Lib.hid gs
  have HWB := Lib.hid hwb
  have HWb := Lib.hid hWb
  clear hWb gs hwb
  go_enter Try.func12, Try.ntmps12
  go_wp2_with fail
  rw [← HWb.out]
  go_loopw [47] (fun jj wr => ∃ (k : Nat), k ≤ M ∧ jj = .int .i64 k ∧ Hid (fitRows (V.take k) s.vars = true) ∧ Hid (Below Wb.heap.size Wb wr)) (fun jj _ => M - (intOf jj).toNat)
  case atStart => exact ⟨0, by omega, rfl, Lib.hid (by simp [fitRows]), Lib.hid (Below.refl _ _)⟩
  case round =>
    obtain ⟨k, hk, rfl, hall, hB⟩ := hrel
    have hB0 : Below w.heap.size w wr := HWB.out.trans (hB.out.mono HWB.out.size)
    by_cases hlt : k < M
    · obtain ⟨x, hx⟩ := get_some (L := V) (n := k) (by have := HL.out.1; omega)
      obtain ⟨bb, off, rfl, hbw, hc⟩ := var_at hvv (k := k) (lt_of_get hx)
      obtain ⟨c0, c1, c2, c3, c4, _, _, hn64, _⟩ := hc k x hx
      have c0 := (hB0.cell (p := ⟨bb, off + k * 5, none⟩) hbw).trans c0
      have c1 := (hB0.cell (p := ⟨bb, off + k * 5 + 1, none⟩) hbw).trans c1
      have c2 := (hB0.cell (p := ⟨bb, off + k * 5 + 2, none⟩) hbw).trans c2
      have c3 := (hB0.cell (p := ⟨bb, off + k * 5 + 3, none⟩) hbw).trans c3
      have c4 := (hB0.cell (p := ⟨bb, off + k * 5 + 4, none⟩) hbw).trans c4
      obtain ⟨l, hl⟩ := get_some (L := s.vars) (n := k) (by have := HL.out.2.1; omega)
      have hl100 := s3 l (List.mem_of_getElem? hl)
      obtain ⟨b2, off2, rfl, hbw2, hd⟩ := rows_at hv (k := k) (lt_of_get hl)
      obtain ⟨u, d0, hu⟩ := hd k l hl
      have d0 := (hB0.cell (p := ⟨b2, off2 + k, none⟩) hbw2).trans d0
      obtain ⟨su, cu, rfl⟩ := row_get hu
      obtain ⟨m, hm⟩ : ∃ m, l.length = m := ⟨_, rfl⟩
      have HNo := Lib.hid (fun hf : fitRow x l = false => fitS_rows (nb := BL) (fitRows_at hx hl hf))
      have HYes := Lib.hid (fun hf : fitRow x l = true => fitRows_take hx hl hall.out hf)
      have HD := Lib.hid (show fitRow x l = (decide ((m : Int) = x.n) && l.all (kIn x.t)) by unfold fitRow; rw [hm])
      have Hm := Lib.hid hm
      rw [hm] at d0 hl100 hu
      have Hu := Lib.hid hu
      clear hc hd hx hl hm hu
      generalize (⟨x.name.toArray⟩ : ByteArray) = nm at *
      obtain ⟨W5, hW5⟩ : ∃ W5, W5 = wr.alloc (.cells #[.string nm, .int .i64 x.t, .int .i64 x.n, .int .i64 x.area, .int .i64 x.init] 53) := ⟨_, rfl⟩
      have hst : Below wr.heap.size wr W5 := by rw [hW5]; exact by (repeat' (first | (with_reducible exact Below.refl _ _) | (with_reducible assumption) | (with_reducible refine below_drewN ?_ _) | (with_reducible refine Below.alloc ?_ ?_ _) | (with_reducible refine Below.drew ?_) | (with_reducible refine Below.setCell ?_ ?_ _) | go_size))
      have zr : Wb.heap.size ≤ wr.heap.size := hB.out.size
      obtain ⟨gx, hgx⟩ : ∃ gx, gx = wr.heap.size := ⟨_, rfl⟩
      have x1 : W5.cell? ⟨gx, 1, none⟩ = some (.int .i64 x.t) := by rw [hW5, cell_at hgx]; rfl
      have x2 : W5.cell? ⟨gx, 2, none⟩ = some (.int .i64 x.n) := by rw [hW5, cell_at hgx]; rfl
      have zg : gx < W5.heap.size := World.block_lt_of_cell? _ _ x1
      have f0 := ((HG.out.keep zb hB.out).keep (by omega) hst).1
      have z5 : w.heap.size < W5.heap.size := World.block_lt_of_cell? _ _ f0
      have fd := (hst.cell (p := ⟨b2, off2 + k, none⟩) (Nat.lt_of_lt_of_le hbw2 hB0.size)).trans d0
      have z2 : b2 < W5.heap.size := World.block_lt_of_cell? _ _ fd
      have HST := Lib.hid hst
      have hB5 : Below w.heap.size w W5 := hB0.trans (hst.mono hB0.size)
      have HB5 := Lib.hid hB5
      have HW5 := Lib.hid (And.intro hW5 hgx)
      clear hst hW5 hgx hB5 d0
      go_wp2_with fail
      rw [← HW5.out.1, ← HW5.out.2]
      clear c0 c1 c2 c3 c4
      by_cases hn : (m : Int) = x.n
      · have qn : ((m : Int) != x.n) = false := by simp [hn]
        have hD2 := Lib.hid (show fitRow x l = l.all (kIn x.t) by rw [HD.out, decide_eq_true hn]; rfl)
        clear hn
        go_quiet (fail)
        have hb6 := Below_drewN W5.heap.size W5 nq
        generalize W5.drewN nq = W6 at *
        have f0 := cellB hb6 f0 z5
        have fd := cellB hb6 fd z2
        have x1 := cellB hb6 x1 zg
        have z5 := Nat.lt_of_lt_of_le z5 hb6.size
        have z2 := Nat.lt_of_lt_of_le z2 hb6.size
        have zg := Nat.lt_of_lt_of_le zg hb6.size
        have HB6 := Lib.hid (HB5.out.trans (hb6.mono HB5.out.size))
        have HB6b := Lib.hid (hB.out.trans ((HST.out.trans (hb6.mono HST.out.size)).mono zr))
        clear x2 hb6
        go_wp2_with fail
        go_loopw [67] (fun ji wr2 => ∃ (q : Nat), q ≤ m ∧ ji = .int .i64 q ∧ Hid ((l.take q).all (kIn x.t) = true) ∧ wr2 = W6) (fun ji _ => m - (intOf ji).toNat)
        case atStart => exact ⟨0, by omega, rfl, Lib.hid (by simp), rfl⟩
        case round =>
          obtain ⟨q, hq, rfl, hal, rfl⟩ := hrel
          by_cases hqm : q < m
          · obtain ⟨z, hz⟩ := get_some (L := l) (n := q) (by have := Hm.out; omega)
            obtain ⟨b3, off3, rfl, hbw3, hg⟩ := ints_at Hu.out (k := q) (lt_of_get hz)
            obtain ⟨g0, _⟩ := hg q z hz
            have g0 := (HB6.out.cell (p := ⟨b3, off3 + q, none⟩) hbw3).trans g0
            have hts := Lib.hid (take_snoc hz)
            have hbad := Lib.hid (fun hk : kIn x.t z = false => HNo.out (by rw [hD2.out]; exact kIn_all_no hz hk))
            clear hg hz
            cases hk : kIn x.t z
            · have hno := Lib.hid (hbad.out hk)
              have HI := Lib.hid (fun W => kind_In x.t z W)
              rw [hk] at HI
              go_wp2_with fail
              refine (HI.out _).mono ?_; rintro e w' ⟨rfl, rfl⟩
              go_wp2_with fail
              go_ret
              exact ⟨by rw [hno.out]; rfl, HB6.out⟩
            · have HI := Lib.hid (fun W => kind_In x.t z W)
              rw [hk] at HI
              have hal2 := Lib.hid (show (l.take (q + 1)).all (kIn x.t) = true by rw [hts.out, List.all_append, hal.out]; simp [hk])
              clear hk
              go_wp2_with fail
              refine (HI.out _).mono ?_; rintro e w' ⟨rfl, rfl⟩
              go_wp2_with fail
              go_roundw
              case rel => exact ⟨q + 1, by omega, by simp, hal2, by first | rfl | trivial⟩
              case measure => first | (simp [intOf]; done) | (simp [intOf]; omega)
          · obtain rfl : q = m := by omega
            have hy := Lib.hid (HYes.out (by rw [hD2.out]; have := hal.out; rwa [List.take_of_length_le (by have := Hm.out; omega)] at this))
            go_wp2_with fail
            go_roundw
            case rel => exact ⟨k + 1, by omega, by simp, hy, HB6b⟩
            case measure => first | (simp [intOf]; done) | (simp [intOf]; omega)
      · have qn : ((m : Int) != x.n) = true := by simpa using hn
        have hno := Lib.hid (HNo.out (by rw [HD.out, decide_eq_false hn]; rfl))
        clear hn
        go_quiet (fail)
        go_wp2_with fail
        go_ret
        exact ⟨by rw [hno.out]; rfl, HB5.out.trans (Below_drewN _ _ _)⟩
    · obtain rfl : k = M := by omega
      have hyes := Lib.hid (fitS_yes hhead.out (by have := hall.out; rw [List.take_of_length_le (by have := HL.out.1; omega)] at this; exact this))
      go_wp2_with fail
      go_ret
      exact ⟨by rw [hyes.out]; rfl, hB0⟩
end Go.Proofs.Ythanmbfelihkfaa
