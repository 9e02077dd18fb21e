/- Layer 13: bytes as instructions. -/
import Derived.Test.YtaeaiaamhgcmbaaDoorCodeOne
namespace Go.Proofs.YtaeaiaamhgcmbaaDoor
open Go.RowKit
set_option linter.unusedSimpArgs false
set_option linter.unusedVariables false
/-- append of one instruction that was just laid -/
theorem wpList_append_ins {P : Program} {w0 : World} {ops : Array Oper} {rest : List Oper} {o : Oper} {a : Act} {Q : Exit → Act → World → Prop} (hgd : o.guard = none) (s x : Operand) (t : TypeId)
    (ho : o.op = .call { callee := .builtin .append, args := #[s, x], argTypes := #[t, t] })
    (base : Nat) (e te : TypeId) (i : TypeInfo) (z : Value) (bytes : Nat) (ht : P.underlying t = some (.slice e)) (hi : P.info? e = some i) (hz : i.zero = some z)
    (hsize : i.size = 3) (hby : i.bytes = bytes) (hzs : z.cells.size = 3)
    (v : Value) (n : Nat) (xs : List Value) (hs : a.eval s = v) (hown : w0.ownsRow base e 3 v n xs)
    (y : Ins) (g : Nat) (hx : a.eval x = .slice (some ⟨g, 0, none⟩) 1 1) (hgg : g = w0.heap.size)
    (h63 : n + 1 ≤ maxLen) (hbytes : (n + 1) * bytes ≤ 140737488355328) (hbase : base ≤ w0.heap.size)
    (h : ∀ v' w', w'.ownsRow base e 3 v' (n + 1) (xs ++ [.int .i64 y.1, .int .i64 y.2.1, .int .i64 y.2.2]) → (w0.alloc (.cells #[.int .i64 y.1, .int .i64 y.2.1, .int .i64 y.2.2] te)).grownBy w' v.ownBlock → wpList P ops Q rest (a.put o.dst v') w') :
    wpList P ops Q (o :: rest) a (w0.alloc (.cells #[.int .i64 y.1, .int .i64 y.2.1, .int .i64 y.2.2] te)) := by
  subst hgg
  refine wpList_append_own _ hgd s x t ho base e i z 3 bytes ht hi hz hsize hby hzs (by omega) v n xs hs (hown.alloc _) ⟨w0.heap.size, 0, none⟩ 1 1 [.int .i64 y.1, .int .i64 y.2.1, .int .i64 y.2.2] hx rfl ?_ ?_ h63 hbytes (by rw [World.size_alloc]; omega) (fun v' w' ho' hg _ => h v' w' ho' hg)
  · intro j u hu
    have hj : j < 3 := by
      by_cases hj : j < 3
      · exact hj
      · rw [List.getElem?_eq_none (by simp; omega)] at hu; cases hu
    have : (⟨w0.heap.size, 0, none⟩ : Addr).add j = ⟨w0.heap.size, j, none⟩ := by unfold Addr.add; by_cases h0 : j = 0 <;> simp [h0]
    rw [this, cell_at rfl]
    simpa using hu
  · intro u hu
    simp at hu
    rcases hu with rfl | rfl | rfl <;> rfl
theorem grown3 {B : Nat} {w0 wa w2 : World} {v : Value} {e : TypeId} {q n : Nat} {xs : List Value} (hb : Below B w0 wa) (hs : B ≤ wa.heap.size) (hO : wa.ownsRow B e q v n xs) (hg : wa.grownBy w2 v.ownBlock) : Below B w0 w2 :=
  hb.trans ⟨hg.os, hg.tape, hg.output, hg.size, fun k hk => hg.block k (by omega) (fun h => by
    rcases hO.2 with ⟨h0, _⟩ | ⟨g, cap, cur, h0, h1, _⟩
    · rw [h0] at h; simp [Value.ownBlock] at h
    · rw [h0] at h
      have : k = g := by simpa [Value.ownBlock] using h
      omega)⟩
theorem errAt_short {B : List UInt8} {k : Nat} (h : B.length < 5 * k + 5) : errAt B k = 1 := if_pos h
theorem errAt_in {B : List UInt8} {k : Nat} (h : ¬ B.length < 5 * k + 5) : errAt B k = errI (insAt B k) := if_neg h
theorem insAt_I64 (B : List UInt8) (k : Nat) : I64 (insAt B k).1 ∧ I64 (insAt B k).2.1 ∧ I64 (insAt B k).2.2 := by
  unfold insAt I64
  have h0 := (B.getD (5 * k) 0).toNat_lt
  have h1 := (B.getD (5 * k + 1) 0).toNat_lt
  have h2 := (B.getD (5 * k + 2) 0).toNat_lt
  have h3 := (B.getD (5 * k + 3) 0).toNat_lt
  have h4 := (B.getD (5 * k + 4) 0).toNat_lt
  simp only
  omega
theorem decL_I64 (B : List UInt8) (k : Nat) : ∀ x ∈ decL B k, I64 x.1 ∧ I64 x.2.1 ∧ I64 x.2.2 := by
  intro x hx
  unfold decL at hx
  obtain ⟨i, _, rfl⟩ := List.mem_map.1 hx
  exact insAt_I64 B i
theorem bytes_get {w : World} {v : Value} {n : Nat} {f : Nat → Value} (hv : RowAt w v n f) : ∃ a cap, v = .slice a n cap := by
  rcases hv with ⟨a, cap, rfl, rfl, _⟩ | ⟨b, off, cap, h1, _⟩
  · exact ⟨a, cap, rfl⟩
  · exact ⟨_, cap, h1⟩
theorem bytes_at {w : World} {a : Option Addr} {n cap : Nat} {f : Nat → Value} (hv : RowAt w (.slice a n cap) n f) (h0 : 0 < n) : ∃ b off, a = some ⟨b, off, none⟩ ∧ n ≤ cap ∧ cap ≤ maxLen ∧ b < w.heap.size ∧ ∀ i, i < n → w.cell? ⟨b, off + i, none⟩ = some (f i) := by
  rcases hv with ⟨a, cap, h, rfl, _⟩ | ⟨b, off, cap, h1, _, h3, h4, h5, h6⟩
  · omega
  · injection h1 with h1 h2 h3'
    subst h3'
    exact ⟨b, off, h1, h3, h4, h5, h6⟩
set_option maxHeartbeats 4000000 in
theorem code_Decode (v : Value) (B : List UInt8) (w : World) (hT : STab w) (hv : RowAt w v B.length (byteV B)) (hn : B.length ≤ 5000) :
    Calls Tryd.prog 11 #[v] w fun e w' => ∃ r L a er, e = .returned (.tuple #[r, .int .i64 a, .int .i64 er]) ∧ DecR B L a er ∧ RowR 3 insR w' r L ∧ Below w.heap.size w w' := by
  obtain ⟨i, hi, hz, hsize, hby⟩ : ∃ i, Tryd.prog.info? 36 = some i ∧ i.zero = some (.agg #[.int .i64 0, .int .i64 0, .int .i64 0]) ∧ i.size = 3 ∧ i.bytes = 24 := ⟨(Tryd.prog.info? 36).get!, by kernel_rfl, by kernel_rfl, by kernel_rfl, by kernel_rfl⟩
  obtain ⟨sa, cap, rfl⟩ := bytes_get hv
  generalize hN : B.length = N at *
  have hmk := run_make w 22 36 i _ Tryd.underlying22 hi hz .i64 .i64 (0 : Int) ((N : Int) / 5) (by omega) (by omega) (by rw [hby]; omega) (by omega)
  rw [hsize, show ((0 : Int)).toNat = 0 from rfl, show ((N : Int) / 5).toNat = N / 5 by omega] at hmk
  obtain ⟨Z, hZ⟩ : ∃ Z, madeCells (Value.agg #[.int .i64 0, .int .i64 0, .int .i64 0]).cells (N / 5 * 3) = Z := ⟨_, rfl⟩
  have hZs : Z.size = N / 5 * 3 := by rw [← hZ]; simp [madeCells]
  rw [hZ] at hmk
  have hO0 := Lib.hid (owns_make w Z 36 3 (N / 5) hZs (by unfold maxLen; omega))
  have hB0 : Below w.heap.size w (w.alloc (.cells Z 36)) := (Below.refl _ _).alloc (Nat.le_refl _) _
  clear hZ hZs
  go_enter Tryd.func11, Tryd.ntmps11
  go_wp2_with fail
  go_loopw [5, 6] (fun o j wr => ∃ k : Nat, Good B k ∧ 5 * k < N + 5 ∧ j = .int .i64 (5 * (k : Int)) ∧ Hid (wr.ownsRow w.heap.size 36 3 o k (insV (decL B k))) ∧ Below w.heap.size w wr) (fun _ j _ => N + 5 - (intOf j).toNat)
  case atStart => exact ⟨0, fun j hj => by omega, by omega, rfl, Lib.hid (by exact hO0.out), hB0⟩
  case round =>
    obtain ⟨k, hg, hk, rfl, hO, hB⟩ := hrel
    have hz' := hB.size
    have G := Lib.hid hg
    have hw5 : IntKind.i64.wrap (5 * (k : Int) + 5) = 5 * (k : Int) + 5 := IntWalk.i64_in _ (by omega)
    have hq5 : (5 * (k : Int)).tdiv 5 = k := by rw [Int.tdiv_eq_ediv_of_nonneg (by omega)]; omega
    clear hg
    by_cases hlt : 5 * k < N
    · obtain ⟨b, off, rfl, hcap, hcm, hbw, hc⟩ := bytes_at hv (by omega)
      by_cases hsh : N < 5 * k + 5
      · have he : errAt B k = 1 := errAt_short (by omega)
        have HD := Lib.hid (show DecR B [] k 1 from Or.inl ⟨k, G.out, by omega, he, by omega, rfl, rfl⟩)
        clear he hc hO G
        go_wp2_with fail
        go_returns
        exact ⟨.slice none 0 0, [], k, 1, by simp, HD.out, Or.inl ⟨none, 0, rfl, rfl, fun _ => rfl⟩, hB⟩
      · have hin := errAt_in (B := B) (k := k) (by omega)
        have hc0 := (hB.cell (p := ⟨b, off + 5 * k, none⟩) hbw).trans (hc (5 * k) (by omega))
        have hc1 := (hB.cell (p := ⟨b, off + 5 * k + 1, none⟩) hbw).trans (hc (5 * k + 1) (by omega))
        have hc2 := (hB.cell (p := ⟨b, off + 5 * k + 2, none⟩) hbw).trans (hc (5 * k + 2) (by omega))
        have hc3 := (hB.cell (p := ⟨b, off + 5 * k + 3, none⟩) hbw).trans (hc (5 * k + 3) (by omega))
        have hc4 := (hB.cell (p := ⟨b, off + 5 * k + 4, none⟩) hbw).trans (hc (5 * k + 4) (by omega))
        have hone := code_one b (off + 5 * k) 5 (B.getD (5 * k) 0) (B.getD (5 * k + 1) 0) (B.getD (5 * k + 2) 0) (B.getD (5 * k + 3) 0) (B.getD (5 * k + 4) 0) wr (hT.below hB) (by omega) hc0 hc1 hc2 hc3 hc4 (insAt B k) rfl
        have hmx : cap ≤ 9223372036854775807 := by unfold maxLen at hcm; omega
        have hds := Lib.hid (decL_succ B k)
        have HZ := Lib.hid (show insZ (insAt B k) = if errI (insAt B k) = 0 then insAt B k else (0, 0, 0) from rfl)
        have hZI := Lib.hid (insAt_I64 B k)
        clear hc hc0 hc1 hc2 hc3 hc4
        generalize insAt B k = x at *
        go_wp2_with fail
        refine hone.mono ?_; rintro e W1 ⟨rfl, hb1⟩
        have hB1 : Below w.heap.size w W1 := hB.trans (hb1.mono hz')
        have hz1 := hB1.size
        have hO1 := Lib.hid (owns_below hO.out hb1)
        clear hone hb1 hO
        by_cases he : errI x = 0
        · have hzx : insZ x = x := by rw [HZ.out, if_pos he]
          have hG := Lib.hid (G.out.succ (by omega) (hin.trans he))
          have hI3 := hZI.out
          rw [hzx, he]
          clear he hzx hin HZ
          go_wp2_with (first | (at_builtin; go_loud (refine wpList_append_ins rfl (.tmp 42) (.tmp 44) 22 rfl w.heap.size 36 36 i (.agg #[.int .i64 0, .int .i64 0, .int .i64 0]) 24 Tryd.underlying22 hi hz hsize hby rfl _ k _ rfl (hO1.out.alloc _) x _ rfl (by simp) (by unfold maxLen; omega) (by omega) (by rw [World.size_alloc]; omega) ?_; intro v2 w2 hO2 hG2; have HO2 := Lib.hid hO2; have hB2 := grown3 ((hB1.alloc hz1 _).alloc (by rw [World.size_alloc]; omega) _) (by simp only [World.size_alloc]; omega) ((hO1.out.alloc _).alloc _) hG2; clear hO2 hG2)) | fail)
          go_roundw
          case rel => exact ⟨k + 1, hG.out, by omega, by first | rfl | (congr 1; omega), Lib.hid (own_eq HO2.out rfl (by rw [hds.out, insV_snoc])), hB2⟩
          case measure => first | (simp [intOf]; done) | (simp [intOf]; omega)
        · have hzx : insZ x = (0, 0, 0) := by rw [HZ.out, if_neg he]
          have HD := Lib.hid (show DecR B [] k (errI x) from Or.inl ⟨k, G.out, by omega, hin, he, rfl, rfl⟩)
          have hne : (errI x != 0) = true := by simpa using he
          rw [hzx]
          generalize errI x = er at *
          clear hzx hin HZ he
          go_wp2_with fail
          go_returns
          exact ⟨.slice none 0 0, [], k, er, by simp, HD.out, Or.inl ⟨none, 0, rfl, rfl, fun _ => rfl⟩, by (repeat' (first | (with_reducible exact Below.refl _ _) | (with_reducible assumption) | (with_reducible refine below_drewN ?_ _) | (with_reducible refine Below.alloc ?_ ?_ _) | (with_reducible refine Below.drew ?_) | (with_reducible refine Below.setCell ?_ ?_ _) | go_size))⟩
    · have HD := Lib.hid (show DecR B (decL B k) 0 0 from Or.inr ⟨k, G.out, by omega, rfl, rfl, rfl⟩)
      clear G
      go_wp2_with fail
      go_returns
      exact ⟨_, decL B k, 0, 0, rfl, HD.out, RowR.ins_owned (own_eq hO.out (decL_len B k).symm rfl) (decL_I64 B k), hB⟩
end Go.Proofs.YtaeaiaamhgcmbaaDoor
