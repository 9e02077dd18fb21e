/- Layer 12: what stands between the bytes of one kind. -/
import Derived.Test.YtmjhjcfjgefdiaaDoorOpRead
import Derived.Test.YtmjhjcfjgefdiaaDoorGrow
import Derived.LoopTactic
import Derived.OwnWalk
namespace Go.Proofs.YtmjhjcfjgefdiaaDoor
open Go.RowKit
set_option linter.unusedSimpArgs false
set_option linter.unusedVariables false
def spS (c : UInt8) (l : List UInt8) : List (List UInt8) × List UInt8 := l.foldl (fun s x => if x = c then (s.1 ++ [s.2], []) else (s.1, s.2 ++ [x])) ([], [])
def spl (c : UInt8) (l : List UInt8) : List (List UInt8) := (spS c l).1 ++ [(spS c l).2]
theorem spS_snoc (c : UInt8) (l : List UInt8) (x : UInt8) : spS c (l ++ [x]) = if x = c then ((spS c l).1 ++ [(spS c l).2], []) else ((spS c l).1, (spS c l).2 ++ [x]) := by simp [spS]
theorem spS_yes {c : UInt8} (l : List UInt8) {x : UInt8} (h : x = c) : spS c (l ++ [x]) = ((spS c l).1 ++ [(spS c l).2], []) := by rw [spS_snoc, if_pos h]
theorem spS_not {c : UInt8} (l : List UInt8) {x : UInt8} (h : ¬ x = c) : spS c (l ++ [x]) = ((spS c l).1, (spS c l).2 ++ [x]) := by rw [spS_snoc, if_neg h]
theorem sp_from (c : UInt8) (l : List UInt8) : ∀ (o : List (List UInt8)) (q : List UInt8), l.foldl (fun s x => if x = c then (s.1 ++ [s.2], []) else (s.1, s.2 ++ [x])) (o, q) = (o ++ (l.foldl (fun s x => if x = c then (s.1 ++ [s.2], []) else (s.1, s.2 ++ [x])) ([], q)).1, (l.foldl (fun s x => if x = c then (s.1 ++ [s.2], []) else (s.1, s.2 ++ [x])) ([], q)).2) := by
  induction l with
  | nil => intro o q; simp
  | cons x t ih =>
    intro o q
    by_cases h : x = c
    · simp only [List.foldl_cons, if_pos h, List.nil_append]
      rw [ih (o ++ [q]) [], ih [q] []]
      simp
    · simp only [List.foldl_cons, if_neg h]
      rw [ih o (q ++ [x])]
theorem sp_cur (c : UInt8) (a : List UInt8) (h : c ∉ a) : ∀ q : List UInt8, a.foldl (fun s x => if x = c then (s.1 ++ [s.2], []) else (s.1, s.2 ++ [x])) (([] : List (List UInt8)), q) = ([], q ++ a) := by
  induction a with
  | nil => intro q; simp
  | cons x t ih =>
    intro q
    have hx : ¬ x = c := fun e => h (by simp [e])
    simp only [List.foldl_cons, if_neg hx]
    rw [ih (fun e => h (by simp [e]))]
    simp
theorem spl_out {c : UInt8} {a : List UInt8} (h : c ∉ a) : spl c a = [a] := by
  unfold spl spS
  rw [sp_cur c a h []]
  simp
theorem spl_in {c : UInt8} {a b : List UInt8} (h : c ∉ a) : spl c (a ++ c :: b) = a :: spl c b := by
  unfold spl spS
  rw [List.foldl_append, sp_cur c a h [], List.foldl_cons, if_pos rfl, sp_from]
  simp
theorem spS_len (c : UInt8) (l : List UInt8) : ∀ k, k ≤ l.length → (spS c (l.take k)).1.length ≤ k := by
  intro k
  induction k with
  | zero => intro _; simp [spS]
  | succ k ih =>
    intro hk
    have := ih (by omega)
    rw [take_step (by omega), spS_snoc]
    split
    · simp; omega
    · simp; omega
def strV (L : List (List UInt8)) : List Value := L.map fun s => .string ⟨s.toArray⟩
theorem strV_len (L : List (List UInt8)) : (strV L).length = L.length := by simp [strV]
theorem strV_snoc (L : List (List UInt8)) (s : List UInt8) : strV (L ++ [s]) = strV L ++ [.string ⟨s.toArray⟩] := by simp [strV]
def strAt (L : List (List UInt8)) (i : Nat) : Value := .string ⟨(L.getD i []).toArray⟩
theorem strV_at {L : List (List UInt8)} {i : Nat} (h : i < L.length) : (strV L)[i]? = some (strAt L i) := by simp [strV, strAt, h]
theorem slice_fk {P : Program} {t : TypeId} (ht : P.underlying t = some .string) {l : List UInt8} {f k : Nat} (h1 : f ≤ k) (h2 : k ≤ l.length) (W : World) :
    (Instr.slice t (.string ⟨l.toArray⟩) (some (.int .i64 f)) (some (.int .i64 k)) none).run P W = .ok (.string ⟨((l.take k).drop f).toArray⟩) W := by
  rw [run_slice_string W t ⟨l.toArray⟩ .i64 .i64 _ _ ht (by omega) (by omega) (by rw [show (⟨l.toArray⟩ : ByteArray).size = l.length from List.size_toArray]; omega)]
  have e1 : ((f : Int)).toNat = f := by omega
  have e2 : ((k : Int)).toNat = k := by omega
  rw [e1, e2]
  congr 2
  apply ByteArray.ext
  simp
  exact List.drop_take.symm
theorem ex_tl (l : List UInt8) (f : Nat) : ByteArray.extract ⟨l.toArray⟩ f l.length = ⟨(l.drop f).toArray⟩ := by
  apply ByteArray.ext
  simp
  exact List.take_of_length_le (by simp)
set_option maxHeartbeats 2000000 in
theorem ref12_Split (l : List UInt8) (c : UInt8) (hl : l.length ≤ 1000) (w : World) : Calls Tryd.prog 24 #[.string ⟨l.toArray⟩, .int .u8 c.toNat] w fun e w' => ∃ r, e = .returned r ∧ w'.ownsRow w.heap.size 9 1 r (spl c l).length (strV (spl c l)) ∧ Below w.heap.size w w' := by
  obtain ⟨i, hi, hz, hsize, hby⟩ : ∃ i, Tryd.prog.info? 9 = some i ∧ i.zero = some (.string ⟨#[]⟩) ∧ i.size = 1 ∧ i.bytes = 16 := ⟨(Tryd.prog.info? 9).get!, by kernel_rfl, by kernel_rfl, by kernel_rfl, by kernel_rfl⟩
  go_enter Tryd.func24, Tryd.ntmps24
  go_wp2_with fail
  go_loopw [5, 6, 7] (fun o f j wr => ∃ k fr : Nat, k ≤ l.length ∧ fr ≤ k ∧ f = .int .i64 fr ∧ j = .int .i64 k ∧ Hid ((spS c (l.take k)).2 = (l.take k).drop fr) ∧ Hid (wr.ownsRow w.heap.size 9 1 o (spS c (l.take k)).1.length (strV (spS c (l.take k)).1)) ∧ Below w.heap.size w wr) (fun _ _ j _ => l.length - (intOf j).toNat)
  case atStart => exact ⟨0, 0, by omega, by omega, rfl, rfl, Lib.hid (by simp [spS]), Lib.hid (World.ownsRow_nil _ _ _ _), Below.refl _ _⟩
  case round =>
    obtain ⟨k, fr, hk, hfk, rfl, rfl, hcur, hO, hB⟩ := hrel
    have hlen := spS_len c l k hk
    have hz' := hB.size
    by_cases hlt : k < l.length
    · have hix : ∀ W, (Instr.index 9 (.string ⟨l.toArray⟩) (.int .i64 k)).run Tryd.prog W = .ok (.int .u8 ((l.getD k 0).toNat : Int)) W := fun W => idx_at Tryd.underlying9 W (by omega)
      have hsl := slice_fk (P := Tryd.prog) Tryd.underlying9 hfk hk
      have hst := Lib.hid (take_step hlt)
      by_cases hc : l.getD k 0 = c
      · have hb : (((l.getD k 0).toNat : Int) == (c.toNat : Int)) = true := by rw [hc]; simp
        have hS := Lib.hid (spS_yes (l.take k) hc)
        clear hc
        rw [← hcur.out] at hsl
        generalize hsp : spS c (l.take k) = sp at *
        generalize hlg : l.getD k 0 = x at *
        have HX := Lib.hid hlg
        have HS := Lib.hid hsp
        clear hlg hsp
        obtain ⟨o1, o2⟩ := sp
        simp only at hlen hsl hO
        go_wp2_with (first | (at_builtin; refine wpList_append_row1 rfl (.tmp 19) (.tmp 24) 27 rfl w.heap.size 9 i (.string ⟨#[]⟩) 16 Tryd.underlying27 hi hz hsize hby rfl _ o1.length _ rfl (hO.out.alloc _) _ 1 (fun _ => .string ⟨o2.toArray⟩) rfl (RowAt.new _ _ _ _ _ 1 1 (by omega) (by omega) (by omega) (fun i hi => by obtain rfl : i = 0 := (by omega); rfl)) (fun _ _ => rfl) (by unfold maxLen; omega) (by omega) (by rw [World.size_alloc]; omega) ?_; intro v2 w2 hO2 hG2; have HO2 := Lib.hid hO2; have hB2 := below_grownV (hB.alloc hB.size _) (by rw [World.size_alloc]; omega) (hO.out.alloc _) hG2; clear hO2 hG2) | fail)
        go_roundw
        case rel => exact ⟨k + 1, k + 1, by omega, by omega, by simp, by simp, Lib.hid (by
          rw [hst.out, hS.out]
          simp only
          rw [List.drop_of_length_le]; simp; omega), Lib.hid (by
          rw [hst.out, hS.out]
          simp only [List.length_append, List.length_cons, List.length_nil, Nat.zero_add, strV_snoc]
          exact HO2.out), hB2⟩
        case measure => first | (simp [intOf]; done) | (simp [intOf]; omega)
      · have hb : (((l.getD k 0).toNat : Int) == (c.toNat : Int)) = false := by
          rw [beq_eq_false_iff_ne]; intro e; exact hc (UInt8.toNat_inj.1 (by omega))
        have hS := Lib.hid (spS_not (l.take k) hc)
        clear hc hsl
        generalize hsp : spS c (l.take k) = sp at *
        generalize hlg : l.getD k 0 = x at *
        have HX := Lib.hid hlg
        have HS := Lib.hid hsp
        clear hlg hsp
        obtain ⟨o1, o2⟩ := sp
        simp only at hlen hO
        go_wp2_with fail
        go_roundw
        case rel => exact ⟨k + 1, fr, by omega, by omega, rfl, by simp, Lib.hid (by
          rw [hst.out, hS.out]
          simp only
          rw [List.drop_append_of_le_length (by simp; omega), ← hcur.out]), Lib.hid (by
          rw [hst.out, hS.out]
          simp only
          exact hO.out), hB⟩
        case measure => first | (simp [intOf]; done) | (simp [intOf]; omega)
    · obtain rfl : k = l.length := by omega
      have hsl : ByteArray.extract ⟨l.toArray⟩ fr l.length = ⟨((l.take l.length).drop fr).toArray⟩ := by rw [List.take_length]; exact ex_tl l fr
      rw [← hcur.out] at hsl
      have HP := Lib.hid (show spl c l = (spS c (l.take l.length)).1 ++ [(spS c (l.take l.length)).2] by rw [List.take_length]; rfl)
      generalize hsp : spS c (l.take l.length) = sp at *
      have HS := Lib.hid hsp
      clear hsp
      obtain ⟨o1, o2⟩ := sp
      simp only at hlen hsl hO
      have r2 : ∀ W, (Instr.slice 9 (.string ⟨l.toArray⟩) (some (.int .i64 (fr : Int))) none none).run Tryd.prog W = .ok (.string ⟨o2.toArray⟩) W := by
        intro W
        go_simp
        try (intro h; first | (exfalso; omega) | (have := h (by omega); omega))
      clear hsl
      go_wp2_with (first | (at_builtin; refine wpList_append_row1 rfl (.tmp 28) (.tmp 32) 27 rfl w.heap.size 9 i (.string ⟨#[]⟩) 16 Tryd.underlying27 hi hz hsize hby rfl _ o1.length _ rfl (hO.out.alloc _) _ 1 (fun _ => .string ⟨o2.toArray⟩) rfl (RowAt.new _ _ _ _ _ 1 1 (by omega) (by omega) (by omega) (fun i hi => by obtain rfl : i = 0 := (by omega); rfl)) (fun _ _ => rfl) (by unfold maxLen; omega) (by omega) (by rw [World.size_alloc]; omega) ?_; intro v2 w2 hO2 hG2; have HO2 := Lib.hid hO2; have hB2 := below_grownV (hB.alloc hB.size _) (by rw [World.size_alloc]; omega) (hO.out.alloc _) hG2; clear hO2 hG2) | fail)
      go_ret
      refine ⟨_, rfl, ?_, hB2⟩
      rw [HP.out, strV_snoc, List.length_append]
      exact HO2.out
end Go.Proofs.YtmjhjcfjgefdiaaDoor
