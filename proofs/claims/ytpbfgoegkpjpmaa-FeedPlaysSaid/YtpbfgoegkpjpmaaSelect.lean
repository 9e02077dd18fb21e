/- A select of one case with a default, in the kit's walk: laws for a region that begins with it. -/
import Derived.Test.YtpbfgoegkpjpmaaChecked
import Derived.Conc.LoneSelect
namespace Go.Proofs.Ytpbfgoegkpjpmaa
open Go.RowKit Go.Conc
set_option linter.unusedSimpArgs false
set_option linter.unusedVariables false
section
variable {P : Program} {ops : Array Oper} {Q : Exit → Act → World → Prop} {a : Act} {w : World} {id : Nat} {o : Oper} {rest : List Nat} {ol : List Oper}
theorem stepG_comm_any {b : Frame} {i : Nat} {k : List Item} {cs : List Frame} {cases : Array CommCase} {blocking : Bool} {shape : CommShape} {w' : World} (ho : ops[i]? = some o) (hw : Region.wanted o (yielded ops a.tmps) = true)
    (hr : (execOp a.eval o).run P w = .ok (.comm cases blocking shape) w') :
    ∃ es, stepG P true (G (b.at a (.inRegion ops (i :: rest) :: k)) cs) w = .comm (G (b.at a (.inRegion ops (i :: rest) :: k)) cs) cases blocking shape w' es := by
  rw [stepG_oper ho hw]
  simp [stepG.apply, hr, G, Frame.at, GStep.after]
theorem wp_region_first {a' : Act} {w' : World}
    (hs : ∀ (b : Frame) (k : List Item) (cs : List Frame), step P (lone (b.at a (.inRegion (o :: ol).toArray (0 :: List.range' 1 ol.length) :: k)) cs w) = .next (lone (b.at a' (.inRegion (o :: ol).toArray (List.range' 1 ol.length) :: k)) cs w'))
    (h : wpList P (o :: ol).toArray Q ol a' w') : (Code.region id (o :: ol).toArray false).wp P Q a w := fun b k cs => by
  have hl : List.range (o :: ol).toArray.size = 0 :: List.range' 1 ol.length := by
    rw [List.range_eq_range', List.size_toArray, List.length_cons, List.range'_succ]
  have he := wpOps_eq_wpList (P := P) (ops := (o :: ol).toArray) (Q := Q) ol 1 (fun j => by simp [Nat.add_comm 1 j])
  rw [← he] at h
  obtain ⟨e, a'', w'', q, r⟩ := wp_ops _ a' w' h b k cs
  exact ⟨e, a'', w'', q, .of_steps (.head step_region (.one (by rw [hl]; exact hs b k cs))) r⟩
theorem wp_select_send {c cap s r : Nat} {buf : Array Value} {v z' : Value} {tm : Bool} (hw : Region.wanted o (yielded (o :: ol).toArray a.tmps) = true)
    (hr : (execOp a.eval o).run P w = .ok (.comm #[scase c v z'] false .select) w) (hc : w.heap[c]? = some (.chan cap buf false s r tm)) (hroom : buf.size < cap)
    (h : wpList P (o :: ol).toArray Q ol (a.put o.dst (.tuple #[goInt 0, .bool false])) (w.setChan c cap (buf.push v) false (s + 1) r tm)) : (Code.region id (o :: ol).toArray false).wp P Q a w :=
  wp_region_first (fun b k cs => by
    obtain ⟨es, he⟩ := stepG_comm_any (b := b) (k := k) (cs := cs) (rest := List.range' 1 ol.length) (ops := (o :: ol).toArray) (i := 0) rfl hw hr
    have := step_lone_select_send_room he hc hroom
    rw [Frame.finish_at] at this
    exact this) h
theorem wp_select_full {c cap s r : Nat} {buf : Array Value} {v z' : Value} {tm : Bool} (hw : Region.wanted o (yielded (o :: ol).toArray a.tmps) = true)
    (hr : (execOp a.eval o).run P w = .ok (.comm #[scase c v z'] false .select) w) (hc : w.heap[c]? = some (.chan cap buf false s r tm)) (hfull : cap ≤ buf.size)
    (h : wpList P (o :: ol).toArray Q ol (a.put o.dst (.tuple #[goInt (-1), .bool false])) (w)) : (Code.region id (o :: ol).toArray false).wp P Q a w :=
  wp_region_first (fun b k cs => by
    obtain ⟨es, he⟩ := stepG_comm_any (b := b) (k := k) (cs := cs) (rest := List.range' 1 ol.length) (ops := (o :: ol).toArray) (i := 0) rfl hw hr
    have := step_lone_select_send_full he hc hfull
    rw [Frame.finish_at] at this
    exact this) h
theorem wp_select_recv {c cap s r : Nat} {buf : Array Value} {z : Value} {tm closed : Bool} (hw : Region.wanted o (yielded (o :: ol).toArray a.tmps) = true)
    (hr : (execOp a.eval o).run P w = .ok (.comm #[rcase c z] false .select) w) (hc : w.heap[c]? = some (.chan cap buf closed s r tm)) (hsome : 0 < buf.size)
    (h : wpList P (o :: ol).toArray Q ol (a.put o.dst (.tuple #[goInt 0, .bool true, buf.getD 0 undef])) (w.setChan c cap (buf.extract 1 buf.size) closed s (r + 1) tm)) : (Code.region id (o :: ol).toArray false).wp P Q a w :=
  wp_region_first (fun b k cs => by
    obtain ⟨es, he⟩ := stepG_comm_any (b := b) (k := k) (cs := cs) (rest := List.range' 1 ol.length) (ops := (o :: ol).toArray) (i := 0) rfl hw hr
    have := step_lone_select_recv_buf he hc hsome
    rw [Frame.finish_at] at this
    exact this) h
theorem wp_select_none {c cap s r : Nat} {z : Value} {tm : Bool} (hw : Region.wanted o (yielded (o :: ol).toArray a.tmps) = true)
    (hr : (execOp a.eval o).run P w = .ok (.comm #[rcase c z] false .select) w) (hc : w.heap[c]? = some (.chan cap #[] false s r tm))
    (h : wpList P (o :: ol).toArray Q ol (a.put o.dst (.tuple #[goInt (-1), .bool false, z])) (w)) : (Code.region id (o :: ol).toArray false).wp P Q a w :=
  wp_region_first (fun b k cs => by
    obtain ⟨es, he⟩ := stepG_comm_any (b := b) (k := k) (cs := cs) (rest := List.range' 1 ol.length) (ops := (o :: ol).toArray) (i := 0) rfl hw hr
    have := step_lone_select_default he hc
    rw [Frame.finish_at] at this
    exact this) h
end
theorem get_setChan {w : World} {c cap s r g : Nat} {buf : Array Value} {cl tm : Bool} (h : g ≠ c) : (w.setChan c cap buf cl s r tm).heap[g]? = w.heap[g]? := by
  simp only [World.setChan]
  rw [Array.getElem?_setIfInBounds_ne (by omega)]
theorem grown_setChan {w w2 : World} {c cap s r : Nat} {buf : Array Value} {cl tm : Bool} (h : Below w.heap.size w w2) : w.grownBy (w2.setChan c cap buf cl s r tm) (some c) :=
  ⟨h.os, h.tape, h.output, by rw [size_setChan]; exact h.size, fun k hk hne => (get_setChan (fun e => hne (by rw [e]))).trans (h.block k hk)⟩
theorem grown_some {w w2 : World} {c : Nat} (h : Below w.heap.size w w2) : w.grownBy w2 (some c) := ⟨h.os, h.tape, h.output, h.size, fun k hk _ => h.block k hk⟩
end Go.Proofs.Ytpbfgoegkpjpmaa
