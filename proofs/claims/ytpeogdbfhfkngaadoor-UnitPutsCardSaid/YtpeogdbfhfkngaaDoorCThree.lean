/- Three cells that lie together. -/
import Derived.Test.YtpeogdbfhfkngaaDoorMoreB
namespace Go.Proofs.YtpeogdbfhfkngaaDoor
open Go.RowKit
/-- the three cells of an instruction in memory -/
def C3 (W : World) (b : Nat) (x y z : Int) : Prop := W.cell? ⟨b, 0, none⟩ = some (.int .i64 x) ∧ W.cell? ⟨b, 1, none⟩ = some (.int .i64 y) ∧ W.cell? ⟨b, 2, none⟩ = some (.int .i64 z)
theorem C3.new (W : World) (x y z : Int) (t : TypeId) {W' : World} (h : Below (W.heap.size + 1) (W.alloc (.cells #[.int .i64 x, .int .i64 y, .int .i64 z] t)) W') : C3 W' W.heap.size x y z :=
  ⟨(h.cell (by simp)).trans (by rw [cell_at (by simp)]; rfl), (h.cell (by simp)).trans (by rw [cell_at (by simp)]; rfl), (h.cell (by simp)).trans (by rw [cell_at (by simp)]; rfl)⟩
theorem C3.keep {W W' : World} {b : Nat} {x y z : Int} (c : C3 W b x y z) (hb : b < W.heap.size) (h : Below W.heap.size W W') : C3 W' b x y z :=
  ⟨(h.cell (p := ⟨b, 0, none⟩) hb).trans c.1, (h.cell (p := ⟨b, 1, none⟩) hb).trans c.2.1, (h.cell (p := ⟨b, 2, none⟩) hb).trans c.2.2⟩
end Go.Proofs.YtpeogdbfhfkngaaDoor
