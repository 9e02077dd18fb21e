/- A map literal over the two truths, made and asked in one call. -/
import Derived.Test.YtajgdfgemcpjgaaDoorChecked
import Derived.Handy
import Derived.MapKept
namespace Go.Proofs.YtajgdfgemcpjgaaDoor
open Go.RowKit
section
variable {P : Program} {t kt et : TypeId} (hm : P.underlying t = some (.map kt et)) (hk : P.underlying kt = some .bool)
def mb (k : Bool) (n : Int) (b : Nat) : MapEntry := { key := .bool k, val := .int .i64 n, born := b }
theorem set_push (a : Array Obj) (x y : Obj) : (a.push x).setIfInBounds a.size y = a.push y := by
  apply Array.ext
  · simp
  · intro i h1 h2
    simp [Array.getElem_push]
    grind
include hm hk
theorem run_put_first (w : World) (n : Int) : (Instr.mapUpdate t (.map (some w.heap.size)) (.bool true) (.int .i64 n)).run P (w.alloc (.map #[] 0)) = .ok () (w.alloc (.map #[mb true n 0] 1)) := by
  have hb : (w.alloc (.map #[] 0)).heap[w.heap.size]? = some (.map #[] 0) := heap_alloc_new w _
  have hc : (Instr.checkKey false 10000 kt (.bool true)).run P (w.alloc (.map #[] 0)) = .ok () (w.alloc (.map #[] 0)) := MapKept.run_checkKey hk (by simp [MapKept.IsKey]) false 9999
  have hf : Instr.findNow .bool (.bool true) ([] : List MapEntry) 0 = some none := rfl
  simp [Instr.mapUpdate, run_underlying hm, MapKept.run_getObj_map hb, hc, MapKept.run_findKey hk hf, MapKept.run_setObj_map _ hb, Result.andThen]
  show ({ (w.alloc (.map #[] 0)) with heap := (w.heap.push _).setIfInBounds w.heap.size _ } : World) = { w with heap := w.heap.push _ }
  rw [set_push]
  rfl
theorem run_put_second (w : World) (n m : Int) : (Instr.mapUpdate t (.map (some w.heap.size)) (.bool false) (.int .i64 m)).run P (w.alloc (.map #[mb true n 0] 1)) = .ok () (w.alloc (.map #[mb true n 0, mb false m 1] 2)) := by
  have hb : (w.alloc (.map #[mb true n 0] 1)).heap[w.heap.size]? = some (.map #[mb true n 0] 1) := heap_alloc_new w _
  have hc : (Instr.checkKey false 10000 kt (.bool false)).run P (w.alloc (.map #[mb true n 0] 1)) = .ok () (w.alloc (.map #[mb true n 0] 1)) := MapKept.run_checkKey hk (by simp [MapKept.IsKey]) false 9999
  have hf : Instr.findNow .bool (.bool false) [mb true n 0] 0 = some none := rfl
  simp [Instr.mapUpdate, run_underlying hm, MapKept.run_getObj_map hb, hc, MapKept.run_findKey hk hf, MapKept.run_setObj_map _ hb, Result.andThen]
  show ({ (w.alloc (.map #[mb true n 0] 1)) with heap := (w.heap.push _).setIfInBounds w.heap.size _ } : World) = { w with heap := w.heap.push _ }
  rw [set_push]
  rfl
theorem run_ask (w : World) (b : Nat) (n m : Int) (hb : w.heap[b]? = some (.map #[mb true n 0, mb false m 1] 2)) (k : Bool) : (Instr.lookup t (.map (some b)) (.bool k) false).run P w = .ok (.int .i64 (if k then n else m)) w := by
  cases k
  · have hc : (Instr.checkKey false 10000 kt (.bool false)).run P w = .ok () w := MapKept.run_checkKey hk (by simp [MapKept.IsKey]) false 9999
    have hf : Instr.findNow .bool (.bool false) [mb true n 0, mb false m 1] 0 = some (some (1, .int .i64 m)) := rfl
    simp [Instr.lookup, run_underlying hm, MapKept.run_getObj_map hb, hc, MapKept.run_findKey hk hf, Result.andThen]
  · have hc : (Instr.checkKey false 10000 kt (.bool true)).run P w = .ok () w := MapKept.run_checkKey hk (by simp [MapKept.IsKey]) false 9999
    have hf : Instr.findNow .bool (.bool true) [mb true n 0, mb false m 1] 0 = some (some (0, .int .i64 n)) := rfl
    simp [Instr.lookup, run_underlying hm, MapKept.run_getObj_map hb, hc, MapKept.run_findKey hk hf, Result.andThen]
end
end Go.Proofs.YtajgdfgemcpjgaaDoor
