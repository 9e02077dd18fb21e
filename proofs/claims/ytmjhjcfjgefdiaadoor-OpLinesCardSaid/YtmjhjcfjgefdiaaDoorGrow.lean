/- What a slice of the call's own that grows leaves as it was. -/
import Derived.Test.YtmjhjcfjgefdiaaDoorRow
namespace Go.Proofs.YtmjhjcfjgefdiaaDoor
open Go.RowKit
theorem below_grown {B g : Nat} {w0 wa w2 : World} (hb : Below B w0 wa) (hBg : B ≤ g) (hs : B ≤ wa.heap.size) (hg : wa.grownBy w2 (some g)) : Below B w0 w2 :=
  hb.trans ⟨hg.os, hg.tape, hg.output, hg.size, fun k hk => hg.block k (by omega) (by simp; omega)⟩
theorem below_grownV {B : Nat} {w0 wa w2 : World} {v : Value} {e : TypeId} {n : Nat} {xs : List Value} (hb : Below B w0 wa) (hs : B ≤ wa.heap.size) (hO : wa.ownsRow B e 1 v n xs) (hg : wa.grownBy w2 v.ownBlock) : Below B w0 w2 :=
  hb.trans ⟨hg.os, hg.tape, hg.output, hg.size, fun k hk => hg.block k (by omega) (fun h => by have := (hO.lt k h.symm).1; omega)⟩
end Go.Proofs.YtmjhjcfjgefdiaaDoor
