/- Programs as plain lists. -/
import Derived.Test.YtefejcofmopjfaaGreatDoorSeq
namespace Go.Proofs.YtefejcofmopjfaaGreatDoor
open Go.RowKit
set_option linter.unusedSimpArgs false
set_option linter.unusedVariables false
structure Vr where
  name : List UInt8
  t : Int
  n : Int
  area : Int
  init : Int
structure Bk where
  name : List UInt8
  kind : Int
structure Un where
  name : List UInt8
  params : List Int
  result : Int
  locals : List Int
  code : List Ins
structure Pr where
  consts : List (Int × Int)
  vars : List Vr
  blocks : List Bk
  units : List Un
def sz (s : List UInt8) : Prop := s.length ≤ 9223372036854775807
def constR : Rep (Int × Int) := fun _ cs x => cs = [.int .i64 x.1, .int .i64 x.2] ∧ I64 x.1 ∧ I64 x.2
theorem constR_stable : Stable constR := fun _ _ _ _ h _ => h
def varR : Rep Vr := fun _ cs x => cs = [.string ⟨x.name.toArray⟩, .int .i64 x.t, .int .i64 x.n, .int .i64 x.area, .int .i64 x.init] ∧ sz x.name ∧ I64 x.t ∧ I64 x.n ∧ I64 x.area ∧ I64 x.init
theorem varR_stable : Stable varR := fun _ _ _ _ h _ => h
def blkR : Rep Bk := fun _ cs x => cs = [.string ⟨x.name.toArray⟩, .int .i64 x.kind] ∧ sz x.name ∧ I64 x.kind
theorem blkR_stable : Stable blkR := fun _ _ _ _ h _ => h
/-- a unit, by its three slices -/
structure UnAt (w : World) (a b c : Value) (x : Un) : Prop where
  ps : RowR 1 intR w a x.params
  ls : RowR 1 intR w b x.locals
  cs : RowR 3 insR w c x.code
  ns : sz x.name
  r64 : I64 x.result
theorem UnAt.below {w w' : World} {a b c : Value} {x : Un} (h : UnAt w a b c x) (hb : Below w.heap.size w w') : UnAt w' a b c x :=
  ⟨h.ps.below intR_stable hb, h.ls.below intR_stable hb, h.cs.below insR_stable hb, h.ns, h.r64⟩
def unitR : Rep Un := fun w cs x => ∃ a b c, cs = [.string ⟨x.name.toArray⟩, a, .int .i64 x.result, b, c] ∧ UnAt w a b c x
theorem unitR_stable : Stable unitR := fun _ _ _ _ ⟨a, b, c, h1, h2⟩ hb => ⟨a, b, c, h1, h2.below hb⟩
/-- a program, by its four slices -/
structure PrAt (w : World) (c v b u : Value) (p : Pr) : Prop where
  cs : RowR 2 constR w c p.consts
  vs : RowR 5 varR w v p.vars
  bs : RowR 2 blkR w b p.blocks
  us : RowR 5 unitR w u p.units
theorem PrAt.below {w w' : World} {c v b u : Value} {p : Pr} (h : PrAt w c v b u p) (hb : Below w.heap.size w w') : PrAt w' c v b u p :=
  ⟨h.cs.below constR_stable hb, h.vs.below varR_stable hb, h.bs.below blkR_stable hb, h.us.below unitR_stable hb⟩
/-- the cells of a slice of variables -/
theorem var_at {w : World} {a : Option Addr} {n cap : Nat} {L : List Vr} (hv : RowR 5 varR w (.slice a n cap) L) {k : Nat} (hk : k < L.length) : ∃ b off, a = some ⟨b, off, none⟩ ∧ b < w.heap.size ∧ ∀ i x, L[i]? = some x →
    w.cell? ⟨b, off + i * 5, none⟩ = some (.string ⟨x.name.toArray⟩) ∧ w.cell? ⟨b, off + i * 5 + 1, none⟩ = some (.int .i64 x.t) ∧ w.cell? ⟨b, off + i * 5 + 2, none⟩ = some (.int .i64 x.n) ∧ w.cell? ⟨b, off + i * 5 + 3, none⟩ = some (.int .i64 x.area) ∧ w.cell? ⟨b, off + i * 5 + 4, none⟩ = some (.int .i64 x.init) ∧ sz x.name ∧ I64 x.t ∧ I64 x.n ∧ I64 x.area ∧ I64 x.init := by
  obtain ⟨b, off, e, hb, h⟩ := row_at hv hk
  refine ⟨b, off, e, hb, fun i x hx => ?_⟩
  obtain ⟨C, g1, g2, g3, g4⟩ := h i x hx
  subst g3
  exact ⟨g2 0 _ rfl, g2 1 _ rfl, g2 2 _ rfl, g2 3 _ rfl, g2 4 _ rfl, g4⟩
theorem blk_at {w : World} {a : Option Addr} {n cap : Nat} {L : List Bk} (hv : RowR 2 blkR w (.slice a n cap) L) {k : Nat} (hk : k < L.length) : ∃ b off, a = some ⟨b, off, none⟩ ∧ b < w.heap.size ∧ ∀ i x, L[i]? = some x →
    w.cell? ⟨b, off + i * 2, none⟩ = some (.string ⟨x.name.toArray⟩) ∧ w.cell? ⟨b, off + i * 2 + 1, none⟩ = some (.int .i64 x.kind) ∧ sz x.name ∧ I64 x.kind := by
  obtain ⟨b, off, e, hb, h⟩ := row_at hv hk
  refine ⟨b, off, e, hb, fun i x hx => ?_⟩
  obtain ⟨C, g1, g2, g3, g4⟩ := h i x hx
  subst g3
  exact ⟨g2 0 _ rfl, g2 1 _ rfl, g4⟩
theorem const_at {w : World} {a : Option Addr} {n cap : Nat} {L : List (Int × Int)} (hv : RowR 2 constR w (.slice a n cap) L) {k : Nat} (hk : k < L.length) : ∃ b off, a = some ⟨b, off, none⟩ ∧ b < w.heap.size ∧ ∀ i x, L[i]? = some x →
    w.cell? ⟨b, off + i * 2, none⟩ = some (.int .i64 x.1) ∧ w.cell? ⟨b, off + i * 2 + 1, none⟩ = some (.int .i64 x.2) ∧ I64 x.1 ∧ I64 x.2 := by
  obtain ⟨b, off, e, hb, h⟩ := row_at hv hk
  refine ⟨b, off, e, hb, fun i x hx => ?_⟩
  obtain ⟨C, g1, g2, g3, g4⟩ := h i x hx
  subst g3
  exact ⟨g2 0 _ rfl, g2 1 _ rfl, g4⟩
theorem unit_at {w : World} {a : Option Addr} {n cap : Nat} {L : List Un} (hv : RowR 5 unitR w (.slice a n cap) L) {k : Nat} (hk : k < L.length) : ∃ b off, a = some ⟨b, off, none⟩ ∧ b < w.heap.size ∧ ∀ i x, L[i]? = some x → ∃ u1 u3 u4,
    w.cell? ⟨b, off + i * 5, none⟩ = some (.string ⟨x.name.toArray⟩) ∧ w.cell? ⟨b, off + i * 5 + 1, none⟩ = some u1 ∧ w.cell? ⟨b, off + i * 5 + 2, none⟩ = some (.int .i64 x.result) ∧ w.cell? ⟨b, off + i * 5 + 3, none⟩ = some u3 ∧ w.cell? ⟨b, off + i * 5 + 4, none⟩ = some u4 ∧ UnAt w u1 u3 u4 x := by
  obtain ⟨b, off, e, hb, h⟩ := row_at hv hk
  refine ⟨b, off, e, hb, fun i x hx => ?_⟩
  obtain ⟨C, g1, g2, u1, u3, u4, g3, g4⟩ := h i x hx
  subst g3
  exact ⟨u1, u3, u4, g2 0 _ rfl, g2 1 _ rfl, g2 2 _ rfl, g2 3 _ rfl, g2 4 _ rfl, g4⟩
def fewU (x : Un) : Bool := decide (x.name.length ≤ 300 ∧ x.params.length ≤ 20 ∧ x.locals.length ≤ 1100 ∧ x.code.length ≤ 300)
def fewP (p : Pr) : Bool := decide ((p.consts.length ≤ 60 ∧ p.vars.length ≤ 70 ∧ p.blocks.length ≤ 40 ∧ p.units.length ≤ 10) ∧ (∀ x ∈ p.vars, x.name.length ≤ 300) ∧ (∀ x ∈ p.blocks, x.name.length ≤ 300) ∧ ∀ x ∈ p.units, fewU x = true)
end Go.Proofs.YtefejcofmopjfaaGreatDoor
