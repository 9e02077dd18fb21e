/- Layer 18: RefsMore's program with one more of each: its region. -/
import Derived.Test.YtjlpmepnapaonaaDoorChunk
import Derived.Test.YtjlpmepnapaonaaDoorFacts
import Derived.Test.YtjlpmepnapaonaaDoorKeep
import Derived.Test.YtjlpmepnapaonaaDoorPgm
namespace Go.Proofs.YtjlpmepnapaonaaDoor
open Go.RowKit
set_option linter.unusedSimpArgs false
set_option linter.unusedVariables false
theorem cell_of' {w : World} {b : Nat} {C : Array Value} {t : TypeId} {fr : Nat × Nat} (h : w.heap[b]? = some (.cells C t fr)) (i : Nat) {v : Value} (hv : C[i]? = some v) : w.cell? ⟨b, i, none⟩ = some v := by
  unfold World.cell?
  rw [show (⟨b, i, none⟩ : Addr).block = b from rfl, h]
  simpa using hv
theorem free_of' {w : World} {b : Nat} {C : Array Value} {t : TypeId} (h : w.heap[b]? = some (.cells C t (0, 0))) (i : Nat) : w.frozen? ⟨b, i, none⟩ = false := by
  unfold World.frozen?
  rw [show (⟨b, i, none⟩ : Addr).block = b from rfl, h]
  simp
def st4 (w : World) (g : Nat) (a b c d : Value) : World := (((w.setCell ⟨g, 0, none⟩ a).setCell ⟨g, 1, none⟩ b).setCell ⟨g, 2, none⟩ c).setCell ⟨g, 3, none⟩ d
theorem set_heap (w : World) (g o k : Nat) (a : Value) : (w.setCell ⟨g, o, none⟩ a).heap[k]? = if g = k then w.heap[k]?.map (fun | .cells C t fr => .cells (C.setIfInBounds o a) t fr | x => x) else w.heap[k]? := by
  unfold World.setCell
  show (w.heap.modify g _)[k]? = _
  rw [Array.getElem?_modify]
  split
  · congr 1
  · rfl
theorem st4_at {w : World} {g : Nat} {x0 x1 x2 x3 : Value} {t : TypeId} (h : w.heap[g]? = some (.cells #[x0, x1, x2, x3] t)) (a b c d : Value) : ((((w.setCell ⟨g, 0, none⟩ a).setCell ⟨g, 1, none⟩ b).setCell ⟨g, 2, none⟩ c).setCell ⟨g, 3, none⟩ d).heap[g]? = some (.cells #[a, b, c, d] t) := by
  simp [set_heap, h]
theorem st4_ne {w : World} {g k : Nat} (hne : g ≠ k) (a b c d : Value) : ((((w.setCell ⟨g, 0, none⟩ a).setCell ⟨g, 1, none⟩ b).setCell ⟨g, 2, none⟩ c).setCell ⟨g, 3, none⟩ d).heap[k]? = w.heap[k]? := by
  simp [set_heap, hne]
theorem below_st4 {B : Nat} {w w' : World} {g : Nat} {a b c d : Value} (h : Below B w w') (hB : B ≤ g) : Below B w ((((w'.setCell ⟨g, 0, none⟩ a).setCell ⟨g, 1, none⟩ b).setCell ⟨g, 2, none⟩ c).setCell ⟨g, 3, none⟩ d) :=
  (((h.setCell (p := ⟨g, 0, none⟩) hB _).setCell (p := ⟨g, 1, none⟩) hB _).setCell (p := ⟨g, 2, none⟩) hB _).setCell (p := ⟨g, 3, none⟩) hB _
theorem owns_st4 {w : World} {B : Nat} {e t : TypeId} {q n g : Nat} {v : Value} {xs : List Value} {C : Array Value} {fr : Nat × Nat} {a b c d : Value} (h : w.ownsRow B e q v n xs) (hg : w.heap[g]? = some (.cells C t fr)) (hne : e ≠ t) : ((((w.setCell ⟨g, 0, none⟩ a).setCell ⟨g, 1, none⟩ b).setCell ⟨g, 2, none⟩ c).setCell ⟨g, 3, none⟩ d).ownsRow B e q v n xs := by
  have ne := own_ne_type h hg hne
  exact owns_set (owns_set (owns_set (owns_set h ne) ne) ne) ne
abbrev NilAt (B : Nat) (t : TypeId) (v : World) (u : Value) : Prop := ∃ g, u = .slice (some ⟨g, 0, none⟩) 0 0 ∧ B ≤ g ∧ v.heap[g]? = some (.cells #[] t)
abbrev OneAt (t : TypeId) (C : Array Value) (v : World) (u : Value) : Prop := ∃ p, u = .slice (some ⟨p, 0, none⟩) 1 1 ∧ v.heap[p]? = some (.cells C t)
theorem NilAt.below {B : Nat} {t : TypeId} {v v' : World} {u : Value} (h : NilAt B t v u) (hb : Below v.heap.size v v') : NilAt B t v' u := by
  obtain ⟨g, z1, z2, z3⟩ := h; exact ⟨g, z1, z2, obj_below z3 hb⟩
theorem NilAt.grown {B C q n : Nat} {t e : TypeId} {v v' : World} {u x : Value} {xs : List Value} (h : NilAt B t v u) (hG : v.grownBy v' x.ownBlock) (hO : v.ownsRow C e q x n xs) (hne : e ≠ t) : NilAt B t v' u := by
  obtain ⟨g, z1, z2, z3⟩ := h; exact ⟨g, z1, z2, obj_grown z3 hG (own_ne_type hO z3 hne)⟩
theorem OneAt.below {t : TypeId} {D : Array Value} {v v' : World} {u : Value} (h : OneAt t D v u) (hb : Below v.heap.size v v') : OneAt t D v' u := by
  obtain ⟨g, z1, z3⟩ := h; exact ⟨g, z1, obj_below z3 hb⟩
theorem OneAt.grown {C q n : Nat} {t e : TypeId} {D : Array Value} {v v' : World} {u x : Value} {xs : List Value} (h : OneAt t D v u) (hG : v.grownBy v' x.ownBlock) (hO : v.ownsRow C e q x n xs) (hne : e ≠ t) : OneAt t D v' u := by
  obtain ⟨g, z1, z3⟩ := h; exact ⟨g, z1, obj_grown z3 hG (own_ne_type hO z3 hne)⟩
theorem OneAt.grown0 {t s : TypeId} {D : Array Value} {v v' : World} {u : Value} {g : Nat} (h : OneAt t D v u) (hG : v.grownBy v' (Value.slice (some ⟨g, 0, none⟩) 0 0).ownBlock) (hc : v.heap[g]? = some (.cells #[] s)) (hD : 0 < D.size) : OneAt t D v' u := by
  obtain ⟨p, z1, z3⟩ := h; exact ⟨p, z1, obj_grown z3 hG (own_ne_empty hc z3 hD)⟩
theorem own_grown {B C q p n m : Nat} {t e : TypeId} {v v' : World} {u x : Value} {xs ys : List Value} (h : v.ownsRow B t p u m ys) (hG : v.grownBy v' x.ownBlock) (hO : v.ownsRow C e q x n xs) (hne : t ≠ e) : v'.ownsRow B t p u m ys :=
  owns_grown h hG (fun _ hg => owns_type h hO hne hg)
set_option maxHeartbeats 4000000 in
theorem refsMore_r3 (W0 : World) (gp : Nat) (pc pv pb pu : Value) (n1 n2 n3 n4 : Nat) (X1 X2 X3 X4 : List Value) (hgp : gp < W0.heap.size) (C0 : W0.cell? ⟨gp, 0, none⟩ = some pc) (C1 : W0.cell? ⟨gp, 1, none⟩ = some pv) (C2 : W0.cell? ⟨gp, 2, none⟩ = some pb) (C3 : W0.cell? ⟨gp, 3, none⟩ = some pu) (S1 : Hid (∀ W, Below W0.heap.size W0 W → Src W pc n1 X1)) (l1 : X1.length = n1 * 2) (o1 : Hid (∀ u ∈ X1, u.oneCell' = true)) (m1 : n1 ≤ 1000) (S2 : Hid (∀ W, Below W0.heap.size W0 W → Src W pv n2 X2)) (l2 : X2.length = n2 * 5) (o2 : Hid (∀ u ∈ X2, u.oneCell' = true)) (m2 : n2 ≤ 1000) (S3 : Hid (∀ W, Below W0.heap.size W0 W → Src W pb n3 X3)) (l3 : X3.length = n3 * 2) (o3 : Hid (∀ u ∈ X3, u.oneCell' = true)) (m3 : n3 ≤ 1000) (S4 : Hid (∀ W, Below W0.heap.size W0 W → Src W pu n4 X4)) (l4 : X4.length = n4 * 5) (o4 : Hid (∀ u ∈ X4, u.oneCell' = true)) (m4 : n4 ≤ 1000) (i1 : TypeInfo) (hi1 : Tryd.prog.info? 38 = some i1) (hz1 : i1.zero = some (.agg #[.int .i64 0, .int .i64 0])) (hs1 : i1.size = 2) (hb1 : i1.bytes = 16) (i2 : TypeInfo) (hi2 : Tryd.prog.info? 40 = some i2) (hz2 : i2.zero = some (.agg #[.string ⟨#[]⟩, .int .i64 0, .int .i64 0, .int .i64 0, .int .i64 0])) (hs2 : i2.size = 5) (hb2 : i2.bytes = 48) (i3 : TypeInfo) (hi3 : Tryd.prog.info? 42 = some i3) (hz3 : i3.zero = some (.agg #[.string ⟨#[]⟩, .int .i64 0])) (hs3 : i3.size = 2) (hb3 : i3.bytes = 24) (i4 : TypeInfo) (hi4 : Tryd.prog.info? 46 = some i4) (hz4 : i4.zero = some (.agg #[.string ⟨#[]⟩, .slice none 0 0, .int .i64 0, .slice none 0 0, .slice none 0 0])) (hs4 : i4.size = 5) (hb4 : i4.bytes = 96) (t0 t1 t2 t4 t5 t6 t7 t8 t9 t10 t11 t12 t13 t14 t15 t16 t17 t18 t19 t20 t21 t22 t23 t24 t25 t26 t27 t28 t29 t30 t31 t32 t33 t34 t35 t36 t37 t38 t39 t40 t41 t42 t43 t44 t45 t46 t47 t48 t49 t50 t51 t52 t53 t54 t55 : Value) :
    (Code.region 3 #[{ dst := some 19, op := Op.buildSlice 22 0 #[], type := 22, pos := "law.go:48", after := #[], guard := none }, { dst := some 20, op := Op.fieldAddr 27 (Operand.tmp 3) 0, type := 0, pos := "law.go:48", after := #[], guard := none }, { dst := some 21, op := Op.load 22 (Operand.tmp 20), type := 22, pos := "law.go:48", after := #[{ on := 1, ground := Ground.data }], guard := none }, { dst := some 22, op := Op.call { callee := Callee.builtin Builtin.append, args := #[Operand.tmp 19, Operand.tmp 21], argTypes := #[22, 22] }, type := 22, pos := "law.go:48", after := #[{ on := 0, ground := Ground.data }, { on := 2, ground := Ground.data }], guard := none }, { dst := some 23, op := Op.build 38 #[], type := 38, pos := "law.go:48", after := #[], guard := none }, { dst := some 24, op := Op.buildSlice 22 1 #[(0, Operand.tmp 23)], type := 22, pos := "law.go:48", after := #[{ on := 4, ground := Ground.data }], guard := none }, { dst := some 25, op := Op.call { callee := Callee.builtin Builtin.append, args := #[Operand.tmp 22, Operand.tmp 24], argTypes := #[22, 22] }, type := 22, pos := "law.go:48", after := #[{ on := 3, ground := Ground.data }, { on := 5, ground := Ground.data }, { on := 3, ground := Ground.chain }], guard := none }, { dst := some 26, op := Op.buildSlice 23 0 #[], type := 23, pos := "law.go:48", after := #[], guard := none }, { dst := some 27, op := Op.fieldAddr 27 (Operand.tmp 3) 1, type := 0, pos := "law.go:48", after := #[], guard := none }, { dst := some 28, op := Op.load 23 (Operand.tmp 27), type := 23, pos := "law.go:48", after := #[{ on := 8, ground := Ground.data }], guard := none }, { dst := some 29, op := Op.call { callee := Callee.builtin Builtin.append, args := #[Operand.tmp 26, Operand.tmp 28], argTypes := #[23, 23] }, type := 23, pos := "law.go:48", after := #[{ on := 7, ground := Ground.data }, { on := 9, ground := Ground.data }, { on := 6, ground := Ground.chain }], guard := none }, { dst := some 30, op := Op.build 40 #[], type := 40, pos := "law.go:48", after := #[], guard := none }, { dst := some 31, op := Op.buildSlice 23 1 #[(0, Operand.tmp 30)], type := 23, pos := "law.go:48", after := #[{ on := 11, ground := Ground.data }], guard := none }, { dst := some 32, op := Op.call { callee := Callee.builtin Builtin.append, args := #[Operand.tmp 29, Operand.tmp 31], argTypes := #[23, 23] }, type := 23, pos := "law.go:48", after := #[{ on := 10, ground := Ground.data }, { on := 12, ground := Ground.data }, { on := 10, ground := Ground.chain }], guard := none }, { dst := some 33, op := Op.buildSlice 24 0 #[], type := 24, pos := "law.go:48", after := #[], guard := none }, { dst := some 34, op := Op.fieldAddr 27 (Operand.tmp 3) 2, type := 0, pos := "law.go:48", after := #[], guard := none }, { dst := some 35, op := Op.load 24 (Operand.tmp 34), type := 24, pos := "law.go:48", after := #[{ on := 15, ground := Ground.data }], guard := none }, { dst := some 36, op := Op.call { callee := Callee.builtin Builtin.append, args := #[Operand.tmp 33, Operand.tmp 35], argTypes := #[24, 24] }, type := 24, pos := "law.go:48", after := #[{ on := 14, ground := Ground.data }, { on := 16, ground := Ground.data }, { on := 13, ground := Ground.chain }], guard := none }, { dst := some 37, op := Op.build 42 #[], type := 42, pos := "law.go:48", after := #[], guard := none }, { dst := some 38, op := Op.buildSlice 24 1 #[(0, Operand.tmp 37)], type := 24, pos := "law.go:48", after := #[{ on := 18, ground := Ground.data }], guard := none }, { dst := some 39, op := Op.call { callee := Callee.builtin Builtin.append, args := #[Operand.tmp 36, Operand.tmp 38], argTypes := #[24, 24] }, type := 24, pos := "law.go:48", after := #[{ on := 17, ground := Ground.data }, { on := 19, ground := Ground.data }, { on := 17, ground := Ground.chain }], guard := none }, { dst := some 40, op := Op.buildSlice 25 0 #[], type := 25, pos := "law.go:48", after := #[], guard := none }, { dst := some 41, op := Op.fieldAddr 27 (Operand.tmp 3) 3, type := 0, pos := "law.go:48", after := #[], guard := none }, { dst := some 42, op := Op.load 25 (Operand.tmp 41), type := 25, pos := "law.go:48", after := #[{ on := 22, ground := Ground.data }], guard := none }, { dst := some 43, op := Op.call { callee := Callee.builtin Builtin.append, args := #[Operand.tmp 40, Operand.tmp 42], argTypes := #[25, 25] }, type := 25, pos := "law.go:48", after := #[{ on := 21, ground := Ground.data }, { on := 23, ground := Ground.data }, { on := 20, ground := Ground.chain }], guard := none }, { dst := some 44, op := Op.build 46 #[], type := 46, pos := "law.go:48", after := #[], guard := none }, { dst := some 45, op := Op.buildSlice 25 1 #[(0, Operand.tmp 44)], type := 25, pos := "law.go:48", after := #[{ on := 25, ground := Ground.data }], guard := none }, { dst := some 46, op := Op.call { callee := Callee.builtin Builtin.append, args := #[Operand.tmp 43, Operand.tmp 45], argTypes := #[25, 25] }, type := 25, pos := "law.go:48", after := #[{ on := 24, ground := Ground.data }, { on := 26, ground := Ground.data }, { on := 24, ground := Ground.chain }], guard := none }, { dst := some 47, op := Op.build 27 #[(0, Operand.tmp 25), (1, Operand.tmp 32), (2, Operand.tmp 39), (3, Operand.tmp 46)], type := 27, pos := "law.go:48", after := #[{ on := 6, ground := Ground.data }, { on := 13, ground := Ground.data }, { on := 20, ground := Ground.data }, { on := 27, ground := Ground.data }], guard := none }, { dst := some 7, op := Op.alloc 27, type := 0, pos := "law.go:48", after := #[], guard := none }, { dst := none, op := Op.store 27 (Operand.tmp 7) (Operand.tmp 47), type := 0, pos := "law.go:48", after := #[{ on := 29, ground := Ground.data }, { on := 28, ground := Ground.data }, { on := 27, ground := Ground.chain }, { on := 0, ground := Ground.phase }, { on := 1, ground := Ground.phase }, { on := 2, ground := Ground.phase }, { on := 3, ground := Ground.phase }, { on := 4, ground := Ground.phase }, { on := 5, ground := Ground.phase }, { on := 6, ground := Ground.phase }, { on := 7, ground := Ground.phase }, { on := 8, ground := Ground.phase }, { on := 9, ground := Ground.phase }, { on := 10, ground := Ground.phase }, { on := 11, ground := Ground.phase }, { on := 12, ground := Ground.phase }, { on := 13, ground := Ground.phase }, { on := 14, ground := Ground.phase }, { on := 15, ground := Ground.phase }, { on := 16, ground := Ground.phase }, { on := 17, ground := Ground.phase }, { on := 18, ground := Ground.phase }, { on := 19, ground := Ground.phase }, { on := 20, ground := Ground.phase }, { on := 21, ground := Ground.phase }, { on := 22, ground := Ground.phase }, { on := 23, ground := Ground.phase }, { on := 24, ground := Ground.phase }, { on := 25, ground := Ground.phase }, { on := 26, ground := Ground.phase }, { on := 27, ground := Ground.phase }, { on := 28, ground := Ground.phase }, { on := 29, ground := Ground.phase }], guard := none }] true).wp Tryd.prog (fun e b v => e = Exit.normal ∧ ∃ u7 u19 u20 u21 u22 u23 u24 u25 u26 u27 u28 u29 u30 u31 u32 u33 u34 u35 u36 u37 u38 u39 u40 u41 u42 u43 u44 u45 u46 u47 : Value, b = ⟨#[t0, t1, t2, .pointer (some ⟨gp, 0, none⟩), t4, t5, t6, u7, t8, t9, t10, t11, t12, t13, t14, t15, t16, t17, t18, u19, u20, u21, u22, u23, u24, u25, u26, u27, u28, u29, u30, u31, u32, u33, u34, u35, u36, u37, u38, u39, u40, u41, u42, u43, u44, u45, u46, u47, t48, t49, t50, t51, t52, t53, t54, t55], []⟩ ∧ Below W0.heap.size W0 v ∧ (v.ownsRow W0.heap.size 38 2 u25 (n1 + 1) (X1 ++ [.int .i64 0, .int .i64 0])) ∧ (v.ownsRow W0.heap.size 40 5 u32 (n2 + 1) (X2 ++ [.string ⟨#[]⟩, .int .i64 0, .int .i64 0, .int .i64 0, .int .i64 0])) ∧ (v.ownsRow W0.heap.size 42 2 u39 (n3 + 1) (X3 ++ [.string ⟨#[]⟩, .int .i64 0])) ∧ (v.ownsRow W0.heap.size 46 5 u46 (n4 + 1) (X4 ++ [.string ⟨#[]⟩, .slice none 0 0, .int .i64 0, .slice none 0 0, .slice none 0 0])) ∧ (∃ q, u7 = .pointer (some ⟨q, 0, none⟩) ∧ W0.heap.size ≤ q ∧ v.heap[q]? = some (.cells #[u25, u32, u39, u46] 27))) ⟨#[t0, t1, t2, .pointer (some ⟨gp, 0, none⟩), t4, t5, t6, t7, t8, t9, t10, t11, t12, t13, t14, t15, t16, t17, t18, t19, t20, t21, t22, t23, t24, t25, t26, t27, t28, t29, t30, t31, t32, t33, t34, t35, t36, t37, t38, t39, t40, t41, t42, t43, t44, t45, t46, t47, t48, t49, t50, t51, t52, t53, t54, t55], []⟩ W0 := by
  refine wp_region_facts (n := 31) (fun L b v => ∃ u7 u19 u20 u21 u22 u23 u24 u25 u26 u27 u28 u29 u30 u31 u32 u33 u34 u35 u36 u37 u38 u39 u40 u41 u42 u43 u44 u45 u46 u47 : Value, b = ⟨#[t0, t1, t2, .pointer (some ⟨gp, 0, none⟩), t4, t5, t6, u7, t8, t9, t10, t11, t12, t13, t14, t15, t16, t17, t18, u19, u20, u21, u22, u23, u24, u25, u26, u27, u28, u29, u30, u31, u32, u33, u34, u35, u36, u37, u38, u39, u40, u41, u42, u43, u44, u45, u46, u47, t48, t49, t50, t51, t52, t53, t54, t55], []⟩ ∧ Below W0.heap.size W0 v ∧ (L.getD 0 false = true → L.getD 3 true = false → NilAt W0.heap.size 38 v u19) ∧ (L.getD 1 false = true → u20 = .pointer (some ⟨gp, 0, none⟩)) ∧ (L.getD 2 false = true → u21 = pc) ∧ (L.getD 3 false = true → L.getD 6 true = false → v.ownsRow W0.heap.size 38 2 u22 n1 X1) ∧ (L.getD 4 false = true → u23 = .agg #[.int .i64 0, .int .i64 0]) ∧ (L.getD 5 false = true → L.getD 6 true = false → OneAt 38 #[.int .i64 0, .int .i64 0] v u24) ∧ (L.getD 6 false = true → v.ownsRow W0.heap.size 38 2 u25 (n1 + 1) (X1 ++ [.int .i64 0, .int .i64 0])) ∧ (L.getD 7 false = true → L.getD 10 true = false → NilAt W0.heap.size 40 v u26) ∧ (L.getD 8 false = true → u27 = .pointer (some ⟨gp, 1, none⟩)) ∧ (L.getD 9 false = true → u28 = pv) ∧ (L.getD 10 false = true → L.getD 13 true = false → v.ownsRow W0.heap.size 40 5 u29 n2 X2) ∧ (L.getD 11 false = true → u30 = .agg #[.string ⟨#[]⟩, .int .i64 0, .int .i64 0, .int .i64 0, .int .i64 0]) ∧ (L.getD 12 false = true → L.getD 13 true = false → OneAt 40 #[.string ⟨#[]⟩, .int .i64 0, .int .i64 0, .int .i64 0, .int .i64 0] v u31) ∧ (L.getD 13 false = true → v.ownsRow W0.heap.size 40 5 u32 (n2 + 1) (X2 ++ [.string ⟨#[]⟩, .int .i64 0, .int .i64 0, .int .i64 0, .int .i64 0])) ∧ (L.getD 14 false = true → L.getD 17 true = false → NilAt W0.heap.size 42 v u33) ∧ (L.getD 15 false = true → u34 = .pointer (some ⟨gp, 2, none⟩)) ∧ (L.getD 16 false = true → u35 = pb) ∧ (L.getD 17 false = true → L.getD 20 true = false → v.ownsRow W0.heap.size 42 2 u36 n3 X3) ∧ (L.getD 18 false = true → u37 = .agg #[.string ⟨#[]⟩, .int .i64 0]) ∧ (L.getD 19 false = true → L.getD 20 true = false → OneAt 42 #[.string ⟨#[]⟩, .int .i64 0] v u38) ∧ (L.getD 20 false = true → v.ownsRow W0.heap.size 42 2 u39 (n3 + 1) (X3 ++ [.string ⟨#[]⟩, .int .i64 0])) ∧ (L.getD 21 false = true → L.getD 24 true = false → NilAt W0.heap.size 46 v u40) ∧ (L.getD 22 false = true → u41 = .pointer (some ⟨gp, 3, none⟩)) ∧ (L.getD 23 false = true → u42 = pu) ∧ (L.getD 24 false = true → L.getD 27 true = false → v.ownsRow W0.heap.size 46 5 u43 n4 X4) ∧ (L.getD 25 false = true → u44 = .agg #[.string ⟨#[]⟩, .slice none 0 0, .int .i64 0, .slice none 0 0, .slice none 0 0]) ∧ (L.getD 26 false = true → L.getD 27 true = false → OneAt 46 #[.string ⟨#[]⟩, .slice none 0 0, .int .i64 0, .slice none 0 0, .slice none 0 0] v u45) ∧ (L.getD 27 false = true → v.ownsRow W0.heap.size 46 5 u46 (n4 + 1) (X4 ++ [.string ⟨#[]⟩, .slice none 0 0, .int .i64 0, .slice none 0 0, .slice none 0 0])) ∧ (L.getD 28 false = true → u47 = .agg #[u25, u32, u39, u46] ∧ v = v) ∧ (L.getD 29 false = true → L.getD 30 true = false → ∃ q, u7 = .pointer (some ⟨q, 0, none⟩) ∧ W0.heap.size ≤ q ∧ v.heap[q]? = some (.cells #[.slice none 0 0, .slice none 0 0, .slice none 0 0, .slice none 0 0] 27)) ∧ (L.getD 30 false = true → ∃ q, u7 = .pointer (some ⟨q, 0, none⟩) ∧ W0.heap.size ≤ q ∧ v.heap[q]? = some (.cells #[u25, u32, u39, u46] 27))) (by kernel_rfl) (by kernel_rfl) (by kernel_rfl) ?_ ?_ ?_
  · refine ⟨_, _, _, _, _, _, _, _, _, _, _, _, _, _, _, _, _, _, _, _, _, _, _, _, _, _, _, _, _, _, rfl, (Below.refl _ _).drew, flag_new, flag_new, flag_new, flag_new, flag_new, flag_new, flag_new, flag_new, flag_new, flag_new, flag_new, flag_new, flag_new, flag_new, flag_new, flag_new, flag_new, flag_new, flag_new, flag_new, flag_new, flag_new, flag_new, flag_new, flag_new, flag_new, flag_new, flag_new, flag_new, flag_new, flag_new⟩
  · refine AllSteps.succ (AllSteps.succ (AllSteps.succ (AllSteps.succ (AllSteps.succ (AllSteps.succ (AllSteps.succ (AllSteps.succ (AllSteps.succ (AllSteps.succ (AllSteps.succ (AllSteps.succ (AllSteps.succ (AllSteps.succ (AllSteps.succ (AllSteps.succ (AllSteps.succ (AllSteps.succ (AllSteps.succ (AllSteps.succ (AllSteps.succ (AllSteps.succ (AllSteps.succ (AllSteps.succ (AllSteps.succ (AllSteps.succ (AllSteps.succ (AllSteps.succ (AllSteps.succ (AllSteps.succ (AllSteps.succ AllSteps.zero ?_) ?_) ?_) ?_) ?_) ?_) ?_) ?_) ?_) ?_) ?_) ?_) ?_) ?_) ?_) ?_) ?_) ?_) ?_) ?_) ?_) ?_) ?_) ?_) ?_) ?_) ?_) ?_) ?_) ?_) ?_
    · refine StepAt.mk (o := { dst := some 19, op := Op.buildSlice 22 0 #[], type := 22, pos := _, after := #[], guard := none }) (ws := []) rfl (by kernel_rfl) ?_
      intro L b v hC h0 hA h
      refine h.elim ?_; clear h; intro u7 h
      refine h.elim ?_; clear h; intro u19 h
      refine h.elim ?_; clear h; intro u20 h
      refine h.elim ?_; clear h; intro u21 h
      refine h.elim ?_; clear h; intro u22 h
      refine h.elim ?_; clear h; intro u23 h
      refine h.elim ?_; clear h; intro u24 h
      refine h.elim ?_; clear h; intro u25 h
      refine h.elim ?_; clear h; intro u26 h
      refine h.elim ?_; clear h; intro u27 h
      refine h.elim ?_; clear h; intro u28 h
      refine h.elim ?_; clear h; intro u29 h
      refine h.elim ?_; clear h; intro u30 h
      refine h.elim ?_; clear h; intro u31 h
      refine h.elim ?_; clear h; intro u32 h
      refine h.elim ?_; clear h; intro u33 h
      refine h.elim ?_; clear h; intro u34 h
      refine h.elim ?_; clear h; intro u35 h
      refine h.elim ?_; clear h; intro u36 h
      refine h.elim ?_; clear h; intro u37 h
      refine h.elim ?_; clear h; intro u38 h
      refine h.elim ?_; clear h; intro u39 h
      refine h.elim ?_; clear h; intro u40 h
      refine h.elim ?_; clear h; intro u41 h
      refine h.elim ?_; clear h; intro u42 h
      refine h.elim ?_; clear h; intro u43 h
      refine h.elim ?_; clear h; intro u44 h
      refine h.elim ?_; clear h; intro u45 h
      refine h.elim ?_; clear h; intro u46 h
      refine h.elim ?_; clear h; intro u47 h
      have hbb := h.1; replace h := h.2; subst hbb
      have hHeld := h.1; replace h := h.2
      have f0 := h.1; replace h := h.2
      have f1 := h.1; replace h := h.2
      have f2 := h.1; replace h := h.2
      have f3 := h.1; replace h := h.2
      have f4 := h.1; replace h := h.2
      have f5 := h.1; replace h := h.2
      have f6 := h.1; replace h := h.2
      have f7 := h.1; replace h := h.2
      have f8 := h.1; replace h := h.2
      have f9 := h.1; replace h := h.2
      have f10 := h.1; replace h := h.2
      have f11 := h.1; replace h := h.2
      have f12 := h.1; replace h := h.2
      have f13 := h.1; replace h := h.2
      have f14 := h.1; replace h := h.2
      have f15 := h.1; replace h := h.2
      have f16 := h.1; replace h := h.2
      have f17 := h.1; replace h := h.2
      have f18 := h.1; replace h := h.2
      have f19 := h.1; replace h := h.2
      have f20 := h.1; replace h := h.2
      have f21 := h.1; replace h := h.2
      have f22 := h.1; replace h := h.2
      have f23 := h.1; replace h := h.2
      have f24 := h.1; replace h := h.2
      have f25 := h.1; replace h := h.2
      have f26 := h.1; replace h := h.2
      have f27 := h.1; replace h := h.2
      have f28 := h.1; replace h := h.2
      have f29 := h.1; replace h := h.2
      have f30 := h; clear h
      intro K hK
      rw [if_pos (by kernel_rfl)]
      have q0 := cellB hHeld C0 hgp
      have q1 := cellB hHeld C1 hgp
      have q2 := cellB hHeld C2 hgp
      have q3 := cellB hHeld C3 hgp
      go_simp
      try simp only [Act.put, List.setIfInBounds_toArray, List.set_cons_zero, List.set_cons_succ]
      have hb : Below v.heap.size v (v.alloc (.cells #[] 38)) := (Below.refl _ _).alloc (Nat.le_refl _) _
      refine hK.out _ _ ⟨_, _, _, _, _, _, _, _, _, _, _, _, _, _, _, _, _, _, _, _, _, _, _, _, _, _, _, _, _, _, rfl, ?_, ?_, ?_, ?_, ?_, ?_, ?_, ?_, ?_, ?_, ?_, ?_, ?_, ?_, ?_, ?_, ?_, ?_, ?_, ?_, ?_, ?_, ?_, ?_, ?_, ?_, ?_, ?_, ?_, ?_, ?_, ?_⟩
      · exact hHeld.alloc hHeld.size _
      · intro _ _; first | (exact ⟨_, rfl, hHeld.size, heap_new v _⟩) | (trace_state; fail)
      · first | exact flag_ne (by decide) f1 | exact fun _ => rfl
      · first | exact flag_ne (by decide) f2 | exact fun _ => rfl
      · intro h _; rw [getD_set_ne false (by decide)] at h; exact (getD_no h0 (hC.step (j := 3) (k := 0) h (by kernel_rfl))).elim
      · first | exact flag_ne (by decide) f4 | exact fun _ => rfl
      · intro h h7; rw [getD_set_ne false (by decide)] at h; rw [getD_set_ne true (by decide)] at h7; have := f5 h h7; first | exact this | exact this.below hb | exact this.grown hG HOWN (by decide) | exact this.grown0 hG hgc0 (by decide)
      · intro h; rw [getD_set_ne false (by decide)] at h; exact (getD_no h0 (hC.step (j := 3) (k := 0) (hC.step (j := 6) (k := 3) h (by kernel_rfl)) (by kernel_rfl))).elim
      · intro h h7; rw [getD_set_ne false (by decide)] at h; rw [getD_set_ne true (by decide)] at h7; have := f7 h h7; first | exact this | exact this.below hb | exact this.grown hG HOWN (by decide)
      · first | exact flag_ne (by decide) f8 | exact fun _ => rfl
      · first | exact flag_ne (by decide) f9 | exact fun _ => rfl
      · intro h _; rw [getD_set_ne false (by decide)] at h; exact (getD_no h0 (hC.step (j := 3) (k := 0) (hC.step (j := 6) (k := 3) (hC.step (j := 10) (k := 6) h (by kernel_rfl)) (by kernel_rfl)) (by kernel_rfl))).elim
      · first | exact flag_ne (by decide) f11 | exact fun _ => rfl
      · intro h h7; rw [getD_set_ne false (by decide)] at h; rw [getD_set_ne true (by decide)] at h7; have := f12 h h7; first | exact this | exact this.below hb | exact this.grown hG HOWN (by decide) | exact this.grown0 hG hgc7 (by decide)
      · intro h; rw [getD_set_ne false (by decide)] at h; exact (getD_no h0 (hC.step (j := 3) (k := 0) (hC.step (j := 6) (k := 3) (hC.step (j := 10) (k := 6) (hC.step (j := 13) (k := 10) h (by kernel_rfl)) (by kernel_rfl)) (by kernel_rfl)) (by kernel_rfl))).elim
      · intro h h7; rw [getD_set_ne false (by decide)] at h; rw [getD_set_ne true (by decide)] at h7; have := f14 h h7; first | exact this | exact this.below hb | exact this.grown hG HOWN (by decide)
      · first | exact flag_ne (by decide) f15 | exact fun _ => rfl
      · first | exact flag_ne (by decide) f16 | exact fun _ => rfl
      · intro h _; rw [getD_set_ne false (by decide)] at h; exact (getD_no h0 (hC.step (j := 3) (k := 0) (hC.step (j := 6) (k := 3) (hC.step (j := 10) (k := 6) (hC.step (j := 13) (k := 10) (hC.step (j := 17) (k := 13) h (by kernel_rfl)) (by kernel_rfl)) (by kernel_rfl)) (by kernel_rfl)) (by kernel_rfl))).elim
      · first | exact flag_ne (by decide) f18 | exact fun _ => rfl
      · intro h h7; rw [getD_set_ne false (by decide)] at h; rw [getD_set_ne true (by decide)] at h7; have := f19 h h7; first | exact this | exact this.below hb | exact this.grown hG HOWN (by decide) | exact this.grown0 hG hgc14 (by decide)
      · intro h; rw [getD_set_ne false (by decide)] at h; exact (getD_no h0 (hC.step (j := 3) (k := 0) (hC.step (j := 6) (k := 3) (hC.step (j := 10) (k := 6) (hC.step (j := 13) (k := 10) (hC.step (j := 17) (k := 13) (hC.step (j := 20) (k := 17) h (by kernel_rfl)) (by kernel_rfl)) (by kernel_rfl)) (by kernel_rfl)) (by kernel_rfl)) (by kernel_rfl))).elim
      · intro h h7; rw [getD_set_ne false (by decide)] at h; rw [getD_set_ne true (by decide)] at h7; have := f21 h h7; first | exact this | exact this.below hb | exact this.grown hG HOWN (by decide)
      · first | exact flag_ne (by decide) f22 | exact fun _ => rfl
      · first | exact flag_ne (by decide) f23 | exact fun _ => rfl
      · intro h _; rw [getD_set_ne false (by decide)] at h; exact (getD_no h0 (hC.step (j := 3) (k := 0) (hC.step (j := 6) (k := 3) (hC.step (j := 10) (k := 6) (hC.step (j := 13) (k := 10) (hC.step (j := 17) (k := 13) (hC.step (j := 20) (k := 17) (hC.step (j := 24) (k := 20) h (by kernel_rfl)) (by kernel_rfl)) (by kernel_rfl)) (by kernel_rfl)) (by kernel_rfl)) (by kernel_rfl)) (by kernel_rfl))).elim
      · first | exact flag_ne (by decide) f25 | exact fun _ => rfl
      · intro h h7; rw [getD_set_ne false (by decide)] at h; rw [getD_set_ne true (by decide)] at h7; have := f26 h h7; first | exact this | exact this.below hb | exact this.grown hG HOWN (by decide) | exact this.grown0 hG hgc21 (by decide)
      · intro h; rw [getD_set_ne false (by decide)] at h; exact (getD_no h0 (hC.step (j := 3) (k := 0) (hC.step (j := 6) (k := 3) (hC.step (j := 10) (k := 6) (hC.step (j := 13) (k := 10) (hC.step (j := 17) (k := 13) (hC.step (j := 20) (k := 17) (hC.step (j := 24) (k := 20) (hC.step (j := 27) (k := 24) h (by kernel_rfl)) (by kernel_rfl)) (by kernel_rfl)) (by kernel_rfl)) (by kernel_rfl)) (by kernel_rfl)) (by kernel_rfl)) (by kernel_rfl))).elim
      · intro h; rw [getD_set_ne false (by decide)] at h; exact (getD_no h0 (hC.step (j := 3) (k := 0) (hC.step (j := 6) (k := 3) (hC.step (j := 28) (k := 6) h (by kernel_rfl)) (by kernel_rfl)) (by kernel_rfl))).elim
      · intro h h7; rw [getD_set_ne false (by decide)] at h; rw [getD_set_ne true (by decide)] at h7; have := f29 h h7; obtain ⟨g, z1, z2, z3⟩ := this; exact (by first | exact ⟨g, z1, z2, z3⟩ | exact ⟨g, z1, z2, obj_below z3 hb⟩ | exact ⟨g, z1, z2, obj_grown z3 hG (own_ne_type HOWN z3 (by decide))⟩ | (trace_state; fail))
      · intro h; rw [getD_set_ne false (by decide)] at h; exact (getD_no h0 (hC.step (j := 30) (k := 0) h (by kernel_rfl))).elim
    · refine StepAt.mk (o := { dst := some 20, op := Op.fieldAddr 27 (Operand.tmp 3) 0, type := 0, pos := _, after := #[], guard := none }) (ws := []) rfl (by kernel_rfl) ?_
      intro L b v hC h0 hA h
      refine h.elim ?_; clear h; intro u7 h
      refine h.elim ?_; clear h; intro u19 h
      refine h.elim ?_; clear h; intro u20 h
      refine h.elim ?_; clear h; intro u21 h
      refine h.elim ?_; clear h; intro u22 h
      refine h.elim ?_; clear h; intro u23 h
      refine h.elim ?_; clear h; intro u24 h
      refine h.elim ?_; clear h; intro u25 h
      refine h.elim ?_; clear h; intro u26 h
      refine h.elim ?_; clear h; intro u27 h
      refine h.elim ?_; clear h; intro u28 h
      refine h.elim ?_; clear h; intro u29 h
      refine h.elim ?_; clear h; intro u30 h
      refine h.elim ?_; clear h; intro u31 h
      refine h.elim ?_; clear h; intro u32 h
      refine h.elim ?_; clear h; intro u33 h
      refine h.elim ?_; clear h; intro u34 h
      refine h.elim ?_; clear h; intro u35 h
      refine h.elim ?_; clear h; intro u36 h
      refine h.elim ?_; clear h; intro u37 h
      refine h.elim ?_; clear h; intro u38 h
      refine h.elim ?_; clear h; intro u39 h
      refine h.elim ?_; clear h; intro u40 h
      refine h.elim ?_; clear h; intro u41 h
      refine h.elim ?_; clear h; intro u42 h
      refine h.elim ?_; clear h; intro u43 h
      refine h.elim ?_; clear h; intro u44 h
      refine h.elim ?_; clear h; intro u45 h
      refine h.elim ?_; clear h; intro u46 h
      refine h.elim ?_; clear h; intro u47 h
      have hbb := h.1; replace h := h.2; subst hbb
      have hHeld := h.1; replace h := h.2
      have f0 := h.1; replace h := h.2
      have f1 := h.1; replace h := h.2
      have f2 := h.1; replace h := h.2
      have f3 := h.1; replace h := h.2
      have f4 := h.1; replace h := h.2
      have f5 := h.1; replace h := h.2
      have f6 := h.1; replace h := h.2
      have f7 := h.1; replace h := h.2
      have f8 := h.1; replace h := h.2
      have f9 := h.1; replace h := h.2
      have f10 := h.1; replace h := h.2
      have f11 := h.1; replace h := h.2
      have f12 := h.1; replace h := h.2
      have f13 := h.1; replace h := h.2
      have f14 := h.1; replace h := h.2
      have f15 := h.1; replace h := h.2
      have f16 := h.1; replace h := h.2
      have f17 := h.1; replace h := h.2
      have f18 := h.1; replace h := h.2
      have f19 := h.1; replace h := h.2
      have f20 := h.1; replace h := h.2
      have f21 := h.1; replace h := h.2
      have f22 := h.1; replace h := h.2
      have f23 := h.1; replace h := h.2
      have f24 := h.1; replace h := h.2
      have f25 := h.1; replace h := h.2
      have f26 := h.1; replace h := h.2
      have f27 := h.1; replace h := h.2
      have f28 := h.1; replace h := h.2
      have f29 := h.1; replace h := h.2
      have f30 := h; clear h
      intro K hK
      rw [if_pos (by kernel_rfl)]
      have q0 := cellB hHeld C0 hgp
      have q1 := cellB hHeld C1 hgp
      have q2 := cellB hHeld C2 hgp
      have q3 := cellB hHeld C3 hgp
      go_simp
      try simp only [Act.put, List.setIfInBounds_toArray, List.set_cons_zero, List.set_cons_succ]
      refine hK.out _ _ ⟨_, _, _, _, _, _, _, _, _, _, _, _, _, _, _, _, _, _, _, _, _, _, _, _, _, _, _, _, _, _, rfl, ?_, ?_, ?_, ?_, ?_, ?_, ?_, ?_, ?_, ?_, ?_, ?_, ?_, ?_, ?_, ?_, ?_, ?_, ?_, ?_, ?_, ?_, ?_, ?_, ?_, ?_, ?_, ?_, ?_, ?_, ?_, ?_⟩
      · first | exact hHeld | exact hHeld.trans (hb.mono hHeld.size) | (trace_state; fail)
      · intro h h7; rw [getD_set_ne false (by decide)] at h; rw [getD_set_ne true (by decide)] at h7; have := f0 h h7; first | exact this | exact this.below hb | exact this.grown hG HOWN (by decide)
      · intro _; first | rfl | (trace_state; fail)
      · first | exact flag_ne (by decide) f2 | exact fun _ => rfl
      · intro h _; rw [getD_set_ne false (by decide)] at h; exact (getD_no h0 (hC.step (j := 2) (k := 1) (hC.step (j := 3) (k := 2) h (by kernel_rfl)) (by kernel_rfl))).elim
      · first | exact flag_ne (by decide) f4 | exact fun _ => rfl
      · intro h h7; rw [getD_set_ne false (by decide)] at h; rw [getD_set_ne true (by decide)] at h7; have := f5 h h7; first | exact this | exact this.below hb | exact this.grown hG HOWN (by decide) | exact this.grown0 hG hgc0 (by decide)
      · intro h; rw [getD_set_ne false (by decide)] at h; exact (getD_no h0 (hC.step (j := 2) (k := 1) (hC.step (j := 3) (k := 2) (hC.step (j := 6) (k := 3) h (by kernel_rfl)) (by kernel_rfl)) (by kernel_rfl))).elim
      · intro h h7; rw [getD_set_ne false (by decide)] at h; rw [getD_set_ne true (by decide)] at h7; have := f7 h h7; first | exact this | exact this.below hb | exact this.grown hG HOWN (by decide)
      · first | exact flag_ne (by decide) f8 | exact fun _ => rfl
      · first | exact flag_ne (by decide) f9 | exact fun _ => rfl
      · intro h _; rw [getD_set_ne false (by decide)] at h; exact (getD_no h0 (hC.step (j := 2) (k := 1) (hC.step (j := 3) (k := 2) (hC.step (j := 6) (k := 3) (hC.step (j := 10) (k := 6) h (by kernel_rfl)) (by kernel_rfl)) (by kernel_rfl)) (by kernel_rfl))).elim
      · first | exact flag_ne (by decide) f11 | exact fun _ => rfl
      · intro h h7; rw [getD_set_ne false (by decide)] at h; rw [getD_set_ne true (by decide)] at h7; have := f12 h h7; first | exact this | exact this.below hb | exact this.grown hG HOWN (by decide) | exact this.grown0 hG hgc7 (by decide)
      · intro h; rw [getD_set_ne false (by decide)] at h; exact (getD_no h0 (hC.step (j := 2) (k := 1) (hC.step (j := 3) (k := 2) (hC.step (j := 6) (k := 3) (hC.step (j := 10) (k := 6) (hC.step (j := 13) (k := 10) h (by kernel_rfl)) (by kernel_rfl)) (by kernel_rfl)) (by kernel_rfl)) (by kernel_rfl))).elim
      · intro h h7; rw [getD_set_ne false (by decide)] at h; rw [getD_set_ne true (by decide)] at h7; have := f14 h h7; first | exact this | exact this.below hb | exact this.grown hG HOWN (by decide)
      · first | exact flag_ne (by decide) f15 | exact fun _ => rfl
      · first | exact flag_ne (by decide) f16 | exact fun _ => rfl
      · intro h _; rw [getD_set_ne false (by decide)] at h; exact (getD_no h0 (hC.step (j := 2) (k := 1) (hC.step (j := 3) (k := 2) (hC.step (j := 6) (k := 3) (hC.step (j := 10) (k := 6) (hC.step (j := 13) (k := 10) (hC.step (j := 17) (k := 13) h (by kernel_rfl)) (by kernel_rfl)) (by kernel_rfl)) (by kernel_rfl)) (by kernel_rfl)) (by kernel_rfl))).elim
      · first | exact flag_ne (by decide) f18 | exact fun _ => rfl
      · intro h h7; rw [getD_set_ne false (by decide)] at h; rw [getD_set_ne true (by decide)] at h7; have := f19 h h7; first | exact this | exact this.below hb | exact this.grown hG HOWN (by decide) | exact this.grown0 hG hgc14 (by decide)
      · intro h; rw [getD_set_ne false (by decide)] at h; exact (getD_no h0 (hC.step (j := 2) (k := 1) (hC.step (j := 3) (k := 2) (hC.step (j := 6) (k := 3) (hC.step (j := 10) (k := 6) (hC.step (j := 13) (k := 10) (hC.step (j := 17) (k := 13) (hC.step (j := 20) (k := 17) h (by kernel_rfl)) (by kernel_rfl)) (by kernel_rfl)) (by kernel_rfl)) (by kernel_rfl)) (by kernel_rfl)) (by kernel_rfl))).elim
      · intro h h7; rw [getD_set_ne false (by decide)] at h; rw [getD_set_ne true (by decide)] at h7; have := f21 h h7; first | exact this | exact this.below hb | exact this.grown hG HOWN (by decide)
      · first | exact flag_ne (by decide) f22 | exact fun _ => rfl
      · first | exact flag_ne (by decide) f23 | exact fun _ => rfl
      · intro h _; rw [getD_set_ne false (by decide)] at h; exact (getD_no h0 (hC.step (j := 2) (k := 1) (hC.step (j := 3) (k := 2) (hC.step (j := 6) (k := 3) (hC.step (j := 10) (k := 6) (hC.step (j := 13) (k := 10) (hC.step (j := 17) (k := 13) (hC.step (j := 20) (k := 17) (hC.step (j := 24) (k := 20) h (by kernel_rfl)) (by kernel_rfl)) (by kernel_rfl)) (by kernel_rfl)) (by kernel_rfl)) (by kernel_rfl)) (by kernel_rfl)) (by kernel_rfl))).elim
      · first | exact flag_ne (by decide) f25 | exact fun _ => rfl
      · intro h h7; rw [getD_set_ne false (by decide)] at h; rw [getD_set_ne true (by decide)] at h7; have := f26 h h7; first | exact this | exact this.below hb | exact this.grown hG HOWN (by decide) | exact this.grown0 hG hgc21 (by decide)
      · intro h; rw [getD_set_ne false (by decide)] at h; exact (getD_no h0 (hC.step (j := 2) (k := 1) (hC.step (j := 3) (k := 2) (hC.step (j := 6) (k := 3) (hC.step (j := 10) (k := 6) (hC.step (j := 13) (k := 10) (hC.step (j := 17) (k := 13) (hC.step (j := 20) (k := 17) (hC.step (j := 24) (k := 20) (hC.step (j := 27) (k := 24) h (by kernel_rfl)) (by kernel_rfl)) (by kernel_rfl)) (by kernel_rfl)) (by kernel_rfl)) (by kernel_rfl)) (by kernel_rfl)) (by kernel_rfl)) (by kernel_rfl))).elim
      · intro h; rw [getD_set_ne false (by decide)] at h; exact (getD_no h0 (hC.step (j := 2) (k := 1) (hC.step (j := 3) (k := 2) (hC.step (j := 6) (k := 3) (hC.step (j := 28) (k := 6) h (by kernel_rfl)) (by kernel_rfl)) (by kernel_rfl)) (by kernel_rfl))).elim
      · intro h h7; rw [getD_set_ne false (by decide)] at h; rw [getD_set_ne true (by decide)] at h7; have := f29 h h7; obtain ⟨g, z1, z2, z3⟩ := this; exact (by first | exact ⟨g, z1, z2, z3⟩ | exact ⟨g, z1, z2, obj_below z3 hb⟩ | exact ⟨g, z1, z2, obj_grown z3 hG (own_ne_type HOWN z3 (by decide))⟩ | (trace_state; fail))
      · intro h; rw [getD_set_ne false (by decide)] at h; exact (getD_no h0 (hC.step (j := 30) (k := 1) h (by kernel_rfl))).elim
    · refine StepAt.mk (o := { dst := some 21, op := Op.load 22 (Operand.tmp 20), type := 22, pos := _, after := #[{ on := 1, ground := Ground.data }], guard := none }) (ws := [1]) rfl (by kernel_rfl) ?_
      intro L b v hC h0 hA h
      refine h.elim ?_; clear h; intro u7 h
      refine h.elim ?_; clear h; intro u19 h
      refine h.elim ?_; clear h; intro u20 h
      refine h.elim ?_; clear h; intro u21 h
      refine h.elim ?_; clear h; intro u22 h
      refine h.elim ?_; clear h; intro u23 h
      refine h.elim ?_; clear h; intro u24 h
      refine h.elim ?_; clear h; intro u25 h
      refine h.elim ?_; clear h; intro u26 h
      refine h.elim ?_; clear h; intro u27 h
      refine h.elim ?_; clear h; intro u28 h
      refine h.elim ?_; clear h; intro u29 h
      refine h.elim ?_; clear h; intro u30 h
      refine h.elim ?_; clear h; intro u31 h
      refine h.elim ?_; clear h; intro u32 h
      refine h.elim ?_; clear h; intro u33 h
      refine h.elim ?_; clear h; intro u34 h
      refine h.elim ?_; clear h; intro u35 h
      refine h.elim ?_; clear h; intro u36 h
      refine h.elim ?_; clear h; intro u37 h
      refine h.elim ?_; clear h; intro u38 h
      refine h.elim ?_; clear h; intro u39 h
      refine h.elim ?_; clear h; intro u40 h
      refine h.elim ?_; clear h; intro u41 h
      refine h.elim ?_; clear h; intro u42 h
      refine h.elim ?_; clear h; intro u43 h
      refine h.elim ?_; clear h; intro u44 h
      refine h.elim ?_; clear h; intro u45 h
      refine h.elim ?_; clear h; intro u46 h
      refine h.elim ?_; clear h; intro u47 h
      have hbb := h.1; replace h := h.2; subst hbb
      have hHeld := h.1; replace h := h.2
      have f0 := h.1; replace h := h.2
      have f1 := h.1; replace h := h.2
      have f2 := h.1; replace h := h.2
      have f3 := h.1; replace h := h.2
      have f4 := h.1; replace h := h.2
      have f5 := h.1; replace h := h.2
      have f6 := h.1; replace h := h.2
      have f7 := h.1; replace h := h.2
      have f8 := h.1; replace h := h.2
      have f9 := h.1; replace h := h.2
      have f10 := h.1; replace h := h.2
      have f11 := h.1; replace h := h.2
      have f12 := h.1; replace h := h.2
      have f13 := h.1; replace h := h.2
      have f14 := h.1; replace h := h.2
      have f15 := h.1; replace h := h.2
      have f16 := h.1; replace h := h.2
      have f17 := h.1; replace h := h.2
      have f18 := h.1; replace h := h.2
      have f19 := h.1; replace h := h.2
      have f20 := h.1; replace h := h.2
      have f21 := h.1; replace h := h.2
      have f22 := h.1; replace h := h.2
      have f23 := h.1; replace h := h.2
      have f24 := h.1; replace h := h.2
      have f25 := h.1; replace h := h.2
      have f26 := h.1; replace h := h.2
      have f27 := h.1; replace h := h.2
      have f28 := h.1; replace h := h.2
      have f29 := h.1; replace h := h.2
      have f30 := h; clear h
      intro K hK
      have g1 := f1 (hA 1 (by simp))
      obtain rfl := g1
      rw [if_pos (by kernel_rfl)]
      have q0 := cellB hHeld C0 hgp
      have q1 := cellB hHeld C1 hgp
      have q2 := cellB hHeld C2 hgp
      have q3 := cellB hHeld C3 hgp
      go_simp
      try simp only [Act.put, List.setIfInBounds_toArray, List.set_cons_zero, List.set_cons_succ]
      refine hK.out _ _ ⟨_, _, _, _, _, _, _, _, _, _, _, _, _, _, _, _, _, _, _, _, _, _, _, _, _, _, _, _, _, _, rfl, ?_, ?_, ?_, ?_, ?_, ?_, ?_, ?_, ?_, ?_, ?_, ?_, ?_, ?_, ?_, ?_, ?_, ?_, ?_, ?_, ?_, ?_, ?_, ?_, ?_, ?_, ?_, ?_, ?_, ?_, ?_, ?_⟩
      · first | exact hHeld | exact hHeld.trans (hb.mono hHeld.size) | (trace_state; fail)
      · intro h h7; rw [getD_set_ne false (by decide)] at h; rw [getD_set_ne true (by decide)] at h7; have := f0 h h7; first | exact this | exact this.below hb | exact this.grown hG HOWN (by decide)
      · first | exact flag_ne (by decide) f1 | exact fun _ => rfl
      · intro _; first | rfl | (trace_state; fail)
      · intro h _; rw [getD_set_ne false (by decide)] at h; exact (getD_no h0 (hC.step (j := 3) (k := 2) h (by kernel_rfl))).elim
      · first | exact flag_ne (by decide) f4 | exact fun _ => rfl
      · intro h h7; rw [getD_set_ne false (by decide)] at h; rw [getD_set_ne true (by decide)] at h7; have := f5 h h7; first | exact this | exact this.below hb | exact this.grown hG HOWN (by decide) | exact this.grown0 hG hgc0 (by decide)
      · intro h; rw [getD_set_ne false (by decide)] at h; exact (getD_no h0 (hC.step (j := 3) (k := 2) (hC.step (j := 6) (k := 3) h (by kernel_rfl)) (by kernel_rfl))).elim
      · intro h h7; rw [getD_set_ne false (by decide)] at h; rw [getD_set_ne true (by decide)] at h7; have := f7 h h7; first | exact this | exact this.below hb | exact this.grown hG HOWN (by decide)
      · first | exact flag_ne (by decide) f8 | exact fun _ => rfl
      · first | exact flag_ne (by decide) f9 | exact fun _ => rfl
      · intro h _; rw [getD_set_ne false (by decide)] at h; exact (getD_no h0 (hC.step (j := 3) (k := 2) (hC.step (j := 6) (k := 3) (hC.step (j := 10) (k := 6) h (by kernel_rfl)) (by kernel_rfl)) (by kernel_rfl))).elim
      · first | exact flag_ne (by decide) f11 | exact fun _ => rfl
      · intro h h7; rw [getD_set_ne false (by decide)] at h; rw [getD_set_ne true (by decide)] at h7; have := f12 h h7; first | exact this | exact this.below hb | exact this.grown hG HOWN (by decide) | exact this.grown0 hG hgc7 (by decide)
      · intro h; rw [getD_set_ne false (by decide)] at h; exact (getD_no h0 (hC.step (j := 3) (k := 2) (hC.step (j := 6) (k := 3) (hC.step (j := 10) (k := 6) (hC.step (j := 13) (k := 10) h (by kernel_rfl)) (by kernel_rfl)) (by kernel_rfl)) (by kernel_rfl))).elim
      · intro h h7; rw [getD_set_ne false (by decide)] at h; rw [getD_set_ne true (by decide)] at h7; have := f14 h h7; first | exact this | exact this.below hb | exact this.grown hG HOWN (by decide)
      · first | exact flag_ne (by decide) f15 | exact fun _ => rfl
      · first | exact flag_ne (by decide) f16 | exact fun _ => rfl
      · intro h _; rw [getD_set_ne false (by decide)] at h; exact (getD_no h0 (hC.step (j := 3) (k := 2) (hC.step (j := 6) (k := 3) (hC.step (j := 10) (k := 6) (hC.step (j := 13) (k := 10) (hC.step (j := 17) (k := 13) h (by kernel_rfl)) (by kernel_rfl)) (by kernel_rfl)) (by kernel_rfl)) (by kernel_rfl))).elim
      · first | exact flag_ne (by decide) f18 | exact fun _ => rfl
      · intro h h7; rw [getD_set_ne false (by decide)] at h; rw [getD_set_ne true (by decide)] at h7; have := f19 h h7; first | exact this | exact this.below hb | exact this.grown hG HOWN (by decide) | exact this.grown0 hG hgc14 (by decide)
      · intro h; rw [getD_set_ne false (by decide)] at h; exact (getD_no h0 (hC.step (j := 3) (k := 2) (hC.step (j := 6) (k := 3) (hC.step (j := 10) (k := 6) (hC.step (j := 13) (k := 10) (hC.step (j := 17) (k := 13) (hC.step (j := 20) (k := 17) h (by kernel_rfl)) (by kernel_rfl)) (by kernel_rfl)) (by kernel_rfl)) (by kernel_rfl)) (by kernel_rfl))).elim
      · intro h h7; rw [getD_set_ne false (by decide)] at h; rw [getD_set_ne true (by decide)] at h7; have := f21 h h7; first | exact this | exact this.below hb | exact this.grown hG HOWN (by decide)
      · first | exact flag_ne (by decide) f22 | exact fun _ => rfl
      · first | exact flag_ne (by decide) f23 | exact fun _ => rfl
      · intro h _; rw [getD_set_ne false (by decide)] at h; exact (getD_no h0 (hC.step (j := 3) (k := 2) (hC.step (j := 6) (k := 3) (hC.step (j := 10) (k := 6) (hC.step (j := 13) (k := 10) (hC.step (j := 17) (k := 13) (hC.step (j := 20) (k := 17) (hC.step (j := 24) (k := 20) h (by kernel_rfl)) (by kernel_rfl)) (by kernel_rfl)) (by kernel_rfl)) (by kernel_rfl)) (by kernel_rfl)) (by kernel_rfl))).elim
      · first | exact flag_ne (by decide) f25 | exact fun _ => rfl
      · intro h h7; rw [getD_set_ne false (by decide)] at h; rw [getD_set_ne true (by decide)] at h7; have := f26 h h7; first | exact this | exact this.below hb | exact this.grown hG HOWN (by decide) | exact this.grown0 hG hgc21 (by decide)
      · intro h; rw [getD_set_ne false (by decide)] at h; exact (getD_no h0 (hC.step (j := 3) (k := 2) (hC.step (j := 6) (k := 3) (hC.step (j := 10) (k := 6) (hC.step (j := 13) (k := 10) (hC.step (j := 17) (k := 13) (hC.step (j := 20) (k := 17) (hC.step (j := 24) (k := 20) (hC.step (j := 27) (k := 24) h (by kernel_rfl)) (by kernel_rfl)) (by kernel_rfl)) (by kernel_rfl)) (by kernel_rfl)) (by kernel_rfl)) (by kernel_rfl)) (by kernel_rfl))).elim
      · intro h; rw [getD_set_ne false (by decide)] at h; exact (getD_no h0 (hC.step (j := 3) (k := 2) (hC.step (j := 6) (k := 3) (hC.step (j := 28) (k := 6) h (by kernel_rfl)) (by kernel_rfl)) (by kernel_rfl))).elim
      · intro h h7; rw [getD_set_ne false (by decide)] at h; rw [getD_set_ne true (by decide)] at h7; have := f29 h h7; obtain ⟨g, z1, z2, z3⟩ := this; exact (by first | exact ⟨g, z1, z2, z3⟩ | exact ⟨g, z1, z2, obj_below z3 hb⟩ | exact ⟨g, z1, z2, obj_grown z3 hG (own_ne_type HOWN z3 (by decide))⟩ | (trace_state; fail))
      · intro h; rw [getD_set_ne false (by decide)] at h; exact (getD_no h0 (hC.step (j := 30) (k := 2) h (by kernel_rfl))).elim
    · refine StepAt.mk (o := { dst := some 22, op := Op.call { callee := Callee.builtin Builtin.append, args := #[Operand.tmp 19, Operand.tmp 21], argTypes := #[22, 22] }, type := 22, pos := _, after := #[{ on := 0, ground := Ground.data }, { on := 2, ground := Ground.data }], guard := none }) (ws := [0, 2]) rfl (by kernel_rfl) ?_
      intro L b v hC h0 hA h
      refine h.elim ?_; clear h; intro u7 h
      refine h.elim ?_; clear h; intro u19 h
      refine h.elim ?_; clear h; intro u20 h
      refine h.elim ?_; clear h; intro u21 h
      refine h.elim ?_; clear h; intro u22 h
      refine h.elim ?_; clear h; intro u23 h
      refine h.elim ?_; clear h; intro u24 h
      refine h.elim ?_; clear h; intro u25 h
      refine h.elim ?_; clear h; intro u26 h
      refine h.elim ?_; clear h; intro u27 h
      refine h.elim ?_; clear h; intro u28 h
      refine h.elim ?_; clear h; intro u29 h
      refine h.elim ?_; clear h; intro u30 h
      refine h.elim ?_; clear h; intro u31 h
      refine h.elim ?_; clear h; intro u32 h
      refine h.elim ?_; clear h; intro u33 h
      refine h.elim ?_; clear h; intro u34 h
      refine h.elim ?_; clear h; intro u35 h
      refine h.elim ?_; clear h; intro u36 h
      refine h.elim ?_; clear h; intro u37 h
      refine h.elim ?_; clear h; intro u38 h
      refine h.elim ?_; clear h; intro u39 h
      refine h.elim ?_; clear h; intro u40 h
      refine h.elim ?_; clear h; intro u41 h
      refine h.elim ?_; clear h; intro u42 h
      refine h.elim ?_; clear h; intro u43 h
      refine h.elim ?_; clear h; intro u44 h
      refine h.elim ?_; clear h; intro u45 h
      refine h.elim ?_; clear h; intro u46 h
      refine h.elim ?_; clear h; intro u47 h
      have hbb := h.1; replace h := h.2; subst hbb
      have hHeld := h.1; replace h := h.2
      have f0 := h.1; replace h := h.2
      have f1 := h.1; replace h := h.2
      have f2 := h.1; replace h := h.2
      have f3 := h.1; replace h := h.2
      have f4 := h.1; replace h := h.2
      have f5 := h.1; replace h := h.2
      have f6 := h.1; replace h := h.2
      have f7 := h.1; replace h := h.2
      have f8 := h.1; replace h := h.2
      have f9 := h.1; replace h := h.2
      have f10 := h.1; replace h := h.2
      have f11 := h.1; replace h := h.2
      have f12 := h.1; replace h := h.2
      have f13 := h.1; replace h := h.2
      have f14 := h.1; replace h := h.2
      have f15 := h.1; replace h := h.2
      have f16 := h.1; replace h := h.2
      have f17 := h.1; replace h := h.2
      have f18 := h.1; replace h := h.2
      have f19 := h.1; replace h := h.2
      have f20 := h.1; replace h := h.2
      have f21 := h.1; replace h := h.2
      have f22 := h.1; replace h := h.2
      have f23 := h.1; replace h := h.2
      have f24 := h.1; replace h := h.2
      have f25 := h.1; replace h := h.2
      have f26 := h.1; replace h := h.2
      have f27 := h.1; replace h := h.2
      have f28 := h.1; replace h := h.2
      have f29 := h.1; replace h := h.2
      have f30 := h; clear h
      intro K hK
      have g0 := f0 (hA 0 (by simp)) h0
      obtain ⟨gg0, rfl, hgB0, hgc0⟩ := g0
      have g2 := f2 (hA 2 (by simp))
      obtain rfl := g2
      rw [if_pos (by kernel_rfl)]
      have q0 := cellB hHeld C0 hgp
      have q1 := cellB hHeld C1 hgp
      have q2 := cellB hHeld C2 hgp
      have q3 := cellB hHeld C3 hgp
      have HOWN := owns_nil_at (q := 2) hgc0 hgB0; refine wp_append_src (.tmp 19) (.tmp 21) 22 rfl W0.heap.size 38 i1 (.agg #[.int .i64 0, .int .i64 0]) 2 16 Tryd.underlying22 hi1 hz1 hs1 hb1 rfl (by omega) _ 0 [] rfl HOWN _ n1 X1 rfl (S1.out _ hHeld) l1 o1.out (by unfold maxLen; omega) (by omega) hHeld.size ?_; intro v' w' HO hG
      try simp only [Act.put, List.setIfInBounds_toArray, List.set_cons_zero, List.set_cons_succ]
      refine hK.out _ _ ⟨_, _, _, _, _, _, _, _, _, _, _, _, _, _, _, _, _, _, _, _, _, _, _, _, _, _, _, _, _, _, rfl, ?_, ?_, ?_, ?_, ?_, ?_, ?_, ?_, ?_, ?_, ?_, ?_, ?_, ?_, ?_, ?_, ?_, ?_, ?_, ?_, ?_, ?_, ?_, ?_, ?_, ?_, ?_, ?_, ?_, ?_, ?_, ?_⟩
      · exact grown3 hHeld hHeld.size HOWN hG
      · intro _ h7; rw [getD_set_self] at h7; cases h7
      · first | exact flag_ne (by decide) f1 | exact fun _ => rfl
      · first | exact flag_ne (by decide) f2 | exact fun _ => rfl
      · intro _ _; first | (exact own_eq2 HO (by omega) (by simp)) | (trace_state; fail)
      · first | exact flag_ne (by decide) f4 | exact fun _ => rfl
      · intro h h7; rw [getD_set_ne false (by decide)] at h; rw [getD_set_ne true (by decide)] at h7; have := f5 h h7; first | exact this | exact this.below hb | exact this.grown hG HOWN (by decide) | exact this.grown0 hG hgc0 (by decide)
      · intro h; rw [getD_set_ne false (by decide)] at h; exact (getD_no h0 (hC.step (j := 6) (k := 3) h (by kernel_rfl))).elim
      · intro h h7; rw [getD_set_ne false (by decide)] at h; rw [getD_set_ne true (by decide)] at h7; have := f7 h h7; first | exact this | exact this.below hb | exact this.grown hG HOWN (by decide)
      · first | exact flag_ne (by decide) f8 | exact fun _ => rfl
      · first | exact flag_ne (by decide) f9 | exact fun _ => rfl
      · intro h _; rw [getD_set_ne false (by decide)] at h; exact (getD_no h0 (hC.step (j := 6) (k := 3) (hC.step (j := 10) (k := 6) h (by kernel_rfl)) (by kernel_rfl))).elim
      · first | exact flag_ne (by decide) f11 | exact fun _ => rfl
      · intro h h7; rw [getD_set_ne false (by decide)] at h; rw [getD_set_ne true (by decide)] at h7; have := f12 h h7; first | exact this | exact this.below hb | exact this.grown hG HOWN (by decide) | exact this.grown0 hG hgc7 (by decide)
      · intro h; rw [getD_set_ne false (by decide)] at h; exact (getD_no h0 (hC.step (j := 6) (k := 3) (hC.step (j := 10) (k := 6) (hC.step (j := 13) (k := 10) h (by kernel_rfl)) (by kernel_rfl)) (by kernel_rfl))).elim
      · intro h h7; rw [getD_set_ne false (by decide)] at h; rw [getD_set_ne true (by decide)] at h7; have := f14 h h7; first | exact this | exact this.below hb | exact this.grown hG HOWN (by decide)
      · first | exact flag_ne (by decide) f15 | exact fun _ => rfl
      · first | exact flag_ne (by decide) f16 | exact fun _ => rfl
      · intro h _; rw [getD_set_ne false (by decide)] at h; exact (getD_no h0 (hC.step (j := 6) (k := 3) (hC.step (j := 10) (k := 6) (hC.step (j := 13) (k := 10) (hC.step (j := 17) (k := 13) h (by kernel_rfl)) (by kernel_rfl)) (by kernel_rfl)) (by kernel_rfl))).elim
      · first | exact flag_ne (by decide) f18 | exact fun _ => rfl
      · intro h h7; rw [getD_set_ne false (by decide)] at h; rw [getD_set_ne true (by decide)] at h7; have := f19 h h7; first | exact this | exact this.below hb | exact this.grown hG HOWN (by decide) | exact this.grown0 hG hgc14 (by decide)
      · intro h; rw [getD_set_ne false (by decide)] at h; exact (getD_no h0 (hC.step (j := 6) (k := 3) (hC.step (j := 10) (k := 6) (hC.step (j := 13) (k := 10) (hC.step (j := 17) (k := 13) (hC.step (j := 20) (k := 17) h (by kernel_rfl)) (by kernel_rfl)) (by kernel_rfl)) (by kernel_rfl)) (by kernel_rfl))).elim
      · intro h h7; rw [getD_set_ne false (by decide)] at h; rw [getD_set_ne true (by decide)] at h7; have := f21 h h7; first | exact this | exact this.below hb | exact this.grown hG HOWN (by decide)
      · first | exact flag_ne (by decide) f22 | exact fun _ => rfl
      · first | exact flag_ne (by decide) f23 | exact fun _ => rfl
      · intro h _; rw [getD_set_ne false (by decide)] at h; exact (getD_no h0 (hC.step (j := 6) (k := 3) (hC.step (j := 10) (k := 6) (hC.step (j := 13) (k := 10) (hC.step (j := 17) (k := 13) (hC.step (j := 20) (k := 17) (hC.step (j := 24) (k := 20) h (by kernel_rfl)) (by kernel_rfl)) (by kernel_rfl)) (by kernel_rfl)) (by kernel_rfl)) (by kernel_rfl))).elim
      · first | exact flag_ne (by decide) f25 | exact fun _ => rfl
      · intro h h7; rw [getD_set_ne false (by decide)] at h; rw [getD_set_ne true (by decide)] at h7; have := f26 h h7; first | exact this | exact this.below hb | exact this.grown hG HOWN (by decide) | exact this.grown0 hG hgc21 (by decide)
      · intro h; rw [getD_set_ne false (by decide)] at h; exact (getD_no h0 (hC.step (j := 6) (k := 3) (hC.step (j := 10) (k := 6) (hC.step (j := 13) (k := 10) (hC.step (j := 17) (k := 13) (hC.step (j := 20) (k := 17) (hC.step (j := 24) (k := 20) (hC.step (j := 27) (k := 24) h (by kernel_rfl)) (by kernel_rfl)) (by kernel_rfl)) (by kernel_rfl)) (by kernel_rfl)) (by kernel_rfl)) (by kernel_rfl))).elim
      · intro h; rw [getD_set_ne false (by decide)] at h; exact (getD_no h0 (hC.step (j := 6) (k := 3) (hC.step (j := 28) (k := 6) h (by kernel_rfl)) (by kernel_rfl))).elim
      · intro h h7; rw [getD_set_ne false (by decide)] at h; rw [getD_set_ne true (by decide)] at h7; have := f29 h h7; obtain ⟨g, z1, z2, z3⟩ := this; exact (by first | exact ⟨g, z1, z2, z3⟩ | exact ⟨g, z1, z2, obj_below z3 hb⟩ | exact ⟨g, z1, z2, obj_grown z3 hG (own_ne_type HOWN z3 (by decide))⟩ | (trace_state; fail))
      · intro h; rw [getD_set_ne false (by decide)] at h; exact (getD_no h0 (hC.step (j := 30) (k := 3) h (by kernel_rfl))).elim
    · refine StepAt.mk (o := { dst := some 23, op := Op.build 38 #[], type := 38, pos := _, after := #[], guard := none }) (ws := []) rfl (by kernel_rfl) ?_
      intro L b v hC h0 hA h
      refine h.elim ?_; clear h; intro u7 h
      refine h.elim ?_; clear h; intro u19 h
      refine h.elim ?_; clear h; intro u20 h
      refine h.elim ?_; clear h; intro u21 h
      refine h.elim ?_; clear h; intro u22 h
      refine h.elim ?_; clear h; intro u23 h
      refine h.elim ?_; clear h; intro u24 h
      refine h.elim ?_; clear h; intro u25 h
      refine h.elim ?_; clear h; intro u26 h
      refine h.elim ?_; clear h; intro u27 h
      refine h.elim ?_; clear h; intro u28 h
      refine h.elim ?_; clear h; intro u29 h
      refine h.elim ?_; clear h; intro u30 h
      refine h.elim ?_; clear h; intro u31 h
      refine h.elim ?_; clear h; intro u32 h
      refine h.elim ?_; clear h; intro u33 h
      refine h.elim ?_; clear h; intro u34 h
      refine h.elim ?_; clear h; intro u35 h
      refine h.elim ?_; clear h; intro u36 h
      refine h.elim ?_; clear h; intro u37 h
      refine h.elim ?_; clear h; intro u38 h
      refine h.elim ?_; clear h; intro u39 h
      refine h.elim ?_; clear h; intro u40 h
      refine h.elim ?_; clear h; intro u41 h
      refine h.elim ?_; clear h; intro u42 h
      refine h.elim ?_; clear h; intro u43 h
      refine h.elim ?_; clear h; intro u44 h
      refine h.elim ?_; clear h; intro u45 h
      refine h.elim ?_; clear h; intro u46 h
      refine h.elim ?_; clear h; intro u47 h
      have hbb := h.1; replace h := h.2; subst hbb
      have hHeld := h.1; replace h := h.2
      have f0 := h.1; replace h := h.2
      have f1 := h.1; replace h := h.2
      have f2 := h.1; replace h := h.2
      have f3 := h.1; replace h := h.2
      have f4 := h.1; replace h := h.2
      have f5 := h.1; replace h := h.2
      have f6 := h.1; replace h := h.2
      have f7 := h.1; replace h := h.2
      have f8 := h.1; replace h := h.2
      have f9 := h.1; replace h := h.2
      have f10 := h.1; replace h := h.2
      have f11 := h.1; replace h := h.2
      have f12 := h.1; replace h := h.2
      have f13 := h.1; replace h := h.2
      have f14 := h.1; replace h := h.2
      have f15 := h.1; replace h := h.2
      have f16 := h.1; replace h := h.2
      have f17 := h.1; replace h := h.2
      have f18 := h.1; replace h := h.2
      have f19 := h.1; replace h := h.2
      have f20 := h.1; replace h := h.2
      have f21 := h.1; replace h := h.2
      have f22 := h.1; replace h := h.2
      have f23 := h.1; replace h := h.2
      have f24 := h.1; replace h := h.2
      have f25 := h.1; replace h := h.2
      have f26 := h.1; replace h := h.2
      have f27 := h.1; replace h := h.2
      have f28 := h.1; replace h := h.2
      have f29 := h.1; replace h := h.2
      have f30 := h; clear h
      intro K hK
      rw [if_pos (by kernel_rfl)]
      have q0 := cellB hHeld C0 hgp
      have q1 := cellB hHeld C1 hgp
      have q2 := cellB hHeld C2 hgp
      have q3 := cellB hHeld C3 hgp
      go_simp
      try simp only [Act.put, List.setIfInBounds_toArray, List.set_cons_zero, List.set_cons_succ]
      refine hK.out _ _ ⟨_, _, _, _, _, _, _, _, _, _, _, _, _, _, _, _, _, _, _, _, _, _, _, _, _, _, _, _, _, _, rfl, ?_, ?_, ?_, ?_, ?_, ?_, ?_, ?_, ?_, ?_, ?_, ?_, ?_, ?_, ?_, ?_, ?_, ?_, ?_, ?_, ?_, ?_, ?_, ?_, ?_, ?_, ?_, ?_, ?_, ?_, ?_, ?_⟩
      · first | exact hHeld | exact hHeld.trans (hb.mono hHeld.size) | (trace_state; fail)
      · intro h h7; rw [getD_set_ne false (by decide)] at h; rw [getD_set_ne true (by decide)] at h7; have := f0 h h7; first | exact this | exact this.below hb | exact this.grown hG HOWN (by decide)
      · first | exact flag_ne (by decide) f1 | exact fun _ => rfl
      · first | exact flag_ne (by decide) f2 | exact fun _ => rfl
      · intro h h7; rw [getD_set_ne false (by decide)] at h; rw [getD_set_ne true (by decide)] at h7; have := f3 h h7; first | exact this | exact owns_below this hb | exact own_grown this hG HOWN (by decide)
      · intro _; first | rfl | (trace_state; fail)
      · intro h _; rw [getD_set_ne false (by decide)] at h; exact (getD_no h0 (hC.step (j := 5) (k := 4) h (by kernel_rfl))).elim
      · intro h; rw [getD_set_ne false (by decide)] at h; exact (getD_no h0 (hC.step (j := 5) (k := 4) (hC.step (j := 6) (k := 5) h (by kernel_rfl)) (by kernel_rfl))).elim
      · intro h h7; rw [getD_set_ne false (by decide)] at h; rw [getD_set_ne true (by decide)] at h7; have := f7 h h7; first | exact this | exact this.below hb | exact this.grown hG HOWN (by decide)
      · first | exact flag_ne (by decide) f8 | exact fun _ => rfl
      · first | exact flag_ne (by decide) f9 | exact fun _ => rfl
      · intro h _; rw [getD_set_ne false (by decide)] at h; exact (getD_no h0 (hC.step (j := 5) (k := 4) (hC.step (j := 6) (k := 5) (hC.step (j := 10) (k := 6) h (by kernel_rfl)) (by kernel_rfl)) (by kernel_rfl))).elim
      · first | exact flag_ne (by decide) f11 | exact fun _ => rfl
      · intro h h7; rw [getD_set_ne false (by decide)] at h; rw [getD_set_ne true (by decide)] at h7; have := f12 h h7; first | exact this | exact this.below hb | exact this.grown hG HOWN (by decide) | exact this.grown0 hG hgc7 (by decide)
      · intro h; rw [getD_set_ne false (by decide)] at h; exact (getD_no h0 (hC.step (j := 5) (k := 4) (hC.step (j := 6) (k := 5) (hC.step (j := 10) (k := 6) (hC.step (j := 13) (k := 10) h (by kernel_rfl)) (by kernel_rfl)) (by kernel_rfl)) (by kernel_rfl))).elim
      · intro h h7; rw [getD_set_ne false (by decide)] at h; rw [getD_set_ne true (by decide)] at h7; have := f14 h h7; first | exact this | exact this.below hb | exact this.grown hG HOWN (by decide)
      · first | exact flag_ne (by decide) f15 | exact fun _ => rfl
      · first | exact flag_ne (by decide) f16 | exact fun _ => rfl
      · intro h _; rw [getD_set_ne false (by decide)] at h; exact (getD_no h0 (hC.step (j := 5) (k := 4) (hC.step (j := 6) (k := 5) (hC.step (j := 10) (k := 6) (hC.step (j := 13) (k := 10) (hC.step (j := 17) (k := 13) h (by kernel_rfl)) (by kernel_rfl)) (by kernel_rfl)) (by kernel_rfl)) (by kernel_rfl))).elim
      · first | exact flag_ne (by decide) f18 | exact fun _ => rfl
      · intro h h7; rw [getD_set_ne false (by decide)] at h; rw [getD_set_ne true (by decide)] at h7; have := f19 h h7; first | exact this | exact this.below hb | exact this.grown hG HOWN (by decide) | exact this.grown0 hG hgc14 (by decide)
      · intro h; rw [getD_set_ne false (by decide)] at h; exact (getD_no h0 (hC.step (j := 5) (k := 4) (hC.step (j := 6) (k := 5) (hC.step (j := 10) (k := 6) (hC.step (j := 13) (k := 10) (hC.step (j := 17) (k := 13) (hC.step (j := 20) (k := 17) h (by kernel_rfl)) (by kernel_rfl)) (by kernel_rfl)) (by kernel_rfl)) (by kernel_rfl)) (by kernel_rfl))).elim
      · intro h h7; rw [getD_set_ne false (by decide)] at h; rw [getD_set_ne true (by decide)] at h7; have := f21 h h7; first | exact this | exact this.below hb | exact this.grown hG HOWN (by decide)
      · first | exact flag_ne (by decide) f22 | exact fun _ => rfl
      · first | exact flag_ne (by decide) f23 | exact fun _ => rfl
      · intro h _; rw [getD_set_ne false (by decide)] at h; exact (getD_no h0 (hC.step (j := 5) (k := 4) (hC.step (j := 6) (k := 5) (hC.step (j := 10) (k := 6) (hC.step (j := 13) (k := 10) (hC.step (j := 17) (k := 13) (hC.step (j := 20) (k := 17) (hC.step (j := 24) (k := 20) h (by kernel_rfl)) (by kernel_rfl)) (by kernel_rfl)) (by kernel_rfl)) (by kernel_rfl)) (by kernel_rfl)) (by kernel_rfl))).elim
      · first | exact flag_ne (by decide) f25 | exact fun _ => rfl
      · intro h h7; rw [getD_set_ne false (by decide)] at h; rw [getD_set_ne true (by decide)] at h7; have := f26 h h7; first | exact this | exact this.below hb | exact this.grown hG HOWN (by decide) | exact this.grown0 hG hgc21 (by decide)
      · intro h; rw [getD_set_ne false (by decide)] at h; exact (getD_no h0 (hC.step (j := 5) (k := 4) (hC.step (j := 6) (k := 5) (hC.step (j := 10) (k := 6) (hC.step (j := 13) (k := 10) (hC.step (j := 17) (k := 13) (hC.step (j := 20) (k := 17) (hC.step (j := 24) (k := 20) (hC.step (j := 27) (k := 24) h (by kernel_rfl)) (by kernel_rfl)) (by kernel_rfl)) (by kernel_rfl)) (by kernel_rfl)) (by kernel_rfl)) (by kernel_rfl)) (by kernel_rfl))).elim
      · intro h; rw [getD_set_ne false (by decide)] at h; exact (getD_no h0 (hC.step (j := 5) (k := 4) (hC.step (j := 6) (k := 5) (hC.step (j := 28) (k := 6) h (by kernel_rfl)) (by kernel_rfl)) (by kernel_rfl))).elim
      · intro h h7; rw [getD_set_ne false (by decide)] at h; rw [getD_set_ne true (by decide)] at h7; have := f29 h h7; obtain ⟨g, z1, z2, z3⟩ := this; exact (by first | exact ⟨g, z1, z2, z3⟩ | exact ⟨g, z1, z2, obj_below z3 hb⟩ | exact ⟨g, z1, z2, obj_grown z3 hG (own_ne_type HOWN z3 (by decide))⟩ | (trace_state; fail))
      · intro h; rw [getD_set_ne false (by decide)] at h; exact (getD_no h0 (hC.step (j := 30) (k := 4) h (by kernel_rfl))).elim
    · refine StepAt.mk (o := { dst := some 24, op := Op.buildSlice 22 1 #[(0, Operand.tmp 23)], type := 22, pos := _, after := #[{ on := 4, ground := Ground.data }], guard := none }) (ws := [4]) rfl (by kernel_rfl) ?_
      intro L b v hC h0 hA h
      refine h.elim ?_; clear h; intro u7 h
      refine h.elim ?_; clear h; intro u19 h
      refine h.elim ?_; clear h; intro u20 h
      refine h.elim ?_; clear h; intro u21 h
      refine h.elim ?_; clear h; intro u22 h
      refine h.elim ?_; clear h; intro u23 h
      refine h.elim ?_; clear h; intro u24 h
      refine h.elim ?_; clear h; intro u25 h
      refine h.elim ?_; clear h; intro u26 h
      refine h.elim ?_; clear h; intro u27 h
      refine h.elim ?_; clear h; intro u28 h
      refine h.elim ?_; clear h; intro u29 h
      refine h.elim ?_; clear h; intro u30 h
      refine h.elim ?_; clear h; intro u31 h
      refine h.elim ?_; clear h; intro u32 h
      refine h.elim ?_; clear h; intro u33 h
      refine h.elim ?_; clear h; intro u34 h
      refine h.elim ?_; clear h; intro u35 h
      refine h.elim ?_; clear h; intro u36 h
      refine h.elim ?_; clear h; intro u37 h
      refine h.elim ?_; clear h; intro u38 h
      refine h.elim ?_; clear h; intro u39 h
      refine h.elim ?_; clear h; intro u40 h
      refine h.elim ?_; clear h; intro u41 h
      refine h.elim ?_; clear h; intro u42 h
      refine h.elim ?_; clear h; intro u43 h
      refine h.elim ?_; clear h; intro u44 h
      refine h.elim ?_; clear h; intro u45 h
      refine h.elim ?_; clear h; intro u46 h
      refine h.elim ?_; clear h; intro u47 h
      have hbb := h.1; replace h := h.2; subst hbb
      have hHeld := h.1; replace h := h.2
      have f0 := h.1; replace h := h.2
      have f1 := h.1; replace h := h.2
      have f2 := h.1; replace h := h.2
      have f3 := h.1; replace h := h.2
      have f4 := h.1; replace h := h.2
      have f5 := h.1; replace h := h.2
      have f6 := h.1; replace h := h.2
      have f7 := h.1; replace h := h.2
      have f8 := h.1; replace h := h.2
      have f9 := h.1; replace h := h.2
      have f10 := h.1; replace h := h.2
      have f11 := h.1; replace h := h.2
      have f12 := h.1; replace h := h.2
      have f13 := h.1; replace h := h.2
      have f14 := h.1; replace h := h.2
      have f15 := h.1; replace h := h.2
      have f16 := h.1; replace h := h.2
      have f17 := h.1; replace h := h.2
      have f18 := h.1; replace h := h.2
      have f19 := h.1; replace h := h.2
      have f20 := h.1; replace h := h.2
      have f21 := h.1; replace h := h.2
      have f22 := h.1; replace h := h.2
      have f23 := h.1; replace h := h.2
      have f24 := h.1; replace h := h.2
      have f25 := h.1; replace h := h.2
      have f26 := h.1; replace h := h.2
      have f27 := h.1; replace h := h.2
      have f28 := h.1; replace h := h.2
      have f29 := h.1; replace h := h.2
      have f30 := h; clear h
      intro K hK
      have g4 := f4 (hA 4 (by simp))
      obtain rfl := g4
      rw [if_pos (by kernel_rfl)]
      have q0 := cellB hHeld C0 hgp
      have q1 := cellB hHeld C1 hgp
      have q2 := cellB hHeld C2 hgp
      have q3 := cellB hHeld C3 hgp
      go_simp
      try simp only [Act.put, List.setIfInBounds_toArray, List.set_cons_zero, List.set_cons_succ]
      have hb : Below v.heap.size v (v.alloc (.cells #[.int .i64 0, .int .i64 0] 38)) := (Below.refl _ _).alloc (Nat.le_refl _) _
      refine hK.out _ _ ⟨_, _, _, _, _, _, _, _, _, _, _, _, _, _, _, _, _, _, _, _, _, _, _, _, _, _, _, _, _, _, rfl, ?_, ?_, ?_, ?_, ?_, ?_, ?_, ?_, ?_, ?_, ?_, ?_, ?_, ?_, ?_, ?_, ?_, ?_, ?_, ?_, ?_, ?_, ?_, ?_, ?_, ?_, ?_, ?_, ?_, ?_, ?_, ?_⟩
      · exact hHeld.alloc hHeld.size _
      · intro h h7; rw [getD_set_ne false (by decide)] at h; rw [getD_set_ne true (by decide)] at h7; have := f0 h h7; first | exact this | exact this.below hb | exact this.grown hG HOWN (by decide)
      · first | exact flag_ne (by decide) f1 | exact fun _ => rfl
      · first | exact flag_ne (by decide) f2 | exact fun _ => rfl
      · intro h h7; rw [getD_set_ne false (by decide)] at h; rw [getD_set_ne true (by decide)] at h7; have := f3 h h7; first | exact this | exact owns_below this hb | exact own_grown this hG HOWN (by decide)
      · first | exact flag_ne (by decide) f4 | exact fun _ => rfl
      · intro _ _; first | (exact ⟨_, rfl, heap_new v _⟩) | (trace_state; fail)
      · intro h; rw [getD_set_ne false (by decide)] at h; exact (getD_no h0 (hC.step (j := 6) (k := 5) h (by kernel_rfl))).elim
      · intro h h7; rw [getD_set_ne false (by decide)] at h; rw [getD_set_ne true (by decide)] at h7; have := f7 h h7; first | exact this | exact this.below hb | exact this.grown hG HOWN (by decide)
      · first | exact flag_ne (by decide) f8 | exact fun _ => rfl
      · first | exact flag_ne (by decide) f9 | exact fun _ => rfl
      · intro h _; rw [getD_set_ne false (by decide)] at h; exact (getD_no h0 (hC.step (j := 6) (k := 5) (hC.step (j := 10) (k := 6) h (by kernel_rfl)) (by kernel_rfl))).elim
      · first | exact flag_ne (by decide) f11 | exact fun _ => rfl
      · intro h h7; rw [getD_set_ne false (by decide)] at h; rw [getD_set_ne true (by decide)] at h7; have := f12 h h7; first | exact this | exact this.below hb | exact this.grown hG HOWN (by decide) | exact this.grown0 hG hgc7 (by decide)
      · intro h; rw [getD_set_ne false (by decide)] at h; exact (getD_no h0 (hC.step (j := 6) (k := 5) (hC.step (j := 10) (k := 6) (hC.step (j := 13) (k := 10) h (by kernel_rfl)) (by kernel_rfl)) (by kernel_rfl))).elim
      · intro h h7; rw [getD_set_ne false (by decide)] at h; rw [getD_set_ne true (by decide)] at h7; have := f14 h h7; first | exact this | exact this.below hb | exact this.grown hG HOWN (by decide)
      · first | exact flag_ne (by decide) f15 | exact fun _ => rfl
      · first | exact flag_ne (by decide) f16 | exact fun _ => rfl
      · intro h _; rw [getD_set_ne false (by decide)] at h; exact (getD_no h0 (hC.step (j := 6) (k := 5) (hC.step (j := 10) (k := 6) (hC.step (j := 13) (k := 10) (hC.step (j := 17) (k := 13) h (by kernel_rfl)) (by kernel_rfl)) (by kernel_rfl)) (by kernel_rfl))).elim
      · first | exact flag_ne (by decide) f18 | exact fun _ => rfl
      · intro h h7; rw [getD_set_ne false (by decide)] at h; rw [getD_set_ne true (by decide)] at h7; have := f19 h h7; first | exact this | exact this.below hb | exact this.grown hG HOWN (by decide) | exact this.grown0 hG hgc14 (by decide)
      · intro h; rw [getD_set_ne false (by decide)] at h; exact (getD_no h0 (hC.step (j := 6) (k := 5) (hC.step (j := 10) (k := 6) (hC.step (j := 13) (k := 10) (hC.step (j := 17) (k := 13) (hC.step (j := 20) (k := 17) h (by kernel_rfl)) (by kernel_rfl)) (by kernel_rfl)) (by kernel_rfl)) (by kernel_rfl))).elim
      · intro h h7; rw [getD_set_ne false (by decide)] at h; rw [getD_set_ne true (by decide)] at h7; have := f21 h h7; first | exact this | exact this.below hb | exact this.grown hG HOWN (by decide)
      · first | exact flag_ne (by decide) f22 | exact fun _ => rfl
      · first | exact flag_ne (by decide) f23 | exact fun _ => rfl
      · intro h _; rw [getD_set_ne false (by decide)] at h; exact (getD_no h0 (hC.step (j := 6) (k := 5) (hC.step (j := 10) (k := 6) (hC.step (j := 13) (k := 10) (hC.step (j := 17) (k := 13) (hC.step (j := 20) (k := 17) (hC.step (j := 24) (k := 20) h (by kernel_rfl)) (by kernel_rfl)) (by kernel_rfl)) (by kernel_rfl)) (by kernel_rfl)) (by kernel_rfl))).elim
      · first | exact flag_ne (by decide) f25 | exact fun _ => rfl
      · intro h h7; rw [getD_set_ne false (by decide)] at h; rw [getD_set_ne true (by decide)] at h7; have := f26 h h7; first | exact this | exact this.below hb | exact this.grown hG HOWN (by decide) | exact this.grown0 hG hgc21 (by decide)
      · intro h; rw [getD_set_ne false (by decide)] at h; exact (getD_no h0 (hC.step (j := 6) (k := 5) (hC.step (j := 10) (k := 6) (hC.step (j := 13) (k := 10) (hC.step (j := 17) (k := 13) (hC.step (j := 20) (k := 17) (hC.step (j := 24) (k := 20) (hC.step (j := 27) (k := 24) h (by kernel_rfl)) (by kernel_rfl)) (by kernel_rfl)) (by kernel_rfl)) (by kernel_rfl)) (by kernel_rfl)) (by kernel_rfl))).elim
      · intro h; rw [getD_set_ne false (by decide)] at h; exact (getD_no h0 (hC.step (j := 6) (k := 5) (hC.step (j := 28) (k := 6) h (by kernel_rfl)) (by kernel_rfl))).elim
      · intro h h7; rw [getD_set_ne false (by decide)] at h; rw [getD_set_ne true (by decide)] at h7; have := f29 h h7; obtain ⟨g, z1, z2, z3⟩ := this; exact (by first | exact ⟨g, z1, z2, z3⟩ | exact ⟨g, z1, z2, obj_below z3 hb⟩ | exact ⟨g, z1, z2, obj_grown z3 hG (own_ne_type HOWN z3 (by decide))⟩ | (trace_state; fail))
      · intro h; rw [getD_set_ne false (by decide)] at h; exact (getD_no h0 (hC.step (j := 30) (k := 5) h (by kernel_rfl))).elim
    · refine StepAt.mk (o := { dst := some 25, op := Op.call { callee := Callee.builtin Builtin.append, args := #[Operand.tmp 22, Operand.tmp 24], argTypes := #[22, 22] }, type := 22, pos := _, after := #[{ on := 3, ground := Ground.data }, { on := 5, ground := Ground.data }, { on := 3, ground := Ground.chain }], guard := none }) (ws := [3, 5, 3]) rfl (by kernel_rfl) ?_
      intro L b v hC h0 hA h
      refine h.elim ?_; clear h; intro u7 h
      refine h.elim ?_; clear h; intro u19 h
      refine h.elim ?_; clear h; intro u20 h
      refine h.elim ?_; clear h; intro u21 h
      refine h.elim ?_; clear h; intro u22 h
      refine h.elim ?_; clear h; intro u23 h
      refine h.elim ?_; clear h; intro u24 h
      refine h.elim ?_; clear h; intro u25 h
      refine h.elim ?_; clear h; intro u26 h
      refine h.elim ?_; clear h; intro u27 h
      refine h.elim ?_; clear h; intro u28 h
      refine h.elim ?_; clear h; intro u29 h
      refine h.elim ?_; clear h; intro u30 h
      refine h.elim ?_; clear h; intro u31 h
      refine h.elim ?_; clear h; intro u32 h
      refine h.elim ?_; clear h; intro u33 h
      refine h.elim ?_; clear h; intro u34 h
      refine h.elim ?_; clear h; intro u35 h
      refine h.elim ?_; clear h; intro u36 h
      refine h.elim ?_; clear h; intro u37 h
      refine h.elim ?_; clear h; intro u38 h
      refine h.elim ?_; clear h; intro u39 h
      refine h.elim ?_; clear h; intro u40 h
      refine h.elim ?_; clear h; intro u41 h
      refine h.elim ?_; clear h; intro u42 h
      refine h.elim ?_; clear h; intro u43 h
      refine h.elim ?_; clear h; intro u44 h
      refine h.elim ?_; clear h; intro u45 h
      refine h.elim ?_; clear h; intro u46 h
      refine h.elim ?_; clear h; intro u47 h
      have hbb := h.1; replace h := h.2; subst hbb
      have hHeld := h.1; replace h := h.2
      have f0 := h.1; replace h := h.2
      have f1 := h.1; replace h := h.2
      have f2 := h.1; replace h := h.2
      have f3 := h.1; replace h := h.2
      have f4 := h.1; replace h := h.2
      have f5 := h.1; replace h := h.2
      have f6 := h.1; replace h := h.2
      have f7 := h.1; replace h := h.2
      have f8 := h.1; replace h := h.2
      have f9 := h.1; replace h := h.2
      have f10 := h.1; replace h := h.2
      have f11 := h.1; replace h := h.2
      have f12 := h.1; replace h := h.2
      have f13 := h.1; replace h := h.2
      have f14 := h.1; replace h := h.2
      have f15 := h.1; replace h := h.2
      have f16 := h.1; replace h := h.2
      have f17 := h.1; replace h := h.2
      have f18 := h.1; replace h := h.2
      have f19 := h.1; replace h := h.2
      have f20 := h.1; replace h := h.2
      have f21 := h.1; replace h := h.2
      have f22 := h.1; replace h := h.2
      have f23 := h.1; replace h := h.2
      have f24 := h.1; replace h := h.2
      have f25 := h.1; replace h := h.2
      have f26 := h.1; replace h := h.2
      have f27 := h.1; replace h := h.2
      have f28 := h.1; replace h := h.2
      have f29 := h.1; replace h := h.2
      have f30 := h; clear h
      intro K hK
      have g3 := f3 (hA 3 (by simp)) h0
      have g5 := f5 (hA 5 (by simp)) h0
      obtain ⟨pp5, rfl, hpc5⟩ := g5
      rw [if_pos (by kernel_rfl)]
      have q0 := cellB hHeld C0 hgp
      have q1 := cellB hHeld C1 hgp
      have q2 := cellB hHeld C2 hgp
      have q3 := cellB hHeld C3 hgp
      have HOWN := g3; refine wp_append_src (.tmp 22) (.tmp 24) 22 rfl W0.heap.size 38 i1 (.agg #[.int .i64 0, .int .i64 0]) 2 16 Tryd.underlying22 hi1 hz1 hs1 hb1 rfl (by omega) u22 n1 X1 rfl g3 _ 1 [.int .i64 0, .int .i64 0] rfl (src_at hpc5) rfl (by intro u hu; simp at hu; first | (rw [hu]; rfl) | (rcases hu with hu | hu <;> (rw [hu]; rfl)) | (rcases hu with hu | hu | hu <;> (rw [hu]; rfl)) | (rcases hu with hu | hu | hu | hu <;> (rw [hu]; rfl)) | (rcases hu with hu | hu | hu | hu | hu <;> (rw [hu]; rfl))) (by unfold maxLen; omega) (by omega) hHeld.size ?_; intro v' w' HO hG
      try simp only [Act.put, List.setIfInBounds_toArray, List.set_cons_zero, List.set_cons_succ]
      refine hK.out _ _ ⟨_, _, _, _, _, _, _, _, _, _, _, _, _, _, _, _, _, _, _, _, _, _, _, _, _, _, _, _, _, _, rfl, ?_, ?_, ?_, ?_, ?_, ?_, ?_, ?_, ?_, ?_, ?_, ?_, ?_, ?_, ?_, ?_, ?_, ?_, ?_, ?_, ?_, ?_, ?_, ?_, ?_, ?_, ?_, ?_, ?_, ?_, ?_, ?_⟩
      · exact grown3 hHeld hHeld.size HOWN hG
      · intro _ h7; rw [getD_set_ne true (by decide)] at h7; exact (getD_no h7 (hA 3 (by simp))).elim
      · first | exact flag_ne (by decide) f1 | exact fun _ => rfl
      · first | exact flag_ne (by decide) f2 | exact fun _ => rfl
      · intro _ h7; rw [getD_set_self] at h7; cases h7
      · first | exact flag_ne (by decide) f4 | exact fun _ => rfl
      · intro _ h7; rw [getD_set_self] at h7; cases h7
      · intro _; first | exact HO | (trace_state; fail)
      · intro h h7; rw [getD_set_ne false (by decide)] at h; rw [getD_set_ne true (by decide)] at h7; have := f7 h h7; first | exact this | exact this.below hb | exact this.grown hG HOWN (by decide)
      · first | exact flag_ne (by decide) f8 | exact fun _ => rfl
      · first | exact flag_ne (by decide) f9 | exact fun _ => rfl
      · intro h _; rw [getD_set_ne false (by decide)] at h; exact (getD_no h0 (hC.step (j := 10) (k := 6) h (by kernel_rfl))).elim
      · first | exact flag_ne (by decide) f11 | exact fun _ => rfl
      · intro h h7; rw [getD_set_ne false (by decide)] at h; rw [getD_set_ne true (by decide)] at h7; have := f12 h h7; first | exact this | exact this.below hb | exact this.grown hG HOWN (by decide) | exact this.grown0 hG hgc7 (by decide)
      · intro h; rw [getD_set_ne false (by decide)] at h; exact (getD_no h0 (hC.step (j := 10) (k := 6) (hC.step (j := 13) (k := 10) h (by kernel_rfl)) (by kernel_rfl))).elim
      · intro h h7; rw [getD_set_ne false (by decide)] at h; rw [getD_set_ne true (by decide)] at h7; have := f14 h h7; first | exact this | exact this.below hb | exact this.grown hG HOWN (by decide)
      · first | exact flag_ne (by decide) f15 | exact fun _ => rfl
      · first | exact flag_ne (by decide) f16 | exact fun _ => rfl
      · intro h _; rw [getD_set_ne false (by decide)] at h; exact (getD_no h0 (hC.step (j := 10) (k := 6) (hC.step (j := 13) (k := 10) (hC.step (j := 17) (k := 13) h (by kernel_rfl)) (by kernel_rfl)) (by kernel_rfl))).elim
      · first | exact flag_ne (by decide) f18 | exact fun _ => rfl
      · intro h h7; rw [getD_set_ne false (by decide)] at h; rw [getD_set_ne true (by decide)] at h7; have := f19 h h7; first | exact this | exact this.below hb | exact this.grown hG HOWN (by decide) | exact this.grown0 hG hgc14 (by decide)
      · intro h; rw [getD_set_ne false (by decide)] at h; exact (getD_no h0 (hC.step (j := 10) (k := 6) (hC.step (j := 13) (k := 10) (hC.step (j := 17) (k := 13) (hC.step (j := 20) (k := 17) h (by kernel_rfl)) (by kernel_rfl)) (by kernel_rfl)) (by kernel_rfl))).elim
      · intro h h7; rw [getD_set_ne false (by decide)] at h; rw [getD_set_ne true (by decide)] at h7; have := f21 h h7; first | exact this | exact this.below hb | exact this.grown hG HOWN (by decide)
      · first | exact flag_ne (by decide) f22 | exact fun _ => rfl
      · first | exact flag_ne (by decide) f23 | exact fun _ => rfl
      · intro h _; rw [getD_set_ne false (by decide)] at h; exact (getD_no h0 (hC.step (j := 10) (k := 6) (hC.step (j := 13) (k := 10) (hC.step (j := 17) (k := 13) (hC.step (j := 20) (k := 17) (hC.step (j := 24) (k := 20) h (by kernel_rfl)) (by kernel_rfl)) (by kernel_rfl)) (by kernel_rfl)) (by kernel_rfl))).elim
      · first | exact flag_ne (by decide) f25 | exact fun _ => rfl
      · intro h h7; rw [getD_set_ne false (by decide)] at h; rw [getD_set_ne true (by decide)] at h7; have := f26 h h7; first | exact this | exact this.below hb | exact this.grown hG HOWN (by decide) | exact this.grown0 hG hgc21 (by decide)
      · intro h; rw [getD_set_ne false (by decide)] at h; exact (getD_no h0 (hC.step (j := 10) (k := 6) (hC.step (j := 13) (k := 10) (hC.step (j := 17) (k := 13) (hC.step (j := 20) (k := 17) (hC.step (j := 24) (k := 20) (hC.step (j := 27) (k := 24) h (by kernel_rfl)) (by kernel_rfl)) (by kernel_rfl)) (by kernel_rfl)) (by kernel_rfl)) (by kernel_rfl))).elim
      · intro h; rw [getD_set_ne false (by decide)] at h; exact (getD_no h0 (hC.step (j := 28) (k := 6) h (by kernel_rfl))).elim
      · intro h h7; rw [getD_set_ne false (by decide)] at h; rw [getD_set_ne true (by decide)] at h7; have := f29 h h7; obtain ⟨g, z1, z2, z3⟩ := this; exact (by first | exact ⟨g, z1, z2, z3⟩ | exact ⟨g, z1, z2, obj_below z3 hb⟩ | exact ⟨g, z1, z2, obj_grown z3 hG (own_ne_type HOWN z3 (by decide))⟩ | (trace_state; fail))
      · intro h; rw [getD_set_ne false (by decide)] at h; exact (getD_no h0 (hC.step (j := 30) (k := 6) h (by kernel_rfl))).elim
    · refine StepAt.mk (o := { dst := some 26, op := Op.buildSlice 23 0 #[], type := 23, pos := _, after := #[], guard := none }) (ws := []) rfl (by kernel_rfl) ?_
      intro L b v hC h0 hA h
      refine h.elim ?_; clear h; intro u7 h
      refine h.elim ?_; clear h; intro u19 h
      refine h.elim ?_; clear h; intro u20 h
      refine h.elim ?_; clear h; intro u21 h
      refine h.elim ?_; clear h; intro u22 h
      refine h.elim ?_; clear h; intro u23 h
      refine h.elim ?_; clear h; intro u24 h
      refine h.elim ?_; clear h; intro u25 h
      refine h.elim ?_; clear h; intro u26 h
      refine h.elim ?_; clear h; intro u27 h
      refine h.elim ?_; clear h; intro u28 h
      refine h.elim ?_; clear h; intro u29 h
      refine h.elim ?_; clear h; intro u30 h
      refine h.elim ?_; clear h; intro u31 h
      refine h.elim ?_; clear h; intro u32 h
      refine h.elim ?_; clear h; intro u33 h
      refine h.elim ?_; clear h; intro u34 h
      refine h.elim ?_; clear h; intro u35 h
      refine h.elim ?_; clear h; intro u36 h
      refine h.elim ?_; clear h; intro u37 h
      refine h.elim ?_; clear h; intro u38 h
      refine h.elim ?_; clear h; intro u39 h
      refine h.elim ?_; clear h; intro u40 h
      refine h.elim ?_; clear h; intro u41 h
      refine h.elim ?_; clear h; intro u42 h
      refine h.elim ?_; clear h; intro u43 h
      refine h.elim ?_; clear h; intro u44 h
      refine h.elim ?_; clear h; intro u45 h
      refine h.elim ?_; clear h; intro u46 h
      refine h.elim ?_; clear h; intro u47 h
      have hbb := h.1; replace h := h.2; subst hbb
      have hHeld := h.1; replace h := h.2
      have f0 := h.1; replace h := h.2
      have f1 := h.1; replace h := h.2
      have f2 := h.1; replace h := h.2
      have f3 := h.1; replace h := h.2
      have f4 := h.1; replace h := h.2
      have f5 := h.1; replace h := h.2
      have f6 := h.1; replace h := h.2
      have f7 := h.1; replace h := h.2
      have f8 := h.1; replace h := h.2
      have f9 := h.1; replace h := h.2
      have f10 := h.1; replace h := h.2
      have f11 := h.1; replace h := h.2
      have f12 := h.1; replace h := h.2
      have f13 := h.1; replace h := h.2
      have f14 := h.1; replace h := h.2
      have f15 := h.1; replace h := h.2
      have f16 := h.1; replace h := h.2
      have f17 := h.1; replace h := h.2
      have f18 := h.1; replace h := h.2
      have f19 := h.1; replace h := h.2
      have f20 := h.1; replace h := h.2
      have f21 := h.1; replace h := h.2
      have f22 := h.1; replace h := h.2
      have f23 := h.1; replace h := h.2
      have f24 := h.1; replace h := h.2
      have f25 := h.1; replace h := h.2
      have f26 := h.1; replace h := h.2
      have f27 := h.1; replace h := h.2
      have f28 := h.1; replace h := h.2
      have f29 := h.1; replace h := h.2
      have f30 := h; clear h
      intro K hK
      rw [if_pos (by kernel_rfl)]
      have q0 := cellB hHeld C0 hgp
      have q1 := cellB hHeld C1 hgp
      have q2 := cellB hHeld C2 hgp
      have q3 := cellB hHeld C3 hgp
      go_simp
      try simp only [Act.put, List.setIfInBounds_toArray, List.set_cons_zero, List.set_cons_succ]
      have hb : Below v.heap.size v (v.alloc (.cells #[] 40)) := (Below.refl _ _).alloc (Nat.le_refl _) _
      refine hK.out _ _ ⟨_, _, _, _, _, _, _, _, _, _, _, _, _, _, _, _, _, _, _, _, _, _, _, _, _, _, _, _, _, _, rfl, ?_, ?_, ?_, ?_, ?_, ?_, ?_, ?_, ?_, ?_, ?_, ?_, ?_, ?_, ?_, ?_, ?_, ?_, ?_, ?_, ?_, ?_, ?_, ?_, ?_, ?_, ?_, ?_, ?_, ?_, ?_, ?_⟩
      · exact hHeld.alloc hHeld.size _
      · intro h h7; rw [getD_set_ne false (by decide)] at h; rw [getD_set_ne true (by decide)] at h7; have := f0 h h7; first | exact this | exact this.below hb | exact this.grown hG HOWN (by decide)
      · first | exact flag_ne (by decide) f1 | exact fun _ => rfl
      · first | exact flag_ne (by decide) f2 | exact fun _ => rfl
      · intro h h7; rw [getD_set_ne false (by decide)] at h; rw [getD_set_ne true (by decide)] at h7; have := f3 h h7; first | exact this | exact owns_below this hb | exact own_grown this hG HOWN (by decide)
      · first | exact flag_ne (by decide) f4 | exact fun _ => rfl
      · intro h h7; rw [getD_set_ne false (by decide)] at h; rw [getD_set_ne true (by decide)] at h7; have := f5 h h7; first | exact this | exact this.below hb | exact this.grown hG HOWN (by decide) | exact this.grown0 hG hgc0 (by decide)
      · intro h; rw [getD_set_ne false (by decide)] at h; have := f6 h; first | exact this | exact owns_below this hb | exact own_grown this hG HOWN (by decide)
      · intro _ _; first | (exact ⟨_, rfl, hHeld.size, heap_new v _⟩) | (trace_state; fail)
      · first | exact flag_ne (by decide) f8 | exact fun _ => rfl
      · first | exact flag_ne (by decide) f9 | exact fun _ => rfl
      · intro h _; rw [getD_set_ne false (by decide)] at h; exact (getD_no h0 (hC.step (j := 10) (k := 7) h (by kernel_rfl))).elim
      · first | exact flag_ne (by decide) f11 | exact fun _ => rfl
      · intro h h7; rw [getD_set_ne false (by decide)] at h; rw [getD_set_ne true (by decide)] at h7; have := f12 h h7; first | exact this | exact this.below hb | exact this.grown hG HOWN (by decide) | exact this.grown0 hG hgc7 (by decide)
      · intro h; rw [getD_set_ne false (by decide)] at h; exact (getD_no h0 (hC.step (j := 10) (k := 7) (hC.step (j := 13) (k := 10) h (by kernel_rfl)) (by kernel_rfl))).elim
      · intro h h7; rw [getD_set_ne false (by decide)] at h; rw [getD_set_ne true (by decide)] at h7; have := f14 h h7; first | exact this | exact this.below hb | exact this.grown hG HOWN (by decide)
      · first | exact flag_ne (by decide) f15 | exact fun _ => rfl
      · first | exact flag_ne (by decide) f16 | exact fun _ => rfl
      · intro h _; rw [getD_set_ne false (by decide)] at h; exact (getD_no h0 (hC.step (j := 10) (k := 7) (hC.step (j := 13) (k := 10) (hC.step (j := 17) (k := 13) h (by kernel_rfl)) (by kernel_rfl)) (by kernel_rfl))).elim
      · first | exact flag_ne (by decide) f18 | exact fun _ => rfl
      · intro h h7; rw [getD_set_ne false (by decide)] at h; rw [getD_set_ne true (by decide)] at h7; have := f19 h h7; first | exact this | exact this.below hb | exact this.grown hG HOWN (by decide) | exact this.grown0 hG hgc14 (by decide)
      · intro h; rw [getD_set_ne false (by decide)] at h; exact (getD_no h0 (hC.step (j := 10) (k := 7) (hC.step (j := 13) (k := 10) (hC.step (j := 17) (k := 13) (hC.step (j := 20) (k := 17) h (by kernel_rfl)) (by kernel_rfl)) (by kernel_rfl)) (by kernel_rfl))).elim
      · intro h h7; rw [getD_set_ne false (by decide)] at h; rw [getD_set_ne true (by decide)] at h7; have := f21 h h7; first | exact this | exact this.below hb | exact this.grown hG HOWN (by decide)
      · first | exact flag_ne (by decide) f22 | exact fun _ => rfl
      · first | exact flag_ne (by decide) f23 | exact fun _ => rfl
      · intro h _; rw [getD_set_ne false (by decide)] at h; exact (getD_no h0 (hC.step (j := 10) (k := 7) (hC.step (j := 13) (k := 10) (hC.step (j := 17) (k := 13) (hC.step (j := 20) (k := 17) (hC.step (j := 24) (k := 20) h (by kernel_rfl)) (by kernel_rfl)) (by kernel_rfl)) (by kernel_rfl)) (by kernel_rfl))).elim
      · first | exact flag_ne (by decide) f25 | exact fun _ => rfl
      · intro h h7; rw [getD_set_ne false (by decide)] at h; rw [getD_set_ne true (by decide)] at h7; have := f26 h h7; first | exact this | exact this.below hb | exact this.grown hG HOWN (by decide) | exact this.grown0 hG hgc21 (by decide)
      · intro h; rw [getD_set_ne false (by decide)] at h; exact (getD_no h0 (hC.step (j := 10) (k := 7) (hC.step (j := 13) (k := 10) (hC.step (j := 17) (k := 13) (hC.step (j := 20) (k := 17) (hC.step (j := 24) (k := 20) (hC.step (j := 27) (k := 24) h (by kernel_rfl)) (by kernel_rfl)) (by kernel_rfl)) (by kernel_rfl)) (by kernel_rfl)) (by kernel_rfl))).elim
      · intro h; rw [getD_set_ne false (by decide)] at h; exact (getD_no h0 (hC.step (j := 10) (k := 7) (hC.step (j := 13) (k := 10) (hC.step (j := 28) (k := 13) h (by kernel_rfl)) (by kernel_rfl)) (by kernel_rfl))).elim
      · intro h h7; rw [getD_set_ne false (by decide)] at h; rw [getD_set_ne true (by decide)] at h7; have := f29 h h7; obtain ⟨g, z1, z2, z3⟩ := this; exact (by first | exact ⟨g, z1, z2, z3⟩ | exact ⟨g, z1, z2, obj_below z3 hb⟩ | exact ⟨g, z1, z2, obj_grown z3 hG (own_ne_type HOWN z3 (by decide))⟩ | (trace_state; fail))
      · intro h; rw [getD_set_ne false (by decide)] at h; exact (getD_no h0 (hC.step (j := 30) (k := 7) h (by kernel_rfl))).elim
    · refine StepAt.mk (o := { dst := some 27, op := Op.fieldAddr 27 (Operand.tmp 3) 1, type := 0, pos := _, after := #[], guard := none }) (ws := []) rfl (by kernel_rfl) ?_
      intro L b v hC h0 hA h
      refine h.elim ?_; clear h; intro u7 h
      refine h.elim ?_; clear h; intro u19 h
      refine h.elim ?_; clear h; intro u20 h
      refine h.elim ?_; clear h; intro u21 h
      refine h.elim ?_; clear h; intro u22 h
      refine h.elim ?_; clear h; intro u23 h
      refine h.elim ?_; clear h; intro u24 h
      refine h.elim ?_; clear h; intro u25 h
      refine h.elim ?_; clear h; intro u26 h
      refine h.elim ?_; clear h; intro u27 h
      refine h.elim ?_; clear h; intro u28 h
      refine h.elim ?_; clear h; intro u29 h
      refine h.elim ?_; clear h; intro u30 h
      refine h.elim ?_; clear h; intro u31 h
      refine h.elim ?_; clear h; intro u32 h
      refine h.elim ?_; clear h; intro u33 h
      refine h.elim ?_; clear h; intro u34 h
      refine h.elim ?_; clear h; intro u35 h
      refine h.elim ?_; clear h; intro u36 h
      refine h.elim ?_; clear h; intro u37 h
      refine h.elim ?_; clear h; intro u38 h
      refine h.elim ?_; clear h; intro u39 h
      refine h.elim ?_; clear h; intro u40 h
      refine h.elim ?_; clear h; intro u41 h
      refine h.elim ?_; clear h; intro u42 h
      refine h.elim ?_; clear h; intro u43 h
      refine h.elim ?_; clear h; intro u44 h
      refine h.elim ?_; clear h; intro u45 h
      refine h.elim ?_; clear h; intro u46 h
      refine h.elim ?_; clear h; intro u47 h
      have hbb := h.1; replace h := h.2; subst hbb
      have hHeld := h.1; replace h := h.2
      have f0 := h.1; replace h := h.2
      have f1 := h.1; replace h := h.2
      have f2 := h.1; replace h := h.2
      have f3 := h.1; replace h := h.2
      have f4 := h.1; replace h := h.2
      have f5 := h.1; replace h := h.2
      have f6 := h.1; replace h := h.2
      have f7 := h.1; replace h := h.2
      have f8 := h.1; replace h := h.2
      have f9 := h.1; replace h := h.2
      have f10 := h.1; replace h := h.2
      have f11 := h.1; replace h := h.2
      have f12 := h.1; replace h := h.2
      have f13 := h.1; replace h := h.2
      have f14 := h.1; replace h := h.2
      have f15 := h.1; replace h := h.2
      have f16 := h.1; replace h := h.2
      have f17 := h.1; replace h := h.2
      have f18 := h.1; replace h := h.2
      have f19 := h.1; replace h := h.2
      have f20 := h.1; replace h := h.2
      have f21 := h.1; replace h := h.2
      have f22 := h.1; replace h := h.2
      have f23 := h.1; replace h := h.2
      have f24 := h.1; replace h := h.2
      have f25 := h.1; replace h := h.2
      have f26 := h.1; replace h := h.2
      have f27 := h.1; replace h := h.2
      have f28 := h.1; replace h := h.2
      have f29 := h.1; replace h := h.2
      have f30 := h; clear h
      intro K hK
      rw [if_pos (by kernel_rfl)]
      have q0 := cellB hHeld C0 hgp
      have q1 := cellB hHeld C1 hgp
      have q2 := cellB hHeld C2 hgp
      have q3 := cellB hHeld C3 hgp
      go_simp
      try simp only [Act.put, List.setIfInBounds_toArray, List.set_cons_zero, List.set_cons_succ]
      refine hK.out _ _ ⟨_, _, _, _, _, _, _, _, _, _, _, _, _, _, _, _, _, _, _, _, _, _, _, _, _, _, _, _, _, _, rfl, ?_, ?_, ?_, ?_, ?_, ?_, ?_, ?_, ?_, ?_, ?_, ?_, ?_, ?_, ?_, ?_, ?_, ?_, ?_, ?_, ?_, ?_, ?_, ?_, ?_, ?_, ?_, ?_, ?_, ?_, ?_, ?_⟩
      · first | exact hHeld | exact hHeld.trans (hb.mono hHeld.size) | (trace_state; fail)
      · intro h h7; rw [getD_set_ne false (by decide)] at h; rw [getD_set_ne true (by decide)] at h7; have := f0 h h7; first | exact this | exact this.below hb | exact this.grown hG HOWN (by decide)
      · first | exact flag_ne (by decide) f1 | exact fun _ => rfl
      · first | exact flag_ne (by decide) f2 | exact fun _ => rfl
      · intro h h7; rw [getD_set_ne false (by decide)] at h; rw [getD_set_ne true (by decide)] at h7; have := f3 h h7; first | exact this | exact owns_below this hb | exact own_grown this hG HOWN (by decide)
      · first | exact flag_ne (by decide) f4 | exact fun _ => rfl
      · intro h h7; rw [getD_set_ne false (by decide)] at h; rw [getD_set_ne true (by decide)] at h7; have := f5 h h7; first | exact this | exact this.below hb | exact this.grown hG HOWN (by decide) | exact this.grown0 hG hgc0 (by decide)
      · intro h; rw [getD_set_ne false (by decide)] at h; have := f6 h; first | exact this | exact owns_below this hb | exact own_grown this hG HOWN (by decide)
      · intro h h7; rw [getD_set_ne false (by decide)] at h; rw [getD_set_ne true (by decide)] at h7; have := f7 h h7; first | exact this | exact this.below hb | exact this.grown hG HOWN (by decide)
      · intro _; first | rfl | (trace_state; fail)
      · first | exact flag_ne (by decide) f9 | exact fun _ => rfl
      · intro h _; rw [getD_set_ne false (by decide)] at h; exact (getD_no h0 (hC.step (j := 9) (k := 8) (hC.step (j := 10) (k := 9) h (by kernel_rfl)) (by kernel_rfl))).elim
      · first | exact flag_ne (by decide) f11 | exact fun _ => rfl
      · intro h h7; rw [getD_set_ne false (by decide)] at h; rw [getD_set_ne true (by decide)] at h7; have := f12 h h7; first | exact this | exact this.below hb | exact this.grown hG HOWN (by decide) | exact this.grown0 hG hgc7 (by decide)
      · intro h; rw [getD_set_ne false (by decide)] at h; exact (getD_no h0 (hC.step (j := 9) (k := 8) (hC.step (j := 10) (k := 9) (hC.step (j := 13) (k := 10) h (by kernel_rfl)) (by kernel_rfl)) (by kernel_rfl))).elim
      · intro h h7; rw [getD_set_ne false (by decide)] at h; rw [getD_set_ne true (by decide)] at h7; have := f14 h h7; first | exact this | exact this.below hb | exact this.grown hG HOWN (by decide)
      · first | exact flag_ne (by decide) f15 | exact fun _ => rfl
      · first | exact flag_ne (by decide) f16 | exact fun _ => rfl
      · intro h _; rw [getD_set_ne false (by decide)] at h; exact (getD_no h0 (hC.step (j := 9) (k := 8) (hC.step (j := 10) (k := 9) (hC.step (j := 13) (k := 10) (hC.step (j := 17) (k := 13) h (by kernel_rfl)) (by kernel_rfl)) (by kernel_rfl)) (by kernel_rfl))).elim
      · first | exact flag_ne (by decide) f18 | exact fun _ => rfl
      · intro h h7; rw [getD_set_ne false (by decide)] at h; rw [getD_set_ne true (by decide)] at h7; have := f19 h h7; first | exact this | exact this.below hb | exact this.grown hG HOWN (by decide) | exact this.grown0 hG hgc14 (by decide)
      · intro h; rw [getD_set_ne false (by decide)] at h; exact (getD_no h0 (hC.step (j := 9) (k := 8) (hC.step (j := 10) (k := 9) (hC.step (j := 13) (k := 10) (hC.step (j := 17) (k := 13) (hC.step (j := 20) (k := 17) h (by kernel_rfl)) (by kernel_rfl)) (by kernel_rfl)) (by kernel_rfl)) (by kernel_rfl))).elim
      · intro h h7; rw [getD_set_ne false (by decide)] at h; rw [getD_set_ne true (by decide)] at h7; have := f21 h h7; first | exact this | exact this.below hb | exact this.grown hG HOWN (by decide)
      · first | exact flag_ne (by decide) f22 | exact fun _ => rfl
      · first | exact flag_ne (by decide) f23 | exact fun _ => rfl
      · intro h _; rw [getD_set_ne false (by decide)] at h; exact (getD_no h0 (hC.step (j := 9) (k := 8) (hC.step (j := 10) (k := 9) (hC.step (j := 13) (k := 10) (hC.step (j := 17) (k := 13) (hC.step (j := 20) (k := 17) (hC.step (j := 24) (k := 20) h (by kernel_rfl)) (by kernel_rfl)) (by kernel_rfl)) (by kernel_rfl)) (by kernel_rfl)) (by kernel_rfl))).elim
      · first | exact flag_ne (by decide) f25 | exact fun _ => rfl
      · intro h h7; rw [getD_set_ne false (by decide)] at h; rw [getD_set_ne true (by decide)] at h7; have := f26 h h7; first | exact this | exact this.below hb | exact this.grown hG HOWN (by decide) | exact this.grown0 hG hgc21 (by decide)
      · intro h; rw [getD_set_ne false (by decide)] at h; exact (getD_no h0 (hC.step (j := 9) (k := 8) (hC.step (j := 10) (k := 9) (hC.step (j := 13) (k := 10) (hC.step (j := 17) (k := 13) (hC.step (j := 20) (k := 17) (hC.step (j := 24) (k := 20) (hC.step (j := 27) (k := 24) h (by kernel_rfl)) (by kernel_rfl)) (by kernel_rfl)) (by kernel_rfl)) (by kernel_rfl)) (by kernel_rfl)) (by kernel_rfl))).elim
      · intro h; rw [getD_set_ne false (by decide)] at h; exact (getD_no h0 (hC.step (j := 9) (k := 8) (hC.step (j := 10) (k := 9) (hC.step (j := 13) (k := 10) (hC.step (j := 28) (k := 13) h (by kernel_rfl)) (by kernel_rfl)) (by kernel_rfl)) (by kernel_rfl))).elim
      · intro h h7; rw [getD_set_ne false (by decide)] at h; rw [getD_set_ne true (by decide)] at h7; have := f29 h h7; obtain ⟨g, z1, z2, z3⟩ := this; exact (by first | exact ⟨g, z1, z2, z3⟩ | exact ⟨g, z1, z2, obj_below z3 hb⟩ | exact ⟨g, z1, z2, obj_grown z3 hG (own_ne_type HOWN z3 (by decide))⟩ | (trace_state; fail))
      · intro h; rw [getD_set_ne false (by decide)] at h; exact (getD_no h0 (hC.step (j := 30) (k := 8) h (by kernel_rfl))).elim
    · refine StepAt.mk (o := { dst := some 28, op := Op.load 23 (Operand.tmp 27), type := 23, pos := _, after := #[{ on := 8, ground := Ground.data }], guard := none }) (ws := [8]) rfl (by kernel_rfl) ?_
      intro L b v hC h0 hA h
      refine h.elim ?_; clear h; intro u7 h
      refine h.elim ?_; clear h; intro u19 h
      refine h.elim ?_; clear h; intro u20 h
      refine h.elim ?_; clear h; intro u21 h
      refine h.elim ?_; clear h; intro u22 h
      refine h.elim ?_; clear h; intro u23 h
      refine h.elim ?_; clear h; intro u24 h
      refine h.elim ?_; clear h; intro u25 h
      refine h.elim ?_; clear h; intro u26 h
      refine h.elim ?_; clear h; intro u27 h
      refine h.elim ?_; clear h; intro u28 h
      refine h.elim ?_; clear h; intro u29 h
      refine h.elim ?_; clear h; intro u30 h
      refine h.elim ?_; clear h; intro u31 h
      refine h.elim ?_; clear h; intro u32 h
      refine h.elim ?_; clear h; intro u33 h
      refine h.elim ?_; clear h; intro u34 h
      refine h.elim ?_; clear h; intro u35 h
      refine h.elim ?_; clear h; intro u36 h
      refine h.elim ?_; clear h; intro u37 h
      refine h.elim ?_; clear h; intro u38 h
      refine h.elim ?_; clear h; intro u39 h
      refine h.elim ?_; clear h; intro u40 h
      refine h.elim ?_; clear h; intro u41 h
      refine h.elim ?_; clear h; intro u42 h
      refine h.elim ?_; clear h; intro u43 h
      refine h.elim ?_; clear h; intro u44 h
      refine h.elim ?_; clear h; intro u45 h
      refine h.elim ?_; clear h; intro u46 h
      refine h.elim ?_; clear h; intro u47 h
      have hbb := h.1; replace h := h.2; subst hbb
      have hHeld := h.1; replace h := h.2
      have f0 := h.1; replace h := h.2
      have f1 := h.1; replace h := h.2
      have f2 := h.1; replace h := h.2
      have f3 := h.1; replace h := h.2
      have f4 := h.1; replace h := h.2
      have f5 := h.1; replace h := h.2
      have f6 := h.1; replace h := h.2
      have f7 := h.1; replace h := h.2
      have f8 := h.1; replace h := h.2
      have f9 := h.1; replace h := h.2
      have f10 := h.1; replace h := h.2
      have f11 := h.1; replace h := h.2
      have f12 := h.1; replace h := h.2
      have f13 := h.1; replace h := h.2
      have f14 := h.1; replace h := h.2
      have f15 := h.1; replace h := h.2
      have f16 := h.1; replace h := h.2
      have f17 := h.1; replace h := h.2
      have f18 := h.1; replace h := h.2
      have f19 := h.1; replace h := h.2
      have f20 := h.1; replace h := h.2
      have f21 := h.1; replace h := h.2
      have f22 := h.1; replace h := h.2
      have f23 := h.1; replace h := h.2
      have f24 := h.1; replace h := h.2
      have f25 := h.1; replace h := h.2
      have f26 := h.1; replace h := h.2
      have f27 := h.1; replace h := h.2
      have f28 := h.1; replace h := h.2
      have f29 := h.1; replace h := h.2
      have f30 := h; clear h
      intro K hK
      have g8 := f8 (hA 8 (by simp))
      obtain rfl := g8
      rw [if_pos (by kernel_rfl)]
      have q0 := cellB hHeld C0 hgp
      have q1 := cellB hHeld C1 hgp
      have q2 := cellB hHeld C2 hgp
      have q3 := cellB hHeld C3 hgp
      go_simp
      try simp only [Act.put, List.setIfInBounds_toArray, List.set_cons_zero, List.set_cons_succ]
      refine hK.out _ _ ⟨_, _, _, _, _, _, _, _, _, _, _, _, _, _, _, _, _, _, _, _, _, _, _, _, _, _, _, _, _, _, rfl, ?_, ?_, ?_, ?_, ?_, ?_, ?_, ?_, ?_, ?_, ?_, ?_, ?_, ?_, ?_, ?_, ?_, ?_, ?_, ?_, ?_, ?_, ?_, ?_, ?_, ?_, ?_, ?_, ?_, ?_, ?_, ?_⟩
      · first | exact hHeld | exact hHeld.trans (hb.mono hHeld.size) | (trace_state; fail)
      · intro h h7; rw [getD_set_ne false (by decide)] at h; rw [getD_set_ne true (by decide)] at h7; have := f0 h h7; first | exact this | exact this.below hb | exact this.grown hG HOWN (by decide)
      · first | exact flag_ne (by decide) f1 | exact fun _ => rfl
      · first | exact flag_ne (by decide) f2 | exact fun _ => rfl
      · intro h h7; rw [getD_set_ne false (by decide)] at h; rw [getD_set_ne true (by decide)] at h7; have := f3 h h7; first | exact this | exact owns_below this hb | exact own_grown this hG HOWN (by decide)
      · first | exact flag_ne (by decide) f4 | exact fun _ => rfl
      · intro h h7; rw [getD_set_ne false (by decide)] at h; rw [getD_set_ne true (by decide)] at h7; have := f5 h h7; first | exact this | exact this.below hb | exact this.grown hG HOWN (by decide) | exact this.grown0 hG hgc0 (by decide)
      · intro h; rw [getD_set_ne false (by decide)] at h; have := f6 h; first | exact this | exact owns_below this hb | exact own_grown this hG HOWN (by decide)
      · intro h h7; rw [getD_set_ne false (by decide)] at h; rw [getD_set_ne true (by decide)] at h7; have := f7 h h7; first | exact this | exact this.below hb | exact this.grown hG HOWN (by decide)
      · first | exact flag_ne (by decide) f8 | exact fun _ => rfl
      · intro _; first | rfl | (trace_state; fail)
      · intro h _; rw [getD_set_ne false (by decide)] at h; exact (getD_no h0 (hC.step (j := 10) (k := 9) h (by kernel_rfl))).elim
      · first | exact flag_ne (by decide) f11 | exact fun _ => rfl
      · intro h h7; rw [getD_set_ne false (by decide)] at h; rw [getD_set_ne true (by decide)] at h7; have := f12 h h7; first | exact this | exact this.below hb | exact this.grown hG HOWN (by decide) | exact this.grown0 hG hgc7 (by decide)
      · intro h; rw [getD_set_ne false (by decide)] at h; exact (getD_no h0 (hC.step (j := 10) (k := 9) (hC.step (j := 13) (k := 10) h (by kernel_rfl)) (by kernel_rfl))).elim
      · intro h h7; rw [getD_set_ne false (by decide)] at h; rw [getD_set_ne true (by decide)] at h7; have := f14 h h7; first | exact this | exact this.below hb | exact this.grown hG HOWN (by decide)
      · first | exact flag_ne (by decide) f15 | exact fun _ => rfl
      · first | exact flag_ne (by decide) f16 | exact fun _ => rfl
      · intro h _; rw [getD_set_ne false (by decide)] at h; exact (getD_no h0 (hC.step (j := 10) (k := 9) (hC.step (j := 13) (k := 10) (hC.step (j := 17) (k := 13) h (by kernel_rfl)) (by kernel_rfl)) (by kernel_rfl))).elim
      · first | exact flag_ne (by decide) f18 | exact fun _ => rfl
      · intro h h7; rw [getD_set_ne false (by decide)] at h; rw [getD_set_ne true (by decide)] at h7; have := f19 h h7; first | exact this | exact this.below hb | exact this.grown hG HOWN (by decide) | exact this.grown0 hG hgc14 (by decide)
      · intro h; rw [getD_set_ne false (by decide)] at h; exact (getD_no h0 (hC.step (j := 10) (k := 9) (hC.step (j := 13) (k := 10) (hC.step (j := 17) (k := 13) (hC.step (j := 20) (k := 17) h (by kernel_rfl)) (by kernel_rfl)) (by kernel_rfl)) (by kernel_rfl))).elim
      · intro h h7; rw [getD_set_ne false (by decide)] at h; rw [getD_set_ne true (by decide)] at h7; have := f21 h h7; first | exact this | exact this.below hb | exact this.grown hG HOWN (by decide)
      · first | exact flag_ne (by decide) f22 | exact fun _ => rfl
      · first | exact flag_ne (by decide) f23 | exact fun _ => rfl
      · intro h _; rw [getD_set_ne false (by decide)] at h; exact (getD_no h0 (hC.step (j := 10) (k := 9) (hC.step (j := 13) (k := 10) (hC.step (j := 17) (k := 13) (hC.step (j := 20) (k := 17) (hC.step (j := 24) (k := 20) h (by kernel_rfl)) (by kernel_rfl)) (by kernel_rfl)) (by kernel_rfl)) (by kernel_rfl))).elim
      · first | exact flag_ne (by decide) f25 | exact fun _ => rfl
      · intro h h7; rw [getD_set_ne false (by decide)] at h; rw [getD_set_ne true (by decide)] at h7; have := f26 h h7; first | exact this | exact this.below hb | exact this.grown hG HOWN (by decide) | exact this.grown0 hG hgc21 (by decide)
      · intro h; rw [getD_set_ne false (by decide)] at h; exact (getD_no h0 (hC.step (j := 10) (k := 9) (hC.step (j := 13) (k := 10) (hC.step (j := 17) (k := 13) (hC.step (j := 20) (k := 17) (hC.step (j := 24) (k := 20) (hC.step (j := 27) (k := 24) h (by kernel_rfl)) (by kernel_rfl)) (by kernel_rfl)) (by kernel_rfl)) (by kernel_rfl)) (by kernel_rfl))).elim
      · intro h; rw [getD_set_ne false (by decide)] at h; exact (getD_no h0 (hC.step (j := 10) (k := 9) (hC.step (j := 13) (k := 10) (hC.step (j := 28) (k := 13) h (by kernel_rfl)) (by kernel_rfl)) (by kernel_rfl))).elim
      · intro h h7; rw [getD_set_ne false (by decide)] at h; rw [getD_set_ne true (by decide)] at h7; have := f29 h h7; obtain ⟨g, z1, z2, z3⟩ := this; exact (by first | exact ⟨g, z1, z2, z3⟩ | exact ⟨g, z1, z2, obj_below z3 hb⟩ | exact ⟨g, z1, z2, obj_grown z3 hG (own_ne_type HOWN z3 (by decide))⟩ | (trace_state; fail))
      · intro h; rw [getD_set_ne false (by decide)] at h; exact (getD_no h0 (hC.step (j := 30) (k := 9) h (by kernel_rfl))).elim
    · refine StepAt.mk (o := { dst := some 29, op := Op.call { callee := Callee.builtin Builtin.append, args := #[Operand.tmp 26, Operand.tmp 28], argTypes := #[23, 23] }, type := 23, pos := _, after := #[{ on := 7, ground := Ground.data }, { on := 9, ground := Ground.data }, { on := 6, ground := Ground.chain }], guard := none }) (ws := [7, 9, 6]) rfl (by kernel_rfl) ?_
      intro L b v hC h0 hA h
      refine h.elim ?_; clear h; intro u7 h
      refine h.elim ?_; clear h; intro u19 h
      refine h.elim ?_; clear h; intro u20 h
      refine h.elim ?_; clear h; intro u21 h
      refine h.elim ?_; clear h; intro u22 h
      refine h.elim ?_; clear h; intro u23 h
      refine h.elim ?_; clear h; intro u24 h
      refine h.elim ?_; clear h; intro u25 h
      refine h.elim ?_; clear h; intro u26 h
      refine h.elim ?_; clear h; intro u27 h
      refine h.elim ?_; clear h; intro u28 h
      refine h.elim ?_; clear h; intro u29 h
      refine h.elim ?_; clear h; intro u30 h
      refine h.elim ?_; clear h; intro u31 h
      refine h.elim ?_; clear h; intro u32 h
      refine h.elim ?_; clear h; intro u33 h
      refine h.elim ?_; clear h; intro u34 h
      refine h.elim ?_; clear h; intro u35 h
      refine h.elim ?_; clear h; intro u36 h
      refine h.elim ?_; clear h; intro u37 h
      refine h.elim ?_; clear h; intro u38 h
      refine h.elim ?_; clear h; intro u39 h
      refine h.elim ?_; clear h; intro u40 h
      refine h.elim ?_; clear h; intro u41 h
      refine h.elim ?_; clear h; intro u42 h
      refine h.elim ?_; clear h; intro u43 h
      refine h.elim ?_; clear h; intro u44 h
      refine h.elim ?_; clear h; intro u45 h
      refine h.elim ?_; clear h; intro u46 h
      refine h.elim ?_; clear h; intro u47 h
      have hbb := h.1; replace h := h.2; subst hbb
      have hHeld := h.1; replace h := h.2
      have f0 := h.1; replace h := h.2
      have f1 := h.1; replace h := h.2
      have f2 := h.1; replace h := h.2
      have f3 := h.1; replace h := h.2
      have f4 := h.1; replace h := h.2
      have f5 := h.1; replace h := h.2
      have f6 := h.1; replace h := h.2
      have f7 := h.1; replace h := h.2
      have f8 := h.1; replace h := h.2
      have f9 := h.1; replace h := h.2
      have f10 := h.1; replace h := h.2
      have f11 := h.1; replace h := h.2
      have f12 := h.1; replace h := h.2
      have f13 := h.1; replace h := h.2
      have f14 := h.1; replace h := h.2
      have f15 := h.1; replace h := h.2
      have f16 := h.1; replace h := h.2
      have f17 := h.1; replace h := h.2
      have f18 := h.1; replace h := h.2
      have f19 := h.1; replace h := h.2
      have f20 := h.1; replace h := h.2
      have f21 := h.1; replace h := h.2
      have f22 := h.1; replace h := h.2
      have f23 := h.1; replace h := h.2
      have f24 := h.1; replace h := h.2
      have f25 := h.1; replace h := h.2
      have f26 := h.1; replace h := h.2
      have f27 := h.1; replace h := h.2
      have f28 := h.1; replace h := h.2
      have f29 := h.1; replace h := h.2
      have f30 := h; clear h
      intro K hK
      have g7 := f7 (hA 7 (by simp)) h0
      obtain ⟨gg7, rfl, hgB7, hgc7⟩ := g7
      have g9 := f9 (hA 9 (by simp))
      obtain rfl := g9
      have g6 := f6 (hA 6 (by simp))
      rw [if_pos (by kernel_rfl)]
      have q0 := cellB hHeld C0 hgp
      have q1 := cellB hHeld C1 hgp
      have q2 := cellB hHeld C2 hgp
      have q3 := cellB hHeld C3 hgp
      have HOWN := owns_nil_at (q := 5) hgc7 hgB7; refine wp_append_src (.tmp 26) (.tmp 28) 23 rfl W0.heap.size 40 i2 (.agg #[.string ⟨#[]⟩, .int .i64 0, .int .i64 0, .int .i64 0, .int .i64 0]) 5 48 Tryd.underlying23 hi2 hz2 hs2 hb2 rfl (by omega) _ 0 [] rfl HOWN _ n2 X2 rfl (S2.out _ hHeld) l2 o2.out (by unfold maxLen; omega) (by omega) hHeld.size ?_; intro v' w' HO hG
      try simp only [Act.put, List.setIfInBounds_toArray, List.set_cons_zero, List.set_cons_succ]
      refine hK.out _ _ ⟨_, _, _, _, _, _, _, _, _, _, _, _, _, _, _, _, _, _, _, _, _, _, _, _, _, _, _, _, _, _, rfl, ?_, ?_, ?_, ?_, ?_, ?_, ?_, ?_, ?_, ?_, ?_, ?_, ?_, ?_, ?_, ?_, ?_, ?_, ?_, ?_, ?_, ?_, ?_, ?_, ?_, ?_, ?_, ?_, ?_, ?_, ?_, ?_⟩
      · exact grown3 hHeld hHeld.size HOWN hG
      · intro _ h7; rw [getD_set_ne true (by decide)] at h7; exact (getD_no h7 (hC.step (j := 6) (k := 3) (hA 6 (by simp)) (by kernel_rfl))).elim
      · first | exact flag_ne (by decide) f1 | exact fun _ => rfl
      · first | exact flag_ne (by decide) f2 | exact fun _ => rfl
      · intro _ h7; rw [getD_set_ne true (by decide)] at h7; exact (getD_no h7 (hA 6 (by simp))).elim
      · first | exact flag_ne (by decide) f4 | exact fun _ => rfl
      · intro _ h7; rw [getD_set_ne true (by decide)] at h7; exact (getD_no h7 (hA 6 (by simp))).elim
      · intro h; rw [getD_set_ne false (by decide)] at h; have := f6 h; first | exact this | exact owns_below this hb | exact own_grown this hG HOWN (by decide)
      · intro _ h7; rw [getD_set_self] at h7; cases h7
      · first | exact flag_ne (by decide) f8 | exact fun _ => rfl
      · first | exact flag_ne (by decide) f9 | exact fun _ => rfl
      · intro _ _; first | (exact own_eq2 HO (by omega) (by simp)) | (trace_state; fail)
      · first | exact flag_ne (by decide) f11 | exact fun _ => rfl
      · intro h h7; rw [getD_set_ne false (by decide)] at h; rw [getD_set_ne true (by decide)] at h7; have := f12 h h7; first | exact this | exact this.below hb | exact this.grown hG HOWN (by decide) | exact this.grown0 hG hgc7 (by decide)
      · intro h; rw [getD_set_ne false (by decide)] at h; exact (getD_no h0 (hC.step (j := 13) (k := 10) h (by kernel_rfl))).elim
      · intro h h7; rw [getD_set_ne false (by decide)] at h; rw [getD_set_ne true (by decide)] at h7; have := f14 h h7; first | exact this | exact this.below hb | exact this.grown hG HOWN (by decide)
      · first | exact flag_ne (by decide) f15 | exact fun _ => rfl
      · first | exact flag_ne (by decide) f16 | exact fun _ => rfl
      · intro h _; rw [getD_set_ne false (by decide)] at h; exact (getD_no h0 (hC.step (j := 13) (k := 10) (hC.step (j := 17) (k := 13) h (by kernel_rfl)) (by kernel_rfl))).elim
      · first | exact flag_ne (by decide) f18 | exact fun _ => rfl
      · intro h h7; rw [getD_set_ne false (by decide)] at h; rw [getD_set_ne true (by decide)] at h7; have := f19 h h7; first | exact this | exact this.below hb | exact this.grown hG HOWN (by decide) | exact this.grown0 hG hgc14 (by decide)
      · intro h; rw [getD_set_ne false (by decide)] at h; exact (getD_no h0 (hC.step (j := 13) (k := 10) (hC.step (j := 17) (k := 13) (hC.step (j := 20) (k := 17) h (by kernel_rfl)) (by kernel_rfl)) (by kernel_rfl))).elim
      · intro h h7; rw [getD_set_ne false (by decide)] at h; rw [getD_set_ne true (by decide)] at h7; have := f21 h h7; first | exact this | exact this.below hb | exact this.grown hG HOWN (by decide)
      · first | exact flag_ne (by decide) f22 | exact fun _ => rfl
      · first | exact flag_ne (by decide) f23 | exact fun _ => rfl
      · intro h _; rw [getD_set_ne false (by decide)] at h; exact (getD_no h0 (hC.step (j := 13) (k := 10) (hC.step (j := 17) (k := 13) (hC.step (j := 20) (k := 17) (hC.step (j := 24) (k := 20) h (by kernel_rfl)) (by kernel_rfl)) (by kernel_rfl)) (by kernel_rfl))).elim
      · first | exact flag_ne (by decide) f25 | exact fun _ => rfl
      · intro h h7; rw [getD_set_ne false (by decide)] at h; rw [getD_set_ne true (by decide)] at h7; have := f26 h h7; first | exact this | exact this.below hb | exact this.grown hG HOWN (by decide) | exact this.grown0 hG hgc21 (by decide)
      · intro h; rw [getD_set_ne false (by decide)] at h; exact (getD_no h0 (hC.step (j := 13) (k := 10) (hC.step (j := 17) (k := 13) (hC.step (j := 20) (k := 17) (hC.step (j := 24) (k := 20) (hC.step (j := 27) (k := 24) h (by kernel_rfl)) (by kernel_rfl)) (by kernel_rfl)) (by kernel_rfl)) (by kernel_rfl))).elim
      · intro h; rw [getD_set_ne false (by decide)] at h; exact (getD_no h0 (hC.step (j := 13) (k := 10) (hC.step (j := 28) (k := 13) h (by kernel_rfl)) (by kernel_rfl))).elim
      · intro h h7; rw [getD_set_ne false (by decide)] at h; rw [getD_set_ne true (by decide)] at h7; have := f29 h h7; obtain ⟨g, z1, z2, z3⟩ := this; exact (by first | exact ⟨g, z1, z2, z3⟩ | exact ⟨g, z1, z2, obj_below z3 hb⟩ | exact ⟨g, z1, z2, obj_grown z3 hG (own_ne_type HOWN z3 (by decide))⟩ | (trace_state; fail))
      · intro h; rw [getD_set_ne false (by decide)] at h; exact (getD_no h0 (hC.step (j := 30) (k := 10) h (by kernel_rfl))).elim
    · refine StepAt.mk (o := { dst := some 30, op := Op.build 40 #[], type := 40, pos := _, after := #[], guard := none }) (ws := []) rfl (by kernel_rfl) ?_
      intro L b v hC h0 hA h
      refine h.elim ?_; clear h; intro u7 h
      refine h.elim ?_; clear h; intro u19 h
      refine h.elim ?_; clear h; intro u20 h
      refine h.elim ?_; clear h; intro u21 h
      refine h.elim ?_; clear h; intro u22 h
      refine h.elim ?_; clear h; intro u23 h
      refine h.elim ?_; clear h; intro u24 h
      refine h.elim ?_; clear h; intro u25 h
      refine h.elim ?_; clear h; intro u26 h
      refine h.elim ?_; clear h; intro u27 h
      refine h.elim ?_; clear h; intro u28 h
      refine h.elim ?_; clear h; intro u29 h
      refine h.elim ?_; clear h; intro u30 h
      refine h.elim ?_; clear h; intro u31 h
      refine h.elim ?_; clear h; intro u32 h
      refine h.elim ?_; clear h; intro u33 h
      refine h.elim ?_; clear h; intro u34 h
      refine h.elim ?_; clear h; intro u35 h
      refine h.elim ?_; clear h; intro u36 h
      refine h.elim ?_; clear h; intro u37 h
      refine h.elim ?_; clear h; intro u38 h
      refine h.elim ?_; clear h; intro u39 h
      refine h.elim ?_; clear h; intro u40 h
      refine h.elim ?_; clear h; intro u41 h
      refine h.elim ?_; clear h; intro u42 h
      refine h.elim ?_; clear h; intro u43 h
      refine h.elim ?_; clear h; intro u44 h
      refine h.elim ?_; clear h; intro u45 h
      refine h.elim ?_; clear h; intro u46 h
      refine h.elim ?_; clear h; intro u47 h
      have hbb := h.1; replace h := h.2; subst hbb
      have hHeld := h.1; replace h := h.2
      have f0 := h.1; replace h := h.2
      have f1 := h.1; replace h := h.2
      have f2 := h.1; replace h := h.2
      have f3 := h.1; replace h := h.2
      have f4 := h.1; replace h := h.2
      have f5 := h.1; replace h := h.2
      have f6 := h.1; replace h := h.2
      have f7 := h.1; replace h := h.2
      have f8 := h.1; replace h := h.2
      have f9 := h.1; replace h := h.2
      have f10 := h.1; replace h := h.2
      have f11 := h.1; replace h := h.2
      have f12 := h.1; replace h := h.2
      have f13 := h.1; replace h := h.2
      have f14 := h.1; replace h := h.2
      have f15 := h.1; replace h := h.2
      have f16 := h.1; replace h := h.2
      have f17 := h.1; replace h := h.2
      have f18 := h.1; replace h := h.2
      have f19 := h.1; replace h := h.2
      have f20 := h.1; replace h := h.2
      have f21 := h.1; replace h := h.2
      have f22 := h.1; replace h := h.2
      have f23 := h.1; replace h := h.2
      have f24 := h.1; replace h := h.2
      have f25 := h.1; replace h := h.2
      have f26 := h.1; replace h := h.2
      have f27 := h.1; replace h := h.2
      have f28 := h.1; replace h := h.2
      have f29 := h.1; replace h := h.2
      have f30 := h; clear h
      intro K hK
      rw [if_pos (by kernel_rfl)]
      have q0 := cellB hHeld C0 hgp
      have q1 := cellB hHeld C1 hgp
      have q2 := cellB hHeld C2 hgp
      have q3 := cellB hHeld C3 hgp
      go_simp
      try simp only [Act.put, List.setIfInBounds_toArray, List.set_cons_zero, List.set_cons_succ]
      refine hK.out _ _ ⟨_, _, _, _, _, _, _, _, _, _, _, _, _, _, _, _, _, _, _, _, _, _, _, _, _, _, _, _, _, _, rfl, ?_, ?_, ?_, ?_, ?_, ?_, ?_, ?_, ?_, ?_, ?_, ?_, ?_, ?_, ?_, ?_, ?_, ?_, ?_, ?_, ?_, ?_, ?_, ?_, ?_, ?_, ?_, ?_, ?_, ?_, ?_, ?_⟩
      · first | exact hHeld | exact hHeld.trans (hb.mono hHeld.size) | (trace_state; fail)
      · intro h h7; rw [getD_set_ne false (by decide)] at h; rw [getD_set_ne true (by decide)] at h7; have := f0 h h7; first | exact this | exact this.below hb | exact this.grown hG HOWN (by decide)
      · first | exact flag_ne (by decide) f1 | exact fun _ => rfl
      · first | exact flag_ne (by decide) f2 | exact fun _ => rfl
      · intro h h7; rw [getD_set_ne false (by decide)] at h; rw [getD_set_ne true (by decide)] at h7; have := f3 h h7; first | exact this | exact owns_below this hb | exact own_grown this hG HOWN (by decide)
      · first | exact flag_ne (by decide) f4 | exact fun _ => rfl
      · intro h h7; rw [getD_set_ne false (by decide)] at h; rw [getD_set_ne true (by decide)] at h7; have := f5 h h7; first | exact this | exact this.below hb | exact this.grown hG HOWN (by decide) | exact this.grown0 hG hgc0 (by decide)
      · intro h; rw [getD_set_ne false (by decide)] at h; have := f6 h; first | exact this | exact owns_below this hb | exact own_grown this hG HOWN (by decide)
      · intro h h7; rw [getD_set_ne false (by decide)] at h; rw [getD_set_ne true (by decide)] at h7; have := f7 h h7; first | exact this | exact this.below hb | exact this.grown hG HOWN (by decide)
      · first | exact flag_ne (by decide) f8 | exact fun _ => rfl
      · first | exact flag_ne (by decide) f9 | exact fun _ => rfl
      · intro h h7; rw [getD_set_ne false (by decide)] at h; rw [getD_set_ne true (by decide)] at h7; have := f10 h h7; first | exact this | exact owns_below this hb | exact own_grown this hG HOWN (by decide)
      · intro _; first | rfl | (trace_state; fail)
      · intro h _; rw [getD_set_ne false (by decide)] at h; exact (getD_no h0 (hC.step (j := 12) (k := 11) h (by kernel_rfl))).elim
      · intro h; rw [getD_set_ne false (by decide)] at h; exact (getD_no h0 (hC.step (j := 12) (k := 11) (hC.step (j := 13) (k := 12) h (by kernel_rfl)) (by kernel_rfl))).elim
      · intro h h7; rw [getD_set_ne false (by decide)] at h; rw [getD_set_ne true (by decide)] at h7; have := f14 h h7; first | exact this | exact this.below hb | exact this.grown hG HOWN (by decide)
      · first | exact flag_ne (by decide) f15 | exact fun _ => rfl
      · first | exact flag_ne (by decide) f16 | exact fun _ => rfl
      · intro h _; rw [getD_set_ne false (by decide)] at h; exact (getD_no h0 (hC.step (j := 12) (k := 11) (hC.step (j := 13) (k := 12) (hC.step (j := 17) (k := 13) h (by kernel_rfl)) (by kernel_rfl)) (by kernel_rfl))).elim
      · first | exact flag_ne (by decide) f18 | exact fun _ => rfl
      · intro h h7; rw [getD_set_ne false (by decide)] at h; rw [getD_set_ne true (by decide)] at h7; have := f19 h h7; first | exact this | exact this.below hb | exact this.grown hG HOWN (by decide) | exact this.grown0 hG hgc14 (by decide)
      · intro h; rw [getD_set_ne false (by decide)] at h; exact (getD_no h0 (hC.step (j := 12) (k := 11) (hC.step (j := 13) (k := 12) (hC.step (j := 17) (k := 13) (hC.step (j := 20) (k := 17) h (by kernel_rfl)) (by kernel_rfl)) (by kernel_rfl)) (by kernel_rfl))).elim
      · intro h h7; rw [getD_set_ne false (by decide)] at h; rw [getD_set_ne true (by decide)] at h7; have := f21 h h7; first | exact this | exact this.below hb | exact this.grown hG HOWN (by decide)
      · first | exact flag_ne (by decide) f22 | exact fun _ => rfl
      · first | exact flag_ne (by decide) f23 | exact fun _ => rfl
      · intro h _; rw [getD_set_ne false (by decide)] at h; exact (getD_no h0 (hC.step (j := 12) (k := 11) (hC.step (j := 13) (k := 12) (hC.step (j := 17) (k := 13) (hC.step (j := 20) (k := 17) (hC.step (j := 24) (k := 20) h (by kernel_rfl)) (by kernel_rfl)) (by kernel_rfl)) (by kernel_rfl)) (by kernel_rfl))).elim
      · first | exact flag_ne (by decide) f25 | exact fun _ => rfl
      · intro h h7; rw [getD_set_ne false (by decide)] at h; rw [getD_set_ne true (by decide)] at h7; have := f26 h h7; first | exact this | exact this.below hb | exact this.grown hG HOWN (by decide) | exact this.grown0 hG hgc21 (by decide)
      · intro h; rw [getD_set_ne false (by decide)] at h; exact (getD_no h0 (hC.step (j := 12) (k := 11) (hC.step (j := 13) (k := 12) (hC.step (j := 17) (k := 13) (hC.step (j := 20) (k := 17) (hC.step (j := 24) (k := 20) (hC.step (j := 27) (k := 24) h (by kernel_rfl)) (by kernel_rfl)) (by kernel_rfl)) (by kernel_rfl)) (by kernel_rfl)) (by kernel_rfl))).elim
      · intro h; rw [getD_set_ne false (by decide)] at h; exact (getD_no h0 (hC.step (j := 12) (k := 11) (hC.step (j := 13) (k := 12) (hC.step (j := 28) (k := 13) h (by kernel_rfl)) (by kernel_rfl)) (by kernel_rfl))).elim
      · intro h h7; rw [getD_set_ne false (by decide)] at h; rw [getD_set_ne true (by decide)] at h7; have := f29 h h7; obtain ⟨g, z1, z2, z3⟩ := this; exact (by first | exact ⟨g, z1, z2, z3⟩ | exact ⟨g, z1, z2, obj_below z3 hb⟩ | exact ⟨g, z1, z2, obj_grown z3 hG (own_ne_type HOWN z3 (by decide))⟩ | (trace_state; fail))
      · intro h; rw [getD_set_ne false (by decide)] at h; exact (getD_no h0 (hC.step (j := 30) (k := 11) h (by kernel_rfl))).elim
    · refine StepAt.mk (o := { dst := some 31, op := Op.buildSlice 23 1 #[(0, Operand.tmp 30)], type := 23, pos := _, after := #[{ on := 11, ground := Ground.data }], guard := none }) (ws := [11]) rfl (by kernel_rfl) ?_
      intro L b v hC h0 hA h
      refine h.elim ?_; clear h; intro u7 h
      refine h.elim ?_; clear h; intro u19 h
      refine h.elim ?_; clear h; intro u20 h
      refine h.elim ?_; clear h; intro u21 h
      refine h.elim ?_; clear h; intro u22 h
      refine h.elim ?_; clear h; intro u23 h
      refine h.elim ?_; clear h; intro u24 h
      refine h.elim ?_; clear h; intro u25 h
      refine h.elim ?_; clear h; intro u26 h
      refine h.elim ?_; clear h; intro u27 h
      refine h.elim ?_; clear h; intro u28 h
      refine h.elim ?_; clear h; intro u29 h
      refine h.elim ?_; clear h; intro u30 h
      refine h.elim ?_; clear h; intro u31 h
      refine h.elim ?_; clear h; intro u32 h
      refine h.elim ?_; clear h; intro u33 h
      refine h.elim ?_; clear h; intro u34 h
      refine h.elim ?_; clear h; intro u35 h
      refine h.elim ?_; clear h; intro u36 h
      refine h.elim ?_; clear h; intro u37 h
      refine h.elim ?_; clear h; intro u38 h
      refine h.elim ?_; clear h; intro u39 h
      refine h.elim ?_; clear h; intro u40 h
      refine h.elim ?_; clear h; intro u41 h
      refine h.elim ?_; clear h; intro u42 h
      refine h.elim ?_; clear h; intro u43 h
      refine h.elim ?_; clear h; intro u44 h
      refine h.elim ?_; clear h; intro u45 h
      refine h.elim ?_; clear h; intro u46 h
      refine h.elim ?_; clear h; intro u47 h
      have hbb := h.1; replace h := h.2; subst hbb
      have hHeld := h.1; replace h := h.2
      have f0 := h.1; replace h := h.2
      have f1 := h.1; replace h := h.2
      have f2 := h.1; replace h := h.2
      have f3 := h.1; replace h := h.2
      have f4 := h.1; replace h := h.2
      have f5 := h.1; replace h := h.2
      have f6 := h.1; replace h := h.2
      have f7 := h.1; replace h := h.2
      have f8 := h.1; replace h := h.2
      have f9 := h.1; replace h := h.2
      have f10 := h.1; replace h := h.2
      have f11 := h.1; replace h := h.2
      have f12 := h.1; replace h := h.2
      have f13 := h.1; replace h := h.2
      have f14 := h.1; replace h := h.2
      have f15 := h.1; replace h := h.2
      have f16 := h.1; replace h := h.2
      have f17 := h.1; replace h := h.2
      have f18 := h.1; replace h := h.2
      have f19 := h.1; replace h := h.2
      have f20 := h.1; replace h := h.2
      have f21 := h.1; replace h := h.2
      have f22 := h.1; replace h := h.2
      have f23 := h.1; replace h := h.2
      have f24 := h.1; replace h := h.2
      have f25 := h.1; replace h := h.2
      have f26 := h.1; replace h := h.2
      have f27 := h.1; replace h := h.2
      have f28 := h.1; replace h := h.2
      have f29 := h.1; replace h := h.2
      have f30 := h; clear h
      intro K hK
      have g11 := f11 (hA 11 (by simp))
      obtain rfl := g11
      rw [if_pos (by kernel_rfl)]
      have q0 := cellB hHeld C0 hgp
      have q1 := cellB hHeld C1 hgp
      have q2 := cellB hHeld C2 hgp
      have q3 := cellB hHeld C3 hgp
      go_simp
      try simp only [Act.put, List.setIfInBounds_toArray, List.set_cons_zero, List.set_cons_succ]
      have hb : Below v.heap.size v (v.alloc (.cells #[.string ⟨#[]⟩, .int .i64 0, .int .i64 0, .int .i64 0, .int .i64 0] 40)) := (Below.refl _ _).alloc (Nat.le_refl _) _
      refine hK.out _ _ ⟨_, _, _, _, _, _, _, _, _, _, _, _, _, _, _, _, _, _, _, _, _, _, _, _, _, _, _, _, _, _, rfl, ?_, ?_, ?_, ?_, ?_, ?_, ?_, ?_, ?_, ?_, ?_, ?_, ?_, ?_, ?_, ?_, ?_, ?_, ?_, ?_, ?_, ?_, ?_, ?_, ?_, ?_, ?_, ?_, ?_, ?_, ?_, ?_⟩
      · exact hHeld.alloc hHeld.size _
      · intro h h7; rw [getD_set_ne false (by decide)] at h; rw [getD_set_ne true (by decide)] at h7; have := f0 h h7; first | exact this | exact this.below hb | exact this.grown hG HOWN (by decide)
      · first | exact flag_ne (by decide) f1 | exact fun _ => rfl
      · first | exact flag_ne (by decide) f2 | exact fun _ => rfl
      · intro h h7; rw [getD_set_ne false (by decide)] at h; rw [getD_set_ne true (by decide)] at h7; have := f3 h h7; first | exact this | exact owns_below this hb | exact own_grown this hG HOWN (by decide)
      · first | exact flag_ne (by decide) f4 | exact fun _ => rfl
      · intro h h7; rw [getD_set_ne false (by decide)] at h; rw [getD_set_ne true (by decide)] at h7; have := f5 h h7; first | exact this | exact this.below hb | exact this.grown hG HOWN (by decide) | exact this.grown0 hG hgc0 (by decide)
      · intro h; rw [getD_set_ne false (by decide)] at h; have := f6 h; first | exact this | exact owns_below this hb | exact own_grown this hG HOWN (by decide)
      · intro h h7; rw [getD_set_ne false (by decide)] at h; rw [getD_set_ne true (by decide)] at h7; have := f7 h h7; first | exact this | exact this.below hb | exact this.grown hG HOWN (by decide)
      · first | exact flag_ne (by decide) f8 | exact fun _ => rfl
      · first | exact flag_ne (by decide) f9 | exact fun _ => rfl
      · intro h h7; rw [getD_set_ne false (by decide)] at h; rw [getD_set_ne true (by decide)] at h7; have := f10 h h7; first | exact this | exact owns_below this hb | exact own_grown this hG HOWN (by decide)
      · first | exact flag_ne (by decide) f11 | exact fun _ => rfl
      · intro _ _; first | (exact ⟨_, rfl, heap_new v _⟩) | (trace_state; fail)
      · intro h; rw [getD_set_ne false (by decide)] at h; exact (getD_no h0 (hC.step (j := 13) (k := 12) h (by kernel_rfl))).elim
      · intro h h7; rw [getD_set_ne false (by decide)] at h; rw [getD_set_ne true (by decide)] at h7; have := f14 h h7; first | exact this | exact this.below hb | exact this.grown hG HOWN (by decide)
      · first | exact flag_ne (by decide) f15 | exact fun _ => rfl
      · first | exact flag_ne (by decide) f16 | exact fun _ => rfl
      · intro h _; rw [getD_set_ne false (by decide)] at h; exact (getD_no h0 (hC.step (j := 13) (k := 12) (hC.step (j := 17) (k := 13) h (by kernel_rfl)) (by kernel_rfl))).elim
      · first | exact flag_ne (by decide) f18 | exact fun _ => rfl
      · intro h h7; rw [getD_set_ne false (by decide)] at h; rw [getD_set_ne true (by decide)] at h7; have := f19 h h7; first | exact this | exact this.below hb | exact this.grown hG HOWN (by decide) | exact this.grown0 hG hgc14 (by decide)
      · intro h; rw [getD_set_ne false (by decide)] at h; exact (getD_no h0 (hC.step (j := 13) (k := 12) (hC.step (j := 17) (k := 13) (hC.step (j := 20) (k := 17) h (by kernel_rfl)) (by kernel_rfl)) (by kernel_rfl))).elim
      · intro h h7; rw [getD_set_ne false (by decide)] at h; rw [getD_set_ne true (by decide)] at h7; have := f21 h h7; first | exact this | exact this.below hb | exact this.grown hG HOWN (by decide)
      · first | exact flag_ne (by decide) f22 | exact fun _ => rfl
      · first | exact flag_ne (by decide) f23 | exact fun _ => rfl
      · intro h _; rw [getD_set_ne false (by decide)] at h; exact (getD_no h0 (hC.step (j := 13) (k := 12) (hC.step (j := 17) (k := 13) (hC.step (j := 20) (k := 17) (hC.step (j := 24) (k := 20) h (by kernel_rfl)) (by kernel_rfl)) (by kernel_rfl)) (by kernel_rfl))).elim
      · first | exact flag_ne (by decide) f25 | exact fun _ => rfl
      · intro h h7; rw [getD_set_ne false (by decide)] at h; rw [getD_set_ne true (by decide)] at h7; have := f26 h h7; first | exact this | exact this.below hb | exact this.grown hG HOWN (by decide) | exact this.grown0 hG hgc21 (by decide)
      · intro h; rw [getD_set_ne false (by decide)] at h; exact (getD_no h0 (hC.step (j := 13) (k := 12) (hC.step (j := 17) (k := 13) (hC.step (j := 20) (k := 17) (hC.step (j := 24) (k := 20) (hC.step (j := 27) (k := 24) h (by kernel_rfl)) (by kernel_rfl)) (by kernel_rfl)) (by kernel_rfl)) (by kernel_rfl))).elim
      · intro h; rw [getD_set_ne false (by decide)] at h; exact (getD_no h0 (hC.step (j := 13) (k := 12) (hC.step (j := 28) (k := 13) h (by kernel_rfl)) (by kernel_rfl))).elim
      · intro h h7; rw [getD_set_ne false (by decide)] at h; rw [getD_set_ne true (by decide)] at h7; have := f29 h h7; obtain ⟨g, z1, z2, z3⟩ := this; exact (by first | exact ⟨g, z1, z2, z3⟩ | exact ⟨g, z1, z2, obj_below z3 hb⟩ | exact ⟨g, z1, z2, obj_grown z3 hG (own_ne_type HOWN z3 (by decide))⟩ | (trace_state; fail))
      · intro h; rw [getD_set_ne false (by decide)] at h; exact (getD_no h0 (hC.step (j := 30) (k := 12) h (by kernel_rfl))).elim
    · refine StepAt.mk (o := { dst := some 32, op := Op.call { callee := Callee.builtin Builtin.append, args := #[Operand.tmp 29, Operand.tmp 31], argTypes := #[23, 23] }, type := 23, pos := _, after := #[{ on := 10, ground := Ground.data }, { on := 12, ground := Ground.data }, { on := 10, ground := Ground.chain }], guard := none }) (ws := [10, 12, 10]) rfl (by kernel_rfl) ?_
      intro L b v hC h0 hA h
      refine h.elim ?_; clear h; intro u7 h
      refine h.elim ?_; clear h; intro u19 h
      refine h.elim ?_; clear h; intro u20 h
      refine h.elim ?_; clear h; intro u21 h
      refine h.elim ?_; clear h; intro u22 h
      refine h.elim ?_; clear h; intro u23 h
      refine h.elim ?_; clear h; intro u24 h
      refine h.elim ?_; clear h; intro u25 h
      refine h.elim ?_; clear h; intro u26 h
      refine h.elim ?_; clear h; intro u27 h
      refine h.elim ?_; clear h; intro u28 h
      refine h.elim ?_; clear h; intro u29 h
      refine h.elim ?_; clear h; intro u30 h
      refine h.elim ?_; clear h; intro u31 h
      refine h.elim ?_; clear h; intro u32 h
      refine h.elim ?_; clear h; intro u33 h
      refine h.elim ?_; clear h; intro u34 h
      refine h.elim ?_; clear h; intro u35 h
      refine h.elim ?_; clear h; intro u36 h
      refine h.elim ?_; clear h; intro u37 h
      refine h.elim ?_; clear h; intro u38 h
      refine h.elim ?_; clear h; intro u39 h
      refine h.elim ?_; clear h; intro u40 h
      refine h.elim ?_; clear h; intro u41 h
      refine h.elim ?_; clear h; intro u42 h
      refine h.elim ?_; clear h; intro u43 h
      refine h.elim ?_; clear h; intro u44 h
      refine h.elim ?_; clear h; intro u45 h
      refine h.elim ?_; clear h; intro u46 h
      refine h.elim ?_; clear h; intro u47 h
      have hbb := h.1; replace h := h.2; subst hbb
      have hHeld := h.1; replace h := h.2
      have f0 := h.1; replace h := h.2
      have f1 := h.1; replace h := h.2
      have f2 := h.1; replace h := h.2
      have f3 := h.1; replace h := h.2
      have f4 := h.1; replace h := h.2
      have f5 := h.1; replace h := h.2
      have f6 := h.1; replace h := h.2
      have f7 := h.1; replace h := h.2
      have f8 := h.1; replace h := h.2
      have f9 := h.1; replace h := h.2
      have f10 := h.1; replace h := h.2
      have f11 := h.1; replace h := h.2
      have f12 := h.1; replace h := h.2
      have f13 := h.1; replace h := h.2
      have f14 := h.1; replace h := h.2
      have f15 := h.1; replace h := h.2
      have f16 := h.1; replace h := h.2
      have f17 := h.1; replace h := h.2
      have f18 := h.1; replace h := h.2
      have f19 := h.1; replace h := h.2
      have f20 := h.1; replace h := h.2
      have f21 := h.1; replace h := h.2
      have f22 := h.1; replace h := h.2
      have f23 := h.1; replace h := h.2
      have f24 := h.1; replace h := h.2
      have f25 := h.1; replace h := h.2
      have f26 := h.1; replace h := h.2
      have f27 := h.1; replace h := h.2
      have f28 := h.1; replace h := h.2
      have f29 := h.1; replace h := h.2
      have f30 := h; clear h
      intro K hK
      have g10 := f10 (hA 10 (by simp)) h0
      have g12 := f12 (hA 12 (by simp)) h0
      obtain ⟨pp12, rfl, hpc12⟩ := g12
      rw [if_pos (by kernel_rfl)]
      have q0 := cellB hHeld C0 hgp
      have q1 := cellB hHeld C1 hgp
      have q2 := cellB hHeld C2 hgp
      have q3 := cellB hHeld C3 hgp
      have HOWN := g10; refine wp_append_src (.tmp 29) (.tmp 31) 23 rfl W0.heap.size 40 i2 (.agg #[.string ⟨#[]⟩, .int .i64 0, .int .i64 0, .int .i64 0, .int .i64 0]) 5 48 Tryd.underlying23 hi2 hz2 hs2 hb2 rfl (by omega) u29 n2 X2 rfl g10 _ 1 [.string ⟨#[]⟩, .int .i64 0, .int .i64 0, .int .i64 0, .int .i64 0] rfl (src_at hpc12) rfl (by intro u hu; simp at hu; first | (rw [hu]; rfl) | (rcases hu with hu | hu <;> (rw [hu]; rfl)) | (rcases hu with hu | hu | hu <;> (rw [hu]; rfl)) | (rcases hu with hu | hu | hu | hu <;> (rw [hu]; rfl)) | (rcases hu with hu | hu | hu | hu | hu <;> (rw [hu]; rfl))) (by unfold maxLen; omega) (by omega) hHeld.size ?_; intro v' w' HO hG
      try simp only [Act.put, List.setIfInBounds_toArray, List.set_cons_zero, List.set_cons_succ]
      refine hK.out _ _ ⟨_, _, _, _, _, _, _, _, _, _, _, _, _, _, _, _, _, _, _, _, _, _, _, _, _, _, _, _, _, _, rfl, ?_, ?_, ?_, ?_, ?_, ?_, ?_, ?_, ?_, ?_, ?_, ?_, ?_, ?_, ?_, ?_, ?_, ?_, ?_, ?_, ?_, ?_, ?_, ?_, ?_, ?_, ?_, ?_, ?_, ?_, ?_, ?_⟩
      · exact grown3 hHeld hHeld.size HOWN hG
      · intro _ h7; rw [getD_set_ne true (by decide)] at h7; exact (getD_no h7 (hC.step (j := 6) (k := 3) (hC.step (j := 10) (k := 6) (hA 10 (by simp)) (by kernel_rfl)) (by kernel_rfl))).elim
      · first | exact flag_ne (by decide) f1 | exact fun _ => rfl
      · first | exact flag_ne (by decide) f2 | exact fun _ => rfl
      · intro _ h7; rw [getD_set_ne true (by decide)] at h7; exact (getD_no h7 (hC.step (j := 10) (k := 6) (hA 10 (by simp)) (by kernel_rfl))).elim
      · first | exact flag_ne (by decide) f4 | exact fun _ => rfl
      · intro _ h7; rw [getD_set_ne true (by decide)] at h7; exact (getD_no h7 (hC.step (j := 10) (k := 6) (hA 10 (by simp)) (by kernel_rfl))).elim
      · intro h; rw [getD_set_ne false (by decide)] at h; have := f6 h; first | exact this | exact owns_below this hb | exact own_grown this hG HOWN (by decide)
      · intro _ h7; rw [getD_set_ne true (by decide)] at h7; exact (getD_no h7 (hA 10 (by simp))).elim
      · first | exact flag_ne (by decide) f8 | exact fun _ => rfl
      · first | exact flag_ne (by decide) f9 | exact fun _ => rfl
      · intro _ h7; rw [getD_set_self] at h7; cases h7
      · first | exact flag_ne (by decide) f11 | exact fun _ => rfl
      · intro _ h7; rw [getD_set_self] at h7; cases h7
      · intro _; first | exact HO | (trace_state; fail)
      · intro h h7; rw [getD_set_ne false (by decide)] at h; rw [getD_set_ne true (by decide)] at h7; have := f14 h h7; first | exact this | exact this.below hb | exact this.grown hG HOWN (by decide)
      · first | exact flag_ne (by decide) f15 | exact fun _ => rfl
      · first | exact flag_ne (by decide) f16 | exact fun _ => rfl
      · intro h _; rw [getD_set_ne false (by decide)] at h; exact (getD_no h0 (hC.step (j := 17) (k := 13) h (by kernel_rfl))).elim
      · first | exact flag_ne (by decide) f18 | exact fun _ => rfl
      · intro h h7; rw [getD_set_ne false (by decide)] at h; rw [getD_set_ne true (by decide)] at h7; have := f19 h h7; first | exact this | exact this.below hb | exact this.grown hG HOWN (by decide) | exact this.grown0 hG hgc14 (by decide)
      · intro h; rw [getD_set_ne false (by decide)] at h; exact (getD_no h0 (hC.step (j := 17) (k := 13) (hC.step (j := 20) (k := 17) h (by kernel_rfl)) (by kernel_rfl))).elim
      · intro h h7; rw [getD_set_ne false (by decide)] at h; rw [getD_set_ne true (by decide)] at h7; have := f21 h h7; first | exact this | exact this.below hb | exact this.grown hG HOWN (by decide)
      · first | exact flag_ne (by decide) f22 | exact fun _ => rfl
      · first | exact flag_ne (by decide) f23 | exact fun _ => rfl
      · intro h _; rw [getD_set_ne false (by decide)] at h; exact (getD_no h0 (hC.step (j := 17) (k := 13) (hC.step (j := 20) (k := 17) (hC.step (j := 24) (k := 20) h (by kernel_rfl)) (by kernel_rfl)) (by kernel_rfl))).elim
      · first | exact flag_ne (by decide) f25 | exact fun _ => rfl
      · intro h h7; rw [getD_set_ne false (by decide)] at h; rw [getD_set_ne true (by decide)] at h7; have := f26 h h7; first | exact this | exact this.below hb | exact this.grown hG HOWN (by decide) | exact this.grown0 hG hgc21 (by decide)
      · intro h; rw [getD_set_ne false (by decide)] at h; exact (getD_no h0 (hC.step (j := 17) (k := 13) (hC.step (j := 20) (k := 17) (hC.step (j := 24) (k := 20) (hC.step (j := 27) (k := 24) h (by kernel_rfl)) (by kernel_rfl)) (by kernel_rfl)) (by kernel_rfl))).elim
      · intro h; rw [getD_set_ne false (by decide)] at h; exact (getD_no h0 (hC.step (j := 28) (k := 13) h (by kernel_rfl))).elim
      · intro h h7; rw [getD_set_ne false (by decide)] at h; rw [getD_set_ne true (by decide)] at h7; have := f29 h h7; obtain ⟨g, z1, z2, z3⟩ := this; exact (by first | exact ⟨g, z1, z2, z3⟩ | exact ⟨g, z1, z2, obj_below z3 hb⟩ | exact ⟨g, z1, z2, obj_grown z3 hG (own_ne_type HOWN z3 (by decide))⟩ | (trace_state; fail))
      · intro h; rw [getD_set_ne false (by decide)] at h; exact (getD_no h0 (hC.step (j := 30) (k := 13) h (by kernel_rfl))).elim
    · refine StepAt.mk (o := { dst := some 33, op := Op.buildSlice 24 0 #[], type := 24, pos := _, after := #[], guard := none }) (ws := []) rfl (by kernel_rfl) ?_
      intro L b v hC h0 hA h
      refine h.elim ?_; clear h; intro u7 h
      refine h.elim ?_; clear h; intro u19 h
      refine h.elim ?_; clear h; intro u20 h
      refine h.elim ?_; clear h; intro u21 h
      refine h.elim ?_; clear h; intro u22 h
      refine h.elim ?_; clear h; intro u23 h
      refine h.elim ?_; clear h; intro u24 h
      refine h.elim ?_; clear h; intro u25 h
      refine h.elim ?_; clear h; intro u26 h
      refine h.elim ?_; clear h; intro u27 h
      refine h.elim ?_; clear h; intro u28 h
      refine h.elim ?_; clear h; intro u29 h
      refine h.elim ?_; clear h; intro u30 h
      refine h.elim ?_; clear h; intro u31 h
      refine h.elim ?_; clear h; intro u32 h
      refine h.elim ?_; clear h; intro u33 h
      refine h.elim ?_; clear h; intro u34 h
      refine h.elim ?_; clear h; intro u35 h
      refine h.elim ?_; clear h; intro u36 h
      refine h.elim ?_; clear h; intro u37 h
      refine h.elim ?_; clear h; intro u38 h
      refine h.elim ?_; clear h; intro u39 h
      refine h.elim ?_; clear h; intro u40 h
      refine h.elim ?_; clear h; intro u41 h
      refine h.elim ?_; clear h; intro u42 h
      refine h.elim ?_; clear h; intro u43 h
      refine h.elim ?_; clear h; intro u44 h
      refine h.elim ?_; clear h; intro u45 h
      refine h.elim ?_; clear h; intro u46 h
      refine h.elim ?_; clear h; intro u47 h
      have hbb := h.1; replace h := h.2; subst hbb
      have hHeld := h.1; replace h := h.2
      have f0 := h.1; replace h := h.2
      have f1 := h.1; replace h := h.2
      have f2 := h.1; replace h := h.2
      have f3 := h.1; replace h := h.2
      have f4 := h.1; replace h := h.2
      have f5 := h.1; replace h := h.2
      have f6 := h.1; replace h := h.2
      have f7 := h.1; replace h := h.2
      have f8 := h.1; replace h := h.2
      have f9 := h.1; replace h := h.2
      have f10 := h.1; replace h := h.2
      have f11 := h.1; replace h := h.2
      have f12 := h.1; replace h := h.2
      have f13 := h.1; replace h := h.2
      have f14 := h.1; replace h := h.2
      have f15 := h.1; replace h := h.2
      have f16 := h.1; replace h := h.2
      have f17 := h.1; replace h := h.2
      have f18 := h.1; replace h := h.2
      have f19 := h.1; replace h := h.2
      have f20 := h.1; replace h := h.2
      have f21 := h.1; replace h := h.2
      have f22 := h.1; replace h := h.2
      have f23 := h.1; replace h := h.2
      have f24 := h.1; replace h := h.2
      have f25 := h.1; replace h := h.2
      have f26 := h.1; replace h := h.2
      have f27 := h.1; replace h := h.2
      have f28 := h.1; replace h := h.2
      have f29 := h.1; replace h := h.2
      have f30 := h; clear h
      intro K hK
      rw [if_pos (by kernel_rfl)]
      have q0 := cellB hHeld C0 hgp
      have q1 := cellB hHeld C1 hgp
      have q2 := cellB hHeld C2 hgp
      have q3 := cellB hHeld C3 hgp
      go_simp
      try simp only [Act.put, List.setIfInBounds_toArray, List.set_cons_zero, List.set_cons_succ]
      have hb : Below v.heap.size v (v.alloc (.cells #[] 42)) := (Below.refl _ _).alloc (Nat.le_refl _) _
      refine hK.out _ _ ⟨_, _, _, _, _, _, _, _, _, _, _, _, _, _, _, _, _, _, _, _, _, _, _, _, _, _, _, _, _, _, rfl, ?_, ?_, ?_, ?_, ?_, ?_, ?_, ?_, ?_, ?_, ?_, ?_, ?_, ?_, ?_, ?_, ?_, ?_, ?_, ?_, ?_, ?_, ?_, ?_, ?_, ?_, ?_, ?_, ?_, ?_, ?_, ?_⟩
      · exact hHeld.alloc hHeld.size _
      · intro h h7; rw [getD_set_ne false (by decide)] at h; rw [getD_set_ne true (by decide)] at h7; have := f0 h h7; first | exact this | exact this.below hb | exact this.grown hG HOWN (by decide)
      · first | exact flag_ne (by decide) f1 | exact fun _ => rfl
      · first | exact flag_ne (by decide) f2 | exact fun _ => rfl
      · intro h h7; rw [getD_set_ne false (by decide)] at h; rw [getD_set_ne true (by decide)] at h7; have := f3 h h7; first | exact this | exact owns_below this hb | exact own_grown this hG HOWN (by decide)
      · first | exact flag_ne (by decide) f4 | exact fun _ => rfl
      · intro h h7; rw [getD_set_ne false (by decide)] at h; rw [getD_set_ne true (by decide)] at h7; have := f5 h h7; first | exact this | exact this.below hb | exact this.grown hG HOWN (by decide) | exact this.grown0 hG hgc0 (by decide)
      · intro h; rw [getD_set_ne false (by decide)] at h; have := f6 h; first | exact this | exact owns_below this hb | exact own_grown this hG HOWN (by decide)
      · intro h h7; rw [getD_set_ne false (by decide)] at h; rw [getD_set_ne true (by decide)] at h7; have := f7 h h7; first | exact this | exact this.below hb | exact this.grown hG HOWN (by decide)
      · first | exact flag_ne (by decide) f8 | exact fun _ => rfl
      · first | exact flag_ne (by decide) f9 | exact fun _ => rfl
      · intro h h7; rw [getD_set_ne false (by decide)] at h; rw [getD_set_ne true (by decide)] at h7; have := f10 h h7; first | exact this | exact owns_below this hb | exact own_grown this hG HOWN (by decide)
      · first | exact flag_ne (by decide) f11 | exact fun _ => rfl
      · intro h h7; rw [getD_set_ne false (by decide)] at h; rw [getD_set_ne true (by decide)] at h7; have := f12 h h7; first | exact this | exact this.below hb | exact this.grown hG HOWN (by decide) | exact this.grown0 hG hgc7 (by decide)
      · intro h; rw [getD_set_ne false (by decide)] at h; have := f13 h; first | exact this | exact owns_below this hb | exact own_grown this hG HOWN (by decide)
      · intro _ _; first | (exact ⟨_, rfl, hHeld.size, heap_new v _⟩) | (trace_state; fail)
      · first | exact flag_ne (by decide) f15 | exact fun _ => rfl
      · first | exact flag_ne (by decide) f16 | exact fun _ => rfl
      · intro h _; rw [getD_set_ne false (by decide)] at h; exact (getD_no h0 (hC.step (j := 17) (k := 14) h (by kernel_rfl))).elim
      · first | exact flag_ne (by decide) f18 | exact fun _ => rfl
      · intro h h7; rw [getD_set_ne false (by decide)] at h; rw [getD_set_ne true (by decide)] at h7; have := f19 h h7; first | exact this | exact this.below hb | exact this.grown hG HOWN (by decide) | exact this.grown0 hG hgc14 (by decide)
      · intro h; rw [getD_set_ne false (by decide)] at h; exact (getD_no h0 (hC.step (j := 17) (k := 14) (hC.step (j := 20) (k := 17) h (by kernel_rfl)) (by kernel_rfl))).elim
      · intro h h7; rw [getD_set_ne false (by decide)] at h; rw [getD_set_ne true (by decide)] at h7; have := f21 h h7; first | exact this | exact this.below hb | exact this.grown hG HOWN (by decide)
      · first | exact flag_ne (by decide) f22 | exact fun _ => rfl
      · first | exact flag_ne (by decide) f23 | exact fun _ => rfl
      · intro h _; rw [getD_set_ne false (by decide)] at h; exact (getD_no h0 (hC.step (j := 17) (k := 14) (hC.step (j := 20) (k := 17) (hC.step (j := 24) (k := 20) h (by kernel_rfl)) (by kernel_rfl)) (by kernel_rfl))).elim
      · first | exact flag_ne (by decide) f25 | exact fun _ => rfl
      · intro h h7; rw [getD_set_ne false (by decide)] at h; rw [getD_set_ne true (by decide)] at h7; have := f26 h h7; first | exact this | exact this.below hb | exact this.grown hG HOWN (by decide) | exact this.grown0 hG hgc21 (by decide)
      · intro h; rw [getD_set_ne false (by decide)] at h; exact (getD_no h0 (hC.step (j := 17) (k := 14) (hC.step (j := 20) (k := 17) (hC.step (j := 24) (k := 20) (hC.step (j := 27) (k := 24) h (by kernel_rfl)) (by kernel_rfl)) (by kernel_rfl)) (by kernel_rfl))).elim
      · intro h; rw [getD_set_ne false (by decide)] at h; exact (getD_no h0 (hC.step (j := 17) (k := 14) (hC.step (j := 20) (k := 17) (hC.step (j := 28) (k := 20) h (by kernel_rfl)) (by kernel_rfl)) (by kernel_rfl))).elim
      · intro h h7; rw [getD_set_ne false (by decide)] at h; rw [getD_set_ne true (by decide)] at h7; have := f29 h h7; obtain ⟨g, z1, z2, z3⟩ := this; exact (by first | exact ⟨g, z1, z2, z3⟩ | exact ⟨g, z1, z2, obj_below z3 hb⟩ | exact ⟨g, z1, z2, obj_grown z3 hG (own_ne_type HOWN z3 (by decide))⟩ | (trace_state; fail))
      · intro h; rw [getD_set_ne false (by decide)] at h; exact (getD_no h0 (hC.step (j := 30) (k := 14) h (by kernel_rfl))).elim
    · refine StepAt.mk (o := { dst := some 34, op := Op.fieldAddr 27 (Operand.tmp 3) 2, type := 0, pos := _, after := #[], guard := none }) (ws := []) rfl (by kernel_rfl) ?_
      intro L b v hC h0 hA h
      refine h.elim ?_; clear h; intro u7 h
      refine h.elim ?_; clear h; intro u19 h
      refine h.elim ?_; clear h; intro u20 h
      refine h.elim ?_; clear h; intro u21 h
      refine h.elim ?_; clear h; intro u22 h
      refine h.elim ?_; clear h; intro u23 h
      refine h.elim ?_; clear h; intro u24 h
      refine h.elim ?_; clear h; intro u25 h
      refine h.elim ?_; clear h; intro u26 h
      refine h.elim ?_; clear h; intro u27 h
      refine h.elim ?_; clear h; intro u28 h
      refine h.elim ?_; clear h; intro u29 h
      refine h.elim ?_; clear h; intro u30 h
      refine h.elim ?_; clear h; intro u31 h
      refine h.elim ?_; clear h; intro u32 h
      refine h.elim ?_; clear h; intro u33 h
      refine h.elim ?_; clear h; intro u34 h
      refine h.elim ?_; clear h; intro u35 h
      refine h.elim ?_; clear h; intro u36 h
      refine h.elim ?_; clear h; intro u37 h
      refine h.elim ?_; clear h; intro u38 h
      refine h.elim ?_; clear h; intro u39 h
      refine h.elim ?_; clear h; intro u40 h
      refine h.elim ?_; clear h; intro u41 h
      refine h.elim ?_; clear h; intro u42 h
      refine h.elim ?_; clear h; intro u43 h
      refine h.elim ?_; clear h; intro u44 h
      refine h.elim ?_; clear h; intro u45 h
      refine h.elim ?_; clear h; intro u46 h
      refine h.elim ?_; clear h; intro u47 h
      have hbb := h.1; replace h := h.2; subst hbb
      have hHeld := h.1; replace h := h.2
      have f0 := h.1; replace h := h.2
      have f1 := h.1; replace h := h.2
      have f2 := h.1; replace h := h.2
      have f3 := h.1; replace h := h.2
      have f4 := h.1; replace h := h.2
      have f5 := h.1; replace h := h.2
      have f6 := h.1; replace h := h.2
      have f7 := h.1; replace h := h.2
      have f8 := h.1; replace h := h.2
      have f9 := h.1; replace h := h.2
      have f10 := h.1; replace h := h.2
      have f11 := h.1; replace h := h.2
      have f12 := h.1; replace h := h.2
      have f13 := h.1; replace h := h.2
      have f14 := h.1; replace h := h.2
      have f15 := h.1; replace h := h.2
      have f16 := h.1; replace h := h.2
      have f17 := h.1; replace h := h.2
      have f18 := h.1; replace h := h.2
      have f19 := h.1; replace h := h.2
      have f20 := h.1; replace h := h.2
      have f21 := h.1; replace h := h.2
      have f22 := h.1; replace h := h.2
      have f23 := h.1; replace h := h.2
      have f24 := h.1; replace h := h.2
      have f25 := h.1; replace h := h.2
      have f26 := h.1; replace h := h.2
      have f27 := h.1; replace h := h.2
      have f28 := h.1; replace h := h.2
      have f29 := h.1; replace h := h.2
      have f30 := h; clear h
      intro K hK
      rw [if_pos (by kernel_rfl)]
      have q0 := cellB hHeld C0 hgp
      have q1 := cellB hHeld C1 hgp
      have q2 := cellB hHeld C2 hgp
      have q3 := cellB hHeld C3 hgp
      go_simp
      try simp only [Act.put, List.setIfInBounds_toArray, List.set_cons_zero, List.set_cons_succ]
      refine hK.out _ _ ⟨_, _, _, _, _, _, _, _, _, _, _, _, _, _, _, _, _, _, _, _, _, _, _, _, _, _, _, _, _, _, rfl, ?_, ?_, ?_, ?_, ?_, ?_, ?_, ?_, ?_, ?_, ?_, ?_, ?_, ?_, ?_, ?_, ?_, ?_, ?_, ?_, ?_, ?_, ?_, ?_, ?_, ?_, ?_, ?_, ?_, ?_, ?_, ?_⟩
      · first | exact hHeld | exact hHeld.trans (hb.mono hHeld.size) | (trace_state; fail)
      · intro h h7; rw [getD_set_ne false (by decide)] at h; rw [getD_set_ne true (by decide)] at h7; have := f0 h h7; first | exact this | exact this.below hb | exact this.grown hG HOWN (by decide)
      · first | exact flag_ne (by decide) f1 | exact fun _ => rfl
      · first | exact flag_ne (by decide) f2 | exact fun _ => rfl
      · intro h h7; rw [getD_set_ne false (by decide)] at h; rw [getD_set_ne true (by decide)] at h7; have := f3 h h7; first | exact this | exact owns_below this hb | exact own_grown this hG HOWN (by decide)
      · first | exact flag_ne (by decide) f4 | exact fun _ => rfl
      · intro h h7; rw [getD_set_ne false (by decide)] at h; rw [getD_set_ne true (by decide)] at h7; have := f5 h h7; first | exact this | exact this.below hb | exact this.grown hG HOWN (by decide) | exact this.grown0 hG hgc0 (by decide)
      · intro h; rw [getD_set_ne false (by decide)] at h; have := f6 h; first | exact this | exact owns_below this hb | exact own_grown this hG HOWN (by decide)
      · intro h h7; rw [getD_set_ne false (by decide)] at h; rw [getD_set_ne true (by decide)] at h7; have := f7 h h7; first | exact this | exact this.below hb | exact this.grown hG HOWN (by decide)
      · first | exact flag_ne (by decide) f8 | exact fun _ => rfl
      · first | exact flag_ne (by decide) f9 | exact fun _ => rfl
      · intro h h7; rw [getD_set_ne false (by decide)] at h; rw [getD_set_ne true (by decide)] at h7; have := f10 h h7; first | exact this | exact owns_below this hb | exact own_grown this hG HOWN (by decide)
      · first | exact flag_ne (by decide) f11 | exact fun _ => rfl
      · intro h h7; rw [getD_set_ne false (by decide)] at h; rw [getD_set_ne true (by decide)] at h7; have := f12 h h7; first | exact this | exact this.below hb | exact this.grown hG HOWN (by decide) | exact this.grown0 hG hgc7 (by decide)
      · intro h; rw [getD_set_ne false (by decide)] at h; have := f13 h; first | exact this | exact owns_below this hb | exact own_grown this hG HOWN (by decide)
      · intro h h7; rw [getD_set_ne false (by decide)] at h; rw [getD_set_ne true (by decide)] at h7; have := f14 h h7; first | exact this | exact this.below hb | exact this.grown hG HOWN (by decide)
      · intro _; first | rfl | (trace_state; fail)
      · first | exact flag_ne (by decide) f16 | exact fun _ => rfl
      · intro h _; rw [getD_set_ne false (by decide)] at h; exact (getD_no h0 (hC.step (j := 16) (k := 15) (hC.step (j := 17) (k := 16) h (by kernel_rfl)) (by kernel_rfl))).elim
      · first | exact flag_ne (by decide) f18 | exact fun _ => rfl
      · intro h h7; rw [getD_set_ne false (by decide)] at h; rw [getD_set_ne true (by decide)] at h7; have := f19 h h7; first | exact this | exact this.below hb | exact this.grown hG HOWN (by decide) | exact this.grown0 hG hgc14 (by decide)
      · intro h; rw [getD_set_ne false (by decide)] at h; exact (getD_no h0 (hC.step (j := 16) (k := 15) (hC.step (j := 17) (k := 16) (hC.step (j := 20) (k := 17) h (by kernel_rfl)) (by kernel_rfl)) (by kernel_rfl))).elim
      · intro h h7; rw [getD_set_ne false (by decide)] at h; rw [getD_set_ne true (by decide)] at h7; have := f21 h h7; first | exact this | exact this.below hb | exact this.grown hG HOWN (by decide)
      · first | exact flag_ne (by decide) f22 | exact fun _ => rfl
      · first | exact flag_ne (by decide) f23 | exact fun _ => rfl
      · intro h _; rw [getD_set_ne false (by decide)] at h; exact (getD_no h0 (hC.step (j := 16) (k := 15) (hC.step (j := 17) (k := 16) (hC.step (j := 20) (k := 17) (hC.step (j := 24) (k := 20) h (by kernel_rfl)) (by kernel_rfl)) (by kernel_rfl)) (by kernel_rfl))).elim
      · first | exact flag_ne (by decide) f25 | exact fun _ => rfl
      · intro h h7; rw [getD_set_ne false (by decide)] at h; rw [getD_set_ne true (by decide)] at h7; have := f26 h h7; first | exact this | exact this.below hb | exact this.grown hG HOWN (by decide) | exact this.grown0 hG hgc21 (by decide)
      · intro h; rw [getD_set_ne false (by decide)] at h; exact (getD_no h0 (hC.step (j := 16) (k := 15) (hC.step (j := 17) (k := 16) (hC.step (j := 20) (k := 17) (hC.step (j := 24) (k := 20) (hC.step (j := 27) (k := 24) h (by kernel_rfl)) (by kernel_rfl)) (by kernel_rfl)) (by kernel_rfl)) (by kernel_rfl))).elim
      · intro h; rw [getD_set_ne false (by decide)] at h; exact (getD_no h0 (hC.step (j := 16) (k := 15) (hC.step (j := 17) (k := 16) (hC.step (j := 20) (k := 17) (hC.step (j := 28) (k := 20) h (by kernel_rfl)) (by kernel_rfl)) (by kernel_rfl)) (by kernel_rfl))).elim
      · intro h h7; rw [getD_set_ne false (by decide)] at h; rw [getD_set_ne true (by decide)] at h7; have := f29 h h7; obtain ⟨g, z1, z2, z3⟩ := this; exact (by first | exact ⟨g, z1, z2, z3⟩ | exact ⟨g, z1, z2, obj_below z3 hb⟩ | exact ⟨g, z1, z2, obj_grown z3 hG (own_ne_type HOWN z3 (by decide))⟩ | (trace_state; fail))
      · intro h; rw [getD_set_ne false (by decide)] at h; exact (getD_no h0 (hC.step (j := 30) (k := 15) h (by kernel_rfl))).elim
    · refine StepAt.mk (o := { dst := some 35, op := Op.load 24 (Operand.tmp 34), type := 24, pos := _, after := #[{ on := 15, ground := Ground.data }], guard := none }) (ws := [15]) rfl (by kernel_rfl) ?_
      intro L b v hC h0 hA h
      refine h.elim ?_; clear h; intro u7 h
      refine h.elim ?_; clear h; intro u19 h
      refine h.elim ?_; clear h; intro u20 h
      refine h.elim ?_; clear h; intro u21 h
      refine h.elim ?_; clear h; intro u22 h
      refine h.elim ?_; clear h; intro u23 h
      refine h.elim ?_; clear h; intro u24 h
      refine h.elim ?_; clear h; intro u25 h
      refine h.elim ?_; clear h; intro u26 h
      refine h.elim ?_; clear h; intro u27 h
      refine h.elim ?_; clear h; intro u28 h
      refine h.elim ?_; clear h; intro u29 h
      refine h.elim ?_; clear h; intro u30 h
      refine h.elim ?_; clear h; intro u31 h
      refine h.elim ?_; clear h; intro u32 h
      refine h.elim ?_; clear h; intro u33 h
      refine h.elim ?_; clear h; intro u34 h
      refine h.elim ?_; clear h; intro u35 h
      refine h.elim ?_; clear h; intro u36 h
      refine h.elim ?_; clear h; intro u37 h
      refine h.elim ?_; clear h; intro u38 h
      refine h.elim ?_; clear h; intro u39 h
      refine h.elim ?_; clear h; intro u40 h
      refine h.elim ?_; clear h; intro u41 h
      refine h.elim ?_; clear h; intro u42 h
      refine h.elim ?_; clear h; intro u43 h
      refine h.elim ?_; clear h; intro u44 h
      refine h.elim ?_; clear h; intro u45 h
      refine h.elim ?_; clear h; intro u46 h
      refine h.elim ?_; clear h; intro u47 h
      have hbb := h.1; replace h := h.2; subst hbb
      have hHeld := h.1; replace h := h.2
      have f0 := h.1; replace h := h.2
      have f1 := h.1; replace h := h.2
      have f2 := h.1; replace h := h.2
      have f3 := h.1; replace h := h.2
      have f4 := h.1; replace h := h.2
      have f5 := h.1; replace h := h.2
      have f6 := h.1; replace h := h.2
      have f7 := h.1; replace h := h.2
      have f8 := h.1; replace h := h.2
      have f9 := h.1; replace h := h.2
      have f10 := h.1; replace h := h.2
      have f11 := h.1; replace h := h.2
      have f12 := h.1; replace h := h.2
      have f13 := h.1; replace h := h.2
      have f14 := h.1; replace h := h.2
      have f15 := h.1; replace h := h.2
      have f16 := h.1; replace h := h.2
      have f17 := h.1; replace h := h.2
      have f18 := h.1; replace h := h.2
      have f19 := h.1; replace h := h.2
      have f20 := h.1; replace h := h.2
      have f21 := h.1; replace h := h.2
      have f22 := h.1; replace h := h.2
      have f23 := h.1; replace h := h.2
      have f24 := h.1; replace h := h.2
      have f25 := h.1; replace h := h.2
      have f26 := h.1; replace h := h.2
      have f27 := h.1; replace h := h.2
      have f28 := h.1; replace h := h.2
      have f29 := h.1; replace h := h.2
      have f30 := h; clear h
      intro K hK
      have g15 := f15 (hA 15 (by simp))
      obtain rfl := g15
      rw [if_pos (by kernel_rfl)]
      have q0 := cellB hHeld C0 hgp
      have q1 := cellB hHeld C1 hgp
      have q2 := cellB hHeld C2 hgp
      have q3 := cellB hHeld C3 hgp
      go_simp
      try simp only [Act.put, List.setIfInBounds_toArray, List.set_cons_zero, List.set_cons_succ]
      refine hK.out _ _ ⟨_, _, _, _, _, _, _, _, _, _, _, _, _, _, _, _, _, _, _, _, _, _, _, _, _, _, _, _, _, _, rfl, ?_, ?_, ?_, ?_, ?_, ?_, ?_, ?_, ?_, ?_, ?_, ?_, ?_, ?_, ?_, ?_, ?_, ?_, ?_, ?_, ?_, ?_, ?_, ?_, ?_, ?_, ?_, ?_, ?_, ?_, ?_, ?_⟩
      · first | exact hHeld | exact hHeld.trans (hb.mono hHeld.size) | (trace_state; fail)
      · intro h h7; rw [getD_set_ne false (by decide)] at h; rw [getD_set_ne true (by decide)] at h7; have := f0 h h7; first | exact this | exact this.below hb | exact this.grown hG HOWN (by decide)
      · first | exact flag_ne (by decide) f1 | exact fun _ => rfl
      · first | exact flag_ne (by decide) f2 | exact fun _ => rfl
      · intro h h7; rw [getD_set_ne false (by decide)] at h; rw [getD_set_ne true (by decide)] at h7; have := f3 h h7; first | exact this | exact owns_below this hb | exact own_grown this hG HOWN (by decide)
      · first | exact flag_ne (by decide) f4 | exact fun _ => rfl
      · intro h h7; rw [getD_set_ne false (by decide)] at h; rw [getD_set_ne true (by decide)] at h7; have := f5 h h7; first | exact this | exact this.below hb | exact this.grown hG HOWN (by decide) | exact this.grown0 hG hgc0 (by decide)
      · intro h; rw [getD_set_ne false (by decide)] at h; have := f6 h; first | exact this | exact owns_below this hb | exact own_grown this hG HOWN (by decide)
      · intro h h7; rw [getD_set_ne false (by decide)] at h; rw [getD_set_ne true (by decide)] at h7; have := f7 h h7; first | exact this | exact this.below hb | exact this.grown hG HOWN (by decide)
      · first | exact flag_ne (by decide) f8 | exact fun _ => rfl
      · first | exact flag_ne (by decide) f9 | exact fun _ => rfl
      · intro h h7; rw [getD_set_ne false (by decide)] at h; rw [getD_set_ne true (by decide)] at h7; have := f10 h h7; first | exact this | exact owns_below this hb | exact own_grown this hG HOWN (by decide)
      · first | exact flag_ne (by decide) f11 | exact fun _ => rfl
      · intro h h7; rw [getD_set_ne false (by decide)] at h; rw [getD_set_ne true (by decide)] at h7; have := f12 h h7; first | exact this | exact this.below hb | exact this.grown hG HOWN (by decide) | exact this.grown0 hG hgc7 (by decide)
      · intro h; rw [getD_set_ne false (by decide)] at h; have := f13 h; first | exact this | exact owns_below this hb | exact own_grown this hG HOWN (by decide)
      · intro h h7; rw [getD_set_ne false (by decide)] at h; rw [getD_set_ne true (by decide)] at h7; have := f14 h h7; first | exact this | exact this.below hb | exact this.grown hG HOWN (by decide)
      · first | exact flag_ne (by decide) f15 | exact fun _ => rfl
      · intro _; first | rfl | (trace_state; fail)
      · intro h _; rw [getD_set_ne false (by decide)] at h; exact (getD_no h0 (hC.step (j := 17) (k := 16) h (by kernel_rfl))).elim
      · first | exact flag_ne (by decide) f18 | exact fun _ => rfl
      · intro h h7; rw [getD_set_ne false (by decide)] at h; rw [getD_set_ne true (by decide)] at h7; have := f19 h h7; first | exact this | exact this.below hb | exact this.grown hG HOWN (by decide) | exact this.grown0 hG hgc14 (by decide)
      · intro h; rw [getD_set_ne false (by decide)] at h; exact (getD_no h0 (hC.step (j := 17) (k := 16) (hC.step (j := 20) (k := 17) h (by kernel_rfl)) (by kernel_rfl))).elim
      · intro h h7; rw [getD_set_ne false (by decide)] at h; rw [getD_set_ne true (by decide)] at h7; have := f21 h h7; first | exact this | exact this.below hb | exact this.grown hG HOWN (by decide)
      · first | exact flag_ne (by decide) f22 | exact fun _ => rfl
      · first | exact flag_ne (by decide) f23 | exact fun _ => rfl
      · intro h _; rw [getD_set_ne false (by decide)] at h; exact (getD_no h0 (hC.step (j := 17) (k := 16) (hC.step (j := 20) (k := 17) (hC.step (j := 24) (k := 20) h (by kernel_rfl)) (by kernel_rfl)) (by kernel_rfl))).elim
      · first | exact flag_ne (by decide) f25 | exact fun _ => rfl
      · intro h h7; rw [getD_set_ne false (by decide)] at h; rw [getD_set_ne true (by decide)] at h7; have := f26 h h7; first | exact this | exact this.below hb | exact this.grown hG HOWN (by decide) | exact this.grown0 hG hgc21 (by decide)
      · intro h; rw [getD_set_ne false (by decide)] at h; exact (getD_no h0 (hC.step (j := 17) (k := 16) (hC.step (j := 20) (k := 17) (hC.step (j := 24) (k := 20) (hC.step (j := 27) (k := 24) h (by kernel_rfl)) (by kernel_rfl)) (by kernel_rfl)) (by kernel_rfl))).elim
      · intro h; rw [getD_set_ne false (by decide)] at h; exact (getD_no h0 (hC.step (j := 17) (k := 16) (hC.step (j := 20) (k := 17) (hC.step (j := 28) (k := 20) h (by kernel_rfl)) (by kernel_rfl)) (by kernel_rfl))).elim
      · intro h h7; rw [getD_set_ne false (by decide)] at h; rw [getD_set_ne true (by decide)] at h7; have := f29 h h7; obtain ⟨g, z1, z2, z3⟩ := this; exact (by first | exact ⟨g, z1, z2, z3⟩ | exact ⟨g, z1, z2, obj_below z3 hb⟩ | exact ⟨g, z1, z2, obj_grown z3 hG (own_ne_type HOWN z3 (by decide))⟩ | (trace_state; fail))
      · intro h; rw [getD_set_ne false (by decide)] at h; exact (getD_no h0 (hC.step (j := 30) (k := 16) h (by kernel_rfl))).elim
    · refine StepAt.mk (o := { dst := some 36, op := Op.call { callee := Callee.builtin Builtin.append, args := #[Operand.tmp 33, Operand.tmp 35], argTypes := #[24, 24] }, type := 24, pos := _, after := #[{ on := 14, ground := Ground.data }, { on := 16, ground := Ground.data }, { on := 13, ground := Ground.chain }], guard := none }) (ws := [14, 16, 13]) rfl (by kernel_rfl) ?_
      intro L b v hC h0 hA h
      refine h.elim ?_; clear h; intro u7 h
      refine h.elim ?_; clear h; intro u19 h
      refine h.elim ?_; clear h; intro u20 h
      refine h.elim ?_; clear h; intro u21 h
      refine h.elim ?_; clear h; intro u22 h
      refine h.elim ?_; clear h; intro u23 h
      refine h.elim ?_; clear h; intro u24 h
      refine h.elim ?_; clear h; intro u25 h
      refine h.elim ?_; clear h; intro u26 h
      refine h.elim ?_; clear h; intro u27 h
      refine h.elim ?_; clear h; intro u28 h
      refine h.elim ?_; clear h; intro u29 h
      refine h.elim ?_; clear h; intro u30 h
      refine h.elim ?_; clear h; intro u31 h
      refine h.elim ?_; clear h; intro u32 h
      refine h.elim ?_; clear h; intro u33 h
      refine h.elim ?_; clear h; intro u34 h
      refine h.elim ?_; clear h; intro u35 h
      refine h.elim ?_; clear h; intro u36 h
      refine h.elim ?_; clear h; intro u37 h
      refine h.elim ?_; clear h; intro u38 h
      refine h.elim ?_; clear h; intro u39 h
      refine h.elim ?_; clear h; intro u40 h
      refine h.elim ?_; clear h; intro u41 h
      refine h.elim ?_; clear h; intro u42 h
      refine h.elim ?_; clear h; intro u43 h
      refine h.elim ?_; clear h; intro u44 h
      refine h.elim ?_; clear h; intro u45 h
      refine h.elim ?_; clear h; intro u46 h
      refine h.elim ?_; clear h; intro u47 h
      have hbb := h.1; replace h := h.2; subst hbb
      have hHeld := h.1; replace h := h.2
      have f0 := h.1; replace h := h.2
      have f1 := h.1; replace h := h.2
      have f2 := h.1; replace h := h.2
      have f3 := h.1; replace h := h.2
      have f4 := h.1; replace h := h.2
      have f5 := h.1; replace h := h.2
      have f6 := h.1; replace h := h.2
      have f7 := h.1; replace h := h.2
      have f8 := h.1; replace h := h.2
      have f9 := h.1; replace h := h.2
      have f10 := h.1; replace h := h.2
      have f11 := h.1; replace h := h.2
      have f12 := h.1; replace h := h.2
      have f13 := h.1; replace h := h.2
      have f14 := h.1; replace h := h.2
      have f15 := h.1; replace h := h.2
      have f16 := h.1; replace h := h.2
      have f17 := h.1; replace h := h.2
      have f18 := h.1; replace h := h.2
      have f19 := h.1; replace h := h.2
      have f20 := h.1; replace h := h.2
      have f21 := h.1; replace h := h.2
      have f22 := h.1; replace h := h.2
      have f23 := h.1; replace h := h.2
      have f24 := h.1; replace h := h.2
      have f25 := h.1; replace h := h.2
      have f26 := h.1; replace h := h.2
      have f27 := h.1; replace h := h.2
      have f28 := h.1; replace h := h.2
      have f29 := h.1; replace h := h.2
      have f30 := h; clear h
      intro K hK
      have g14 := f14 (hA 14 (by simp)) h0
      obtain ⟨gg14, rfl, hgB14, hgc14⟩ := g14
      have g16 := f16 (hA 16 (by simp))
      obtain rfl := g16
      have g13 := f13 (hA 13 (by simp))
      rw [if_pos (by kernel_rfl)]
      have q0 := cellB hHeld C0 hgp
      have q1 := cellB hHeld C1 hgp
      have q2 := cellB hHeld C2 hgp
      have q3 := cellB hHeld C3 hgp
      have HOWN := owns_nil_at (q := 2) hgc14 hgB14; refine wp_append_src (.tmp 33) (.tmp 35) 24 rfl W0.heap.size 42 i3 (.agg #[.string ⟨#[]⟩, .int .i64 0]) 2 24 Tryd.underlying24 hi3 hz3 hs3 hb3 rfl (by omega) _ 0 [] rfl HOWN _ n3 X3 rfl (S3.out _ hHeld) l3 o3.out (by unfold maxLen; omega) (by omega) hHeld.size ?_; intro v' w' HO hG
      try simp only [Act.put, List.setIfInBounds_toArray, List.set_cons_zero, List.set_cons_succ]
      refine hK.out _ _ ⟨_, _, _, _, _, _, _, _, _, _, _, _, _, _, _, _, _, _, _, _, _, _, _, _, _, _, _, _, _, _, rfl, ?_, ?_, ?_, ?_, ?_, ?_, ?_, ?_, ?_, ?_, ?_, ?_, ?_, ?_, ?_, ?_, ?_, ?_, ?_, ?_, ?_, ?_, ?_, ?_, ?_, ?_, ?_, ?_, ?_, ?_, ?_, ?_⟩
      · exact grown3 hHeld hHeld.size HOWN hG
      · intro _ h7; rw [getD_set_ne true (by decide)] at h7; exact (getD_no h7 (hC.step (j := 6) (k := 3) (hC.step (j := 10) (k := 6) (hC.step (j := 13) (k := 10) (hA 13 (by simp)) (by kernel_rfl)) (by kernel_rfl)) (by kernel_rfl))).elim
      · first | exact flag_ne (by decide) f1 | exact fun _ => rfl
      · first | exact flag_ne (by decide) f2 | exact fun _ => rfl
      · intro _ h7; rw [getD_set_ne true (by decide)] at h7; exact (getD_no h7 (hC.step (j := 10) (k := 6) (hC.step (j := 13) (k := 10) (hA 13 (by simp)) (by kernel_rfl)) (by kernel_rfl))).elim
      · first | exact flag_ne (by decide) f4 | exact fun _ => rfl
      · intro _ h7; rw [getD_set_ne true (by decide)] at h7; exact (getD_no h7 (hC.step (j := 10) (k := 6) (hC.step (j := 13) (k := 10) (hA 13 (by simp)) (by kernel_rfl)) (by kernel_rfl))).elim
      · intro h; rw [getD_set_ne false (by decide)] at h; have := f6 h; first | exact this | exact owns_below this hb | exact own_grown this hG HOWN (by decide)
      · intro _ h7; rw [getD_set_ne true (by decide)] at h7; exact (getD_no h7 (hC.step (j := 13) (k := 10) (hA 13 (by simp)) (by kernel_rfl))).elim
      · first | exact flag_ne (by decide) f8 | exact fun _ => rfl
      · first | exact flag_ne (by decide) f9 | exact fun _ => rfl
      · intro _ h7; rw [getD_set_ne true (by decide)] at h7; exact (getD_no h7 (hA 13 (by simp))).elim
      · first | exact flag_ne (by decide) f11 | exact fun _ => rfl
      · intro _ h7; rw [getD_set_ne true (by decide)] at h7; exact (getD_no h7 (hA 13 (by simp))).elim
      · intro h; rw [getD_set_ne false (by decide)] at h; have := f13 h; first | exact this | exact owns_below this hb | exact own_grown this hG HOWN (by decide)
      · intro _ h7; rw [getD_set_self] at h7; cases h7
      · first | exact flag_ne (by decide) f15 | exact fun _ => rfl
      · first | exact flag_ne (by decide) f16 | exact fun _ => rfl
      · intro _ _; first | (exact own_eq2 HO (by omega) (by simp)) | (trace_state; fail)
      · first | exact flag_ne (by decide) f18 | exact fun _ => rfl
      · intro h h7; rw [getD_set_ne false (by decide)] at h; rw [getD_set_ne true (by decide)] at h7; have := f19 h h7; first | exact this | exact this.below hb | exact this.grown hG HOWN (by decide) | exact this.grown0 hG hgc14 (by decide)
      · intro h; rw [getD_set_ne false (by decide)] at h; exact (getD_no h0 (hC.step (j := 20) (k := 17) h (by kernel_rfl))).elim
      · intro h h7; rw [getD_set_ne false (by decide)] at h; rw [getD_set_ne true (by decide)] at h7; have := f21 h h7; first | exact this | exact this.below hb | exact this.grown hG HOWN (by decide)
      · first | exact flag_ne (by decide) f22 | exact fun _ => rfl
      · first | exact flag_ne (by decide) f23 | exact fun _ => rfl
      · intro h _; rw [getD_set_ne false (by decide)] at h; exact (getD_no h0 (hC.step (j := 20) (k := 17) (hC.step (j := 24) (k := 20) h (by kernel_rfl)) (by kernel_rfl))).elim
      · first | exact flag_ne (by decide) f25 | exact fun _ => rfl
      · intro h h7; rw [getD_set_ne false (by decide)] at h; rw [getD_set_ne true (by decide)] at h7; have := f26 h h7; first | exact this | exact this.below hb | exact this.grown hG HOWN (by decide) | exact this.grown0 hG hgc21 (by decide)
      · intro h; rw [getD_set_ne false (by decide)] at h; exact (getD_no h0 (hC.step (j := 20) (k := 17) (hC.step (j := 24) (k := 20) (hC.step (j := 27) (k := 24) h (by kernel_rfl)) (by kernel_rfl)) (by kernel_rfl))).elim
      · intro h; rw [getD_set_ne false (by decide)] at h; exact (getD_no h0 (hC.step (j := 20) (k := 17) (hC.step (j := 28) (k := 20) h (by kernel_rfl)) (by kernel_rfl))).elim
      · intro h h7; rw [getD_set_ne false (by decide)] at h; rw [getD_set_ne true (by decide)] at h7; have := f29 h h7; obtain ⟨g, z1, z2, z3⟩ := this; exact (by first | exact ⟨g, z1, z2, z3⟩ | exact ⟨g, z1, z2, obj_below z3 hb⟩ | exact ⟨g, z1, z2, obj_grown z3 hG (own_ne_type HOWN z3 (by decide))⟩ | (trace_state; fail))
      · intro h; rw [getD_set_ne false (by decide)] at h; exact (getD_no h0 (hC.step (j := 30) (k := 17) h (by kernel_rfl))).elim
    · refine StepAt.mk (o := { dst := some 37, op := Op.build 42 #[], type := 42, pos := _, after := #[], guard := none }) (ws := []) rfl (by kernel_rfl) ?_
      intro L b v hC h0 hA h
      refine h.elim ?_; clear h; intro u7 h
      refine h.elim ?_; clear h; intro u19 h
      refine h.elim ?_; clear h; intro u20 h
      refine h.elim ?_; clear h; intro u21 h
      refine h.elim ?_; clear h; intro u22 h
      refine h.elim ?_; clear h; intro u23 h
      refine h.elim ?_; clear h; intro u24 h
      refine h.elim ?_; clear h; intro u25 h
      refine h.elim ?_; clear h; intro u26 h
      refine h.elim ?_; clear h; intro u27 h
      refine h.elim ?_; clear h; intro u28 h
      refine h.elim ?_; clear h; intro u29 h
      refine h.elim ?_; clear h; intro u30 h
      refine h.elim ?_; clear h; intro u31 h
      refine h.elim ?_; clear h; intro u32 h
      refine h.elim ?_; clear h; intro u33 h
      refine h.elim ?_; clear h; intro u34 h
      refine h.elim ?_; clear h; intro u35 h
      refine h.elim ?_; clear h; intro u36 h
      refine h.elim ?_; clear h; intro u37 h
      refine h.elim ?_; clear h; intro u38 h
      refine h.elim ?_; clear h; intro u39 h
      refine h.elim ?_; clear h; intro u40 h
      refine h.elim ?_; clear h; intro u41 h
      refine h.elim ?_; clear h; intro u42 h
      refine h.elim ?_; clear h; intro u43 h
      refine h.elim ?_; clear h; intro u44 h
      refine h.elim ?_; clear h; intro u45 h
      refine h.elim ?_; clear h; intro u46 h
      refine h.elim ?_; clear h; intro u47 h
      have hbb := h.1; replace h := h.2; subst hbb
      have hHeld := h.1; replace h := h.2
      have f0 := h.1; replace h := h.2
      have f1 := h.1; replace h := h.2
      have f2 := h.1; replace h := h.2
      have f3 := h.1; replace h := h.2
      have f4 := h.1; replace h := h.2
      have f5 := h.1; replace h := h.2
      have f6 := h.1; replace h := h.2
      have f7 := h.1; replace h := h.2
      have f8 := h.1; replace h := h.2
      have f9 := h.1; replace h := h.2
      have f10 := h.1; replace h := h.2
      have f11 := h.1; replace h := h.2
      have f12 := h.1; replace h := h.2
      have f13 := h.1; replace h := h.2
      have f14 := h.1; replace h := h.2
      have f15 := h.1; replace h := h.2
      have f16 := h.1; replace h := h.2
      have f17 := h.1; replace h := h.2
      have f18 := h.1; replace h := h.2
      have f19 := h.1; replace h := h.2
      have f20 := h.1; replace h := h.2
      have f21 := h.1; replace h := h.2
      have f22 := h.1; replace h := h.2
      have f23 := h.1; replace h := h.2
      have f24 := h.1; replace h := h.2
      have f25 := h.1; replace h := h.2
      have f26 := h.1; replace h := h.2
      have f27 := h.1; replace h := h.2
      have f28 := h.1; replace h := h.2
      have f29 := h.1; replace h := h.2
      have f30 := h; clear h
      intro K hK
      rw [if_pos (by kernel_rfl)]
      have q0 := cellB hHeld C0 hgp
      have q1 := cellB hHeld C1 hgp
      have q2 := cellB hHeld C2 hgp
      have q3 := cellB hHeld C3 hgp
      go_simp
      try simp only [Act.put, List.setIfInBounds_toArray, List.set_cons_zero, List.set_cons_succ]
      refine hK.out _ _ ⟨_, _, _, _, _, _, _, _, _, _, _, _, _, _, _, _, _, _, _, _, _, _, _, _, _, _, _, _, _, _, rfl, ?_, ?_, ?_, ?_, ?_, ?_, ?_, ?_, ?_, ?_, ?_, ?_, ?_, ?_, ?_, ?_, ?_, ?_, ?_, ?_, ?_, ?_, ?_, ?_, ?_, ?_, ?_, ?_, ?_, ?_, ?_, ?_⟩
      · first | exact hHeld | exact hHeld.trans (hb.mono hHeld.size) | (trace_state; fail)
      · intro h h7; rw [getD_set_ne false (by decide)] at h; rw [getD_set_ne true (by decide)] at h7; have := f0 h h7; first | exact this | exact this.below hb | exact this.grown hG HOWN (by decide)
      · first | exact flag_ne (by decide) f1 | exact fun _ => rfl
      · first | exact flag_ne (by decide) f2 | exact fun _ => rfl
      · intro h h7; rw [getD_set_ne false (by decide)] at h; rw [getD_set_ne true (by decide)] at h7; have := f3 h h7; first | exact this | exact owns_below this hb | exact own_grown this hG HOWN (by decide)
      · first | exact flag_ne (by decide) f4 | exact fun _ => rfl
      · intro h h7; rw [getD_set_ne false (by decide)] at h; rw [getD_set_ne true (by decide)] at h7; have := f5 h h7; first | exact this | exact this.below hb | exact this.grown hG HOWN (by decide) | exact this.grown0 hG hgc0 (by decide)
      · intro h; rw [getD_set_ne false (by decide)] at h; have := f6 h; first | exact this | exact owns_below this hb | exact own_grown this hG HOWN (by decide)
      · intro h h7; rw [getD_set_ne false (by decide)] at h; rw [getD_set_ne true (by decide)] at h7; have := f7 h h7; first | exact this | exact this.below hb | exact this.grown hG HOWN (by decide)
      · first | exact flag_ne (by decide) f8 | exact fun _ => rfl
      · first | exact flag_ne (by decide) f9 | exact fun _ => rfl
      · intro h h7; rw [getD_set_ne false (by decide)] at h; rw [getD_set_ne true (by decide)] at h7; have := f10 h h7; first | exact this | exact owns_below this hb | exact own_grown this hG HOWN (by decide)
      · first | exact flag_ne (by decide) f11 | exact fun _ => rfl
      · intro h h7; rw [getD_set_ne false (by decide)] at h; rw [getD_set_ne true (by decide)] at h7; have := f12 h h7; first | exact this | exact this.below hb | exact this.grown hG HOWN (by decide) | exact this.grown0 hG hgc7 (by decide)
      · intro h; rw [getD_set_ne false (by decide)] at h; have := f13 h; first | exact this | exact owns_below this hb | exact own_grown this hG HOWN (by decide)
      · intro h h7; rw [getD_set_ne false (by decide)] at h; rw [getD_set_ne true (by decide)] at h7; have := f14 h h7; first | exact this | exact this.below hb | exact this.grown hG HOWN (by decide)
      · first | exact flag_ne (by decide) f15 | exact fun _ => rfl
      · first | exact flag_ne (by decide) f16 | exact fun _ => rfl
      · intro h h7; rw [getD_set_ne false (by decide)] at h; rw [getD_set_ne true (by decide)] at h7; have := f17 h h7; first | exact this | exact owns_below this hb | exact own_grown this hG HOWN (by decide)
      · intro _; first | rfl | (trace_state; fail)
      · intro h _; rw [getD_set_ne false (by decide)] at h; exact (getD_no h0 (hC.step (j := 19) (k := 18) h (by kernel_rfl))).elim
      · intro h; rw [getD_set_ne false (by decide)] at h; exact (getD_no h0 (hC.step (j := 19) (k := 18) (hC.step (j := 20) (k := 19) h (by kernel_rfl)) (by kernel_rfl))).elim
      · intro h h7; rw [getD_set_ne false (by decide)] at h; rw [getD_set_ne true (by decide)] at h7; have := f21 h h7; first | exact this | exact this.below hb | exact this.grown hG HOWN (by decide)
      · first | exact flag_ne (by decide) f22 | exact fun _ => rfl
      · first | exact flag_ne (by decide) f23 | exact fun _ => rfl
      · intro h _; rw [getD_set_ne false (by decide)] at h; exact (getD_no h0 (hC.step (j := 19) (k := 18) (hC.step (j := 20) (k := 19) (hC.step (j := 24) (k := 20) h (by kernel_rfl)) (by kernel_rfl)) (by kernel_rfl))).elim
      · first | exact flag_ne (by decide) f25 | exact fun _ => rfl
      · intro h h7; rw [getD_set_ne false (by decide)] at h; rw [getD_set_ne true (by decide)] at h7; have := f26 h h7; first | exact this | exact this.below hb | exact this.grown hG HOWN (by decide) | exact this.grown0 hG hgc21 (by decide)
      · intro h; rw [getD_set_ne false (by decide)] at h; exact (getD_no h0 (hC.step (j := 19) (k := 18) (hC.step (j := 20) (k := 19) (hC.step (j := 24) (k := 20) (hC.step (j := 27) (k := 24) h (by kernel_rfl)) (by kernel_rfl)) (by kernel_rfl)) (by kernel_rfl))).elim
      · intro h; rw [getD_set_ne false (by decide)] at h; exact (getD_no h0 (hC.step (j := 19) (k := 18) (hC.step (j := 20) (k := 19) (hC.step (j := 28) (k := 20) h (by kernel_rfl)) (by kernel_rfl)) (by kernel_rfl))).elim
      · intro h h7; rw [getD_set_ne false (by decide)] at h; rw [getD_set_ne true (by decide)] at h7; have := f29 h h7; obtain ⟨g, z1, z2, z3⟩ := this; exact (by first | exact ⟨g, z1, z2, z3⟩ | exact ⟨g, z1, z2, obj_below z3 hb⟩ | exact ⟨g, z1, z2, obj_grown z3 hG (own_ne_type HOWN z3 (by decide))⟩ | (trace_state; fail))
      · intro h; rw [getD_set_ne false (by decide)] at h; exact (getD_no h0 (hC.step (j := 30) (k := 18) h (by kernel_rfl))).elim
    · refine StepAt.mk (o := { dst := some 38, op := Op.buildSlice 24 1 #[(0, Operand.tmp 37)], type := 24, pos := _, after := #[{ on := 18, ground := Ground.data }], guard := none }) (ws := [18]) rfl (by kernel_rfl) ?_
      intro L b v hC h0 hA h
      refine h.elim ?_; clear h; intro u7 h
      refine h.elim ?_; clear h; intro u19 h
      refine h.elim ?_; clear h; intro u20 h
      refine h.elim ?_; clear h; intro u21 h
      refine h.elim ?_; clear h; intro u22 h
      refine h.elim ?_; clear h; intro u23 h
      refine h.elim ?_; clear h; intro u24 h
      refine h.elim ?_; clear h; intro u25 h
      refine h.elim ?_; clear h; intro u26 h
      refine h.elim ?_; clear h; intro u27 h
      refine h.elim ?_; clear h; intro u28 h
      refine h.elim ?_; clear h; intro u29 h
      refine h.elim ?_; clear h; intro u30 h
      refine h.elim ?_; clear h; intro u31 h
      refine h.elim ?_; clear h; intro u32 h
      refine h.elim ?_; clear h; intro u33 h
      refine h.elim ?_; clear h; intro u34 h
      refine h.elim ?_; clear h; intro u35 h
      refine h.elim ?_; clear h; intro u36 h
      refine h.elim ?_; clear h; intro u37 h
      refine h.elim ?_; clear h; intro u38 h
      refine h.elim ?_; clear h; intro u39 h
      refine h.elim ?_; clear h; intro u40 h
      refine h.elim ?_; clear h; intro u41 h
      refine h.elim ?_; clear h; intro u42 h
      refine h.elim ?_; clear h; intro u43 h
      refine h.elim ?_; clear h; intro u44 h
      refine h.elim ?_; clear h; intro u45 h
      refine h.elim ?_; clear h; intro u46 h
      refine h.elim ?_; clear h; intro u47 h
      have hbb := h.1; replace h := h.2; subst hbb
      have hHeld := h.1; replace h := h.2
      have f0 := h.1; replace h := h.2
      have f1 := h.1; replace h := h.2
      have f2 := h.1; replace h := h.2
      have f3 := h.1; replace h := h.2
      have f4 := h.1; replace h := h.2
      have f5 := h.1; replace h := h.2
      have f6 := h.1; replace h := h.2
      have f7 := h.1; replace h := h.2
      have f8 := h.1; replace h := h.2
      have f9 := h.1; replace h := h.2
      have f10 := h.1; replace h := h.2
      have f11 := h.1; replace h := h.2
      have f12 := h.1; replace h := h.2
      have f13 := h.1; replace h := h.2
      have f14 := h.1; replace h := h.2
      have f15 := h.1; replace h := h.2
      have f16 := h.1; replace h := h.2
      have f17 := h.1; replace h := h.2
      have f18 := h.1; replace h := h.2
      have f19 := h.1; replace h := h.2
      have f20 := h.1; replace h := h.2
      have f21 := h.1; replace h := h.2
      have f22 := h.1; replace h := h.2
      have f23 := h.1; replace h := h.2
      have f24 := h.1; replace h := h.2
      have f25 := h.1; replace h := h.2
      have f26 := h.1; replace h := h.2
      have f27 := h.1; replace h := h.2
      have f28 := h.1; replace h := h.2
      have f29 := h.1; replace h := h.2
      have f30 := h; clear h
      intro K hK
      have g18 := f18 (hA 18 (by simp))
      obtain rfl := g18
      rw [if_pos (by kernel_rfl)]
      have q0 := cellB hHeld C0 hgp
      have q1 := cellB hHeld C1 hgp
      have q2 := cellB hHeld C2 hgp
      have q3 := cellB hHeld C3 hgp
      go_simp
      try simp only [Act.put, List.setIfInBounds_toArray, List.set_cons_zero, List.set_cons_succ]
      have hb : Below v.heap.size v (v.alloc (.cells #[.string ⟨#[]⟩, .int .i64 0] 42)) := (Below.refl _ _).alloc (Nat.le_refl _) _
      refine hK.out _ _ ⟨_, _, _, _, _, _, _, _, _, _, _, _, _, _, _, _, _, _, _, _, _, _, _, _, _, _, _, _, _, _, rfl, ?_, ?_, ?_, ?_, ?_, ?_, ?_, ?_, ?_, ?_, ?_, ?_, ?_, ?_, ?_, ?_, ?_, ?_, ?_, ?_, ?_, ?_, ?_, ?_, ?_, ?_, ?_, ?_, ?_, ?_, ?_, ?_⟩
      · exact hHeld.alloc hHeld.size _
      · intro h h7; rw [getD_set_ne false (by decide)] at h; rw [getD_set_ne true (by decide)] at h7; have := f0 h h7; first | exact this | exact this.below hb | exact this.grown hG HOWN (by decide)
      · first | exact flag_ne (by decide) f1 | exact fun _ => rfl
      · first | exact flag_ne (by decide) f2 | exact fun _ => rfl
      · intro h h7; rw [getD_set_ne false (by decide)] at h; rw [getD_set_ne true (by decide)] at h7; have := f3 h h7; first | exact this | exact owns_below this hb | exact own_grown this hG HOWN (by decide)
      · first | exact flag_ne (by decide) f4 | exact fun _ => rfl
      · intro h h7; rw [getD_set_ne false (by decide)] at h; rw [getD_set_ne true (by decide)] at h7; have := f5 h h7; first | exact this | exact this.below hb | exact this.grown hG HOWN (by decide) | exact this.grown0 hG hgc0 (by decide)
      · intro h; rw [getD_set_ne false (by decide)] at h; have := f6 h; first | exact this | exact owns_below this hb | exact own_grown this hG HOWN (by decide)
      · intro h h7; rw [getD_set_ne false (by decide)] at h; rw [getD_set_ne true (by decide)] at h7; have := f7 h h7; first | exact this | exact this.below hb | exact this.grown hG HOWN (by decide)
      · first | exact flag_ne (by decide) f8 | exact fun _ => rfl
      · first | exact flag_ne (by decide) f9 | exact fun _ => rfl
      · intro h h7; rw [getD_set_ne false (by decide)] at h; rw [getD_set_ne true (by decide)] at h7; have := f10 h h7; first | exact this | exact owns_below this hb | exact own_grown this hG HOWN (by decide)
      · first | exact flag_ne (by decide) f11 | exact fun _ => rfl
      · intro h h7; rw [getD_set_ne false (by decide)] at h; rw [getD_set_ne true (by decide)] at h7; have := f12 h h7; first | exact this | exact this.below hb | exact this.grown hG HOWN (by decide) | exact this.grown0 hG hgc7 (by decide)
      · intro h; rw [getD_set_ne false (by decide)] at h; have := f13 h; first | exact this | exact owns_below this hb | exact own_grown this hG HOWN (by decide)
      · intro h h7; rw [getD_set_ne false (by decide)] at h; rw [getD_set_ne true (by decide)] at h7; have := f14 h h7; first | exact this | exact this.below hb | exact this.grown hG HOWN (by decide)
      · first | exact flag_ne (by decide) f15 | exact fun _ => rfl
      · first | exact flag_ne (by decide) f16 | exact fun _ => rfl
      · intro h h7; rw [getD_set_ne false (by decide)] at h; rw [getD_set_ne true (by decide)] at h7; have := f17 h h7; first | exact this | exact owns_below this hb | exact own_grown this hG HOWN (by decide)
      · first | exact flag_ne (by decide) f18 | exact fun _ => rfl
      · intro _ _; first | (exact ⟨_, rfl, heap_new v _⟩) | (trace_state; fail)
      · intro h; rw [getD_set_ne false (by decide)] at h; exact (getD_no h0 (hC.step (j := 20) (k := 19) h (by kernel_rfl))).elim
      · intro h h7; rw [getD_set_ne false (by decide)] at h; rw [getD_set_ne true (by decide)] at h7; have := f21 h h7; first | exact this | exact this.below hb | exact this.grown hG HOWN (by decide)
      · first | exact flag_ne (by decide) f22 | exact fun _ => rfl
      · first | exact flag_ne (by decide) f23 | exact fun _ => rfl
      · intro h _; rw [getD_set_ne false (by decide)] at h; exact (getD_no h0 (hC.step (j := 20) (k := 19) (hC.step (j := 24) (k := 20) h (by kernel_rfl)) (by kernel_rfl))).elim
      · first | exact flag_ne (by decide) f25 | exact fun _ => rfl
      · intro h h7; rw [getD_set_ne false (by decide)] at h; rw [getD_set_ne true (by decide)] at h7; have := f26 h h7; first | exact this | exact this.below hb | exact this.grown hG HOWN (by decide) | exact this.grown0 hG hgc21 (by decide)
      · intro h; rw [getD_set_ne false (by decide)] at h; exact (getD_no h0 (hC.step (j := 20) (k := 19) (hC.step (j := 24) (k := 20) (hC.step (j := 27) (k := 24) h (by kernel_rfl)) (by kernel_rfl)) (by kernel_rfl))).elim
      · intro h; rw [getD_set_ne false (by decide)] at h; exact (getD_no h0 (hC.step (j := 20) (k := 19) (hC.step (j := 28) (k := 20) h (by kernel_rfl)) (by kernel_rfl))).elim
      · intro h h7; rw [getD_set_ne false (by decide)] at h; rw [getD_set_ne true (by decide)] at h7; have := f29 h h7; obtain ⟨g, z1, z2, z3⟩ := this; exact (by first | exact ⟨g, z1, z2, z3⟩ | exact ⟨g, z1, z2, obj_below z3 hb⟩ | exact ⟨g, z1, z2, obj_grown z3 hG (own_ne_type HOWN z3 (by decide))⟩ | (trace_state; fail))
      · intro h; rw [getD_set_ne false (by decide)] at h; exact (getD_no h0 (hC.step (j := 30) (k := 19) h (by kernel_rfl))).elim
    · refine StepAt.mk (o := { dst := some 39, op := Op.call { callee := Callee.builtin Builtin.append, args := #[Operand.tmp 36, Operand.tmp 38], argTypes := #[24, 24] }, type := 24, pos := _, after := #[{ on := 17, ground := Ground.data }, { on := 19, ground := Ground.data }, { on := 17, ground := Ground.chain }], guard := none }) (ws := [17, 19, 17]) rfl (by kernel_rfl) ?_
      intro L b v hC h0 hA h
      refine h.elim ?_; clear h; intro u7 h
      refine h.elim ?_; clear h; intro u19 h
      refine h.elim ?_; clear h; intro u20 h
      refine h.elim ?_; clear h; intro u21 h
      refine h.elim ?_; clear h; intro u22 h
      refine h.elim ?_; clear h; intro u23 h
      refine h.elim ?_; clear h; intro u24 h
      refine h.elim ?_; clear h; intro u25 h
      refine h.elim ?_; clear h; intro u26 h
      refine h.elim ?_; clear h; intro u27 h
      refine h.elim ?_; clear h; intro u28 h
      refine h.elim ?_; clear h; intro u29 h
      refine h.elim ?_; clear h; intro u30 h
      refine h.elim ?_; clear h; intro u31 h
      refine h.elim ?_; clear h; intro u32 h
      refine h.elim ?_; clear h; intro u33 h
      refine h.elim ?_; clear h; intro u34 h
      refine h.elim ?_; clear h; intro u35 h
      refine h.elim ?_; clear h; intro u36 h
      refine h.elim ?_; clear h; intro u37 h
      refine h.elim ?_; clear h; intro u38 h
      refine h.elim ?_; clear h; intro u39 h
      refine h.elim ?_; clear h; intro u40 h
      refine h.elim ?_; clear h; intro u41 h
      refine h.elim ?_; clear h; intro u42 h
      refine h.elim ?_; clear h; intro u43 h
      refine h.elim ?_; clear h; intro u44 h
      refine h.elim ?_; clear h; intro u45 h
      refine h.elim ?_; clear h; intro u46 h
      refine h.elim ?_; clear h; intro u47 h
      have hbb := h.1; replace h := h.2; subst hbb
      have hHeld := h.1; replace h := h.2
      have f0 := h.1; replace h := h.2
      have f1 := h.1; replace h := h.2
      have f2 := h.1; replace h := h.2
      have f3 := h.1; replace h := h.2
      have f4 := h.1; replace h := h.2
      have f5 := h.1; replace h := h.2
      have f6 := h.1; replace h := h.2
      have f7 := h.1; replace h := h.2
      have f8 := h.1; replace h := h.2
      have f9 := h.1; replace h := h.2
      have f10 := h.1; replace h := h.2
      have f11 := h.1; replace h := h.2
      have f12 := h.1; replace h := h.2
      have f13 := h.1; replace h := h.2
      have f14 := h.1; replace h := h.2
      have f15 := h.1; replace h := h.2
      have f16 := h.1; replace h := h.2
      have f17 := h.1; replace h := h.2
      have f18 := h.1; replace h := h.2
      have f19 := h.1; replace h := h.2
      have f20 := h.1; replace h := h.2
      have f21 := h.1; replace h := h.2
      have f22 := h.1; replace h := h.2
      have f23 := h.1; replace h := h.2
      have f24 := h.1; replace h := h.2
      have f25 := h.1; replace h := h.2
      have f26 := h.1; replace h := h.2
      have f27 := h.1; replace h := h.2
      have f28 := h.1; replace h := h.2
      have f29 := h.1; replace h := h.2
      have f30 := h; clear h
      intro K hK
      have g17 := f17 (hA 17 (by simp)) h0
      have g19 := f19 (hA 19 (by simp)) h0
      obtain ⟨pp19, rfl, hpc19⟩ := g19
      rw [if_pos (by kernel_rfl)]
      have q0 := cellB hHeld C0 hgp
      have q1 := cellB hHeld C1 hgp
      have q2 := cellB hHeld C2 hgp
      have q3 := cellB hHeld C3 hgp
      have HOWN := g17; refine wp_append_src (.tmp 36) (.tmp 38) 24 rfl W0.heap.size 42 i3 (.agg #[.string ⟨#[]⟩, .int .i64 0]) 2 24 Tryd.underlying24 hi3 hz3 hs3 hb3 rfl (by omega) u36 n3 X3 rfl g17 _ 1 [.string ⟨#[]⟩, .int .i64 0] rfl (src_at hpc19) rfl (by intro u hu; simp at hu; first | (rw [hu]; rfl) | (rcases hu with hu | hu <;> (rw [hu]; rfl)) | (rcases hu with hu | hu | hu <;> (rw [hu]; rfl)) | (rcases hu with hu | hu | hu | hu <;> (rw [hu]; rfl)) | (rcases hu with hu | hu | hu | hu | hu <;> (rw [hu]; rfl))) (by unfold maxLen; omega) (by omega) hHeld.size ?_; intro v' w' HO hG
      try simp only [Act.put, List.setIfInBounds_toArray, List.set_cons_zero, List.set_cons_succ]
      refine hK.out _ _ ⟨_, _, _, _, _, _, _, _, _, _, _, _, _, _, _, _, _, _, _, _, _, _, _, _, _, _, _, _, _, _, rfl, ?_, ?_, ?_, ?_, ?_, ?_, ?_, ?_, ?_, ?_, ?_, ?_, ?_, ?_, ?_, ?_, ?_, ?_, ?_, ?_, ?_, ?_, ?_, ?_, ?_, ?_, ?_, ?_, ?_, ?_, ?_, ?_⟩
      · exact grown3 hHeld hHeld.size HOWN hG
      · intro _ h7; rw [getD_set_ne true (by decide)] at h7; exact (getD_no h7 (hC.step (j := 6) (k := 3) (hC.step (j := 10) (k := 6) (hC.step (j := 13) (k := 10) (hC.step (j := 17) (k := 13) (hA 17 (by simp)) (by kernel_rfl)) (by kernel_rfl)) (by kernel_rfl)) (by kernel_rfl))).elim
      · first | exact flag_ne (by decide) f1 | exact fun _ => rfl
      · first | exact flag_ne (by decide) f2 | exact fun _ => rfl
      · intro _ h7; rw [getD_set_ne true (by decide)] at h7; exact (getD_no h7 (hC.step (j := 10) (k := 6) (hC.step (j := 13) (k := 10) (hC.step (j := 17) (k := 13) (hA 17 (by simp)) (by kernel_rfl)) (by kernel_rfl)) (by kernel_rfl))).elim
      · first | exact flag_ne (by decide) f4 | exact fun _ => rfl
      · intro _ h7; rw [getD_set_ne true (by decide)] at h7; exact (getD_no h7 (hC.step (j := 10) (k := 6) (hC.step (j := 13) (k := 10) (hC.step (j := 17) (k := 13) (hA 17 (by simp)) (by kernel_rfl)) (by kernel_rfl)) (by kernel_rfl))).elim
      · intro h; rw [getD_set_ne false (by decide)] at h; have := f6 h; first | exact this | exact owns_below this hb | exact own_grown this hG HOWN (by decide)
      · intro _ h7; rw [getD_set_ne true (by decide)] at h7; exact (getD_no h7 (hC.step (j := 13) (k := 10) (hC.step (j := 17) (k := 13) (hA 17 (by simp)) (by kernel_rfl)) (by kernel_rfl))).elim
      · first | exact flag_ne (by decide) f8 | exact fun _ => rfl
      · first | exact flag_ne (by decide) f9 | exact fun _ => rfl
      · intro _ h7; rw [getD_set_ne true (by decide)] at h7; exact (getD_no h7 (hC.step (j := 17) (k := 13) (hA 17 (by simp)) (by kernel_rfl))).elim
      · first | exact flag_ne (by decide) f11 | exact fun _ => rfl
      · intro _ h7; rw [getD_set_ne true (by decide)] at h7; exact (getD_no h7 (hC.step (j := 17) (k := 13) (hA 17 (by simp)) (by kernel_rfl))).elim
      · intro h; rw [getD_set_ne false (by decide)] at h; have := f13 h; first | exact this | exact owns_below this hb | exact own_grown this hG HOWN (by decide)
      · intro _ h7; rw [getD_set_ne true (by decide)] at h7; exact (getD_no h7 (hA 17 (by simp))).elim
      · first | exact flag_ne (by decide) f15 | exact fun _ => rfl
      · first | exact flag_ne (by decide) f16 | exact fun _ => rfl
      · intro _ h7; rw [getD_set_self] at h7; cases h7
      · first | exact flag_ne (by decide) f18 | exact fun _ => rfl
      · intro _ h7; rw [getD_set_self] at h7; cases h7
      · intro _; first | exact HO | (trace_state; fail)
      · intro h h7; rw [getD_set_ne false (by decide)] at h; rw [getD_set_ne true (by decide)] at h7; have := f21 h h7; first | exact this | exact this.below hb | exact this.grown hG HOWN (by decide)
      · first | exact flag_ne (by decide) f22 | exact fun _ => rfl
      · first | exact flag_ne (by decide) f23 | exact fun _ => rfl
      · intro h _; rw [getD_set_ne false (by decide)] at h; exact (getD_no h0 (hC.step (j := 24) (k := 20) h (by kernel_rfl))).elim
      · first | exact flag_ne (by decide) f25 | exact fun _ => rfl
      · intro h h7; rw [getD_set_ne false (by decide)] at h; rw [getD_set_ne true (by decide)] at h7; have := f26 h h7; first | exact this | exact this.below hb | exact this.grown hG HOWN (by decide) | exact this.grown0 hG hgc21 (by decide)
      · intro h; rw [getD_set_ne false (by decide)] at h; exact (getD_no h0 (hC.step (j := 24) (k := 20) (hC.step (j := 27) (k := 24) h (by kernel_rfl)) (by kernel_rfl))).elim
      · intro h; rw [getD_set_ne false (by decide)] at h; exact (getD_no h0 (hC.step (j := 28) (k := 20) h (by kernel_rfl))).elim
      · intro h h7; rw [getD_set_ne false (by decide)] at h; rw [getD_set_ne true (by decide)] at h7; have := f29 h h7; obtain ⟨g, z1, z2, z3⟩ := this; exact (by first | exact ⟨g, z1, z2, z3⟩ | exact ⟨g, z1, z2, obj_below z3 hb⟩ | exact ⟨g, z1, z2, obj_grown z3 hG (own_ne_type HOWN z3 (by decide))⟩ | (trace_state; fail))
      · intro h; rw [getD_set_ne false (by decide)] at h; exact (getD_no h0 (hC.step (j := 30) (k := 20) h (by kernel_rfl))).elim
    · refine StepAt.mk (o := { dst := some 40, op := Op.buildSlice 25 0 #[], type := 25, pos := _, after := #[], guard := none }) (ws := []) rfl (by kernel_rfl) ?_
      intro L b v hC h0 hA h
      refine h.elim ?_; clear h; intro u7 h
      refine h.elim ?_; clear h; intro u19 h
      refine h.elim ?_; clear h; intro u20 h
      refine h.elim ?_; clear h; intro u21 h
      refine h.elim ?_; clear h; intro u22 h
      refine h.elim ?_; clear h; intro u23 h
      refine h.elim ?_; clear h; intro u24 h
      refine h.elim ?_; clear h; intro u25 h
      refine h.elim ?_; clear h; intro u26 h
      refine h.elim ?_; clear h; intro u27 h
      refine h.elim ?_; clear h; intro u28 h
      refine h.elim ?_; clear h; intro u29 h
      refine h.elim ?_; clear h; intro u30 h
      refine h.elim ?_; clear h; intro u31 h
      refine h.elim ?_; clear h; intro u32 h
      refine h.elim ?_; clear h; intro u33 h
      refine h.elim ?_; clear h; intro u34 h
      refine h.elim ?_; clear h; intro u35 h
      refine h.elim ?_; clear h; intro u36 h
      refine h.elim ?_; clear h; intro u37 h
      refine h.elim ?_; clear h; intro u38 h
      refine h.elim ?_; clear h; intro u39 h
      refine h.elim ?_; clear h; intro u40 h
      refine h.elim ?_; clear h; intro u41 h
      refine h.elim ?_; clear h; intro u42 h
      refine h.elim ?_; clear h; intro u43 h
      refine h.elim ?_; clear h; intro u44 h
      refine h.elim ?_; clear h; intro u45 h
      refine h.elim ?_; clear h; intro u46 h
      refine h.elim ?_; clear h; intro u47 h
      have hbb := h.1; replace h := h.2; subst hbb
      have hHeld := h.1; replace h := h.2
      have f0 := h.1; replace h := h.2
      have f1 := h.1; replace h := h.2
      have f2 := h.1; replace h := h.2
      have f3 := h.1; replace h := h.2
      have f4 := h.1; replace h := h.2
      have f5 := h.1; replace h := h.2
      have f6 := h.1; replace h := h.2
      have f7 := h.1; replace h := h.2
      have f8 := h.1; replace h := h.2
      have f9 := h.1; replace h := h.2
      have f10 := h.1; replace h := h.2
      have f11 := h.1; replace h := h.2
      have f12 := h.1; replace h := h.2
      have f13 := h.1; replace h := h.2
      have f14 := h.1; replace h := h.2
      have f15 := h.1; replace h := h.2
      have f16 := h.1; replace h := h.2
      have f17 := h.1; replace h := h.2
      have f18 := h.1; replace h := h.2
      have f19 := h.1; replace h := h.2
      have f20 := h.1; replace h := h.2
      have f21 := h.1; replace h := h.2
      have f22 := h.1; replace h := h.2
      have f23 := h.1; replace h := h.2
      have f24 := h.1; replace h := h.2
      have f25 := h.1; replace h := h.2
      have f26 := h.1; replace h := h.2
      have f27 := h.1; replace h := h.2
      have f28 := h.1; replace h := h.2
      have f29 := h.1; replace h := h.2
      have f30 := h; clear h
      intro K hK
      rw [if_pos (by kernel_rfl)]
      have q0 := cellB hHeld C0 hgp
      have q1 := cellB hHeld C1 hgp
      have q2 := cellB hHeld C2 hgp
      have q3 := cellB hHeld C3 hgp
      go_simp
      try simp only [Act.put, List.setIfInBounds_toArray, List.set_cons_zero, List.set_cons_succ]
      have hb : Below v.heap.size v (v.alloc (.cells #[] 46)) := (Below.refl _ _).alloc (Nat.le_refl _) _
      refine hK.out _ _ ⟨_, _, _, _, _, _, _, _, _, _, _, _, _, _, _, _, _, _, _, _, _, _, _, _, _, _, _, _, _, _, rfl, ?_, ?_, ?_, ?_, ?_, ?_, ?_, ?_, ?_, ?_, ?_, ?_, ?_, ?_, ?_, ?_, ?_, ?_, ?_, ?_, ?_, ?_, ?_, ?_, ?_, ?_, ?_, ?_, ?_, ?_, ?_, ?_⟩
      · exact hHeld.alloc hHeld.size _
      · intro h h7; rw [getD_set_ne false (by decide)] at h; rw [getD_set_ne true (by decide)] at h7; have := f0 h h7; first | exact this | exact this.below hb | exact this.grown hG HOWN (by decide)
      · first | exact flag_ne (by decide) f1 | exact fun _ => rfl
      · first | exact flag_ne (by decide) f2 | exact fun _ => rfl
      · intro h h7; rw [getD_set_ne false (by decide)] at h; rw [getD_set_ne true (by decide)] at h7; have := f3 h h7; first | exact this | exact owns_below this hb | exact own_grown this hG HOWN (by decide)
      · first | exact flag_ne (by decide) f4 | exact fun _ => rfl
      · intro h h7; rw [getD_set_ne false (by decide)] at h; rw [getD_set_ne true (by decide)] at h7; have := f5 h h7; first | exact this | exact this.below hb | exact this.grown hG HOWN (by decide) | exact this.grown0 hG hgc0 (by decide)
      · intro h; rw [getD_set_ne false (by decide)] at h; have := f6 h; first | exact this | exact owns_below this hb | exact own_grown this hG HOWN (by decide)
      · intro h h7; rw [getD_set_ne false (by decide)] at h; rw [getD_set_ne true (by decide)] at h7; have := f7 h h7; first | exact this | exact this.below hb | exact this.grown hG HOWN (by decide)
      · first | exact flag_ne (by decide) f8 | exact fun _ => rfl
      · first | exact flag_ne (by decide) f9 | exact fun _ => rfl
      · intro h h7; rw [getD_set_ne false (by decide)] at h; rw [getD_set_ne true (by decide)] at h7; have := f10 h h7; first | exact this | exact owns_below this hb | exact own_grown this hG HOWN (by decide)
      · first | exact flag_ne (by decide) f11 | exact fun _ => rfl
      · intro h h7; rw [getD_set_ne false (by decide)] at h; rw [getD_set_ne true (by decide)] at h7; have := f12 h h7; first | exact this | exact this.below hb | exact this.grown hG HOWN (by decide) | exact this.grown0 hG hgc7 (by decide)
      · intro h; rw [getD_set_ne false (by decide)] at h; have := f13 h; first | exact this | exact owns_below this hb | exact own_grown this hG HOWN (by decide)
      · intro h h7; rw [getD_set_ne false (by decide)] at h; rw [getD_set_ne true (by decide)] at h7; have := f14 h h7; first | exact this | exact this.below hb | exact this.grown hG HOWN (by decide)
      · first | exact flag_ne (by decide) f15 | exact fun _ => rfl
      · first | exact flag_ne (by decide) f16 | exact fun _ => rfl
      · intro h h7; rw [getD_set_ne false (by decide)] at h; rw [getD_set_ne true (by decide)] at h7; have := f17 h h7; first | exact this | exact owns_below this hb | exact own_grown this hG HOWN (by decide)
      · first | exact flag_ne (by decide) f18 | exact fun _ => rfl
      · intro h h7; rw [getD_set_ne false (by decide)] at h; rw [getD_set_ne true (by decide)] at h7; have := f19 h h7; first | exact this | exact this.below hb | exact this.grown hG HOWN (by decide) | exact this.grown0 hG hgc14 (by decide)
      · intro h; rw [getD_set_ne false (by decide)] at h; have := f20 h; first | exact this | exact owns_below this hb | exact own_grown this hG HOWN (by decide)
      · intro _ _; first | (exact ⟨_, rfl, hHeld.size, heap_new v _⟩) | (trace_state; fail)
      · first | exact flag_ne (by decide) f22 | exact fun _ => rfl
      · first | exact flag_ne (by decide) f23 | exact fun _ => rfl
      · intro h _; rw [getD_set_ne false (by decide)] at h; exact (getD_no h0 (hC.step (j := 24) (k := 21) h (by kernel_rfl))).elim
      · first | exact flag_ne (by decide) f25 | exact fun _ => rfl
      · intro h h7; rw [getD_set_ne false (by decide)] at h; rw [getD_set_ne true (by decide)] at h7; have := f26 h h7; first | exact this | exact this.below hb | exact this.grown hG HOWN (by decide) | exact this.grown0 hG hgc21 (by decide)
      · intro h; rw [getD_set_ne false (by decide)] at h; exact (getD_no h0 (hC.step (j := 24) (k := 21) (hC.step (j := 27) (k := 24) h (by kernel_rfl)) (by kernel_rfl))).elim
      · intro h; rw [getD_set_ne false (by decide)] at h; exact (getD_no h0 (hC.step (j := 24) (k := 21) (hC.step (j := 27) (k := 24) (hC.step (j := 28) (k := 27) h (by kernel_rfl)) (by kernel_rfl)) (by kernel_rfl))).elim
      · intro h h7; rw [getD_set_ne false (by decide)] at h; rw [getD_set_ne true (by decide)] at h7; have := f29 h h7; obtain ⟨g, z1, z2, z3⟩ := this; exact (by first | exact ⟨g, z1, z2, z3⟩ | exact ⟨g, z1, z2, obj_below z3 hb⟩ | exact ⟨g, z1, z2, obj_grown z3 hG (own_ne_type HOWN z3 (by decide))⟩ | (trace_state; fail))
      · intro h; rw [getD_set_ne false (by decide)] at h; exact (getD_no h0 (hC.step (j := 30) (k := 21) h (by kernel_rfl))).elim
    · refine StepAt.mk (o := { dst := some 41, op := Op.fieldAddr 27 (Operand.tmp 3) 3, type := 0, pos := _, after := #[], guard := none }) (ws := []) rfl (by kernel_rfl) ?_
      intro L b v hC h0 hA h
      refine h.elim ?_; clear h; intro u7 h
      refine h.elim ?_; clear h; intro u19 h
      refine h.elim ?_; clear h; intro u20 h
      refine h.elim ?_; clear h; intro u21 h
      refine h.elim ?_; clear h; intro u22 h
      refine h.elim ?_; clear h; intro u23 h
      refine h.elim ?_; clear h; intro u24 h
      refine h.elim ?_; clear h; intro u25 h
      refine h.elim ?_; clear h; intro u26 h
      refine h.elim ?_; clear h; intro u27 h
      refine h.elim ?_; clear h; intro u28 h
      refine h.elim ?_; clear h; intro u29 h
      refine h.elim ?_; clear h; intro u30 h
      refine h.elim ?_; clear h; intro u31 h
      refine h.elim ?_; clear h; intro u32 h
      refine h.elim ?_; clear h; intro u33 h
      refine h.elim ?_; clear h; intro u34 h
      refine h.elim ?_; clear h; intro u35 h
      refine h.elim ?_; clear h; intro u36 h
      refine h.elim ?_; clear h; intro u37 h
      refine h.elim ?_; clear h; intro u38 h
      refine h.elim ?_; clear h; intro u39 h
      refine h.elim ?_; clear h; intro u40 h
      refine h.elim ?_; clear h; intro u41 h
      refine h.elim ?_; clear h; intro u42 h
      refine h.elim ?_; clear h; intro u43 h
      refine h.elim ?_; clear h; intro u44 h
      refine h.elim ?_; clear h; intro u45 h
      refine h.elim ?_; clear h; intro u46 h
      refine h.elim ?_; clear h; intro u47 h
      have hbb := h.1; replace h := h.2; subst hbb
      have hHeld := h.1; replace h := h.2
      have f0 := h.1; replace h := h.2
      have f1 := h.1; replace h := h.2
      have f2 := h.1; replace h := h.2
      have f3 := h.1; replace h := h.2
      have f4 := h.1; replace h := h.2
      have f5 := h.1; replace h := h.2
      have f6 := h.1; replace h := h.2
      have f7 := h.1; replace h := h.2
      have f8 := h.1; replace h := h.2
      have f9 := h.1; replace h := h.2
      have f10 := h.1; replace h := h.2
      have f11 := h.1; replace h := h.2
      have f12 := h.1; replace h := h.2
      have f13 := h.1; replace h := h.2
      have f14 := h.1; replace h := h.2
      have f15 := h.1; replace h := h.2
      have f16 := h.1; replace h := h.2
      have f17 := h.1; replace h := h.2
      have f18 := h.1; replace h := h.2
      have f19 := h.1; replace h := h.2
      have f20 := h.1; replace h := h.2
      have f21 := h.1; replace h := h.2
      have f22 := h.1; replace h := h.2
      have f23 := h.1; replace h := h.2
      have f24 := h.1; replace h := h.2
      have f25 := h.1; replace h := h.2
      have f26 := h.1; replace h := h.2
      have f27 := h.1; replace h := h.2
      have f28 := h.1; replace h := h.2
      have f29 := h.1; replace h := h.2
      have f30 := h; clear h
      intro K hK
      rw [if_pos (by kernel_rfl)]
      have q0 := cellB hHeld C0 hgp
      have q1 := cellB hHeld C1 hgp
      have q2 := cellB hHeld C2 hgp
      have q3 := cellB hHeld C3 hgp
      go_simp
      try simp only [Act.put, List.setIfInBounds_toArray, List.set_cons_zero, List.set_cons_succ]
      refine hK.out _ _ ⟨_, _, _, _, _, _, _, _, _, _, _, _, _, _, _, _, _, _, _, _, _, _, _, _, _, _, _, _, _, _, rfl, ?_, ?_, ?_, ?_, ?_, ?_, ?_, ?_, ?_, ?_, ?_, ?_, ?_, ?_, ?_, ?_, ?_, ?_, ?_, ?_, ?_, ?_, ?_, ?_, ?_, ?_, ?_, ?_, ?_, ?_, ?_, ?_⟩
      · first | exact hHeld | exact hHeld.trans (hb.mono hHeld.size) | (trace_state; fail)
      · intro h h7; rw [getD_set_ne false (by decide)] at h; rw [getD_set_ne true (by decide)] at h7; have := f0 h h7; first | exact this | exact this.below hb | exact this.grown hG HOWN (by decide)
      · first | exact flag_ne (by decide) f1 | exact fun _ => rfl
      · first | exact flag_ne (by decide) f2 | exact fun _ => rfl
      · intro h h7; rw [getD_set_ne false (by decide)] at h; rw [getD_set_ne true (by decide)] at h7; have := f3 h h7; first | exact this | exact owns_below this hb | exact own_grown this hG HOWN (by decide)
      · first | exact flag_ne (by decide) f4 | exact fun _ => rfl
      · intro h h7; rw [getD_set_ne false (by decide)] at h; rw [getD_set_ne true (by decide)] at h7; have := f5 h h7; first | exact this | exact this.below hb | exact this.grown hG HOWN (by decide) | exact this.grown0 hG hgc0 (by decide)
      · intro h; rw [getD_set_ne false (by decide)] at h; have := f6 h; first | exact this | exact owns_below this hb | exact own_grown this hG HOWN (by decide)
      · intro h h7; rw [getD_set_ne false (by decide)] at h; rw [getD_set_ne true (by decide)] at h7; have := f7 h h7; first | exact this | exact this.below hb | exact this.grown hG HOWN (by decide)
      · first | exact flag_ne (by decide) f8 | exact fun _ => rfl
      · first | exact flag_ne (by decide) f9 | exact fun _ => rfl
      · intro h h7; rw [getD_set_ne false (by decide)] at h; rw [getD_set_ne true (by decide)] at h7; have := f10 h h7; first | exact this | exact owns_below this hb | exact own_grown this hG HOWN (by decide)
      · first | exact flag_ne (by decide) f11 | exact fun _ => rfl
      · intro h h7; rw [getD_set_ne false (by decide)] at h; rw [getD_set_ne true (by decide)] at h7; have := f12 h h7; first | exact this | exact this.below hb | exact this.grown hG HOWN (by decide) | exact this.grown0 hG hgc7 (by decide)
      · intro h; rw [getD_set_ne false (by decide)] at h; have := f13 h; first | exact this | exact owns_below this hb | exact own_grown this hG HOWN (by decide)
      · intro h h7; rw [getD_set_ne false (by decide)] at h; rw [getD_set_ne true (by decide)] at h7; have := f14 h h7; first | exact this | exact this.below hb | exact this.grown hG HOWN (by decide)
      · first | exact flag_ne (by decide) f15 | exact fun _ => rfl
      · first | exact flag_ne (by decide) f16 | exact fun _ => rfl
      · intro h h7; rw [getD_set_ne false (by decide)] at h; rw [getD_set_ne true (by decide)] at h7; have := f17 h h7; first | exact this | exact owns_below this hb | exact own_grown this hG HOWN (by decide)
      · first | exact flag_ne (by decide) f18 | exact fun _ => rfl
      · intro h h7; rw [getD_set_ne false (by decide)] at h; rw [getD_set_ne true (by decide)] at h7; have := f19 h h7; first | exact this | exact this.below hb | exact this.grown hG HOWN (by decide) | exact this.grown0 hG hgc14 (by decide)
      · intro h; rw [getD_set_ne false (by decide)] at h; have := f20 h; first | exact this | exact owns_below this hb | exact own_grown this hG HOWN (by decide)
      · intro h h7; rw [getD_set_ne false (by decide)] at h; rw [getD_set_ne true (by decide)] at h7; have := f21 h h7; first | exact this | exact this.below hb | exact this.grown hG HOWN (by decide)
      · intro _; first | rfl | (trace_state; fail)
      · first | exact flag_ne (by decide) f23 | exact fun _ => rfl
      · intro h _; rw [getD_set_ne false (by decide)] at h; exact (getD_no h0 (hC.step (j := 23) (k := 22) (hC.step (j := 24) (k := 23) h (by kernel_rfl)) (by kernel_rfl))).elim
      · first | exact flag_ne (by decide) f25 | exact fun _ => rfl
      · intro h h7; rw [getD_set_ne false (by decide)] at h; rw [getD_set_ne true (by decide)] at h7; have := f26 h h7; first | exact this | exact this.below hb | exact this.grown hG HOWN (by decide) | exact this.grown0 hG hgc21 (by decide)
      · intro h; rw [getD_set_ne false (by decide)] at h; exact (getD_no h0 (hC.step (j := 23) (k := 22) (hC.step (j := 24) (k := 23) (hC.step (j := 27) (k := 24) h (by kernel_rfl)) (by kernel_rfl)) (by kernel_rfl))).elim
      · intro h; rw [getD_set_ne false (by decide)] at h; exact (getD_no h0 (hC.step (j := 23) (k := 22) (hC.step (j := 24) (k := 23) (hC.step (j := 27) (k := 24) (hC.step (j := 28) (k := 27) h (by kernel_rfl)) (by kernel_rfl)) (by kernel_rfl)) (by kernel_rfl))).elim
      · intro h h7; rw [getD_set_ne false (by decide)] at h; rw [getD_set_ne true (by decide)] at h7; have := f29 h h7; obtain ⟨g, z1, z2, z3⟩ := this; exact (by first | exact ⟨g, z1, z2, z3⟩ | exact ⟨g, z1, z2, obj_below z3 hb⟩ | exact ⟨g, z1, z2, obj_grown z3 hG (own_ne_type HOWN z3 (by decide))⟩ | (trace_state; fail))
      · intro h; rw [getD_set_ne false (by decide)] at h; exact (getD_no h0 (hC.step (j := 30) (k := 22) h (by kernel_rfl))).elim
    · refine StepAt.mk (o := { dst := some 42, op := Op.load 25 (Operand.tmp 41), type := 25, pos := _, after := #[{ on := 22, ground := Ground.data }], guard := none }) (ws := [22]) rfl (by kernel_rfl) ?_
      intro L b v hC h0 hA h
      refine h.elim ?_; clear h; intro u7 h
      refine h.elim ?_; clear h; intro u19 h
      refine h.elim ?_; clear h; intro u20 h
      refine h.elim ?_; clear h; intro u21 h
      refine h.elim ?_; clear h; intro u22 h
      refine h.elim ?_; clear h; intro u23 h
      refine h.elim ?_; clear h; intro u24 h
      refine h.elim ?_; clear h; intro u25 h
      refine h.elim ?_; clear h; intro u26 h
      refine h.elim ?_; clear h; intro u27 h
      refine h.elim ?_; clear h; intro u28 h
      refine h.elim ?_; clear h; intro u29 h
      refine h.elim ?_; clear h; intro u30 h
      refine h.elim ?_; clear h; intro u31 h
      refine h.elim ?_; clear h; intro u32 h
      refine h.elim ?_; clear h; intro u33 h
      refine h.elim ?_; clear h; intro u34 h
      refine h.elim ?_; clear h; intro u35 h
      refine h.elim ?_; clear h; intro u36 h
      refine h.elim ?_; clear h; intro u37 h
      refine h.elim ?_; clear h; intro u38 h
      refine h.elim ?_; clear h; intro u39 h
      refine h.elim ?_; clear h; intro u40 h
      refine h.elim ?_; clear h; intro u41 h
      refine h.elim ?_; clear h; intro u42 h
      refine h.elim ?_; clear h; intro u43 h
      refine h.elim ?_; clear h; intro u44 h
      refine h.elim ?_; clear h; intro u45 h
      refine h.elim ?_; clear h; intro u46 h
      refine h.elim ?_; clear h; intro u47 h
      have hbb := h.1; replace h := h.2; subst hbb
      have hHeld := h.1; replace h := h.2
      have f0 := h.1; replace h := h.2
      have f1 := h.1; replace h := h.2
      have f2 := h.1; replace h := h.2
      have f3 := h.1; replace h := h.2
      have f4 := h.1; replace h := h.2
      have f5 := h.1; replace h := h.2
      have f6 := h.1; replace h := h.2
      have f7 := h.1; replace h := h.2
      have f8 := h.1; replace h := h.2
      have f9 := h.1; replace h := h.2
      have f10 := h.1; replace h := h.2
      have f11 := h.1; replace h := h.2
      have f12 := h.1; replace h := h.2
      have f13 := h.1; replace h := h.2
      have f14 := h.1; replace h := h.2
      have f15 := h.1; replace h := h.2
      have f16 := h.1; replace h := h.2
      have f17 := h.1; replace h := h.2
      have f18 := h.1; replace h := h.2
      have f19 := h.1; replace h := h.2
      have f20 := h.1; replace h := h.2
      have f21 := h.1; replace h := h.2
      have f22 := h.1; replace h := h.2
      have f23 := h.1; replace h := h.2
      have f24 := h.1; replace h := h.2
      have f25 := h.1; replace h := h.2
      have f26 := h.1; replace h := h.2
      have f27 := h.1; replace h := h.2
      have f28 := h.1; replace h := h.2
      have f29 := h.1; replace h := h.2
      have f30 := h; clear h
      intro K hK
      have g22 := f22 (hA 22 (by simp))
      obtain rfl := g22
      rw [if_pos (by kernel_rfl)]
      have q0 := cellB hHeld C0 hgp
      have q1 := cellB hHeld C1 hgp
      have q2 := cellB hHeld C2 hgp
      have q3 := cellB hHeld C3 hgp
      go_simp
      try simp only [Act.put, List.setIfInBounds_toArray, List.set_cons_zero, List.set_cons_succ]
      refine hK.out _ _ ⟨_, _, _, _, _, _, _, _, _, _, _, _, _, _, _, _, _, _, _, _, _, _, _, _, _, _, _, _, _, _, rfl, ?_, ?_, ?_, ?_, ?_, ?_, ?_, ?_, ?_, ?_, ?_, ?_, ?_, ?_, ?_, ?_, ?_, ?_, ?_, ?_, ?_, ?_, ?_, ?_, ?_, ?_, ?_, ?_, ?_, ?_, ?_, ?_⟩
      · first | exact hHeld | exact hHeld.trans (hb.mono hHeld.size) | (trace_state; fail)
      · intro h h7; rw [getD_set_ne false (by decide)] at h; rw [getD_set_ne true (by decide)] at h7; have := f0 h h7; first | exact this | exact this.below hb | exact this.grown hG HOWN (by decide)
      · first | exact flag_ne (by decide) f1 | exact fun _ => rfl
      · first | exact flag_ne (by decide) f2 | exact fun _ => rfl
      · intro h h7; rw [getD_set_ne false (by decide)] at h; rw [getD_set_ne true (by decide)] at h7; have := f3 h h7; first | exact this | exact owns_below this hb | exact own_grown this hG HOWN (by decide)
      · first | exact flag_ne (by decide) f4 | exact fun _ => rfl
      · intro h h7; rw [getD_set_ne false (by decide)] at h; rw [getD_set_ne true (by decide)] at h7; have := f5 h h7; first | exact this | exact this.below hb | exact this.grown hG HOWN (by decide) | exact this.grown0 hG hgc0 (by decide)
      · intro h; rw [getD_set_ne false (by decide)] at h; have := f6 h; first | exact this | exact owns_below this hb | exact own_grown this hG HOWN (by decide)
      · intro h h7; rw [getD_set_ne false (by decide)] at h; rw [getD_set_ne true (by decide)] at h7; have := f7 h h7; first | exact this | exact this.below hb | exact this.grown hG HOWN (by decide)
      · first | exact flag_ne (by decide) f8 | exact fun _ => rfl
      · first | exact flag_ne (by decide) f9 | exact fun _ => rfl
      · intro h h7; rw [getD_set_ne false (by decide)] at h; rw [getD_set_ne true (by decide)] at h7; have := f10 h h7; first | exact this | exact owns_below this hb | exact own_grown this hG HOWN (by decide)
      · first | exact flag_ne (by decide) f11 | exact fun _ => rfl
      · intro h h7; rw [getD_set_ne false (by decide)] at h; rw [getD_set_ne true (by decide)] at h7; have := f12 h h7; first | exact this | exact this.below hb | exact this.grown hG HOWN (by decide) | exact this.grown0 hG hgc7 (by decide)
      · intro h; rw [getD_set_ne false (by decide)] at h; have := f13 h; first | exact this | exact owns_below this hb | exact own_grown this hG HOWN (by decide)
      · intro h h7; rw [getD_set_ne false (by decide)] at h; rw [getD_set_ne true (by decide)] at h7; have := f14 h h7; first | exact this | exact this.below hb | exact this.grown hG HOWN (by decide)
      · first | exact flag_ne (by decide) f15 | exact fun _ => rfl
      · first | exact flag_ne (by decide) f16 | exact fun _ => rfl
      · intro h h7; rw [getD_set_ne false (by decide)] at h; rw [getD_set_ne true (by decide)] at h7; have := f17 h h7; first | exact this | exact owns_below this hb | exact own_grown this hG HOWN (by decide)
      · first | exact flag_ne (by decide) f18 | exact fun _ => rfl
      · intro h h7; rw [getD_set_ne false (by decide)] at h; rw [getD_set_ne true (by decide)] at h7; have := f19 h h7; first | exact this | exact this.below hb | exact this.grown hG HOWN (by decide) | exact this.grown0 hG hgc14 (by decide)
      · intro h; rw [getD_set_ne false (by decide)] at h; have := f20 h; first | exact this | exact owns_below this hb | exact own_grown this hG HOWN (by decide)
      · intro h h7; rw [getD_set_ne false (by decide)] at h; rw [getD_set_ne true (by decide)] at h7; have := f21 h h7; first | exact this | exact this.below hb | exact this.grown hG HOWN (by decide)
      · first | exact flag_ne (by decide) f22 | exact fun _ => rfl
      · intro _; first | rfl | (trace_state; fail)
      · intro h _; rw [getD_set_ne false (by decide)] at h; exact (getD_no h0 (hC.step (j := 24) (k := 23) h (by kernel_rfl))).elim
      · first | exact flag_ne (by decide) f25 | exact fun _ => rfl
      · intro h h7; rw [getD_set_ne false (by decide)] at h; rw [getD_set_ne true (by decide)] at h7; have := f26 h h7; first | exact this | exact this.below hb | exact this.grown hG HOWN (by decide) | exact this.grown0 hG hgc21 (by decide)
      · intro h; rw [getD_set_ne false (by decide)] at h; exact (getD_no h0 (hC.step (j := 24) (k := 23) (hC.step (j := 27) (k := 24) h (by kernel_rfl)) (by kernel_rfl))).elim
      · intro h; rw [getD_set_ne false (by decide)] at h; exact (getD_no h0 (hC.step (j := 24) (k := 23) (hC.step (j := 27) (k := 24) (hC.step (j := 28) (k := 27) h (by kernel_rfl)) (by kernel_rfl)) (by kernel_rfl))).elim
      · intro h h7; rw [getD_set_ne false (by decide)] at h; rw [getD_set_ne true (by decide)] at h7; have := f29 h h7; obtain ⟨g, z1, z2, z3⟩ := this; exact (by first | exact ⟨g, z1, z2, z3⟩ | exact ⟨g, z1, z2, obj_below z3 hb⟩ | exact ⟨g, z1, z2, obj_grown z3 hG (own_ne_type HOWN z3 (by decide))⟩ | (trace_state; fail))
      · intro h; rw [getD_set_ne false (by decide)] at h; exact (getD_no h0 (hC.step (j := 30) (k := 23) h (by kernel_rfl))).elim
    · refine StepAt.mk (o := { dst := some 43, op := Op.call { callee := Callee.builtin Builtin.append, args := #[Operand.tmp 40, Operand.tmp 42], argTypes := #[25, 25] }, type := 25, pos := _, after := #[{ on := 21, ground := Ground.data }, { on := 23, ground := Ground.data }, { on := 20, ground := Ground.chain }], guard := none }) (ws := [21, 23, 20]) rfl (by kernel_rfl) ?_
      intro L b v hC h0 hA h
      refine h.elim ?_; clear h; intro u7 h
      refine h.elim ?_; clear h; intro u19 h
      refine h.elim ?_; clear h; intro u20 h
      refine h.elim ?_; clear h; intro u21 h
      refine h.elim ?_; clear h; intro u22 h
      refine h.elim ?_; clear h; intro u23 h
      refine h.elim ?_; clear h; intro u24 h
      refine h.elim ?_; clear h; intro u25 h
      refine h.elim ?_; clear h; intro u26 h
      refine h.elim ?_; clear h; intro u27 h
      refine h.elim ?_; clear h; intro u28 h
      refine h.elim ?_; clear h; intro u29 h
      refine h.elim ?_; clear h; intro u30 h
      refine h.elim ?_; clear h; intro u31 h
      refine h.elim ?_; clear h; intro u32 h
      refine h.elim ?_; clear h; intro u33 h
      refine h.elim ?_; clear h; intro u34 h
      refine h.elim ?_; clear h; intro u35 h
      refine h.elim ?_; clear h; intro u36 h
      refine h.elim ?_; clear h; intro u37 h
      refine h.elim ?_; clear h; intro u38 h
      refine h.elim ?_; clear h; intro u39 h
      refine h.elim ?_; clear h; intro u40 h
      refine h.elim ?_; clear h; intro u41 h
      refine h.elim ?_; clear h; intro u42 h
      refine h.elim ?_; clear h; intro u43 h
      refine h.elim ?_; clear h; intro u44 h
      refine h.elim ?_; clear h; intro u45 h
      refine h.elim ?_; clear h; intro u46 h
      refine h.elim ?_; clear h; intro u47 h
      have hbb := h.1; replace h := h.2; subst hbb
      have hHeld := h.1; replace h := h.2
      have f0 := h.1; replace h := h.2
      have f1 := h.1; replace h := h.2
      have f2 := h.1; replace h := h.2
      have f3 := h.1; replace h := h.2
      have f4 := h.1; replace h := h.2
      have f5 := h.1; replace h := h.2
      have f6 := h.1; replace h := h.2
      have f7 := h.1; replace h := h.2
      have f8 := h.1; replace h := h.2
      have f9 := h.1; replace h := h.2
      have f10 := h.1; replace h := h.2
      have f11 := h.1; replace h := h.2
      have f12 := h.1; replace h := h.2
      have f13 := h.1; replace h := h.2
      have f14 := h.1; replace h := h.2
      have f15 := h.1; replace h := h.2
      have f16 := h.1; replace h := h.2
      have f17 := h.1; replace h := h.2
      have f18 := h.1; replace h := h.2
      have f19 := h.1; replace h := h.2
      have f20 := h.1; replace h := h.2
      have f21 := h.1; replace h := h.2
      have f22 := h.1; replace h := h.2
      have f23 := h.1; replace h := h.2
      have f24 := h.1; replace h := h.2
      have f25 := h.1; replace h := h.2
      have f26 := h.1; replace h := h.2
      have f27 := h.1; replace h := h.2
      have f28 := h.1; replace h := h.2
      have f29 := h.1; replace h := h.2
      have f30 := h; clear h
      intro K hK
      have g21 := f21 (hA 21 (by simp)) h0
      obtain ⟨gg21, rfl, hgB21, hgc21⟩ := g21
      have g23 := f23 (hA 23 (by simp))
      obtain rfl := g23
      have g20 := f20 (hA 20 (by simp))
      rw [if_pos (by kernel_rfl)]
      have q0 := cellB hHeld C0 hgp
      have q1 := cellB hHeld C1 hgp
      have q2 := cellB hHeld C2 hgp
      have q3 := cellB hHeld C3 hgp
      have HOWN := owns_nil_at (q := 5) hgc21 hgB21; refine wp_append_src (.tmp 40) (.tmp 42) 25 rfl W0.heap.size 46 i4 (.agg #[.string ⟨#[]⟩, .slice none 0 0, .int .i64 0, .slice none 0 0, .slice none 0 0]) 5 96 Tryd.underlying25 hi4 hz4 hs4 hb4 rfl (by omega) _ 0 [] rfl HOWN _ n4 X4 rfl (S4.out _ hHeld) l4 o4.out (by unfold maxLen; omega) (by omega) hHeld.size ?_; intro v' w' HO hG
      try simp only [Act.put, List.setIfInBounds_toArray, List.set_cons_zero, List.set_cons_succ]
      refine hK.out _ _ ⟨_, _, _, _, _, _, _, _, _, _, _, _, _, _, _, _, _, _, _, _, _, _, _, _, _, _, _, _, _, _, rfl, ?_, ?_, ?_, ?_, ?_, ?_, ?_, ?_, ?_, ?_, ?_, ?_, ?_, ?_, ?_, ?_, ?_, ?_, ?_, ?_, ?_, ?_, ?_, ?_, ?_, ?_, ?_, ?_, ?_, ?_, ?_, ?_⟩
      · exact grown3 hHeld hHeld.size HOWN hG
      · intro _ h7; rw [getD_set_ne true (by decide)] at h7; exact (getD_no h7 (hC.step (j := 6) (k := 3) (hC.step (j := 10) (k := 6) (hC.step (j := 13) (k := 10) (hC.step (j := 17) (k := 13) (hC.step (j := 20) (k := 17) (hA 20 (by simp)) (by kernel_rfl)) (by kernel_rfl)) (by kernel_rfl)) (by kernel_rfl)) (by kernel_rfl))).elim
      · first | exact flag_ne (by decide) f1 | exact fun _ => rfl
      · first | exact flag_ne (by decide) f2 | exact fun _ => rfl
      · intro _ h7; rw [getD_set_ne true (by decide)] at h7; exact (getD_no h7 (hC.step (j := 10) (k := 6) (hC.step (j := 13) (k := 10) (hC.step (j := 17) (k := 13) (hC.step (j := 20) (k := 17) (hA 20 (by simp)) (by kernel_rfl)) (by kernel_rfl)) (by kernel_rfl)) (by kernel_rfl))).elim
      · first | exact flag_ne (by decide) f4 | exact fun _ => rfl
      · intro _ h7; rw [getD_set_ne true (by decide)] at h7; exact (getD_no h7 (hC.step (j := 10) (k := 6) (hC.step (j := 13) (k := 10) (hC.step (j := 17) (k := 13) (hC.step (j := 20) (k := 17) (hA 20 (by simp)) (by kernel_rfl)) (by kernel_rfl)) (by kernel_rfl)) (by kernel_rfl))).elim
      · intro h; rw [getD_set_ne false (by decide)] at h; have := f6 h; first | exact this | exact owns_below this hb | exact own_grown this hG HOWN (by decide)
      · intro _ h7; rw [getD_set_ne true (by decide)] at h7; exact (getD_no h7 (hC.step (j := 13) (k := 10) (hC.step (j := 17) (k := 13) (hC.step (j := 20) (k := 17) (hA 20 (by simp)) (by kernel_rfl)) (by kernel_rfl)) (by kernel_rfl))).elim
      · first | exact flag_ne (by decide) f8 | exact fun _ => rfl
      · first | exact flag_ne (by decide) f9 | exact fun _ => rfl
      · intro _ h7; rw [getD_set_ne true (by decide)] at h7; exact (getD_no h7 (hC.step (j := 17) (k := 13) (hC.step (j := 20) (k := 17) (hA 20 (by simp)) (by kernel_rfl)) (by kernel_rfl))).elim
      · first | exact flag_ne (by decide) f11 | exact fun _ => rfl
      · intro _ h7; rw [getD_set_ne true (by decide)] at h7; exact (getD_no h7 (hC.step (j := 17) (k := 13) (hC.step (j := 20) (k := 17) (hA 20 (by simp)) (by kernel_rfl)) (by kernel_rfl))).elim
      · intro h; rw [getD_set_ne false (by decide)] at h; have := f13 h; first | exact this | exact owns_below this hb | exact own_grown this hG HOWN (by decide)
      · intro _ h7; rw [getD_set_ne true (by decide)] at h7; exact (getD_no h7 (hC.step (j := 20) (k := 17) (hA 20 (by simp)) (by kernel_rfl))).elim
      · first | exact flag_ne (by decide) f15 | exact fun _ => rfl
      · first | exact flag_ne (by decide) f16 | exact fun _ => rfl
      · intro _ h7; rw [getD_set_ne true (by decide)] at h7; exact (getD_no h7 (hA 20 (by simp))).elim
      · first | exact flag_ne (by decide) f18 | exact fun _ => rfl
      · intro _ h7; rw [getD_set_ne true (by decide)] at h7; exact (getD_no h7 (hA 20 (by simp))).elim
      · intro h; rw [getD_set_ne false (by decide)] at h; have := f20 h; first | exact this | exact owns_below this hb | exact own_grown this hG HOWN (by decide)
      · intro _ h7; rw [getD_set_self] at h7; cases h7
      · first | exact flag_ne (by decide) f22 | exact fun _ => rfl
      · first | exact flag_ne (by decide) f23 | exact fun _ => rfl
      · intro _ _; first | (exact own_eq2 HO (by omega) (by simp)) | (trace_state; fail)
      · first | exact flag_ne (by decide) f25 | exact fun _ => rfl
      · intro h h7; rw [getD_set_ne false (by decide)] at h; rw [getD_set_ne true (by decide)] at h7; have := f26 h h7; first | exact this | exact this.below hb | exact this.grown hG HOWN (by decide) | exact this.grown0 hG hgc21 (by decide)
      · intro h; rw [getD_set_ne false (by decide)] at h; exact (getD_no h0 (hC.step (j := 27) (k := 24) h (by kernel_rfl))).elim
      · intro h; rw [getD_set_ne false (by decide)] at h; exact (getD_no h0 (hC.step (j := 27) (k := 24) (hC.step (j := 28) (k := 27) h (by kernel_rfl)) (by kernel_rfl))).elim
      · intro h h7; rw [getD_set_ne false (by decide)] at h; rw [getD_set_ne true (by decide)] at h7; have := f29 h h7; obtain ⟨g, z1, z2, z3⟩ := this; exact (by first | exact ⟨g, z1, z2, z3⟩ | exact ⟨g, z1, z2, obj_below z3 hb⟩ | exact ⟨g, z1, z2, obj_grown z3 hG (own_ne_type HOWN z3 (by decide))⟩ | (trace_state; fail))
      · intro h; rw [getD_set_ne false (by decide)] at h; exact (getD_no h0 (hC.step (j := 30) (k := 24) h (by kernel_rfl))).elim
    · refine StepAt.mk (o := { dst := some 44, op := Op.build 46 #[], type := 46, pos := _, after := #[], guard := none }) (ws := []) rfl (by kernel_rfl) ?_
      intro L b v hC h0 hA h
      refine h.elim ?_; clear h; intro u7 h
      refine h.elim ?_; clear h; intro u19 h
      refine h.elim ?_; clear h; intro u20 h
      refine h.elim ?_; clear h; intro u21 h
      refine h.elim ?_; clear h; intro u22 h
      refine h.elim ?_; clear h; intro u23 h
      refine h.elim ?_; clear h; intro u24 h
      refine h.elim ?_; clear h; intro u25 h
      refine h.elim ?_; clear h; intro u26 h
      refine h.elim ?_; clear h; intro u27 h
      refine h.elim ?_; clear h; intro u28 h
      refine h.elim ?_; clear h; intro u29 h
      refine h.elim ?_; clear h; intro u30 h
      refine h.elim ?_; clear h; intro u31 h
      refine h.elim ?_; clear h; intro u32 h
      refine h.elim ?_; clear h; intro u33 h
      refine h.elim ?_; clear h; intro u34 h
      refine h.elim ?_; clear h; intro u35 h
      refine h.elim ?_; clear h; intro u36 h
      refine h.elim ?_; clear h; intro u37 h
      refine h.elim ?_; clear h; intro u38 h
      refine h.elim ?_; clear h; intro u39 h
      refine h.elim ?_; clear h; intro u40 h
      refine h.elim ?_; clear h; intro u41 h
      refine h.elim ?_; clear h; intro u42 h
      refine h.elim ?_; clear h; intro u43 h
      refine h.elim ?_; clear h; intro u44 h
      refine h.elim ?_; clear h; intro u45 h
      refine h.elim ?_; clear h; intro u46 h
      refine h.elim ?_; clear h; intro u47 h
      have hbb := h.1; replace h := h.2; subst hbb
      have hHeld := h.1; replace h := h.2
      have f0 := h.1; replace h := h.2
      have f1 := h.1; replace h := h.2
      have f2 := h.1; replace h := h.2
      have f3 := h.1; replace h := h.2
      have f4 := h.1; replace h := h.2
      have f5 := h.1; replace h := h.2
      have f6 := h.1; replace h := h.2
      have f7 := h.1; replace h := h.2
      have f8 := h.1; replace h := h.2
      have f9 := h.1; replace h := h.2
      have f10 := h.1; replace h := h.2
      have f11 := h.1; replace h := h.2
      have f12 := h.1; replace h := h.2
      have f13 := h.1; replace h := h.2
      have f14 := h.1; replace h := h.2
      have f15 := h.1; replace h := h.2
      have f16 := h.1; replace h := h.2
      have f17 := h.1; replace h := h.2
      have f18 := h.1; replace h := h.2
      have f19 := h.1; replace h := h.2
      have f20 := h.1; replace h := h.2
      have f21 := h.1; replace h := h.2
      have f22 := h.1; replace h := h.2
      have f23 := h.1; replace h := h.2
      have f24 := h.1; replace h := h.2
      have f25 := h.1; replace h := h.2
      have f26 := h.1; replace h := h.2
      have f27 := h.1; replace h := h.2
      have f28 := h.1; replace h := h.2
      have f29 := h.1; replace h := h.2
      have f30 := h; clear h
      intro K hK
      rw [if_pos (by kernel_rfl)]
      have q0 := cellB hHeld C0 hgp
      have q1 := cellB hHeld C1 hgp
      have q2 := cellB hHeld C2 hgp
      have q3 := cellB hHeld C3 hgp
      go_simp
      try simp only [Act.put, List.setIfInBounds_toArray, List.set_cons_zero, List.set_cons_succ]
      refine hK.out _ _ ⟨_, _, _, _, _, _, _, _, _, _, _, _, _, _, _, _, _, _, _, _, _, _, _, _, _, _, _, _, _, _, rfl, ?_, ?_, ?_, ?_, ?_, ?_, ?_, ?_, ?_, ?_, ?_, ?_, ?_, ?_, ?_, ?_, ?_, ?_, ?_, ?_, ?_, ?_, ?_, ?_, ?_, ?_, ?_, ?_, ?_, ?_, ?_, ?_⟩
      · first | exact hHeld | exact hHeld.trans (hb.mono hHeld.size) | (trace_state; fail)
      · intro h h7; rw [getD_set_ne false (by decide)] at h; rw [getD_set_ne true (by decide)] at h7; have := f0 h h7; first | exact this | exact this.below hb | exact this.grown hG HOWN (by decide)
      · first | exact flag_ne (by decide) f1 | exact fun _ => rfl
      · first | exact flag_ne (by decide) f2 | exact fun _ => rfl
      · intro h h7; rw [getD_set_ne false (by decide)] at h; rw [getD_set_ne true (by decide)] at h7; have := f3 h h7; first | exact this | exact owns_below this hb | exact own_grown this hG HOWN (by decide)
      · first | exact flag_ne (by decide) f4 | exact fun _ => rfl
      · intro h h7; rw [getD_set_ne false (by decide)] at h; rw [getD_set_ne true (by decide)] at h7; have := f5 h h7; first | exact this | exact this.below hb | exact this.grown hG HOWN (by decide) | exact this.grown0 hG hgc0 (by decide)
      · intro h; rw [getD_set_ne false (by decide)] at h; have := f6 h; first | exact this | exact owns_below this hb | exact own_grown this hG HOWN (by decide)
      · intro h h7; rw [getD_set_ne false (by decide)] at h; rw [getD_set_ne true (by decide)] at h7; have := f7 h h7; first | exact this | exact this.below hb | exact this.grown hG HOWN (by decide)
      · first | exact flag_ne (by decide) f8 | exact fun _ => rfl
      · first | exact flag_ne (by decide) f9 | exact fun _ => rfl
      · intro h h7; rw [getD_set_ne false (by decide)] at h; rw [getD_set_ne true (by decide)] at h7; have := f10 h h7; first | exact this | exact owns_below this hb | exact own_grown this hG HOWN (by decide)
      · first | exact flag_ne (by decide) f11 | exact fun _ => rfl
      · intro h h7; rw [getD_set_ne false (by decide)] at h; rw [getD_set_ne true (by decide)] at h7; have := f12 h h7; first | exact this | exact this.below hb | exact this.grown hG HOWN (by decide) | exact this.grown0 hG hgc7 (by decide)
      · intro h; rw [getD_set_ne false (by decide)] at h; have := f13 h; first | exact this | exact owns_below this hb | exact own_grown this hG HOWN (by decide)
      · intro h h7; rw [getD_set_ne false (by decide)] at h; rw [getD_set_ne true (by decide)] at h7; have := f14 h h7; first | exact this | exact this.below hb | exact this.grown hG HOWN (by decide)
      · first | exact flag_ne (by decide) f15 | exact fun _ => rfl
      · first | exact flag_ne (by decide) f16 | exact fun _ => rfl
      · intro h h7; rw [getD_set_ne false (by decide)] at h; rw [getD_set_ne true (by decide)] at h7; have := f17 h h7; first | exact this | exact owns_below this hb | exact own_grown this hG HOWN (by decide)
      · first | exact flag_ne (by decide) f18 | exact fun _ => rfl
      · intro h h7; rw [getD_set_ne false (by decide)] at h; rw [getD_set_ne true (by decide)] at h7; have := f19 h h7; first | exact this | exact this.below hb | exact this.grown hG HOWN (by decide) | exact this.grown0 hG hgc14 (by decide)
      · intro h; rw [getD_set_ne false (by decide)] at h; have := f20 h; first | exact this | exact owns_below this hb | exact own_grown this hG HOWN (by decide)
      · intro h h7; rw [getD_set_ne false (by decide)] at h; rw [getD_set_ne true (by decide)] at h7; have := f21 h h7; first | exact this | exact this.below hb | exact this.grown hG HOWN (by decide)
      · first | exact flag_ne (by decide) f22 | exact fun _ => rfl
      · first | exact flag_ne (by decide) f23 | exact fun _ => rfl
      · intro h h7; rw [getD_set_ne false (by decide)] at h; rw [getD_set_ne true (by decide)] at h7; have := f24 h h7; first | exact this | exact owns_below this hb | exact own_grown this hG HOWN (by decide)
      · intro _; first | rfl | (trace_state; fail)
      · intro h _; rw [getD_set_ne false (by decide)] at h; exact (getD_no h0 (hC.step (j := 26) (k := 25) h (by kernel_rfl))).elim
      · intro h; rw [getD_set_ne false (by decide)] at h; exact (getD_no h0 (hC.step (j := 26) (k := 25) (hC.step (j := 27) (k := 26) h (by kernel_rfl)) (by kernel_rfl))).elim
      · intro h; rw [getD_set_ne false (by decide)] at h; exact (getD_no h0 (hC.step (j := 26) (k := 25) (hC.step (j := 27) (k := 26) (hC.step (j := 28) (k := 27) h (by kernel_rfl)) (by kernel_rfl)) (by kernel_rfl))).elim
      · intro h h7; rw [getD_set_ne false (by decide)] at h; rw [getD_set_ne true (by decide)] at h7; have := f29 h h7; obtain ⟨g, z1, z2, z3⟩ := this; exact (by first | exact ⟨g, z1, z2, z3⟩ | exact ⟨g, z1, z2, obj_below z3 hb⟩ | exact ⟨g, z1, z2, obj_grown z3 hG (own_ne_type HOWN z3 (by decide))⟩ | (trace_state; fail))
      · intro h; rw [getD_set_ne false (by decide)] at h; exact (getD_no h0 (hC.step (j := 30) (k := 25) h (by kernel_rfl))).elim
    · refine StepAt.mk (o := { dst := some 45, op := Op.buildSlice 25 1 #[(0, Operand.tmp 44)], type := 25, pos := _, after := #[{ on := 25, ground := Ground.data }], guard := none }) (ws := [25]) rfl (by kernel_rfl) ?_
      intro L b v hC h0 hA h
      refine h.elim ?_; clear h; intro u7 h
      refine h.elim ?_; clear h; intro u19 h
      refine h.elim ?_; clear h; intro u20 h
      refine h.elim ?_; clear h; intro u21 h
      refine h.elim ?_; clear h; intro u22 h
      refine h.elim ?_; clear h; intro u23 h
      refine h.elim ?_; clear h; intro u24 h
      refine h.elim ?_; clear h; intro u25 h
      refine h.elim ?_; clear h; intro u26 h
      refine h.elim ?_; clear h; intro u27 h
      refine h.elim ?_; clear h; intro u28 h
      refine h.elim ?_; clear h; intro u29 h
      refine h.elim ?_; clear h; intro u30 h
      refine h.elim ?_; clear h; intro u31 h
      refine h.elim ?_; clear h; intro u32 h
      refine h.elim ?_; clear h; intro u33 h
      refine h.elim ?_; clear h; intro u34 h
      refine h.elim ?_; clear h; intro u35 h
      refine h.elim ?_; clear h; intro u36 h
      refine h.elim ?_; clear h; intro u37 h
      refine h.elim ?_; clear h; intro u38 h
      refine h.elim ?_; clear h; intro u39 h
      refine h.elim ?_; clear h; intro u40 h
      refine h.elim ?_; clear h; intro u41 h
      refine h.elim ?_; clear h; intro u42 h
      refine h.elim ?_; clear h; intro u43 h
      refine h.elim ?_; clear h; intro u44 h
      refine h.elim ?_; clear h; intro u45 h
      refine h.elim ?_; clear h; intro u46 h
      refine h.elim ?_; clear h; intro u47 h
      have hbb := h.1; replace h := h.2; subst hbb
      have hHeld := h.1; replace h := h.2
      have f0 := h.1; replace h := h.2
      have f1 := h.1; replace h := h.2
      have f2 := h.1; replace h := h.2
      have f3 := h.1; replace h := h.2
      have f4 := h.1; replace h := h.2
      have f5 := h.1; replace h := h.2
      have f6 := h.1; replace h := h.2
      have f7 := h.1; replace h := h.2
      have f8 := h.1; replace h := h.2
      have f9 := h.1; replace h := h.2
      have f10 := h.1; replace h := h.2
      have f11 := h.1; replace h := h.2
      have f12 := h.1; replace h := h.2
      have f13 := h.1; replace h := h.2
      have f14 := h.1; replace h := h.2
      have f15 := h.1; replace h := h.2
      have f16 := h.1; replace h := h.2
      have f17 := h.1; replace h := h.2
      have f18 := h.1; replace h := h.2
      have f19 := h.1; replace h := h.2
      have f20 := h.1; replace h := h.2
      have f21 := h.1; replace h := h.2
      have f22 := h.1; replace h := h.2
      have f23 := h.1; replace h := h.2
      have f24 := h.1; replace h := h.2
      have f25 := h.1; replace h := h.2
      have f26 := h.1; replace h := h.2
      have f27 := h.1; replace h := h.2
      have f28 := h.1; replace h := h.2
      have f29 := h.1; replace h := h.2
      have f30 := h; clear h
      intro K hK
      have g25 := f25 (hA 25 (by simp))
      obtain rfl := g25
      rw [if_pos (by kernel_rfl)]
      have q0 := cellB hHeld C0 hgp
      have q1 := cellB hHeld C1 hgp
      have q2 := cellB hHeld C2 hgp
      have q3 := cellB hHeld C3 hgp
      go_simp
      try simp only [Act.put, List.setIfInBounds_toArray, List.set_cons_zero, List.set_cons_succ]
      have hb : Below v.heap.size v (v.alloc (.cells #[.string ⟨#[]⟩, .slice none 0 0, .int .i64 0, .slice none 0 0, .slice none 0 0] 46)) := (Below.refl _ _).alloc (Nat.le_refl _) _
      refine hK.out _ _ ⟨_, _, _, _, _, _, _, _, _, _, _, _, _, _, _, _, _, _, _, _, _, _, _, _, _, _, _, _, _, _, rfl, ?_, ?_, ?_, ?_, ?_, ?_, ?_, ?_, ?_, ?_, ?_, ?_, ?_, ?_, ?_, ?_, ?_, ?_, ?_, ?_, ?_, ?_, ?_, ?_, ?_, ?_, ?_, ?_, ?_, ?_, ?_, ?_⟩
      · exact hHeld.alloc hHeld.size _
      · intro h h7; rw [getD_set_ne false (by decide)] at h; rw [getD_set_ne true (by decide)] at h7; have := f0 h h7; first | exact this | exact this.below hb | exact this.grown hG HOWN (by decide)
      · first | exact flag_ne (by decide) f1 | exact fun _ => rfl
      · first | exact flag_ne (by decide) f2 | exact fun _ => rfl
      · intro h h7; rw [getD_set_ne false (by decide)] at h; rw [getD_set_ne true (by decide)] at h7; have := f3 h h7; first | exact this | exact owns_below this hb | exact own_grown this hG HOWN (by decide)
      · first | exact flag_ne (by decide) f4 | exact fun _ => rfl
      · intro h h7; rw [getD_set_ne false (by decide)] at h; rw [getD_set_ne true (by decide)] at h7; have := f5 h h7; first | exact this | exact this.below hb | exact this.grown hG HOWN (by decide) | exact this.grown0 hG hgc0 (by decide)
      · intro h; rw [getD_set_ne false (by decide)] at h; have := f6 h; first | exact this | exact owns_below this hb | exact own_grown this hG HOWN (by decide)
      · intro h h7; rw [getD_set_ne false (by decide)] at h; rw [getD_set_ne true (by decide)] at h7; have := f7 h h7; first | exact this | exact this.below hb | exact this.grown hG HOWN (by decide)
      · first | exact flag_ne (by decide) f8 | exact fun _ => rfl
      · first | exact flag_ne (by decide) f9 | exact fun _ => rfl
      · intro h h7; rw [getD_set_ne false (by decide)] at h; rw [getD_set_ne true (by decide)] at h7; have := f10 h h7; first | exact this | exact owns_below this hb | exact own_grown this hG HOWN (by decide)
      · first | exact flag_ne (by decide) f11 | exact fun _ => rfl
      · intro h h7; rw [getD_set_ne false (by decide)] at h; rw [getD_set_ne true (by decide)] at h7; have := f12 h h7; first | exact this | exact this.below hb | exact this.grown hG HOWN (by decide) | exact this.grown0 hG hgc7 (by decide)
      · intro h; rw [getD_set_ne false (by decide)] at h; have := f13 h; first | exact this | exact owns_below this hb | exact own_grown this hG HOWN (by decide)
      · intro h h7; rw [getD_set_ne false (by decide)] at h; rw [getD_set_ne true (by decide)] at h7; have := f14 h h7; first | exact this | exact this.below hb | exact this.grown hG HOWN (by decide)
      · first | exact flag_ne (by decide) f15 | exact fun _ => rfl
      · first | exact flag_ne (by decide) f16 | exact fun _ => rfl
      · intro h h7; rw [getD_set_ne false (by decide)] at h; rw [getD_set_ne true (by decide)] at h7; have := f17 h h7; first | exact this | exact owns_below this hb | exact own_grown this hG HOWN (by decide)
      · first | exact flag_ne (by decide) f18 | exact fun _ => rfl
      · intro h h7; rw [getD_set_ne false (by decide)] at h; rw [getD_set_ne true (by decide)] at h7; have := f19 h h7; first | exact this | exact this.below hb | exact this.grown hG HOWN (by decide) | exact this.grown0 hG hgc14 (by decide)
      · intro h; rw [getD_set_ne false (by decide)] at h; have := f20 h; first | exact this | exact owns_below this hb | exact own_grown this hG HOWN (by decide)
      · intro h h7; rw [getD_set_ne false (by decide)] at h; rw [getD_set_ne true (by decide)] at h7; have := f21 h h7; first | exact this | exact this.below hb | exact this.grown hG HOWN (by decide)
      · first | exact flag_ne (by decide) f22 | exact fun _ => rfl
      · first | exact flag_ne (by decide) f23 | exact fun _ => rfl
      · intro h h7; rw [getD_set_ne false (by decide)] at h; rw [getD_set_ne true (by decide)] at h7; have := f24 h h7; first | exact this | exact owns_below this hb | exact own_grown this hG HOWN (by decide)
      · first | exact flag_ne (by decide) f25 | exact fun _ => rfl
      · intro _ _; first | (exact ⟨_, rfl, heap_new v _⟩) | (trace_state; fail)
      · intro h; rw [getD_set_ne false (by decide)] at h; exact (getD_no h0 (hC.step (j := 27) (k := 26) h (by kernel_rfl))).elim
      · intro h; rw [getD_set_ne false (by decide)] at h; exact (getD_no h0 (hC.step (j := 27) (k := 26) (hC.step (j := 28) (k := 27) h (by kernel_rfl)) (by kernel_rfl))).elim
      · intro h h7; rw [getD_set_ne false (by decide)] at h; rw [getD_set_ne true (by decide)] at h7; have := f29 h h7; obtain ⟨g, z1, z2, z3⟩ := this; exact (by first | exact ⟨g, z1, z2, z3⟩ | exact ⟨g, z1, z2, obj_below z3 hb⟩ | exact ⟨g, z1, z2, obj_grown z3 hG (own_ne_type HOWN z3 (by decide))⟩ | (trace_state; fail))
      · intro h; rw [getD_set_ne false (by decide)] at h; exact (getD_no h0 (hC.step (j := 30) (k := 26) h (by kernel_rfl))).elim
    · refine StepAt.mk (o := { dst := some 46, op := Op.call { callee := Callee.builtin Builtin.append, args := #[Operand.tmp 43, Operand.tmp 45], argTypes := #[25, 25] }, type := 25, pos := _, after := #[{ on := 24, ground := Ground.data }, { on := 26, ground := Ground.data }, { on := 24, ground := Ground.chain }], guard := none }) (ws := [24, 26, 24]) rfl (by kernel_rfl) ?_
      intro L b v hC h0 hA h
      refine h.elim ?_; clear h; intro u7 h
      refine h.elim ?_; clear h; intro u19 h
      refine h.elim ?_; clear h; intro u20 h
      refine h.elim ?_; clear h; intro u21 h
      refine h.elim ?_; clear h; intro u22 h
      refine h.elim ?_; clear h; intro u23 h
      refine h.elim ?_; clear h; intro u24 h
      refine h.elim ?_; clear h; intro u25 h
      refine h.elim ?_; clear h; intro u26 h
      refine h.elim ?_; clear h; intro u27 h
      refine h.elim ?_; clear h; intro u28 h
      refine h.elim ?_; clear h; intro u29 h
      refine h.elim ?_; clear h; intro u30 h
      refine h.elim ?_; clear h; intro u31 h
      refine h.elim ?_; clear h; intro u32 h
      refine h.elim ?_; clear h; intro u33 h
      refine h.elim ?_; clear h; intro u34 h
      refine h.elim ?_; clear h; intro u35 h
      refine h.elim ?_; clear h; intro u36 h
      refine h.elim ?_; clear h; intro u37 h
      refine h.elim ?_; clear h; intro u38 h
      refine h.elim ?_; clear h; intro u39 h
      refine h.elim ?_; clear h; intro u40 h
      refine h.elim ?_; clear h; intro u41 h
      refine h.elim ?_; clear h; intro u42 h
      refine h.elim ?_; clear h; intro u43 h
      refine h.elim ?_; clear h; intro u44 h
      refine h.elim ?_; clear h; intro u45 h
      refine h.elim ?_; clear h; intro u46 h
      refine h.elim ?_; clear h; intro u47 h
      have hbb := h.1; replace h := h.2; subst hbb
      have hHeld := h.1; replace h := h.2
      have f0 := h.1; replace h := h.2
      have f1 := h.1; replace h := h.2
      have f2 := h.1; replace h := h.2
      have f3 := h.1; replace h := h.2
      have f4 := h.1; replace h := h.2
      have f5 := h.1; replace h := h.2
      have f6 := h.1; replace h := h.2
      have f7 := h.1; replace h := h.2
      have f8 := h.1; replace h := h.2
      have f9 := h.1; replace h := h.2
      have f10 := h.1; replace h := h.2
      have f11 := h.1; replace h := h.2
      have f12 := h.1; replace h := h.2
      have f13 := h.1; replace h := h.2
      have f14 := h.1; replace h := h.2
      have f15 := h.1; replace h := h.2
      have f16 := h.1; replace h := h.2
      have f17 := h.1; replace h := h.2
      have f18 := h.1; replace h := h.2
      have f19 := h.1; replace h := h.2
      have f20 := h.1; replace h := h.2
      have f21 := h.1; replace h := h.2
      have f22 := h.1; replace h := h.2
      have f23 := h.1; replace h := h.2
      have f24 := h.1; replace h := h.2
      have f25 := h.1; replace h := h.2
      have f26 := h.1; replace h := h.2
      have f27 := h.1; replace h := h.2
      have f28 := h.1; replace h := h.2
      have f29 := h.1; replace h := h.2
      have f30 := h; clear h
      intro K hK
      have g24 := f24 (hA 24 (by simp)) h0
      have g26 := f26 (hA 26 (by simp)) h0
      obtain ⟨pp26, rfl, hpc26⟩ := g26
      rw [if_pos (by kernel_rfl)]
      have q0 := cellB hHeld C0 hgp
      have q1 := cellB hHeld C1 hgp
      have q2 := cellB hHeld C2 hgp
      have q3 := cellB hHeld C3 hgp
      have HOWN := g24; refine wp_append_src (.tmp 43) (.tmp 45) 25 rfl W0.heap.size 46 i4 (.agg #[.string ⟨#[]⟩, .slice none 0 0, .int .i64 0, .slice none 0 0, .slice none 0 0]) 5 96 Tryd.underlying25 hi4 hz4 hs4 hb4 rfl (by omega) u43 n4 X4 rfl g24 _ 1 [.string ⟨#[]⟩, .slice none 0 0, .int .i64 0, .slice none 0 0, .slice none 0 0] rfl (src_at hpc26) rfl (by intro u hu; simp at hu; first | (rw [hu]; rfl) | (rcases hu with hu | hu <;> (rw [hu]; rfl)) | (rcases hu with hu | hu | hu <;> (rw [hu]; rfl)) | (rcases hu with hu | hu | hu | hu <;> (rw [hu]; rfl)) | (rcases hu with hu | hu | hu | hu | hu <;> (rw [hu]; rfl))) (by unfold maxLen; omega) (by omega) hHeld.size ?_; intro v' w' HO hG
      try simp only [Act.put, List.setIfInBounds_toArray, List.set_cons_zero, List.set_cons_succ]
      refine hK.out _ _ ⟨_, _, _, _, _, _, _, _, _, _, _, _, _, _, _, _, _, _, _, _, _, _, _, _, _, _, _, _, _, _, rfl, ?_, ?_, ?_, ?_, ?_, ?_, ?_, ?_, ?_, ?_, ?_, ?_, ?_, ?_, ?_, ?_, ?_, ?_, ?_, ?_, ?_, ?_, ?_, ?_, ?_, ?_, ?_, ?_, ?_, ?_, ?_, ?_⟩
      · exact grown3 hHeld hHeld.size HOWN hG
      · intro _ h7; rw [getD_set_ne true (by decide)] at h7; exact (getD_no h7 (hC.step (j := 6) (k := 3) (hC.step (j := 10) (k := 6) (hC.step (j := 13) (k := 10) (hC.step (j := 17) (k := 13) (hC.step (j := 20) (k := 17) (hC.step (j := 24) (k := 20) (hA 24 (by simp)) (by kernel_rfl)) (by kernel_rfl)) (by kernel_rfl)) (by kernel_rfl)) (by kernel_rfl)) (by kernel_rfl))).elim
      · first | exact flag_ne (by decide) f1 | exact fun _ => rfl
      · first | exact flag_ne (by decide) f2 | exact fun _ => rfl
      · intro _ h7; rw [getD_set_ne true (by decide)] at h7; exact (getD_no h7 (hC.step (j := 10) (k := 6) (hC.step (j := 13) (k := 10) (hC.step (j := 17) (k := 13) (hC.step (j := 20) (k := 17) (hC.step (j := 24) (k := 20) (hA 24 (by simp)) (by kernel_rfl)) (by kernel_rfl)) (by kernel_rfl)) (by kernel_rfl)) (by kernel_rfl))).elim
      · first | exact flag_ne (by decide) f4 | exact fun _ => rfl
      · intro _ h7; rw [getD_set_ne true (by decide)] at h7; exact (getD_no h7 (hC.step (j := 10) (k := 6) (hC.step (j := 13) (k := 10) (hC.step (j := 17) (k := 13) (hC.step (j := 20) (k := 17) (hC.step (j := 24) (k := 20) (hA 24 (by simp)) (by kernel_rfl)) (by kernel_rfl)) (by kernel_rfl)) (by kernel_rfl)) (by kernel_rfl))).elim
      · intro h; rw [getD_set_ne false (by decide)] at h; have := f6 h; first | exact this | exact owns_below this hb | exact own_grown this hG HOWN (by decide)
      · intro _ h7; rw [getD_set_ne true (by decide)] at h7; exact (getD_no h7 (hC.step (j := 13) (k := 10) (hC.step (j := 17) (k := 13) (hC.step (j := 20) (k := 17) (hC.step (j := 24) (k := 20) (hA 24 (by simp)) (by kernel_rfl)) (by kernel_rfl)) (by kernel_rfl)) (by kernel_rfl))).elim
      · first | exact flag_ne (by decide) f8 | exact fun _ => rfl
      · first | exact flag_ne (by decide) f9 | exact fun _ => rfl
      · intro _ h7; rw [getD_set_ne true (by decide)] at h7; exact (getD_no h7 (hC.step (j := 17) (k := 13) (hC.step (j := 20) (k := 17) (hC.step (j := 24) (k := 20) (hA 24 (by simp)) (by kernel_rfl)) (by kernel_rfl)) (by kernel_rfl))).elim
      · first | exact flag_ne (by decide) f11 | exact fun _ => rfl
      · intro _ h7; rw [getD_set_ne true (by decide)] at h7; exact (getD_no h7 (hC.step (j := 17) (k := 13) (hC.step (j := 20) (k := 17) (hC.step (j := 24) (k := 20) (hA 24 (by simp)) (by kernel_rfl)) (by kernel_rfl)) (by kernel_rfl))).elim
      · intro h; rw [getD_set_ne false (by decide)] at h; have := f13 h; first | exact this | exact owns_below this hb | exact own_grown this hG HOWN (by decide)
      · intro _ h7; rw [getD_set_ne true (by decide)] at h7; exact (getD_no h7 (hC.step (j := 20) (k := 17) (hC.step (j := 24) (k := 20) (hA 24 (by simp)) (by kernel_rfl)) (by kernel_rfl))).elim
      · first | exact flag_ne (by decide) f15 | exact fun _ => rfl
      · first | exact flag_ne (by decide) f16 | exact fun _ => rfl
      · intro _ h7; rw [getD_set_ne true (by decide)] at h7; exact (getD_no h7 (hC.step (j := 24) (k := 20) (hA 24 (by simp)) (by kernel_rfl))).elim
      · first | exact flag_ne (by decide) f18 | exact fun _ => rfl
      · intro _ h7; rw [getD_set_ne true (by decide)] at h7; exact (getD_no h7 (hC.step (j := 24) (k := 20) (hA 24 (by simp)) (by kernel_rfl))).elim
      · intro h; rw [getD_set_ne false (by decide)] at h; have := f20 h; first | exact this | exact owns_below this hb | exact own_grown this hG HOWN (by decide)
      · intro _ h7; rw [getD_set_ne true (by decide)] at h7; exact (getD_no h7 (hA 24 (by simp))).elim
      · first | exact flag_ne (by decide) f22 | exact fun _ => rfl
      · first | exact flag_ne (by decide) f23 | exact fun _ => rfl
      · intro _ h7; rw [getD_set_self] at h7; cases h7
      · first | exact flag_ne (by decide) f25 | exact fun _ => rfl
      · intro _ h7; rw [getD_set_self] at h7; cases h7
      · intro _; first | exact HO | (trace_state; fail)
      · intro h; rw [getD_set_ne false (by decide)] at h; exact (getD_no h0 (hC.step (j := 28) (k := 27) h (by kernel_rfl))).elim
      · intro h h7; rw [getD_set_ne false (by decide)] at h; rw [getD_set_ne true (by decide)] at h7; have := f29 h h7; obtain ⟨g, z1, z2, z3⟩ := this; exact (by first | exact ⟨g, z1, z2, z3⟩ | exact ⟨g, z1, z2, obj_below z3 hb⟩ | exact ⟨g, z1, z2, obj_grown z3 hG (own_ne_type HOWN z3 (by decide))⟩ | (trace_state; fail))
      · intro h; rw [getD_set_ne false (by decide)] at h; exact (getD_no h0 (hC.step (j := 30) (k := 27) h (by kernel_rfl))).elim
    · refine StepAt.mk (o := { dst := some 47, op := Op.build 27 #[(0, Operand.tmp 25), (1, Operand.tmp 32), (2, Operand.tmp 39), (3, Operand.tmp 46)], type := 27, pos := _, after := #[{ on := 6, ground := Ground.data }, { on := 13, ground := Ground.data }, { on := 20, ground := Ground.data }, { on := 27, ground := Ground.data }], guard := none }) (ws := [6, 13, 20, 27]) rfl (by kernel_rfl) ?_
      intro L b v hC h0 hA h
      refine h.elim ?_; clear h; intro u7 h
      refine h.elim ?_; clear h; intro u19 h
      refine h.elim ?_; clear h; intro u20 h
      refine h.elim ?_; clear h; intro u21 h
      refine h.elim ?_; clear h; intro u22 h
      refine h.elim ?_; clear h; intro u23 h
      refine h.elim ?_; clear h; intro u24 h
      refine h.elim ?_; clear h; intro u25 h
      refine h.elim ?_; clear h; intro u26 h
      refine h.elim ?_; clear h; intro u27 h
      refine h.elim ?_; clear h; intro u28 h
      refine h.elim ?_; clear h; intro u29 h
      refine h.elim ?_; clear h; intro u30 h
      refine h.elim ?_; clear h; intro u31 h
      refine h.elim ?_; clear h; intro u32 h
      refine h.elim ?_; clear h; intro u33 h
      refine h.elim ?_; clear h; intro u34 h
      refine h.elim ?_; clear h; intro u35 h
      refine h.elim ?_; clear h; intro u36 h
      refine h.elim ?_; clear h; intro u37 h
      refine h.elim ?_; clear h; intro u38 h
      refine h.elim ?_; clear h; intro u39 h
      refine h.elim ?_; clear h; intro u40 h
      refine h.elim ?_; clear h; intro u41 h
      refine h.elim ?_; clear h; intro u42 h
      refine h.elim ?_; clear h; intro u43 h
      refine h.elim ?_; clear h; intro u44 h
      refine h.elim ?_; clear h; intro u45 h
      refine h.elim ?_; clear h; intro u46 h
      refine h.elim ?_; clear h; intro u47 h
      have hbb := h.1; replace h := h.2; subst hbb
      have hHeld := h.1; replace h := h.2
      have f0 := h.1; replace h := h.2
      have f1 := h.1; replace h := h.2
      have f2 := h.1; replace h := h.2
      have f3 := h.1; replace h := h.2
      have f4 := h.1; replace h := h.2
      have f5 := h.1; replace h := h.2
      have f6 := h.1; replace h := h.2
      have f7 := h.1; replace h := h.2
      have f8 := h.1; replace h := h.2
      have f9 := h.1; replace h := h.2
      have f10 := h.1; replace h := h.2
      have f11 := h.1; replace h := h.2
      have f12 := h.1; replace h := h.2
      have f13 := h.1; replace h := h.2
      have f14 := h.1; replace h := h.2
      have f15 := h.1; replace h := h.2
      have f16 := h.1; replace h := h.2
      have f17 := h.1; replace h := h.2
      have f18 := h.1; replace h := h.2
      have f19 := h.1; replace h := h.2
      have f20 := h.1; replace h := h.2
      have f21 := h.1; replace h := h.2
      have f22 := h.1; replace h := h.2
      have f23 := h.1; replace h := h.2
      have f24 := h.1; replace h := h.2
      have f25 := h.1; replace h := h.2
      have f26 := h.1; replace h := h.2
      have f27 := h.1; replace h := h.2
      have f28 := h.1; replace h := h.2
      have f29 := h.1; replace h := h.2
      have f30 := h; clear h
      intro K hK
      have g6 := f6 (hA 6 (by simp))
      have g13 := f13 (hA 13 (by simp))
      have g20 := f20 (hA 20 (by simp))
      have g27 := f27 (hA 27 (by simp))
      obtain ⟨a6, b6, rfl⟩ := owns_form g6
      obtain ⟨a13, b13, rfl⟩ := owns_form g13
      obtain ⟨a20, b20, rfl⟩ := owns_form g20
      obtain ⟨a27, b27, rfl⟩ := owns_form g27
      rw [if_pos (by kernel_rfl)]
      have q0 := cellB hHeld C0 hgp
      have q1 := cellB hHeld C1 hgp
      have q2 := cellB hHeld C2 hgp
      have q3 := cellB hHeld C3 hgp
      go_simp
      try simp only [Act.put, List.setIfInBounds_toArray, List.set_cons_zero, List.set_cons_succ]
      refine hK.out _ _ ⟨_, _, _, _, _, _, _, _, _, _, _, _, _, _, _, _, _, _, _, _, _, _, _, _, _, _, _, _, _, _, rfl, ?_, ?_, ?_, ?_, ?_, ?_, ?_, ?_, ?_, ?_, ?_, ?_, ?_, ?_, ?_, ?_, ?_, ?_, ?_, ?_, ?_, ?_, ?_, ?_, ?_, ?_, ?_, ?_, ?_, ?_, ?_, ?_⟩
      · first | exact hHeld | exact hHeld.trans (hb.mono hHeld.size) | (trace_state; fail)
      · intro _ h7; rw [getD_set_ne true (by decide)] at h7; exact (getD_no h7 (hC.step (j := 6) (k := 3) (hA 6 (by simp)) (by kernel_rfl))).elim
      · first | exact flag_ne (by decide) f1 | exact fun _ => rfl
      · first | exact flag_ne (by decide) f2 | exact fun _ => rfl
      · intro _ h7; rw [getD_set_ne true (by decide)] at h7; exact (getD_no h7 (hA 6 (by simp))).elim
      · first | exact flag_ne (by decide) f4 | exact fun _ => rfl
      · intro _ h7; rw [getD_set_ne true (by decide)] at h7; exact (getD_no h7 (hA 6 (by simp))).elim
      · intro h; rw [getD_set_ne false (by decide)] at h; have := f6 h; first | exact this | exact owns_below this hb | exact own_grown this hG HOWN (by decide)
      · intro _ h7; rw [getD_set_ne true (by decide)] at h7; exact (getD_no h7 (hC.step (j := 13) (k := 10) (hA 13 (by simp)) (by kernel_rfl))).elim
      · first | exact flag_ne (by decide) f8 | exact fun _ => rfl
      · first | exact flag_ne (by decide) f9 | exact fun _ => rfl
      · intro _ h7; rw [getD_set_ne true (by decide)] at h7; exact (getD_no h7 (hA 13 (by simp))).elim
      · first | exact flag_ne (by decide) f11 | exact fun _ => rfl
      · intro _ h7; rw [getD_set_ne true (by decide)] at h7; exact (getD_no h7 (hA 13 (by simp))).elim
      · intro h; rw [getD_set_ne false (by decide)] at h; have := f13 h; first | exact this | exact owns_below this hb | exact own_grown this hG HOWN (by decide)
      · intro _ h7; rw [getD_set_ne true (by decide)] at h7; exact (getD_no h7 (hC.step (j := 20) (k := 17) (hA 20 (by simp)) (by kernel_rfl))).elim
      · first | exact flag_ne (by decide) f15 | exact fun _ => rfl
      · first | exact flag_ne (by decide) f16 | exact fun _ => rfl
      · intro _ h7; rw [getD_set_ne true (by decide)] at h7; exact (getD_no h7 (hA 20 (by simp))).elim
      · first | exact flag_ne (by decide) f18 | exact fun _ => rfl
      · intro _ h7; rw [getD_set_ne true (by decide)] at h7; exact (getD_no h7 (hA 20 (by simp))).elim
      · intro h; rw [getD_set_ne false (by decide)] at h; have := f20 h; first | exact this | exact owns_below this hb | exact own_grown this hG HOWN (by decide)
      · intro _ h7; rw [getD_set_ne true (by decide)] at h7; exact (getD_no h7 (hC.step (j := 27) (k := 24) (hA 27 (by simp)) (by kernel_rfl))).elim
      · first | exact flag_ne (by decide) f22 | exact fun _ => rfl
      · first | exact flag_ne (by decide) f23 | exact fun _ => rfl
      · intro _ h7; rw [getD_set_ne true (by decide)] at h7; exact (getD_no h7 (hA 27 (by simp))).elim
      · first | exact flag_ne (by decide) f25 | exact fun _ => rfl
      · intro _ h7; rw [getD_set_ne true (by decide)] at h7; exact (getD_no h7 (hA 27 (by simp))).elim
      · intro h; rw [getD_set_ne false (by decide)] at h; have := f27 h; first | exact this | exact owns_below this hb | exact own_grown this hG HOWN (by decide)
      · intro _; first | exact ⟨rfl, rfl⟩ | (trace_state; fail)
      · intro h h7; rw [getD_set_ne false (by decide)] at h; rw [getD_set_ne true (by decide)] at h7; have := f29 h h7; obtain ⟨g, z1, z2, z3⟩ := this; exact (by first | exact ⟨g, z1, z2, z3⟩ | exact ⟨g, z1, z2, obj_below z3 hb⟩ | exact ⟨g, z1, z2, obj_grown z3 hG (own_ne_type HOWN z3 (by decide))⟩ | (trace_state; fail))
      · intro h; rw [getD_set_ne false (by decide)] at h; exact (getD_no h0 (hC.step (j := 30) (k := 28) h (by kernel_rfl))).elim
    · refine StepAt.mk (o := { dst := some 7, op := Op.alloc 27, type := 0, pos := _, after := #[], guard := none }) (ws := []) rfl (by kernel_rfl) ?_
      intro L b v hC h0 hA h
      refine h.elim ?_; clear h; intro u7 h
      refine h.elim ?_; clear h; intro u19 h
      refine h.elim ?_; clear h; intro u20 h
      refine h.elim ?_; clear h; intro u21 h
      refine h.elim ?_; clear h; intro u22 h
      refine h.elim ?_; clear h; intro u23 h
      refine h.elim ?_; clear h; intro u24 h
      refine h.elim ?_; clear h; intro u25 h
      refine h.elim ?_; clear h; intro u26 h
      refine h.elim ?_; clear h; intro u27 h
      refine h.elim ?_; clear h; intro u28 h
      refine h.elim ?_; clear h; intro u29 h
      refine h.elim ?_; clear h; intro u30 h
      refine h.elim ?_; clear h; intro u31 h
      refine h.elim ?_; clear h; intro u32 h
      refine h.elim ?_; clear h; intro u33 h
      refine h.elim ?_; clear h; intro u34 h
      refine h.elim ?_; clear h; intro u35 h
      refine h.elim ?_; clear h; intro u36 h
      refine h.elim ?_; clear h; intro u37 h
      refine h.elim ?_; clear h; intro u38 h
      refine h.elim ?_; clear h; intro u39 h
      refine h.elim ?_; clear h; intro u40 h
      refine h.elim ?_; clear h; intro u41 h
      refine h.elim ?_; clear h; intro u42 h
      refine h.elim ?_; clear h; intro u43 h
      refine h.elim ?_; clear h; intro u44 h
      refine h.elim ?_; clear h; intro u45 h
      refine h.elim ?_; clear h; intro u46 h
      refine h.elim ?_; clear h; intro u47 h
      have hbb := h.1; replace h := h.2; subst hbb
      have hHeld := h.1; replace h := h.2
      have f0 := h.1; replace h := h.2
      have f1 := h.1; replace h := h.2
      have f2 := h.1; replace h := h.2
      have f3 := h.1; replace h := h.2
      have f4 := h.1; replace h := h.2
      have f5 := h.1; replace h := h.2
      have f6 := h.1; replace h := h.2
      have f7 := h.1; replace h := h.2
      have f8 := h.1; replace h := h.2
      have f9 := h.1; replace h := h.2
      have f10 := h.1; replace h := h.2
      have f11 := h.1; replace h := h.2
      have f12 := h.1; replace h := h.2
      have f13 := h.1; replace h := h.2
      have f14 := h.1; replace h := h.2
      have f15 := h.1; replace h := h.2
      have f16 := h.1; replace h := h.2
      have f17 := h.1; replace h := h.2
      have f18 := h.1; replace h := h.2
      have f19 := h.1; replace h := h.2
      have f20 := h.1; replace h := h.2
      have f21 := h.1; replace h := h.2
      have f22 := h.1; replace h := h.2
      have f23 := h.1; replace h := h.2
      have f24 := h.1; replace h := h.2
      have f25 := h.1; replace h := h.2
      have f26 := h.1; replace h := h.2
      have f27 := h.1; replace h := h.2
      have f28 := h.1; replace h := h.2
      have f29 := h.1; replace h := h.2
      have f30 := h; clear h
      intro K hK
      rw [if_pos (by kernel_rfl)]
      have q0 := cellB hHeld C0 hgp
      have q1 := cellB hHeld C1 hgp
      have q2 := cellB hHeld C2 hgp
      have q3 := cellB hHeld C3 hgp
      go_simp
      try simp only [Act.put, List.setIfInBounds_toArray, List.set_cons_zero, List.set_cons_succ]
      have hb : Below v.heap.size v (v.alloc (.cells #[.slice none 0 0, .slice none 0 0, .slice none 0 0, .slice none 0 0] 27)) := (Below.refl _ _).alloc (Nat.le_refl _) _
      refine hK.out _ _ ⟨_, _, _, _, _, _, _, _, _, _, _, _, _, _, _, _, _, _, _, _, _, _, _, _, _, _, _, _, _, _, rfl, ?_, ?_, ?_, ?_, ?_, ?_, ?_, ?_, ?_, ?_, ?_, ?_, ?_, ?_, ?_, ?_, ?_, ?_, ?_, ?_, ?_, ?_, ?_, ?_, ?_, ?_, ?_, ?_, ?_, ?_, ?_, ?_⟩
      · exact hHeld.alloc hHeld.size _
      · intro h h7; rw [getD_set_ne false (by decide)] at h; rw [getD_set_ne true (by decide)] at h7; have := f0 h h7; first | exact this | exact this.below hb | exact this.grown hG HOWN (by decide)
      · first | exact flag_ne (by decide) f1 | exact fun _ => rfl
      · first | exact flag_ne (by decide) f2 | exact fun _ => rfl
      · intro h h7; rw [getD_set_ne false (by decide)] at h; rw [getD_set_ne true (by decide)] at h7; have := f3 h h7; first | exact this | exact owns_below this hb | exact own_grown this hG HOWN (by decide)
      · first | exact flag_ne (by decide) f4 | exact fun _ => rfl
      · intro h h7; rw [getD_set_ne false (by decide)] at h; rw [getD_set_ne true (by decide)] at h7; have := f5 h h7; first | exact this | exact this.below hb | exact this.grown hG HOWN (by decide) | exact this.grown0 hG hgc0 (by decide)
      · intro h; rw [getD_set_ne false (by decide)] at h; have := f6 h; first | exact this | exact owns_below this hb | exact own_grown this hG HOWN (by decide)
      · intro h h7; rw [getD_set_ne false (by decide)] at h; rw [getD_set_ne true (by decide)] at h7; have := f7 h h7; first | exact this | exact this.below hb | exact this.grown hG HOWN (by decide)
      · first | exact flag_ne (by decide) f8 | exact fun _ => rfl
      · first | exact flag_ne (by decide) f9 | exact fun _ => rfl
      · intro h h7; rw [getD_set_ne false (by decide)] at h; rw [getD_set_ne true (by decide)] at h7; have := f10 h h7; first | exact this | exact owns_below this hb | exact own_grown this hG HOWN (by decide)
      · first | exact flag_ne (by decide) f11 | exact fun _ => rfl
      · intro h h7; rw [getD_set_ne false (by decide)] at h; rw [getD_set_ne true (by decide)] at h7; have := f12 h h7; first | exact this | exact this.below hb | exact this.grown hG HOWN (by decide) | exact this.grown0 hG hgc7 (by decide)
      · intro h; rw [getD_set_ne false (by decide)] at h; have := f13 h; first | exact this | exact owns_below this hb | exact own_grown this hG HOWN (by decide)
      · intro h h7; rw [getD_set_ne false (by decide)] at h; rw [getD_set_ne true (by decide)] at h7; have := f14 h h7; first | exact this | exact this.below hb | exact this.grown hG HOWN (by decide)
      · first | exact flag_ne (by decide) f15 | exact fun _ => rfl
      · first | exact flag_ne (by decide) f16 | exact fun _ => rfl
      · intro h h7; rw [getD_set_ne false (by decide)] at h; rw [getD_set_ne true (by decide)] at h7; have := f17 h h7; first | exact this | exact owns_below this hb | exact own_grown this hG HOWN (by decide)
      · first | exact flag_ne (by decide) f18 | exact fun _ => rfl
      · intro h h7; rw [getD_set_ne false (by decide)] at h; rw [getD_set_ne true (by decide)] at h7; have := f19 h h7; first | exact this | exact this.below hb | exact this.grown hG HOWN (by decide) | exact this.grown0 hG hgc14 (by decide)
      · intro h; rw [getD_set_ne false (by decide)] at h; have := f20 h; first | exact this | exact owns_below this hb | exact own_grown this hG HOWN (by decide)
      · intro h h7; rw [getD_set_ne false (by decide)] at h; rw [getD_set_ne true (by decide)] at h7; have := f21 h h7; first | exact this | exact this.below hb | exact this.grown hG HOWN (by decide)
      · first | exact flag_ne (by decide) f22 | exact fun _ => rfl
      · first | exact flag_ne (by decide) f23 | exact fun _ => rfl
      · intro h h7; rw [getD_set_ne false (by decide)] at h; rw [getD_set_ne true (by decide)] at h7; have := f24 h h7; first | exact this | exact owns_below this hb | exact own_grown this hG HOWN (by decide)
      · first | exact flag_ne (by decide) f25 | exact fun _ => rfl
      · intro h h7; rw [getD_set_ne false (by decide)] at h; rw [getD_set_ne true (by decide)] at h7; have := f26 h h7; first | exact this | exact this.below hb | exact this.grown hG HOWN (by decide) | exact this.grown0 hG hgc21 (by decide)
      · intro h; rw [getD_set_ne false (by decide)] at h; have := f27 h; first | exact this | exact owns_below this hb | exact own_grown this hG HOWN (by decide)
      · intro h; rw [getD_set_ne false (by decide)] at h; have := f28 h; exact ⟨this.1, rfl⟩
      · intro _ _; first | (exact ⟨_, rfl, hHeld.size, heap_new v _⟩) | (trace_state; fail)
      · intro h; rw [getD_set_ne false (by decide)] at h; exact (getD_no h0 (hC.step (j := 30) (k := 29) h (by kernel_rfl))).elim
    · refine StepAt.mk (o := { dst := none, op := Op.store 27 (Operand.tmp 7) (Operand.tmp 47), type := 0, pos := _, after := #[{ on := 29, ground := Ground.data }, { on := 28, ground := Ground.data }, { on := 27, ground := Ground.chain }, { on := 0, ground := Ground.phase }, { on := 1, ground := Ground.phase }, { on := 2, ground := Ground.phase }, { on := 3, ground := Ground.phase }, { on := 4, ground := Ground.phase }, { on := 5, ground := Ground.phase }, { on := 6, ground := Ground.phase }, { on := 7, ground := Ground.phase }, { on := 8, ground := Ground.phase }, { on := 9, ground := Ground.phase }, { on := 10, ground := Ground.phase }, { on := 11, ground := Ground.phase }, { on := 12, ground := Ground.phase }, { on := 13, ground := Ground.phase }, { on := 14, ground := Ground.phase }, { on := 15, ground := Ground.phase }, { on := 16, ground := Ground.phase }, { on := 17, ground := Ground.phase }, { on := 18, ground := Ground.phase }, { on := 19, ground := Ground.phase }, { on := 20, ground := Ground.phase }, { on := 21, ground := Ground.phase }, { on := 22, ground := Ground.phase }, { on := 23, ground := Ground.phase }, { on := 24, ground := Ground.phase }, { on := 25, ground := Ground.phase }, { on := 26, ground := Ground.phase }, { on := 27, ground := Ground.phase }, { on := 28, ground := Ground.phase }, { on := 29, ground := Ground.phase }], guard := none }) (ws := [29, 28, 27, 0, 1, 2, 3, 4, 5, 6, 7, 8, 9, 10, 11, 12, 13, 14, 15, 16, 17, 18, 19, 20, 21, 22, 23, 24, 25, 26, 27, 28, 29]) rfl (by kernel_rfl) ?_
      intro L b v hC h0 hA h
      refine h.elim ?_; clear h; intro u7 h
      refine h.elim ?_; clear h; intro u19 h
      refine h.elim ?_; clear h; intro u20 h
      refine h.elim ?_; clear h; intro u21 h
      refine h.elim ?_; clear h; intro u22 h
      refine h.elim ?_; clear h; intro u23 h
      refine h.elim ?_; clear h; intro u24 h
      refine h.elim ?_; clear h; intro u25 h
      refine h.elim ?_; clear h; intro u26 h
      refine h.elim ?_; clear h; intro u27 h
      refine h.elim ?_; clear h; intro u28 h
      refine h.elim ?_; clear h; intro u29 h
      refine h.elim ?_; clear h; intro u30 h
      refine h.elim ?_; clear h; intro u31 h
      refine h.elim ?_; clear h; intro u32 h
      refine h.elim ?_; clear h; intro u33 h
      refine h.elim ?_; clear h; intro u34 h
      refine h.elim ?_; clear h; intro u35 h
      refine h.elim ?_; clear h; intro u36 h
      refine h.elim ?_; clear h; intro u37 h
      refine h.elim ?_; clear h; intro u38 h
      refine h.elim ?_; clear h; intro u39 h
      refine h.elim ?_; clear h; intro u40 h
      refine h.elim ?_; clear h; intro u41 h
      refine h.elim ?_; clear h; intro u42 h
      refine h.elim ?_; clear h; intro u43 h
      refine h.elim ?_; clear h; intro u44 h
      refine h.elim ?_; clear h; intro u45 h
      refine h.elim ?_; clear h; intro u46 h
      refine h.elim ?_; clear h; intro u47 h
      have hbb := h.1; replace h := h.2; subst hbb
      have hHeld := h.1; replace h := h.2
      have f0 := h.1; replace h := h.2
      have f1 := h.1; replace h := h.2
      have f2 := h.1; replace h := h.2
      have f3 := h.1; replace h := h.2
      have f4 := h.1; replace h := h.2
      have f5 := h.1; replace h := h.2
      have f6 := h.1; replace h := h.2
      have f7 := h.1; replace h := h.2
      have f8 := h.1; replace h := h.2
      have f9 := h.1; replace h := h.2
      have f10 := h.1; replace h := h.2
      have f11 := h.1; replace h := h.2
      have f12 := h.1; replace h := h.2
      have f13 := h.1; replace h := h.2
      have f14 := h.1; replace h := h.2
      have f15 := h.1; replace h := h.2
      have f16 := h.1; replace h := h.2
      have f17 := h.1; replace h := h.2
      have f18 := h.1; replace h := h.2
      have f19 := h.1; replace h := h.2
      have f20 := h.1; replace h := h.2
      have f21 := h.1; replace h := h.2
      have f22 := h.1; replace h := h.2
      have f23 := h.1; replace h := h.2
      have f24 := h.1; replace h := h.2
      have f25 := h.1; replace h := h.2
      have f26 := h.1; replace h := h.2
      have f27 := h.1; replace h := h.2
      have f28 := h.1; replace h := h.2
      have f29 := h.1; replace h := h.2
      have f30 := h; clear h
      intro K hK
      have g29 := f29 (hA 29 (by simp)) h0
      obtain ⟨q7, rfl, hqB, hqc⟩ := g29
      have g28 := f28 (hA 28 (by simp))
      obtain ⟨rfl, _⟩ := g28
      have g27 := f27 (hA 27 (by simp))
      have g0 := f0 (hA 0 (by simp))
      have g1 := f1 (hA 1 (by simp))
      obtain rfl := g1
      have g2 := f2 (hA 2 (by simp))
      obtain rfl := g2
      have g3 := f3 (hA 3 (by simp))
      have g4 := f4 (hA 4 (by simp))
      obtain rfl := g4
      have g5 := f5 (hA 5 (by simp))
      have g6 := f6 (hA 6 (by simp))
      have g7 := f7 (hA 7 (by simp))
      have g8 := f8 (hA 8 (by simp))
      obtain rfl := g8
      have g9 := f9 (hA 9 (by simp))
      obtain rfl := g9
      have g10 := f10 (hA 10 (by simp))
      have g11 := f11 (hA 11 (by simp))
      obtain rfl := g11
      have g12 := f12 (hA 12 (by simp))
      have g13 := f13 (hA 13 (by simp))
      have g14 := f14 (hA 14 (by simp))
      have g15 := f15 (hA 15 (by simp))
      obtain rfl := g15
      have g16 := f16 (hA 16 (by simp))
      obtain rfl := g16
      have g17 := f17 (hA 17 (by simp))
      have g18 := f18 (hA 18 (by simp))
      obtain rfl := g18
      have g19 := f19 (hA 19 (by simp))
      have g20 := f20 (hA 20 (by simp))
      have g21 := f21 (hA 21 (by simp))
      have g22 := f22 (hA 22 (by simp))
      obtain rfl := g22
      have g23 := f23 (hA 23 (by simp))
      obtain rfl := g23
      have g24 := f24 (hA 24 (by simp))
      have g25 := f25 (hA 25 (by simp))
      obtain rfl := g25
      have g26 := f26 (hA 26 (by simp))
      obtain ⟨a6, b6, rfl⟩ := owns_form g6
      obtain ⟨a13, b13, rfl⟩ := owns_form g13
      obtain ⟨a20, b20, rfl⟩ := owns_form g20
      obtain ⟨a27, b27, rfl⟩ := owns_form g27
      have m0 := cell_of' hqc 0 (v := .slice none 0 0) rfl
      have m1 := cell_of' hqc 1 (v := .slice none 0 0) rfl
      have m2 := cell_of' hqc 2 (v := .slice none 0 0) rfl
      have m3 := cell_of' hqc 3 (v := .slice none 0 0) rfl
      have f'0 := free_of' hqc 0
      have f'1 := free_of' hqc 1
      have f'2 := free_of' hqc 2
      have f'3 := free_of' hqc 3
      rw [if_pos (by kernel_rfl)]
      have q0 := cellB hHeld C0 hgp
      have q1 := cellB hHeld C1 hgp
      have q2 := cellB hHeld C2 hgp
      have q3 := cellB hHeld C3 hgp
      go_simp
      try simp only [Act.put, List.setIfInBounds_toArray, List.set_cons_zero, List.set_cons_succ]
      refine hK.out _ _ ⟨_, _, _, _, _, _, _, _, _, _, _, _, _, _, _, _, _, _, _, _, _, _, _, _, _, _, _, _, _, _, rfl, ?_, ?_, ?_, ?_, ?_, ?_, ?_, ?_, ?_, ?_, ?_, ?_, ?_, ?_, ?_, ?_, ?_, ?_, ?_, ?_, ?_, ?_, ?_, ?_, ?_, ?_, ?_, ?_, ?_, ?_, ?_, ?_⟩
      · exact below_st4 hHeld hqB
      · intro _ h7; rw [getD_set_ne true (by decide)] at h7; exact (getD_no h7 (hA 3 (by simp))).elim
      · first | exact flag_ne (by decide) f1 | exact fun _ => rfl
      · first | exact flag_ne (by decide) f2 | exact fun _ => rfl
      · intro _ h7; rw [getD_set_ne true (by decide)] at h7; exact (getD_no h7 (hA 6 (by simp))).elim
      · first | exact flag_ne (by decide) f4 | exact fun _ => rfl
      · intro _ h7; rw [getD_set_ne true (by decide)] at h7; exact (getD_no h7 (hA 6 (by simp))).elim
      · intro h; rw [getD_set_ne false (by decide)] at h; have := f6 h; exact owns_st4 this hqc (by decide)
      · intro _ h7; rw [getD_set_ne true (by decide)] at h7; exact (getD_no h7 (hA 10 (by simp))).elim
      · first | exact flag_ne (by decide) f8 | exact fun _ => rfl
      · first | exact flag_ne (by decide) f9 | exact fun _ => rfl
      · intro _ h7; rw [getD_set_ne true (by decide)] at h7; exact (getD_no h7 (hA 13 (by simp))).elim
      · first | exact flag_ne (by decide) f11 | exact fun _ => rfl
      · intro _ h7; rw [getD_set_ne true (by decide)] at h7; exact (getD_no h7 (hA 13 (by simp))).elim
      · intro h; rw [getD_set_ne false (by decide)] at h; have := f13 h; exact owns_st4 this hqc (by decide)
      · intro _ h7; rw [getD_set_ne true (by decide)] at h7; exact (getD_no h7 (hA 17 (by simp))).elim
      · first | exact flag_ne (by decide) f15 | exact fun _ => rfl
      · first | exact flag_ne (by decide) f16 | exact fun _ => rfl
      · intro _ h7; rw [getD_set_ne true (by decide)] at h7; exact (getD_no h7 (hA 20 (by simp))).elim
      · first | exact flag_ne (by decide) f18 | exact fun _ => rfl
      · intro _ h7; rw [getD_set_ne true (by decide)] at h7; exact (getD_no h7 (hA 20 (by simp))).elim
      · intro h; rw [getD_set_ne false (by decide)] at h; have := f20 h; exact owns_st4 this hqc (by decide)
      · intro _ h7; rw [getD_set_ne true (by decide)] at h7; exact (getD_no h7 (hA 24 (by simp))).elim
      · first | exact flag_ne (by decide) f22 | exact fun _ => rfl
      · first | exact flag_ne (by decide) f23 | exact fun _ => rfl
      · intro _ h7; rw [getD_set_ne true (by decide)] at h7; exact (getD_no h7 (hA 27 (by simp))).elim
      · first | exact flag_ne (by decide) f25 | exact fun _ => rfl
      · intro _ h7; rw [getD_set_ne true (by decide)] at h7; exact (getD_no h7 (hA 27 (by simp))).elim
      · intro h; rw [getD_set_ne false (by decide)] at h; have := f27 h; exact owns_st4 this hqc (by decide)
      · intro h; rw [getD_set_ne false (by decide)] at h; have := f28 h; exact ⟨this.1, rfl⟩
      · intro _ h7; rw [getD_set_self] at h7; cases h7
      · intro _; first | exact ⟨_, rfl, hqB, st4_at hqc _ _ _ _⟩ | (trace_state; fail)
  intro L b v hA h
  refine h.elim ?_; clear h; intro u7 h
  refine h.elim ?_; clear h; intro u19 h
  refine h.elim ?_; clear h; intro u20 h
  refine h.elim ?_; clear h; intro u21 h
  refine h.elim ?_; clear h; intro u22 h
  refine h.elim ?_; clear h; intro u23 h
  refine h.elim ?_; clear h; intro u24 h
  refine h.elim ?_; clear h; intro u25 h
  refine h.elim ?_; clear h; intro u26 h
  refine h.elim ?_; clear h; intro u27 h
  refine h.elim ?_; clear h; intro u28 h
  refine h.elim ?_; clear h; intro u29 h
  refine h.elim ?_; clear h; intro u30 h
  refine h.elim ?_; clear h; intro u31 h
  refine h.elim ?_; clear h; intro u32 h
  refine h.elim ?_; clear h; intro u33 h
  refine h.elim ?_; clear h; intro u34 h
  refine h.elim ?_; clear h; intro u35 h
  refine h.elim ?_; clear h; intro u36 h
  refine h.elim ?_; clear h; intro u37 h
  refine h.elim ?_; clear h; intro u38 h
  refine h.elim ?_; clear h; intro u39 h
  refine h.elim ?_; clear h; intro u40 h
  refine h.elim ?_; clear h; intro u41 h
  refine h.elim ?_; clear h; intro u42 h
  refine h.elim ?_; clear h; intro u43 h
  refine h.elim ?_; clear h; intro u44 h
  refine h.elim ?_; clear h; intro u45 h
  refine h.elim ?_; clear h; intro u46 h
  refine h.elim ?_; clear h; intro u47 h
  have hbb := h.1; replace h := h.2; subst hbb
  have hHeld := h.1; replace h := h.2
  have f0 := h.1; replace h := h.2
  have f1 := h.1; replace h := h.2
  have f2 := h.1; replace h := h.2
  have f3 := h.1; replace h := h.2
  have f4 := h.1; replace h := h.2
  have f5 := h.1; replace h := h.2
  have f6 := h.1; replace h := h.2
  have f7 := h.1; replace h := h.2
  have f8 := h.1; replace h := h.2
  have f9 := h.1; replace h := h.2
  have f10 := h.1; replace h := h.2
  have f11 := h.1; replace h := h.2
  have f12 := h.1; replace h := h.2
  have f13 := h.1; replace h := h.2
  have f14 := h.1; replace h := h.2
  have f15 := h.1; replace h := h.2
  have f16 := h.1; replace h := h.2
  have f17 := h.1; replace h := h.2
  have f18 := h.1; replace h := h.2
  have f19 := h.1; replace h := h.2
  have f20 := h.1; replace h := h.2
  have f21 := h.1; replace h := h.2
  have f22 := h.1; replace h := h.2
  have f23 := h.1; replace h := h.2
  have f24 := h.1; replace h := h.2
  have f25 := h.1; replace h := h.2
  have f26 := h.1; replace h := h.2
  have f27 := h.1; replace h := h.2
  have f28 := h.1; replace h := h.2
  have f29 := h.1; replace h := h.2
  have f30 := h; clear h
  clear f0
  have g1 := f1 (hA 1 (by omega))
  clear f1
  obtain rfl := g1
  have g2 := f2 (hA 2 (by omega))
  clear f2
  obtain rfl := g2
  clear f3
  have g4 := f4 (hA 4 (by omega))
  clear f4
  obtain rfl := g4
  clear f5
  have g6 := f6 (hA 6 (by omega))
  clear f6
  clear f7
  have g8 := f8 (hA 8 (by omega))
  clear f8
  obtain rfl := g8
  have g9 := f9 (hA 9 (by omega))
  clear f9
  obtain rfl := g9
  clear f10
  have g11 := f11 (hA 11 (by omega))
  clear f11
  obtain rfl := g11
  clear f12
  have g13 := f13 (hA 13 (by omega))
  clear f13
  clear f14
  have g15 := f15 (hA 15 (by omega))
  clear f15
  obtain rfl := g15
  have g16 := f16 (hA 16 (by omega))
  clear f16
  obtain rfl := g16
  clear f17
  have g18 := f18 (hA 18 (by omega))
  clear f18
  obtain rfl := g18
  clear f19
  have g20 := f20 (hA 20 (by omega))
  clear f20
  clear f21
  have g22 := f22 (hA 22 (by omega))
  clear f22
  obtain rfl := g22
  have g23 := f23 (hA 23 (by omega))
  clear f23
  obtain rfl := g23
  clear f24
  have g25 := f25 (hA 25 (by omega))
  clear f25
  obtain rfl := g25
  clear f26
  have g27 := f27 (hA 27 (by omega))
  clear f27
  have g28 := f28 (hA 28 (by omega))
  clear f28
  obtain ⟨rfl, _⟩ := g28
  clear f29
  have g30 := f30 (hA 30 (by omega))
  clear f30
  clear hA
  exact ⟨rfl, _, _, _, _, _, _, _, _, _, _, _, _, _, _, _, _, _, _, _, _, _, _, _, _, _, _, _, _, _, _, rfl, hHeld, g6, g13, g20, g27, g30⟩
end Go.Proofs.YtjlpmepnapaonaaDoor
