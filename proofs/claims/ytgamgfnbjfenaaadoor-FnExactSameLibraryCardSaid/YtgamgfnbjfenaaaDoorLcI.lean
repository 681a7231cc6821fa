/- Equality of shapes, labels, instances and cells, as the program's == decides it. No condition. -/
import Derived.Test.YtgamgfnbjfenaaaDoorLcB
import Derived.Test.YtgamgfnbjfenaaaDoorLbC
import Derived.Laws.StructEq
namespace Go.Proofs.YtgamgfnbjfenaaaDoor
open Go.RowKit
set_option linter.unusedVariables false
set_option linter.unusedSimpArgs false
attribute [local go_sem ↓] Go.wp_at_zero Go.wp_at_succ

theorem eqI_at (n : Nat) (a b : Int) (w : World) : (Op.equalIn (n + 1) 2 (.int .i64 a) (.int .i64 b)).run Tryd.prog w = .ok (a == b) w := run_equalIn_int w n _ _ .i64 a b Tryd.underlying2
theorem eqRectQ_at (n : Nat) (a b c d p q r s : Int) (w : World) : (Op.equalIn (n + 1 + 1) 129 (.agg #[.int .i64 a, .int .i64 b, .int .i64 c, .int .i64 d]) (.agg #[.int .i64 p, .int .i64 q, .int .i64 r, .int .i64 s])).run Tryd.prog w = .ok (a == p && b == q && c == r && d == s) w := by
  have hs : Tryd.prog.stoodInHeld 129 = false := by kernel_rfl
  have hu : Tryd.prog.underlying 129 = some (.struct (Tryd.prog.fieldsOf 129)) := by kernel_rfl
  rw [run_equalIn_agg w (n + 1) _ _ _ hu hs]
  have hp : ∀ (x0 x1 x2 x3 : Int) (w : World), (part 2 #[.int .i64 x0, .int .i64 x1, .int .i64 x2, .int .i64 x3] 0).run Tryd.prog w = .ok (.int .i64 x0) w ∧ (part 2 #[.int .i64 x0, .int .i64 x1, .int .i64 x2, .int .i64 x3] 1).run Tryd.prog w = .ok (.int .i64 x1) w ∧ (part 2 #[.int .i64 x0, .int .i64 x1, .int .i64 x2, .int .i64 x3] 2).run Tryd.prog w = .ok (.int .i64 x2) w ∧ (part 2 #[.int .i64 x0, .int .i64 x1, .int .i64 x2, .int .i64 x3] 3).run Tryd.prog w = .ok (.int .i64 x3) w :=
    fun _ _ _ _ _ => ⟨by kernel_rfl, by kernel_rfl, by kernel_rfl, by kernel_rfl⟩
  have hf : (Tryd.prog.fieldsOf 129).toList.map (fun f => (f.name, f.type, f.offset)) = [("X0", 2, 0), ("Y0", 2, 1), ("X1", 2, 2), ("Y1", 2, 3)] := by kernel_rfl
  generalize (Tryd.prog.fieldsOf 129).toList = fs at hf
  rcases fs with _ | ⟨f0, _ | ⟨f1, _ | ⟨f2, _ | ⟨f3, _ | ⟨f4, rr⟩⟩⟩⟩⟩
  · simp at hf
  · simp at hf
  · simp at hf
  · simp at hf
  · simp only [List.map_cons, List.map_nil, List.cons.injEq, Prod.mk.injEq, and_true] at hf
    obtain ⟨⟨n0, t0, o0⟩, ⟨n1, t1, o1⟩, ⟨n2, t2, o2⟩, n3, t3, o3⟩ := hf
    simp only [Op.eqFields, n0, t0, o0, n1, t1, o1, n2, t2, o2, n3, t3, o3]
    simp only [ne_eq, String.reduceEq, not_false_eq_true, if_true, Sem.run_bind, (hp _ _ _ _ _).1, (hp _ _ _ _ _).2.1, (hp _ _ _ _ _).2.2.1, (hp _ _ _ _ _).2.2.2, Result.andThen_ok, eqI_at, Sem.run_ite, Sem.run_pure]
    cases h0 : a == p <;> cases h1 : b == q <;> cases h2 : c == r <;> cases h3 : d == s <;> simp
  · simp at hf
theorem eqPointQ_at (n : Nat) (a b p q : Int) (w : World) : (Op.equalIn (n + 1 + 1) 111 (.agg #[.int .i64 a, .int .i64 b]) (.agg #[.int .i64 p, .int .i64 q])).run Tryd.prog w = .ok (a == p && b == q) w := by
  have hs : Tryd.prog.stoodInHeld 111 = false := by kernel_rfl
  have hu : Tryd.prog.underlying 111 = some (.struct (Tryd.prog.fieldsOf 111)) := by kernel_rfl
  rw [run_equalIn_agg w (n + 1) _ _ _ hu hs]
  have hp : ∀ (x0 x1 : Int) (w : World), (part 2 #[.int .i64 x0, .int .i64 x1] 0).run Tryd.prog w = .ok (.int .i64 x0) w ∧ (part 2 #[.int .i64 x0, .int .i64 x1] 1).run Tryd.prog w = .ok (.int .i64 x1) w := fun _ _ _ => ⟨by kernel_rfl, by kernel_rfl⟩
  have hf : (Tryd.prog.fieldsOf 111).toList.map (fun f => (f.name, f.type, f.offset)) = [("X", 2, 0), ("Y", 2, 1)] := by kernel_rfl
  generalize (Tryd.prog.fieldsOf 111).toList = fs at hf
  rcases fs with _ | ⟨f0, _ | ⟨f1, _ | ⟨f2, rr⟩⟩⟩
  · simp at hf
  · simp at hf
  · simp only [List.map_cons, List.map_nil, List.cons.injEq, Prod.mk.injEq, and_true] at hf
    obtain ⟨⟨n0, t0, o0⟩, n1, t1, o1⟩ := hf
    simp only [Op.eqFields, n0, t0, o0, n1, t1, o1]
    simp only [ne_eq, String.reduceEq, not_false_eq_true, if_true, Sem.run_bind, (hp _ _ _).1, (hp _ _ _).2, Result.andThen_ok, eqI_at, Sem.run_ite, Sem.run_pure]
    cases h0 : a == p <;> cases h1 : b == q <;> simp
  · simp at hf
theorem eqTransformQ_at (n : Nat) (a b c p q r : Int) (w : World) : (Op.equalIn (n + 1 + 1) 49 (.agg #[.int .i64 a, .int .i64 b, .int .i64 c]) (.agg #[.int .i64 p, .int .i64 q, .int .i64 r])).run Tryd.prog w = .ok (a == p && b == q && c == r) w := by
  have hs : Tryd.prog.stoodInHeld 49 = false := by kernel_rfl
  have hu : Tryd.prog.underlying 49 = some (.struct (Tryd.prog.fieldsOf 49)) := by kernel_rfl
  rw [run_equalIn_agg w (n + 1) _ _ _ hu hs]
  have hp : ∀ (x0 x1 x2 : Int) (w : World), (part 2 #[.int .i64 x0, .int .i64 x1, .int .i64 x2] 0).run Tryd.prog w = .ok (.int .i64 x0) w ∧ (part 2 #[.int .i64 x0, .int .i64 x1, .int .i64 x2] 1).run Tryd.prog w = .ok (.int .i64 x1) w ∧ (part 2 #[.int .i64 x0, .int .i64 x1, .int .i64 x2] 2).run Tryd.prog w = .ok (.int .i64 x2) w := fun _ _ _ _ => ⟨by kernel_rfl, by kernel_rfl, by kernel_rfl⟩
  have hf : (Tryd.prog.fieldsOf 49).toList.map (fun f => (f.name, f.type, f.offset)) = [("Orientation", 2, 0), ("X", 2, 1), ("Y", 2, 2)] := by kernel_rfl
  generalize (Tryd.prog.fieldsOf 49).toList = fs at hf
  rcases fs with _ | ⟨f0, _ | ⟨f1, _ | ⟨f2, _ | ⟨f3, rr⟩⟩⟩⟩
  · simp at hf
  · simp at hf
  · simp at hf
  · simp only [List.map_cons, List.map_nil, List.cons.injEq, Prod.mk.injEq, and_true] at hf
    obtain ⟨⟨n0, t0, o0⟩, ⟨n1, t1, o1⟩, n2, t2, o2⟩ := hf
    simp only [Op.eqFields, n0, t0, o0, n1, t1, o1, n2, t2, o2]
    simp only [ne_eq, String.reduceEq, not_false_eq_true, if_true, Sem.run_bind, (hp _ _ _ _).1, (hp _ _ _ _).2.1, (hp _ _ _ _).2.2, Result.andThen_ok, eqI_at, Sem.run_ite, Sem.run_pure]
    cases h0 : a == p <;> cases h1 : b == q <;> cases h2 : c == r <;> simp
  · simp at hf
def Shp.val (s : Shp) : Value := .agg #[.int .i64 s.l, .int .i64 s.x, .int .i64 s.y, .int .i64 s.u, .int .i64 s.v]
def shpE (s t : Shp) : Bool := s.l == t.l && (s.x == t.x && s.y == t.y && s.u == t.u && s.v == t.v)
theorem eqShpQ (l a b c d k p q r s : Int) (w : World) : (Op.equalIn 10000 177 (.agg #[.int .i64 l, .int .i64 a, .int .i64 b, .int .i64 c, .int .i64 d]) (.agg #[.int .i64 k, .int .i64 p, .int .i64 q, .int .i64 r, .int .i64 s])).run Tryd.prog w = .ok (l == k && (a == p && b == q && c == r && d == s)) w := by
  have hs : Tryd.prog.stoodInHeld 177 = false := by kernel_rfl
  have hu : Tryd.prog.underlying 177 = some (.struct (Tryd.prog.fieldsOf 177)) := by kernel_rfl
  rw [run_equalIn_agg w 9999 _ _ _ hu hs]
  have hp : ∀ (x0 x1 x2 x3 x4 : Int) (w : World), (part 2 #[.int .i64 x0, .int .i64 x1, .int .i64 x2, .int .i64 x3, .int .i64 x4] 0).run Tryd.prog w = .ok (.int .i64 x0) w ∧ (part 129 #[.int .i64 x0, .int .i64 x1, .int .i64 x2, .int .i64 x3, .int .i64 x4] 1).run Tryd.prog w = .ok (.agg #[.int .i64 x1, .int .i64 x2, .int .i64 x3, .int .i64 x4]) w := fun _ _ _ _ _ _ => ⟨by kernel_rfl, by kernel_rfl⟩
  have hf : (Tryd.prog.fieldsOf 177).toList.map (fun f => (f.name, f.type, f.offset)) = [("Layer", 2, 0), ("Box", 129, 1)] := by kernel_rfl
  generalize (Tryd.prog.fieldsOf 177).toList = fs at hf
  rcases fs with _ | ⟨f0, _ | ⟨f1, _ | ⟨f2, rr⟩⟩⟩
  · simp at hf
  · simp at hf
  · simp only [List.map_cons, List.map_nil, List.cons.injEq, Prod.mk.injEq, and_true] at hf
    obtain ⟨⟨n0, t0, o0⟩, n1, t1, o1⟩ := hf
    simp only [Op.eqFields, n0, t0, o0, n1, t1, o1]
    have e0 := eqI_at 9998
    have e1 := eqRectQ_at 9997
    simp only [ne_eq, String.reduceEq, not_false_eq_true, if_true, Sem.run_bind, (hp _ _ _ _ _ _).1, (hp _ _ _ _ _ _).2, Result.andThen_ok, e0, e1, Sem.run_ite, Sem.run_pure]
    generalize (a == p && b == q && c == r && d == s) = u
    generalize (l == k) = v
    cases u <;> cases v <;> simp
  · simp at hf
def lblE (s t : Lbl) : Bool := s.l == t.l && (s.x == t.x && s.y == t.y) && (s.s.toList == t.s.toList)
theorem eqLblQ (l a b k p q : Int) (s t : ByteArray) (w : World) : (Op.equalIn 10000 180 (.agg #[.int .i64 l, .int .i64 a, .int .i64 b, .string s]) (.agg #[.int .i64 k, .int .i64 p, .int .i64 q, .string t])).run Tryd.prog w = .ok (l == k && (a == p && b == q) && (s.toList == t.toList)) w := by
  have hs : Tryd.prog.stoodInHeld 180 = false := by kernel_rfl
  have hu : Tryd.prog.underlying 180 = some (.struct (Tryd.prog.fieldsOf 180)) := by kernel_rfl
  rw [run_equalIn_agg w 9999 _ _ _ hu hs]
  have hp : ∀ (x0 x1 x2 : Int) (x3 : ByteArray) (w : World), (part 2 #[.int .i64 x0, .int .i64 x1, .int .i64 x2, .string x3] 0).run Tryd.prog w = .ok (.int .i64 x0) w ∧ (part 111 #[.int .i64 x0, .int .i64 x1, .int .i64 x2, .string x3] 1).run Tryd.prog w = .ok (.agg #[.int .i64 x1, .int .i64 x2]) w ∧ (part 9 #[.int .i64 x0, .int .i64 x1, .int .i64 x2, .string x3] 3).run Tryd.prog w = .ok (.string x3) w := fun _ _ _ _ _ => ⟨by kernel_rfl, by kernel_rfl, by kernel_rfl⟩
  have hf : (Tryd.prog.fieldsOf 180).toList.map (fun f => (f.name, f.type, f.offset)) = [("Layer", 2, 0), ("At", 111, 1), ("Name", 9, 3)] := by kernel_rfl
  generalize (Tryd.prog.fieldsOf 180).toList = fs at hf
  rcases fs with _ | ⟨f0, _ | ⟨f1, _ | ⟨f2, _ | ⟨f3, rr⟩⟩⟩⟩
  · simp at hf
  · simp at hf
  · simp at hf
  · simp only [List.map_cons, List.map_nil, List.cons.injEq, Prod.mk.injEq, and_true] at hf
    obtain ⟨⟨n0, t0, o0⟩, ⟨n1, t1, o1⟩, n2, t2, o2⟩ := hf
    simp only [Op.eqFields, n0, t0, o0, n1, t1, o1, n2, t2, o2]
    have e0 := eqI_at 9998
    have e1 := eqPointQ_at 9997
    have e2 : ∀ (x y : ByteArray) (w : World), (Op.equalIn 9999 9 (.string x) (.string y)).run Tryd.prog w = .ok (x.toList == y.toList) w := fun x y w => run_equalIn_string w 9998 _ x y Tryd.underlying9
    simp only [ne_eq, String.reduceEq, not_false_eq_true, if_true, Sem.run_bind, (hp _ _ _ _ _).1, (hp _ _ _ _ _).2.1, (hp _ _ _ _ _).2.2, Result.andThen_ok, e0, e1, e2, Sem.run_ite, Sem.run_pure]
    generalize (a == p && b == q) = u
    generalize (l == k) = v
    generalize (s.toList == t.toList) = z
    cases u <;> cases v <;> cases z <;> simp
  · simp at hf
def insE (s t : Ins) : Bool := s.c == t.c && (s.o == t.o && s.x == t.x && s.y == t.y) && s.m == t.m && s.n == t.n && s.p == t.p && s.q == t.q
theorem eqInsQ (c o x y m n p q c' o' x' y' m' n' p' q' : Int) (w : World) : (Op.equalIn 10000 85 (.agg #[.int .i64 c, .int .i64 o, .int .i64 x, .int .i64 y, .int .i64 m, .int .i64 n, .int .i64 p, .int .i64 q]) (.agg #[.int .i64 c', .int .i64 o', .int .i64 x', .int .i64 y', .int .i64 m', .int .i64 n', .int .i64 p', .int .i64 q'])).run Tryd.prog w = .ok (c == c' && (o == o' && x == x' && y == y') && m == m' && n == n' && p == p' && q == q') w := by
  have hs : Tryd.prog.stoodInHeld 85 = false := by kernel_rfl
  have hu : Tryd.prog.underlying 85 = some (.struct (Tryd.prog.fieldsOf 85)) := by kernel_rfl
  rw [run_equalIn_agg w 9999 _ _ _ hu hs]
  have hp : ∀ (x0 x1 x2 x3 x4 x5 x6 x7 : Int) (w : World), (part 2 #[.int .i64 x0, .int .i64 x1, .int .i64 x2, .int .i64 x3, .int .i64 x4, .int .i64 x5, .int .i64 x6, .int .i64 x7] 0).run Tryd.prog w = .ok (.int .i64 x0) w ∧ (part 49 #[.int .i64 x0, .int .i64 x1, .int .i64 x2, .int .i64 x3, .int .i64 x4, .int .i64 x5, .int .i64 x6, .int .i64 x7] 1).run Tryd.prog w = .ok (.agg #[.int .i64 x1, .int .i64 x2, .int .i64 x3]) w ∧
      (part 2 #[.int .i64 x0, .int .i64 x1, .int .i64 x2, .int .i64 x3, .int .i64 x4, .int .i64 x5, .int .i64 x6, .int .i64 x7] 4).run Tryd.prog w = .ok (.int .i64 x4) w ∧ (part 2 #[.int .i64 x0, .int .i64 x1, .int .i64 x2, .int .i64 x3, .int .i64 x4, .int .i64 x5, .int .i64 x6, .int .i64 x7] 5).run Tryd.prog w = .ok (.int .i64 x5) w ∧ (part 2 #[.int .i64 x0, .int .i64 x1, .int .i64 x2, .int .i64 x3, .int .i64 x4, .int .i64 x5, .int .i64 x6, .int .i64 x7] 6).run Tryd.prog w = .ok (.int .i64 x6) w ∧ (part 2 #[.int .i64 x0, .int .i64 x1, .int .i64 x2, .int .i64 x3, .int .i64 x4, .int .i64 x5, .int .i64 x6, .int .i64 x7] 7).run Tryd.prog w = .ok (.int .i64 x7) w :=
    fun _ _ _ _ _ _ _ _ _ => ⟨by kernel_rfl, by kernel_rfl, by kernel_rfl, by kernel_rfl, by kernel_rfl, by kernel_rfl⟩
  have hf : (Tryd.prog.fieldsOf 85).toList.map (fun f => (f.name, f.type, f.offset)) = [("Cell", 2, 0), ("Place", 49, 1), ("Columns", 2, 4), ("Rows", 2, 5), ("StepX", 2, 6), ("StepY", 2, 7)] := by kernel_rfl
  generalize (Tryd.prog.fieldsOf 85).toList = fs at hf
  rcases fs with _ | ⟨f0, _ | ⟨f1, _ | ⟨f2, _ | ⟨f3, _ | ⟨f4, _ | ⟨f5, _ | ⟨f6, rr⟩⟩⟩⟩⟩⟩⟩
  · simp at hf
  · simp at hf
  · simp at hf
  · simp at hf
  · simp at hf
  · simp at hf
  · simp only [List.map_cons, List.map_nil, List.cons.injEq, Prod.mk.injEq, and_true] at hf
    obtain ⟨⟨n0, t0, o0⟩, ⟨n1, t1, o1⟩, ⟨n2, t2, o2⟩, ⟨n3, t3, o3⟩, ⟨n4, t4, o4⟩, n5, t5, o5⟩ := hf
    simp only [Op.eqFields, n0, t0, o0, n1, t1, o1, n2, t2, o2, n3, t3, o3, n4, t4, o4, n5, t5, o5]
    have e0 := eqI_at 9998
    have e1 := eqTransformQ_at 9997
    simp only [ne_eq, String.reduceEq, not_false_eq_true, if_true, Sem.run_bind, (hp _ _ _ _ _ _ _ _ _).1, (hp _ _ _ _ _ _ _ _ _).2.1, (hp _ _ _ _ _ _ _ _ _).2.2.1, (hp _ _ _ _ _ _ _ _ _).2.2.2.1, (hp _ _ _ _ _ _ _ _ _).2.2.2.2.1, (hp _ _ _ _ _ _ _ _ _).2.2.2.2.2, Result.andThen_ok, e0, e1, Sem.run_ite, Sem.run_pure]
    generalize (o == o' && x == x' && y == y') = u
    generalize (c == c') = v
    generalize (m == m') = z1
    generalize (n == n') = z2
    generalize (p == p') = z3
    generalize (q == q') = z4
    cases v <;> cases u <;> cases z1 <;> cases z2 <;> cases z3 <;> cases z4 <;> simp
  · simp at hf
end Go.Proofs.YtgamgfnbjfenaaaDoor
