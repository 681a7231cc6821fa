/- FnTransforms: the model's and the program's answers where they are valid, and the law's walk. Conditions: the code's bytes lie in memory; the variable orientationMatrices holds its table. -/
import Derived.Test.YtciodcknobccdaaDoorTrI
import Derived.Test.YtciodcknobccdaaDoorTrN
import Derived.Test.YtciodcknobccdaaDoorTrO
import Derived.Test.YtciodcknobccdaaDoorTrS
namespace Go.Proofs.YtciodcknobccdaaDoor
open Go.RowKit
set_option linter.unusedVariables false
set_option linter.unusedSimpArgs false

theorem eqTr (a b c d e f : Int) (w : World) : (Op.equalIn 10000 33 (.agg #[.int .i64 a, .int .i64 b, .int .i64 c]) (.agg #[.int .i64 d, .int .i64 e, .int .i64 f])).run Tryd.prog w = .ok (a == d && (b == e && c == f)) w := by
  have hq : ∀ (a b : Int) (w : World), (Op.equalIn 9999 2 (.int .i64 a) (.int .i64 b)).run Tryd.prog w = .ok (a == b) w := fun a b w => run_equalIn_int w 9998 _ _ .i64 a b Tryd.underlying2
  have hs : Tryd.prog.stoodInHeld 33 = false := by kernel_rfl
  have hu : Tryd.prog.underlying 33 = some (.struct (Tryd.prog.fieldsOf 33)) := by kernel_rfl
  rw [run_equalIn_agg w 9999 _ _ _ hu hs]
  have hp : ∀ (x0 x1 x2 : Int) (w : World), (part 2 #[.int .i64 x0, .int .i64 x1, .int .i64 x2] 0).run Tryd.prog w = .ok (.int .i64 x0) w ∧ (part 2 #[.int .i64 x0, .int .i64 x1, .int .i64 x2] 1).run Tryd.prog w = .ok (.int .i64 x1) w ∧ (part 2 #[.int .i64 x0, .int .i64 x1, .int .i64 x2] 2).run Tryd.prog w = .ok (.int .i64 x2) w :=
    fun _ _ _ _ => ⟨by kernel_rfl, by kernel_rfl, by kernel_rfl⟩
  have hf : (Tryd.prog.fieldsOf 33).toList.map (fun f => (f.name, f.type, f.offset)) = [("Orientation", 2, 0), ("X", 2, 1), ("Y", 2, 2)] := by kernel_rfl
  generalize (Tryd.prog.fieldsOf 33).toList = fs at hf
  rcases fs with _ | ⟨f0, _ | ⟨f1, _ | ⟨f2, _ | ⟨f3, r⟩⟩⟩⟩
  · simp at hf
  · simp at hf
  · simp at hf
  · simp only [List.map_cons, List.map_nil, List.cons.injEq, Prod.mk.injEq, and_true] at hf
    obtain ⟨⟨n0, t0, o0⟩, ⟨n1, t1, o1⟩, n2, t2, o2⟩ := hf
    simp only [Op.eqFields, n0, t0, o0, n1, t1, o1, n2, t2, o2]
    simp only [ne_eq, String.reduceEq, not_false_eq_true, if_true, Sem.run_bind, (hp _ _ _ _).1, (hp _ _ _ _).2.1, (hp _ _ _ _).2.2, Result.andThen_ok, hq, Sem.run_ite, Sem.run_pure]
    cases h0 : a == d <;> cases h1 : b == e <;> cases h2 : c == f <;> simp
  · simp at hf

theorem specCT_yes (n m : Nat) (x y q r : Int) (w : World) (h : ctB n x y m q r = true) : Calls Tryd.prog 17 #[.agg #[.int .i64 n, .int .i64 x, .int .i64 y], .agg #[.int .i64 m, .int .i64 q, .int .i64 r]] w fun e w' => e = .returned (.tuple #[.agg #[.int .i64 (cmpO n m : Nat), .int .i64 (tX m x y + q), .int .i64 (tY m x y + r)], .bool true]) ∧ Below w.heap.size w w' := by
  obtain ⟨m0, m1, m2, m3⟩ := ct_yes h
  have := specCT_out n x y m q r w
  rw [m0, m1, m2, m3] at this
  exact this
theorem specCT_no (o x y p q r : Int) (w : World) (h : ctB o x y p q r = false) : Calls Tryd.prog 17 #[.agg #[.int .i64 o, .int .i64 x, .int .i64 y], .agg #[.int .i64 p, .int .i64 q, .int .i64 r]] w fun e w' => e = .returned (.tuple #[.agg #[.int .i64 0, .int .i64 0, .int .i64 0], .bool false]) ∧ Below w.heap.size w w' := by
  obtain ⟨m0, m1, m2, m3⟩ := ct_no h
  have := specCT_out o x y p q r w
  rw [m0, m1, m2, m3] at this
  exact this
theorem implCT_yes (n m : Nat) (x y q r : Int) (w : World) (hM : Mats w) (h : ctB n x y m q r = true) : Calls Tryd.prog 18 #[.agg #[.int .i64 n, .int .i64 x, .int .i64 y], .agg #[.int .i64 m, .int .i64 q, .int .i64 r]] w fun e w' => e = .returned (.tuple #[.agg #[.int .i64 (cmpO n m : Nat), .int .i64 (tX m x y + q), .int .i64 (tY m x y + r)], .bool true]) ∧ Below w.heap.size w w' := by
  obtain ⟨m0, m1, m2, m3⟩ := ct_yes h
  have := implCT_out n x y m q r w hM
  rw [m0, m1, m2, m3] at this
  exact this
theorem implIT_yes (n : Nat) (x y : Int) (w : World) (hM : Mats w) (h : vldB n x y = true) : Calls Tryd.prog 19 #[.agg #[.int .i64 n, .int .i64 x, .int .i64 y]] w fun e w' => e = .returned (.tuple #[.agg #[.int .i64 (invO n : Nat), .int .i64 (tX (invO n : Nat) (-x) (-y)), .int .i64 (tY (invO n : Nat) (-x) (-y))], .bool true]) ∧ Below w.heap.size w w' := by
  obtain ⟨m0, m1, m2⟩ := it_yes h
  have := implIT_out n x y w hM
  rw [m0, m1, m2, h] at this
  exact this
theorem implMP_yes (o x y a b : Int) (w : World) (hM : Mats w) (h1 : vldB o x y = true) (h2 : onB a b = true) : Calls Tryd.prog 22 #[.agg #[.int .i64 o, .int .i64 x, .int .i64 y], .agg #[.int .i64 a, .int .i64 b]] w fun e w' => e = .returned (.tuple #[.agg #[.int .i64 (tX o a b + x), .int .i64 (tY o a b + y)], .bool true]) ∧ Below w.heap.size w w' := by
  have := implMovePoint_any o x y a b w hM
  rw [mpV_yes h1 h2] at this
  exact this
theorem implMP_no (o x y a b : Int) (w : World) (hM : Mats w) (h2 : onB a b = false) : Calls Tryd.prog 22 #[.agg #[.int .i64 o, .int .i64 x, .int .i64 y], .agg #[.int .i64 a, .int .i64 b]] w fun e w' => e = .returned (.tuple #[.agg #[.int .i64 0, .int .i64 0], .bool false]) ∧ Below w.heap.size w w' := by
  have := implMovePoint_any o x y a b w hM
  rw [mpV_no (by simp [mpB, h2])] at this
  exact this
theorem big_any (a : Option Addr) (len cap : Nat) (w : World) : Calls Tryd.prog 11 #[.slice a len cap] w fun e w' => e = .returned (.bool (decide (4096 < len))) ∧ w = w' := by
  by_cases h : 4096 < len
  all_goals
    go_enter Tryd.func11, Tryd.ntmps11
    go_wp2
    go_ret
    exact ⟨ret_bool (by simp [h]; try omega), rfl⟩

/-! The arithmetic of transforms. -/
theorem t_add (o a b x y : Int) : tX o (a + x) (b + y) = tX o a b + tX o x y ∧ tY o (a + x) (b + y) = tY o a b + tY o x y := by
  unfold tX tY
  refine ⟨?_, ?_⟩ <;> (repeat' split) <;> omega
theorem t_neg (o x y : Int) : tX o (-x) (-y) = - tX o x y ∧ tY o (-x) (-y) = - tY o x y := by
  unfold tX tY
  refine ⟨?_, ?_⟩ <;> (repeat' split) <;> omega
theorem t_lin (o a b : Int) : tX o a b = a * tX o 1 0 + b * tX o 0 1 ∧ tY o a b = a * tY o 1 0 + b * tY o 0 1 := by
  unfold tX tY
  refine ⟨?_, ?_⟩ <;> (repeat' split) <;> omega
theorem t_cmp (n m : Nat) (hn : n < 8) (hm : m < 8) (a b : Int) : tX m (tX n a b) (tY n a b) = tX (cmpO n m : Nat) a b ∧ tY m (tX n a b) (tY n a b) = tY (cmpO n m : Nat) a b := by
  rcases (show n = 0 ∨ n = 1 ∨ n = 2 ∨ n = 3 ∨ n = 4 ∨ n = 5 ∨ n = 6 ∨ n = 7 by omega) with rfl | rfl | rfl | rfl | rfl | rfl | rfl | rfl <;>
  rcases (show m = 0 ∨ m = 1 ∨ m = 2 ∨ m = 3 ∨ m = 4 ∨ m = 5 ∨ m = 6 ∨ m = 7 by omega) with rfl | rfl | rfl | rfl | rfl | rfl | rfl | rfl <;>
  simp [tX, tY, cmpO]
theorem cmp_inv0 (n : Nat) (hn : n < 8) : cmpO n (invO n) = 0 := by
  have h : ∀ n : Fin 8, cmpO n (invO n) = 0 := by decide
  exact h ⟨n, hn⟩
theorem inv_ct (n : Nat) (x y : Int) (hn : n < 8) (h : vldB n x y = true) : ctB n x y (invO n : Nat) (tX (invO n : Nat) (-x) (-y)) (tY (invO n : Nat) (-x) (-y)) = true := by
  obtain ⟨⟨i1, i2⟩, ⟨i3, i4⟩, i5, i6⟩ := vldB_t h
  have hi := invO_lt n hn
  obtain ⟨⟨t1, t2⟩, t3, t4⟩ := t_bd (invO n : Nat) (-x) (-y) 80 (by omega) (by omega) (by omega) (by omega)
  have e1 := (t_neg (invO n : Nat) x y).1
  have e2 := (t_neg (invO n : Nat) x y).2
  unfold ctB
  simp only [Int.toNat_natCast, cmp_inv0 n hn, h, Bool.and_eq_true, true_and]
  exact ⟨vldB_mk (by omega) (by omega) t1 t2 t3 t4, vldB_mk (by omega) (by omega) (by omega) (by omega) (by omega) (by omega)⟩
end Go.Proofs.YtciodcknobccdaaDoor
