/- The model's validity of libraries. Condition: the cells' parts are in memory. -/
import Derived.Test.YtciodcknobccdaaLbM
import Derived.Lib.Strings
namespace Go.Proofs.Ytciodcknobccdaa
open Go.RowKit
set_option linter.unusedVariables false
set_option linter.unusedSimpArgs false
attribute [local go_sem ↓] Go.wp_at_zero Go.wp_at_succ

theorem byte_at (s : ByteArray) (i : Nat) (h : i < s.size) : s.data.toList[i]? = some (s[i]'h) := by
  have h' : i < s.data.toList.length := by rw [← Go.Lib.size_eq]; exact h
  rw [List.getElem?_eq_getElem h', Array.getElem_toList]; rfl
theorem nb_t {b : UInt8} {z : Int} (hz : z = (b.toNat : Int)) (h : (97 ≤ z ∧ z ≤ 122) ∨ (48 ≤ z ∧ z ≤ 57)) : nbB b = true := by
  unfold nbB
  rw [Bool.or_eq_true, decide_eq_true_eq, decide_eq_true_eq]
  omega
theorem nb_f {b : UInt8} {z : Int} (hz : z = (b.toNat : Int)) (h : ¬ (97 ≤ z ∧ z ≤ 122) ∧ ¬ (48 ≤ z ∧ z ≤ 57)) : nbB b = false := by
  unfold nbB
  rw [Bool.or_eq_false_iff, decide_eq_false_iff_not, decide_eq_false_iff_not]
  omega
theorem l09In_any (n lo hi : Int) (w : World) : Calls Try.prog 9 #[.int .i64 n, .int .i64 lo, .int .i64 hi] w fun e w' => e = .returned (.bool (inB n lo hi)) ∧ w = w' := by
  by_cases h1 : lo ≤ n
  all_goals
    go_enter Try.func9, Try.ntmps9
    go_wp2
    go_ret
    exact ⟨ret_bool (by simp [inB, h1]; try omega), rfl⟩
theorem l09Transform_any (o x y : Int) (w : World) : Calls Try.prog 8 #[.agg #[.int .i64 o, .int .i64 x, .int .i64 y]] w fun e w' => e = .returned (.bool (vldB o x y)) ∧ Below w.heap.size w w' := by
  by_cases h1 : inB o 0 7 = true
  · by_cases h2 : inB x (-80) 80 = true
    all_goals
      go_enter Try.func8, Try.ntmps8
      go_wp2_with (go_at_call 9; go_call l09In_any as e w' ⟨rfl, rfl⟩)
      go_ret
      exact ⟨ret_bool (by simp [vldB, h1, h2]), by go_grown⟩
  · go_enter Try.func8, Try.ntmps8
    go_wp2_with (go_at_call 9; go_call l09In_any as e w' ⟨rfl, rfl⟩)
    go_ret
    exact ⟨ret_bool (by simp [vldB, h1]), by go_grown⟩
/-- A cell that was laid in a block of its own, as a parameter is. -/
def BoxC (g : Nat) (w : World) (c : Cel) (a1 a2 a3 : Option Addr) (k1 k2 k3 : Nat) : Prop :=
  g < w.heap.size ∧ w.cell? ⟨g, 0, none⟩ = some (.string c.s) ∧ w.cell? ⟨g, 1, none⟩ = some (.slice a1 c.a.length k1) ∧ w.cell? ⟨g, 2, none⟩ = some (.slice a2 c.b.length k2) ∧ w.cell? ⟨g, 3, none⟩ = some (.slice a3 c.d.length k3)
theorem BoxC.below {g B : Nat} {w w' : World} {c : Cel} {a1 a2 a3 : Option Addr} {k1 k2 k3 : Nat} (h : BoxC g w c a1 a2 a3 k1 k2 k3) (hb : Below B w w') (hB : w.heap.size ≤ B) : BoxC g w' c a1 a2 a3 k1 k2 k3 := by
  obtain ⟨h0, c0, c1, c2, c3⟩ := h
  exact ⟨Nat.lt_of_lt_of_le h0 hb.size, (hb.cell (p := ⟨g, 0, none⟩) (by simp; omega)).trans c0, (hb.cell (p := ⟨g, 1, none⟩) (by simp; omega)).trans c1, (hb.cell (p := ⟨g, 2, none⟩) (by simp; omega)).trans c2, (hb.cell (p := ⟨g, 3, none⟩) (by simp; omega)).trans c3⟩
theorem celB_eq (k : Int) (c : Cel) : celB k c = (nmB c.s && decide (c.a.length ≤ 24) && decide (c.b.length ≤ 8) && decide (c.d.length ≤ 8) && c.a.all shpB && c.b.all lblB && c.d.all (insB k)) := by
  unfold celB
  simp only [Bool.and_assoc]
end Go.Proofs.Ytciodcknobccdaa
