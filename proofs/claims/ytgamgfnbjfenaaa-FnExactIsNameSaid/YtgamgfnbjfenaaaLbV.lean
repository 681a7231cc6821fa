/- The model's validity of libraries. Condition: the cells' parts are in memory. -/
import Derived.Test.YtgamgfnbjfenaaaLbM
import Derived.Lib.Strings
namespace Go.Proofs.Ytgamgfnbjfenaaa
open Go.RowKit
set_option linter.unusedVariables false
set_option linter.unusedSimpArgs false
attribute [local go_sem ↓] Go.wp_at_zero Go.wp_at_succ

theorem byte_at (s : ByteArray) (i : Nat) (h : i < s.size) : s.data.toList[i]? = some (s[i]'h) := by
  have h' : i < s.data.toList.length := by rw [← Go.Lib.size_eq]; exact h
  rw [List.getElem?_eq_getElem h', Array.getElem_toList]; rfl
theorem nb_t {b : UInt8} {z : Int} (hz : z = (b.toNat : Int)) (h : (97 ≤ z ∧ z ≤ 122) ∨ (48 ≤ z ∧ z ≤ 57)) : nbB b = true := by
  unfold nbB
  rw [Bool.or_eq_true, decide_eq_true_eq, decide_eq_true_eq]
  omega
theorem nb_f {b : UInt8} {z : Int} (hz : z = (b.toNat : Int)) (h : ¬ (97 ≤ z ∧ z ≤ 122) ∧ ¬ (48 ≤ z ∧ z ≤ 57)) : nbB b = false := by
  unfold nbB
  rw [Bool.or_eq_false_iff, decide_eq_false_iff_not, decide_eq_false_iff_not]
  omega
set_option maxRecDepth 100000 in
set_option maxHeartbeats 4000000 in
theorem specIsName_any (s : ByteArray) (w : World) (hs : s.size ≤ 1048576) :
    Calls Try.prog 4 #[.string s] w fun e w' => e = .returned (.bool (nmB s)) ∧ w = w' := by
  go_enter Try.func4, Try.ntmps4
  go_wp2_with fail
  go_loopw [3] (fun s4 wr => ∃ i : Nat, i ≤ s.size ∧ s4 = .int .i64 (i : Nat) ∧ Hid (alF nbB s.data.toList i = true) ∧ w = wr) (fun s4 _ => s.size - (intOf s4).toNat)
  case atStart => exact ⟨0, by omega, rfl, Lib.hid (alF_zero _ _), rfl⟩
  case round =>
    obtain ⟨i, hik, rfl, HA, rfl⟩ := hrel
    by_cases hlt : i < s.size
    · have q3 : ((i : Nat) : Int) < (s.size : Int) := by omega
      have q0 : (0 : Int) ≤ ((i : Nat) : Int) := by omega
      have hb := byte_at s i hlt
      obtain ⟨b, eb⟩ : ∃ b, b = s[i]'hlt := ⟨_, rfl⟩
      rw [← eb] at hb
      obtain ⟨z, hz⟩ : ∃ z : Int, z = (b.toNat : Int) := ⟨_, rfl⟩
      have hz2 : ((s[i]'hlt).toNat : Int) = z := by rw [hz, eb]
      have HB := Lib.hid hb
      have HZ := Lib.hid hz
      clear hb hz
      have key : (97 ≤ z ∧ z ≤ 122) ∨ (48 ≤ z ∧ z ≤ 57) ∨ (z < 48) ∨ (57 < z ∧ z < 97) ∨ 122 < z := by omega
      rcases key with ⟨k1, k2⟩ | ⟨k1, k2⟩ | k1 | ⟨k1, k2⟩ | k1
      · have HA1 : Hid (alF nbB s.data.toList (i + 1) = true) := Lib.hid (by rw [alF_succ HB.out, HA.out, nb_t HZ.out (.inl ⟨k1, k2⟩)]; rfl)
        go_wp2_with fail
        go_roundw
        case rel => exact ⟨i + 1, by omega, by go_num, HA1, by trivial⟩
        case measure => simp [intOf]; omega
      · have HA1 : Hid (alF nbB s.data.toList (i + 1) = true) := Lib.hid (by rw [alF_succ HB.out, HA.out, nb_t HZ.out (.inr ⟨k1, k2⟩)]; rfl)
        have k3 : ¬ 97 ≤ z := by omega
        go_wp2_with fail
        go_roundw
        case rel => exact ⟨i + 1, by omega, by go_num, HA1, by trivial⟩
        case measure => simp [intOf]; omega
      · have hn : nmB s = false := by unfold nmB; rw [all_f HB.out (nb_f HZ.out (by omega))]; simp
        have k3 : ¬ 97 ≤ z := by omega
        have k4 : ¬ 48 ≤ z := by omega
        go_wp2_with fail
        go_ret
        exact ⟨by first | rfl | rw [hn], rfl⟩
      · have hn : nmB s = false := by unfold nmB; rw [all_f HB.out (nb_f HZ.out (by omega))]; simp
        have k3 : ¬ 97 ≤ z := by omega
        have k4 : 48 ≤ z := by omega
        have k5 : ¬ z ≤ 57 := by omega
        go_wp2_with fail
        go_ret
        exact ⟨by first | rfl | rw [hn], rfl⟩
      · have hn : nmB s = false := by unfold nmB; rw [all_f HB.out (nb_f HZ.out (by omega))]; simp
        have k3 : 97 ≤ z := by omega
        have k4 : 48 ≤ z := by omega
        have k5 : ¬ z ≤ 57 := by omega
        have k6 : ¬ z ≤ 122 := by omega
        go_wp2_with fail
        go_ret
        exact ⟨by first | rfl | rw [hn], rfl⟩
    · have q3 : ¬ ((i : Nat) : Int) < (s.size : Int) := by omega
      have hall : s.data.toList.all nbB = true := by
        have h := HA.out
        rw [← alF_full]
        rw [show s.data.toList.length = i by rw [← Go.Lib.size_eq]; omega]
        exact h
      have hn : nmB s = (decide (1 ≤ s.size) && decide (s.size ≤ 8)) := by unfold nmB; rw [hall, Bool.and_true, Bool.decide_and]
      have key : (s.size < 1) ∨ (1 ≤ s.size ∧ s.size ≤ 8) ∨ 8 < s.size := by omega
      rcases key with k1 | ⟨k1, k2⟩ | k1
      · have k3 : ¬ (1 : Int) ≤ (s.size : Int) := by omega
        go_wp2_with fail
        go_ret
        exact ⟨ret_bool (by simp_all), rfl⟩
      · have k3 : (1 : Int) ≤ (s.size : Int) := by omega
        have k4 : (s.size : Int) ≤ 8 := by omega
        go_wp2_with fail
        go_ret
        exact ⟨ret_bool (by simp_all), rfl⟩
      · have k3 : (1 : Int) ≤ (s.size : Int) := by omega
        have k4 : ¬ (s.size : Int) ≤ 8 := by omega
        go_wp2_with fail
        go_ret
        exact ⟨ret_bool (by simp_all), rfl⟩
/-- A cell that was laid in a block of its own, as a parameter is. -/
def BoxC (g : Nat) (w : World) (c : Cel) (a1 a2 a3 : Option Addr) (k1 k2 k3 : Nat) : Prop :=
  g < w.heap.size ∧ w.cell? ⟨g, 0, none⟩ = some (.string c.s) ∧ w.cell? ⟨g, 1, none⟩ = some (.slice a1 c.a.length k1) ∧ w.cell? ⟨g, 2, none⟩ = some (.slice a2 c.b.length k2) ∧ w.cell? ⟨g, 3, none⟩ = some (.slice a3 c.d.length k3)
theorem BoxC.below {g B : Nat} {w w' : World} {c : Cel} {a1 a2 a3 : Option Addr} {k1 k2 k3 : Nat} (h : BoxC g w c a1 a2 a3 k1 k2 k3) (hb : Below B w w') (hB : w.heap.size ≤ B) : BoxC g w' c a1 a2 a3 k1 k2 k3 := by
  obtain ⟨h0, c0, c1, c2, c3⟩ := h
  exact ⟨Nat.lt_of_lt_of_le h0 hb.size, (hb.cell (p := ⟨g, 0, none⟩) (by simp; omega)).trans c0, (hb.cell (p := ⟨g, 1, none⟩) (by simp; omega)).trans c1, (hb.cell (p := ⟨g, 2, none⟩) (by simp; omega)).trans c2, (hb.cell (p := ⟨g, 3, none⟩) (by simp; omega)).trans c3⟩
theorem celB_eq (k : Int) (c : Cel) : celB k c = (nmB c.s && decide (c.a.length ≤ 24) && decide (c.b.length ≤ 8) && decide (c.d.length ≤ 8) && c.a.all shpB && c.b.all lblB && c.d.all (insB k)) := by
  unfold celB
  simp only [Bool.and_assoc]
end Go.Proofs.Ytgamgfnbjfenaaa
