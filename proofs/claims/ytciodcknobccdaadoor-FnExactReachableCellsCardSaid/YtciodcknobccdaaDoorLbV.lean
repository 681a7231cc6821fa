/- The model's validity of libraries. Condition: the cells' parts are in memory. -/
import Derived.Test.YtciodcknobccdaaDoorLbM
import Derived.Lib.Strings
namespace Go.Proofs.YtciodcknobccdaaDoor
open Go.RowKit
set_option linter.unusedVariables false
set_option linter.unusedSimpArgs false
attribute [local go_sem ↓] Go.wp_at_zero Go.wp_at_succ

theorem byte_at (s : ByteArray) (i : Nat) (h : i < s.size) : s.data.toList[i]? = some (s[i]'h) := by
  have h' : i < s.data.toList.length := by rw [← Go.Lib.size_eq]; exact h
  rw [List.getElem?_eq_getElem h', Array.getElem_toList]; rfl
theorem nb_t {b : UInt8} {z : Int} (hz : z = (b.toNat : Int)) (h : (97 ≤ z ∧ z ≤ 122) ∨ (48 ≤ z ∧ z ≤ 57)) : nbB b = true := by
  unfold nbB
  rw [Bool.or_eq_true, decide_eq_true_eq, decide_eq_true_eq]
  omega
theorem nb_f {b : UInt8} {z : Int} (hz : z = (b.toNat : Int)) (h : ¬ (97 ≤ z ∧ z ≤ 122) ∧ ¬ (48 ≤ z ∧ z ≤ 57)) : nbB b = false := by
  unfold nbB
  rw [Bool.or_eq_false_iff, decide_eq_false_iff_not, decide_eq_false_iff_not]
  omega
set_option maxRecDepth 100000 in
set_option maxHeartbeats 4000000 in
theorem specIsName_any (s : ByteArray) (w : World) (hs : s.size ≤ 1048576) :
    Calls Tryd.prog 138 #[.string s] w fun e w' => e = .returned (.bool (nmB s)) ∧ w = w' := by
  go_enter Tryd.func138, Tryd.ntmps138
  go_wp2_with fail
  go_loopw [3] (fun s4 wr => ∃ i : Nat, i ≤ s.size ∧ s4 = .int .i64 (i : Nat) ∧ Hid (alF nbB s.data.toList i = true) ∧ w = wr) (fun s4 _ => s.size - (intOf s4).toNat)
  case atStart => exact ⟨0, by omega, rfl, Lib.hid (alF_zero _ _), rfl⟩
  case round =>
    obtain ⟨i, hik, rfl, HA, rfl⟩ := hrel
    by_cases hlt : i < s.size
    · have q3 : ((i : Nat) : Int) < (s.size : Int) := by omega
      have q0 : (0 : Int) ≤ ((i : Nat) : Int) := by omega
      have hb := byte_at s i hlt
      obtain ⟨b, eb⟩ : ∃ b, b = s[i]'hlt := ⟨_, rfl⟩
      rw [← eb] at hb
      obtain ⟨z, hz⟩ : ∃ z : Int, z = (b.toNat : Int) := ⟨_, rfl⟩
      have hz2 : ((s[i]'hlt).toNat : Int) = z := by rw [hz, eb]
      have HB := Lib.hid hb
      have HZ := Lib.hid hz
      clear hb hz
      have key : (97 ≤ z ∧ z ≤ 122) ∨ (48 ≤ z ∧ z ≤ 57) ∨ (z < 48) ∨ (57 < z ∧ z < 97) ∨ 122 < z := by omega
      rcases key with ⟨k1, k2⟩ | ⟨k1, k2⟩ | k1 | ⟨k1, k2⟩ | k1
      · have HA1 : Hid (alF nbB s.data.toList (i + 1) = true) := Lib.hid (by rw [alF_succ HB.out, HA.out, nb_t HZ.out (.inl ⟨k1, k2⟩)]; rfl)
        go_wp2_with fail
        go_roundw
        case rel => exact ⟨i + 1, by omega, by go_num, HA1, by trivial⟩
        case measure => simp [intOf]; omega
      · have HA1 : Hid (alF nbB s.data.toList (i + 1) = true) := Lib.hid (by rw [alF_succ HB.out, HA.out, nb_t HZ.out (.inr ⟨k1, k2⟩)]; rfl)
        have k3 : ¬ 97 ≤ z := by omega
        go_wp2_with fail
        go_roundw
        case rel => exact ⟨i + 1, by omega, by go_num, HA1, by trivial⟩
        case measure => simp [intOf]; omega
      · have hn : nmB s = false := by unfold nmB; rw [all_f HB.out (nb_f HZ.out (by omega))]; simp
        have k3 : ¬ 97 ≤ z := by omega
        have k4 : ¬ 48 ≤ z := by omega
        go_wp2_with fail
        go_ret
        exact ⟨by first | rfl | rw [hn], rfl⟩
      · have hn : nmB s = false := by unfold nmB; rw [all_f HB.out (nb_f HZ.out (by omega))]; simp
        have k3 : ¬ 97 ≤ z := by omega
        have k4 : 48 ≤ z := by omega
        have k5 : ¬ z ≤ 57 := by omega
        go_wp2_with fail
        go_ret
        exact ⟨by first | rfl | rw [hn], rfl⟩
      · have hn : nmB s = false := by unfold nmB; rw [all_f HB.out (nb_f HZ.out (by omega))]; simp
        have k3 : 97 ≤ z := by omega
        have k4 : 48 ≤ z := by omega
        have k5 : ¬ z ≤ 57 := by omega
        have k6 : ¬ z ≤ 122 := by omega
        go_wp2_with fail
        go_ret
        exact ⟨by first | rfl | rw [hn], rfl⟩
    · have q3 : ¬ ((i : Nat) : Int) < (s.size : Int) := by omega
      have hall : s.data.toList.all nbB = true := by
        have h := HA.out
        rw [← alF_full]
        rw [show s.data.toList.length = i by rw [← Go.Lib.size_eq]; omega]
        exact h
      have hn : nmB s = (decide (1 ≤ s.size) && decide (s.size ≤ 8)) := by unfold nmB; rw [hall, Bool.and_true, Bool.decide_and]
      have key : (s.size < 1) ∨ (1 ≤ s.size ∧ s.size ≤ 8) ∨ 8 < s.size := by omega
      rcases key with k1 | ⟨k1, k2⟩ | k1
      · have k3 : ¬ (1 : Int) ≤ (s.size : Int) := by omega
        go_wp2_with fail
        go_ret
        exact ⟨ret_bool (by simp_all), rfl⟩
      · have k3 : (1 : Int) ≤ (s.size : Int) := by omega
        have k4 : (s.size : Int) ≤ 8 := by omega
        go_wp2_with fail
        go_ret
        exact ⟨ret_bool (by simp_all), rfl⟩
      · have k3 : (1 : Int) ≤ (s.size : Int) := by omega
        have k4 : ¬ (s.size : Int) ≤ 8 := by omega
        go_wp2_with fail
        go_ret
        exact ⟨ret_bool (by simp_all), rfl⟩
theorem l09In_any (n lo hi : Int) (w : World) : Calls Tryd.prog 94 #[.int .i64 n, .int .i64 lo, .int .i64 hi] w fun e w' => e = .returned (.bool (inB n lo hi)) ∧ w = w' := by
  by_cases h1 : lo ≤ n
  all_goals
    go_enter Tryd.func94, Tryd.ntmps94
    go_wp2
    go_ret
    exact ⟨ret_bool (by simp [inB, h1]; try omega), rfl⟩
theorem l09Layer_any (n : Int) (w : World) : Calls Tryd.prog 159 #[.int .i64 n] w fun e w' => e = .returned (.bool (inB n 0 7)) ∧ w = w' := by
  go_enter Tryd.func159, Tryd.ntmps159
  go_wp2_with (go_at_call 94; go_call l09In_any as e w' ⟨rfl, rfl⟩)
  go_ret
  exact ⟨rfl, rfl⟩
theorem l09Unit_any (x y : Int) (w : World) : Calls Tryd.prog 161 #[.agg #[.int .i64 x, .int .i64 y]] w fun e w' => e = .returned (.bool (inB x (-40) 39 && inB y (-40) 39)) ∧ Below w.heap.size w w' := by
  by_cases h1 : inB x (-40) 39 = true
  all_goals
    go_enter Tryd.func161, Tryd.ntmps161
    go_wp2_with (go_at_call 94; go_call l09In_any as e w' ⟨rfl, rfl⟩)
    go_ret
    exact ⟨ret_bool (by simp [h1]), by go_grown⟩
theorem l09Transform_any (o x y : Int) (w : World) : Calls Tryd.prog 162 #[.agg #[.int .i64 o, .int .i64 x, .int .i64 y]] w fun e w' => e = .returned (.bool (vldB o x y)) ∧ Below w.heap.size w w' := by
  by_cases h1 : inB o 0 7 = true
  · by_cases h2 : inB x (-80) 80 = true
    all_goals
      go_enter Tryd.func162, Tryd.ntmps162
      go_wp2_with (go_at_call 94; go_call l09In_any as e w' ⟨rfl, rfl⟩)
      go_ret
      exact ⟨ret_bool (by simp [vldB, h1, h2]), by go_grown⟩
  · go_enter Tryd.func162, Tryd.ntmps162
    go_wp2_with (go_at_call 94; go_call l09In_any as e w' ⟨rfl, rfl⟩)
    go_ret
    exact ⟨ret_bool (by simp [vldB, h1]), by go_grown⟩
theorem l09Rect_any (a b c d : Int) (w : World) : Calls Tryd.prog 160 #[.agg #[.int .i64 a, .int .i64 b, .int .i64 c, .int .i64 d]] w fun e w' => e = .returned (.bool (rvB a b c d)) ∧ Below w.heap.size w w' := by
  have key : (a < -40) ∨ (-40 ≤ a ∧ ¬ a < c) ∨ (-40 ≤ a ∧ a < c ∧ ¬ c ≤ 40) ∨ (-40 ≤ a ∧ a < c ∧ c ≤ 40 ∧ ¬ -40 ≤ b) ∨ (-40 ≤ a ∧ a < c ∧ c ≤ 40 ∧ -40 ≤ b ∧ ¬ b < d) ∨ (-40 ≤ a ∧ a < c ∧ c ≤ 40 ∧ -40 ≤ b ∧ b < d) := by omega
  have e : rvB a b c d = (decide (-40 ≤ a) && decide (a < c) && decide (c ≤ 40) && decide (-40 ≤ b) && decide (b < d) && decide (d ≤ 40)) := by
    unfold rvB
    rw [Bool.eq_iff_iff]
    simp only [Bool.and_eq_true, decide_eq_true_eq]
    omega
  rw [e]
  rcases key with h1 | ⟨h1, h2⟩ | ⟨h1, h2, h3⟩ | ⟨h1, h2, h3, h4⟩ | ⟨h1, h2, h3, h4, h5⟩ | ⟨h1, h2, h3, h4, h5⟩
  all_goals
    (try have h1' : ¬ -40 ≤ a := by omega)
    go_enter Tryd.func160, Tryd.ntmps160
    go_wp2_with fail
    go_ret
    exact ⟨ret_bool (by simp [*]; try omega), by (repeat (first | (with_reducible exact Below.refl _ _) | (with_reducible refine Ext.drewN ?_ _) | (with_reducible refine Below.drew ?_) | (with_reducible refine Ext.alloc ?_ _) | (with_reducible refine Ext.setCell ?_ (by simp; try omega) _) | (with_reducible refine Ext.trans ?_ (by assumption)) | (with_reducible assumption) | exact Below.refl _ _))⟩
theorem l09Shape_any (l a b c d : Int) (w : World) : Calls Tryd.prog 139 #[.agg #[.int .i64 l, .int .i64 a, .int .i64 b, .int .i64 c, .int .i64 d]] w fun e w' => e = .returned (.bool (inB l 0 7 && rvB a b c d)) ∧ Below w.heap.size w w' := by
  by_cases h1 : inB l 0 7 = true
  all_goals
    go_enter Tryd.func139, Tryd.ntmps139
    go_wp2_with (first | (go_at_call 159; go_call l09Layer_any as e w' ⟨rfl, rfl⟩) | (go_at_call 160; refine (l09Rect_any _ _ _ _ _).mono ?_; rintro e v1 ⟨rfl, bv1⟩; obtain ⟨sv1, zv1, cv1, fv1⟩ := bcell bv1; (try simp only [World.size_alloc, World.size_setCell, World.size_drew] at sv1)))
    go_ret
    exact ⟨ret_bool (by simp [h1]), by (repeat (first | (with_reducible exact Below.refl _ _) | (with_reducible refine Ext.drewN ?_ _) | (with_reducible refine Below.drew ?_) | (with_reducible refine Ext.alloc ?_ _) | (with_reducible refine Ext.setCell ?_ (by simp; try omega) _) | (with_reducible refine Ext.trans ?_ (by assumption)) | (with_reducible assumption) | exact Below.refl _ _))⟩
theorem l09Label_any (l a b : Int) (s : ByteArray) (w : World) (hs : s.size ≤ 1048576) : Calls Tryd.prog 140 #[.agg #[.int .i64 l, .int .i64 a, .int .i64 b, .string s]] w fun e w' => e = .returned (.bool (inB l 0 7 && (inB a (-40) 39 && inB b (-40) 39) && nmB s)) ∧ Below w.heap.size w w' := by
  by_cases h1 : inB l 0 7 = true
  · by_cases h2 : (inB a (-40) 39 && inB b (-40) 39) = true
    all_goals
      go_enter Tryd.func140, Tryd.ntmps140
      go_wp2_with (first | (go_at_call 159; go_call l09Layer_any as e w' ⟨rfl, rfl⟩) | (go_at_call 161; refine (l09Unit_any _ _ _).mono ?_; rintro e v1 ⟨rfl, bv1⟩; obtain ⟨sv1, zv1, cv1, fv1⟩ := bcell bv1; (try simp only [World.size_alloc, World.size_setCell, World.size_drew] at sv1); first | rw [h2] | rw [Bool.not_eq_true] at h2; rw [h2]) | (go_at_call 138; refine (specIsName_any _ _ hs).mono ?_; rintro e v2 ⟨rfl, rfl⟩))
      go_ret
      exact ⟨ret_bool (by simp [h1]; try simp_all), by (repeat (first | (with_reducible exact Below.refl _ _) | (with_reducible refine Ext.drewN ?_ _) | (with_reducible refine Below.drew ?_) | (with_reducible refine Ext.alloc ?_ _) | (with_reducible refine Ext.setCell ?_ (by simp; try omega) _) | (with_reducible refine Ext.trans ?_ (by assumption)) | (with_reducible assumption) | exact Below.refl _ _))⟩
  · go_enter Tryd.func140, Tryd.ntmps140
    go_wp2_with (first | (go_at_call 159; go_call l09Layer_any as e w' ⟨rfl, rfl⟩))
    go_ret
    exact ⟨ret_bool (by simp [h1]), by (repeat (first | (with_reducible exact Below.refl _ _) | (with_reducible refine Ext.drewN ?_ _) | (with_reducible refine Below.drew ?_) | (with_reducible refine Ext.alloc ?_ _) | (with_reducible refine Ext.setCell ?_ (by simp; try omega) _) | (with_reducible refine Ext.trans ?_ (by assumption)) | (with_reducible assumption) | exact Below.refl _ _))⟩
set_option maxHeartbeats 4000000 in
theorem l09Instance_any (s : Ins) (k : Int) (w : World) (hk : -1000 ≤ k ∧ k ≤ 1000) : Calls Tryd.prog 141 #[.agg #[.int .i64 s.c, .int .i64 s.o, .int .i64 s.x, .int .i64 s.y, .int .i64 s.m, .int .i64 s.n, .int .i64 s.p, .int .i64 s.q], .int .i64 k] w fun e w' => e = .returned (.bool (insB k s)) ∧ Below w.heap.size w w' := by
  have e : insB k s = (inB s.c 0 (k - 1) && vldB s.o s.x s.y && inB s.m 1 4 && inB s.n 1 4 && inB s.p (-80) 80 && inB s.q (-80) 80 && (decide (1 < s.m) || decide (s.p = 0)) && (decide (1 < s.n) || decide (s.q = 0))) := by
    unfold insB stpB
    generalize inB s.c 0 (k - 1) = a1
    generalize vldB s.o s.x s.y = a2
    generalize inB s.m 1 4 = a3
    generalize inB s.n 1 4 = a4
    generalize inB s.p (-80) 80 = a5
    generalize inB s.q (-80) 80 = a6
    cases a1 <;> cases a2 <;> cases a3 <;> cases a4 <;> cases a5 <;> cases a6 <;> simp
  rw [e]
  clear e
  obtain ⟨k1, k2⟩ := hk
  by_cases h1 : inB s.c 0 (k - 1) = true
  case neg =>
    go_enter Tryd.func141, Tryd.ntmps141
    go_wp2_with (first | (go_at_call 94; go_call l09In_any as e w' ⟨rfl, rfl⟩) | (go_at_call 162; refine (l09Transform_any _ _ _ _).mono ?_; rintro e v1 ⟨rfl, bv1⟩; obtain ⟨sv1, zv1, cv1, fv1⟩ := bcell bv1; (try simp only [World.size_alloc, World.size_setCell, World.size_drew] at sv1)))
    go_ret
    exact ⟨ret_bool (by first | (simp [*]; done) | (simp [*]; rfl) | (simp [*]; intro _; exfalso; omega)), by (repeat (first | (with_reducible exact Below.refl _ _) | (with_reducible refine Ext.drewN ?_ _) | (with_reducible refine Below.drew ?_) | (with_reducible refine Ext.alloc ?_ _) | (with_reducible refine Ext.setCell ?_ (by simp; try omega) _) | (with_reducible refine Ext.trans ?_ (by assumption)) | (with_reducible assumption) | exact Below.refl _ _))⟩
  by_cases h2 : vldB s.o s.x s.y = true
  case neg =>
    go_enter Tryd.func141, Tryd.ntmps141
    go_wp2_with (first | (go_at_call 94; go_call l09In_any as e w' ⟨rfl, rfl⟩) | (go_at_call 162; refine (l09Transform_any _ _ _ _).mono ?_; rintro e v1 ⟨rfl, bv1⟩; obtain ⟨sv1, zv1, cv1, fv1⟩ := bcell bv1; (try simp only [World.size_alloc, World.size_setCell, World.size_drew] at sv1)))
    go_ret
    exact ⟨ret_bool (by first | (simp [*]; done) | (simp [*]; rfl) | (simp [*]; intro _; exfalso; omega)), by (repeat (first | (with_reducible exact Below.refl _ _) | (with_reducible refine Ext.drewN ?_ _) | (with_reducible refine Below.drew ?_) | (with_reducible refine Ext.alloc ?_ _) | (with_reducible refine Ext.setCell ?_ (by simp; try omega) _) | (with_reducible refine Ext.trans ?_ (by assumption)) | (with_reducible assumption) | exact Below.refl _ _))⟩
  by_cases h3 : inB s.m 1 4 = true
  case neg =>
    go_enter Tryd.func141, Tryd.ntmps141
    go_wp2_with (first | (go_at_call 94; go_call l09In_any as e w' ⟨rfl, rfl⟩) | (go_at_call 162; refine (l09Transform_any _ _ _ _).mono ?_; rintro e v1 ⟨rfl, bv1⟩; obtain ⟨sv1, zv1, cv1, fv1⟩ := bcell bv1; (try simp only [World.size_alloc, World.size_setCell, World.size_drew] at sv1)))
    go_ret
    exact ⟨ret_bool (by first | (simp [*]; done) | (simp [*]; rfl) | (simp [*]; intro _; exfalso; omega)), by (repeat (first | (with_reducible exact Below.refl _ _) | (with_reducible refine Ext.drewN ?_ _) | (with_reducible refine Below.drew ?_) | (with_reducible refine Ext.alloc ?_ _) | (with_reducible refine Ext.setCell ?_ (by simp; try omega) _) | (with_reducible refine Ext.trans ?_ (by assumption)) | (with_reducible assumption) | exact Below.refl _ _))⟩
  by_cases h4 : inB s.n 1 4 = true
  case neg =>
    go_enter Tryd.func141, Tryd.ntmps141
    go_wp2_with (first | (go_at_call 94; go_call l09In_any as e w' ⟨rfl, rfl⟩) | (go_at_call 162; refine (l09Transform_any _ _ _ _).mono ?_; rintro e v1 ⟨rfl, bv1⟩; obtain ⟨sv1, zv1, cv1, fv1⟩ := bcell bv1; (try simp only [World.size_alloc, World.size_setCell, World.size_drew] at sv1)))
    go_ret
    exact ⟨ret_bool (by first | (simp [*]; done) | (simp [*]; rfl) | (simp [*]; intro _; exfalso; omega)), by (repeat (first | (with_reducible exact Below.refl _ _) | (with_reducible refine Ext.drewN ?_ _) | (with_reducible refine Below.drew ?_) | (with_reducible refine Ext.alloc ?_ _) | (with_reducible refine Ext.setCell ?_ (by simp; try omega) _) | (with_reducible refine Ext.trans ?_ (by assumption)) | (with_reducible assumption) | exact Below.refl _ _))⟩
  by_cases h5 : inB s.p (-80) 80 = true
  case neg =>
    go_enter Tryd.func141, Tryd.ntmps141
    go_wp2_with (first | (go_at_call 94; go_call l09In_any as e w' ⟨rfl, rfl⟩) | (go_at_call 162; refine (l09Transform_any _ _ _ _).mono ?_; rintro e v1 ⟨rfl, bv1⟩; obtain ⟨sv1, zv1, cv1, fv1⟩ := bcell bv1; (try simp only [World.size_alloc, World.size_setCell, World.size_drew] at sv1)))
    go_ret
    exact ⟨ret_bool (by first | (simp [*]; done) | (simp [*]; rfl) | (simp [*]; intro _; exfalso; omega)), by (repeat (first | (with_reducible exact Below.refl _ _) | (with_reducible refine Ext.drewN ?_ _) | (with_reducible refine Below.drew ?_) | (with_reducible refine Ext.alloc ?_ _) | (with_reducible refine Ext.setCell ?_ (by simp; try omega) _) | (with_reducible refine Ext.trans ?_ (by assumption)) | (with_reducible assumption) | exact Below.refl _ _))⟩
  by_cases h6 : inB s.q (-80) 80 = true
  case neg =>
    go_enter Tryd.func141, Tryd.ntmps141
    go_wp2_with (first | (go_at_call 94; go_call l09In_any as e w' ⟨rfl, rfl⟩) | (go_at_call 162; refine (l09Transform_any _ _ _ _).mono ?_; rintro e v1 ⟨rfl, bv1⟩; obtain ⟨sv1, zv1, cv1, fv1⟩ := bcell bv1; (try simp only [World.size_alloc, World.size_setCell, World.size_drew] at sv1)))
    go_ret
    exact ⟨ret_bool (by first | (simp [*]; done) | (simp [*]; rfl) | (simp [*]; intro _; exfalso; omega)), by (repeat (first | (with_reducible exact Below.refl _ _) | (with_reducible refine Ext.drewN ?_ _) | (with_reducible refine Below.drew ?_) | (with_reducible refine Ext.alloc ?_ _) | (with_reducible refine Ext.setCell ?_ (by simp; try omega) _) | (with_reducible refine Ext.trans ?_ (by assumption)) | (with_reducible assumption) | exact Below.refl _ _))⟩
  by_cases h7 : 1 < s.m
  · by_cases h8 : 1 < s.n
    all_goals
      go_enter Tryd.func141, Tryd.ntmps141
      go_wp2_with (first | (go_at_call 94; go_call l09In_any as e w' ⟨rfl, rfl⟩) | (go_at_call 162; refine (l09Transform_any _ _ _ _).mono ?_; rintro e v1 ⟨rfl, bv1⟩; obtain ⟨sv1, zv1, cv1, fv1⟩ := bcell bv1; (try simp only [World.size_alloc, World.size_setCell, World.size_drew] at sv1)))
      go_ret
      exact ⟨ret_bool (by first | (simp [*]; done) | (simp [*]; rfl) | (simp [*]; intro _; exfalso; omega)), by (repeat (first | (with_reducible exact Below.refl _ _) | (with_reducible refine Ext.drewN ?_ _) | (with_reducible refine Below.drew ?_) | (with_reducible refine Ext.alloc ?_ _) | (with_reducible refine Ext.setCell ?_ (by simp; try omega) _) | (with_reducible refine Ext.trans ?_ (by assumption)) | (with_reducible assumption) | exact Below.refl _ _))⟩
  · by_cases h9 : s.p = 0
    · by_cases h8 : 1 < s.n
      all_goals
        go_enter Tryd.func141, Tryd.ntmps141
        go_wp2_with (first | (go_at_call 94; go_call l09In_any as e w' ⟨rfl, rfl⟩) | (go_at_call 162; refine (l09Transform_any _ _ _ _).mono ?_; rintro e v1 ⟨rfl, bv1⟩; obtain ⟨sv1, zv1, cv1, fv1⟩ := bcell bv1; (try simp only [World.size_alloc, World.size_setCell, World.size_drew] at sv1)))
        go_ret
        exact ⟨ret_bool (by first | (simp [*]; done) | (simp [*]; rfl) | (simp [*]; intro _; exfalso; omega)), by (repeat (first | (with_reducible exact Below.refl _ _) | (with_reducible refine Ext.drewN ?_ _) | (with_reducible refine Below.drew ?_) | (with_reducible refine Ext.alloc ?_ _) | (with_reducible refine Ext.setCell ?_ (by simp; try omega) _) | (with_reducible refine Ext.trans ?_ (by assumption)) | (with_reducible assumption) | exact Below.refl _ _))⟩
    · go_enter Tryd.func141, Tryd.ntmps141
      go_wp2_with (first | (go_at_call 94; go_call l09In_any as e w' ⟨rfl, rfl⟩) | (go_at_call 162; refine (l09Transform_any _ _ _ _).mono ?_; rintro e v1 ⟨rfl, bv1⟩; obtain ⟨sv1, zv1, cv1, fv1⟩ := bcell bv1; (try simp only [World.size_alloc, World.size_setCell, World.size_drew] at sv1)))
      go_ret
      exact ⟨ret_bool (by first | (simp [*]; done) | (simp [*]; rfl) | (simp [*]; intro _; exfalso; omega)), by (repeat (first | (with_reducible exact Below.refl _ _) | (with_reducible refine Ext.drewN ?_ _) | (with_reducible refine Below.drew ?_) | (with_reducible refine Ext.alloc ?_ _) | (with_reducible refine Ext.setCell ?_ (by simp; try omega) _) | (with_reducible refine Ext.trans ?_ (by assumption)) | (with_reducible assumption) | exact Below.refl _ _))⟩
/-- A cell that was laid in a block of its own, as a parameter is. -/
def BoxC (g : Nat) (w : World) (c : Cel) (a1 a2 a3 : Option Addr) (k1 k2 k3 : Nat) : Prop :=
  g < w.heap.size ∧ w.cell? ⟨g, 0, none⟩ = some (.string c.s) ∧ w.cell? ⟨g, 1, none⟩ = some (.slice a1 c.a.length k1) ∧ w.cell? ⟨g, 2, none⟩ = some (.slice a2 c.b.length k2) ∧ w.cell? ⟨g, 3, none⟩ = some (.slice a3 c.d.length k3)
theorem BoxC.below {g B : Nat} {w w' : World} {c : Cel} {a1 a2 a3 : Option Addr} {k1 k2 k3 : Nat} (h : BoxC g w c a1 a2 a3 k1 k2 k3) (hb : Below B w w') (hB : w.heap.size ≤ B) : BoxC g w' c a1 a2 a3 k1 k2 k3 := by
  obtain ⟨h0, c0, c1, c2, c3⟩ := h
  exact ⟨Nat.lt_of_lt_of_le h0 hb.size, (hb.cell (p := ⟨g, 0, none⟩) (by simp; omega)).trans c0, (hb.cell (p := ⟨g, 1, none⟩) (by simp; omega)).trans c1, (hb.cell (p := ⟨g, 2, none⟩) (by simp; omega)).trans c2, (hb.cell (p := ⟨g, 3, none⟩) (by simp; omega)).trans c3⟩
theorem celB_eq (k : Int) (c : Cel) : celB k c = (nmB c.s && decide (c.a.length ≤ 24) && decide (c.b.length ≤ 8) && decide (c.d.length ≤ 8) && c.a.all shpB && c.b.all lblB && c.d.all (insB k)) := by
  unfold celB
  simp only [Bool.and_assoc]
set_option maxRecDepth 100000 in
set_option maxHeartbeats 8000000 in
theorem l09Cell_any (c : Cel) (a1 a2 a3 : Option Addr) (k1 k2 k3 : Nat) (k : Int) (w : World) (hk : -1000 ≤ k ∧ k ≤ 1000) (hs : c.s.size ≤ 1048576) (ha : c.a.length ≤ 1048576) (hb : c.b.length ≤ 1048576) (hd : c.d.length ≤ 1048576) (hl : ∀ (j : Nat) (s : Lbl), c.b[j]? = some s → s.s.size ≤ 1048576) (hC : CelAt w.heap.size w a1 a2 a3 c) :
    Calls Tryd.prog 120 #[.agg #[.string c.s, .slice a1 c.a.length k1, .slice a2 c.b.length k2, .slice a3 c.d.length k3], .int .i64 k] w fun e w' => e = .returned (.bool (celB k c)) ∧ Below w.heap.size w w' := by
  rw [celB_eq]
  have HC := Lib.hid hC
  have HS := Lib.hid hl
  have HK := Lib.hid hk
  clear hC hl hk
  cases h0 : nmB c.s with
  | false =>
    go_enter Tryd.func120, Tryd.ntmps120
    go_wp2_with (first | (go_at_call 138; refine (specIsName_any _ _ hs).mono ?_; rintro e v1 ⟨rfl, rfl⟩; rw [h0]))
    go_ret
    exact ⟨by simp, by (repeat (first | (with_reducible exact Below.refl _ _) | (with_reducible refine Ext.drewN ?_ _) | (with_reducible refine Below.drew ?_) | (with_reducible refine Ext.alloc ?_ _) | (with_reducible refine Ext.setCell ?_ (by simp; try omega) _) | (with_reducible refine Ext.trans ?_ (by assumption)) | (with_reducible assumption) | exact Below.refl _ _))⟩
  | true =>
  by_cases h1 : c.a.length ≤ 24
  case neg =>
    have q1 : (24 : Int) < (c.a.length : Int) := by omega
    go_enter Tryd.func120, Tryd.ntmps120
    go_wp2_with (first | (go_at_call 138; refine (specIsName_any _ _ hs).mono ?_; rintro e v1 ⟨rfl, rfl⟩; rw [h0]))
    go_ret
    exact ⟨by simp [h1], by (repeat (first | (with_reducible exact Below.refl _ _) | (with_reducible refine Ext.drewN ?_ _) | (with_reducible refine Below.drew ?_) | (with_reducible refine Ext.alloc ?_ _) | (with_reducible refine Ext.setCell ?_ (by simp; try omega) _) | (with_reducible refine Ext.trans ?_ (by assumption)) | (with_reducible assumption) | exact Below.refl _ _))⟩
  have q1 : ¬ (24 : Int) < (c.a.length : Int) := by omega
  by_cases h2 : c.b.length ≤ 8
  case neg =>
    have q2 : (8 : Int) < (c.b.length : Int) := by omega
    go_enter Tryd.func120, Tryd.ntmps120
    go_wp2_with (first | (go_at_call 138; refine (specIsName_any _ _ hs).mono ?_; rintro e v1 ⟨rfl, rfl⟩; rw [h0]))
    go_ret
    exact ⟨by simp [h2], by (repeat (first | (with_reducible exact Below.refl _ _) | (with_reducible refine Ext.drewN ?_ _) | (with_reducible refine Below.drew ?_) | (with_reducible refine Ext.alloc ?_ _) | (with_reducible refine Ext.setCell ?_ (by simp; try omega) _) | (with_reducible refine Ext.trans ?_ (by assumption)) | (with_reducible assumption) | exact Below.refl _ _))⟩
  have q2 : ¬ (8 : Int) < (c.b.length : Int) := by omega
  by_cases h3 : c.d.length ≤ 8
  case neg =>
    have q3 : (8 : Int) < (c.d.length : Int) := by omega
    go_enter Tryd.func120, Tryd.ntmps120
    go_wp2_with (first | (go_at_call 138; refine (specIsName_any _ _ hs).mono ?_; rintro e v1 ⟨rfl, rfl⟩; rw [h0]))
    go_ret
    exact ⟨by simp [h3], by (repeat (first | (with_reducible exact Below.refl _ _) | (with_reducible refine Ext.drewN ?_ _) | (with_reducible refine Below.drew ?_) | (with_reducible refine Ext.alloc ?_ _) | (with_reducible refine Ext.setCell ?_ (by simp; try omega) _) | (with_reducible refine Ext.trans ?_ (by assumption)) | (with_reducible assumption) | exact Below.refl _ _))⟩
  have q3 : ¬ (8 : Int) < (c.d.length : Int) := by omega
  rw [decide_eq_true h1, decide_eq_true h2, decide_eq_true h3]
  simp only [Bool.true_and]
  have hq1 := h1
  have hq2 := h2
  have hq3 := h3
  clear h1 h2 h3
  go_enter Tryd.func120, Tryd.ntmps120
  go_wp2_with (first | (go_at_call 138; refine (specIsName_any _ _ hs).mono ?_; rintro e v1 ⟨rfl, rfl⟩; rw [h0]))
  go_loopw [5] (fun s4 wr => ∃ i : Nat, i ≤ c.a.length ∧ s4 = .int .i64 (i : Nat) ∧ Hid (alF shpB c.a i = true) ∧ Below w.heap.size w wr ∧ Hid (BoxC w.heap.size wr c a1 a2 a3 k1 k2 k3)) (fun s4 _ => c.a.length - (intOf s4).toNat)
  case atStart => exact ⟨0, by omega, rfl, Lib.hid (alF_zero _ _), by (repeat (first | (with_reducible exact Below.refl _ _) | (with_reducible refine Ext.drewN ?_ _) | (with_reducible refine Below.drew ?_) | (with_reducible refine Ext.alloc ?_ _) | (with_reducible refine Ext.setCell ?_ (by simp; try omega) _) | (with_reducible refine Ext.trans ?_ (by assumption)) | (with_reducible assumption) | exact Below.refl _ _)), Lib.hid ⟨by simp, by simp [go_sem], by simp [go_sem], by simp [go_sem], by simp [go_sem]⟩⟩
  case round =>
    obtain ⟨i, hik, rfl, HA, hW, HX⟩ := hrel
    obtain ⟨x0, y0, y1, y2, y3⟩ := HX.out
    by_cases hlt : i < c.a.length
    · obtain ⟨s, hi⟩ := get_some hlt
      obtain ⟨b, off, rfl, hb, c0, c1, c2, c3, c4⟩ := shp_at (HC.out.1.below hW) hi
      have r3 : ((i : Nat) : Int) < (c.a.length : Int) := by omega
      have r0 : (0 : Int) ≤ ((i : Nat) : Int) := by omega
      have HI := Lib.hid hi
      clear hi
      cases hp : shpB s with
      | false =>
        have HN := Lib.hid (all_f HI.out hp)
        unfold shpB at hp
        go_wp2_with (first | (go_at_call 139; refine (l09Shape_any _ _ _ _ _ _).mono ?_; rintro e v2 ⟨rfl, bv2⟩; rw [hp]))
        go_ret
        exact ⟨ret_bool (by simp [HN.out]), by (repeat (first | (with_reducible exact Below.refl _ _) | (with_reducible refine Ext.drewN ?_ _) | (with_reducible refine Below.drew ?_) | (with_reducible refine Ext.alloc ?_ _) | (with_reducible refine Ext.setCell ?_ (by simp; try omega) _) | (with_reducible refine Ext.trans ?_ (by assumption)) | (with_reducible assumption) | exact Below.refl _ _))⟩
      | true =>
        have HA1 : Hid (alF shpB c.a (i + 1) = true) := Lib.hid (by rw [alF_succ HI.out, HA.out, hp]; rfl)
        unfold shpB at hp
        go_wp2_with (first | (go_at_call 139; refine (l09Shape_any _ _ _ _ _ _).mono ?_; rintro e v2 ⟨rfl, bv2⟩; rw [hp]))
        go_roundw
        case rel => exact ⟨i + 1, by omega, by go_num, HA1, by (repeat (first | (with_reducible exact Below.refl _ _) | (with_reducible refine Ext.drewN ?_ _) | (with_reducible refine Below.drew ?_) | (with_reducible refine Ext.alloc ?_ _) | (with_reducible refine Ext.setCell ?_ (by simp; try omega) _) | (with_reducible refine Ext.trans ?_ (by assumption)) | (with_reducible assumption) | exact Below.refl _ _)), Lib.hid (HX.out.below bv2 (Nat.le_refl _))⟩
        case measure => simp [intOf]; omega
    · have r3 : ¬ ((i : Nat) : Int) < (c.a.length : Int) := by omega
      have hx : c.a.all shpB = true := by rw [← alF_full, show c.a.length = i by omega]; exact HA.out
      have HXA := Lib.hid hx
      clear HA hx
      go_wp2_with fail
      go_loopw [6] (fun s4 wr => ∃ i : Nat, i ≤ c.b.length ∧ s4 = .int .i64 (i : Nat) ∧ Hid (alF lblB c.b i = true) ∧ Below w.heap.size w wr ∧ Hid (BoxC w.heap.size wr c a1 a2 a3 k1 k2 k3)) (fun s4 _ => c.b.length - (intOf s4).toNat)
      case atStart => exact ⟨0, by omega, rfl, Lib.hid (alF_zero _ _), by (repeat (first | (with_reducible exact Below.refl _ _) | (with_reducible refine Ext.drewN ?_ _) | (with_reducible refine Below.drew ?_) | (with_reducible refine Ext.alloc ?_ _) | (with_reducible refine Ext.setCell ?_ (by simp; try omega) _) | (with_reducible refine Ext.trans ?_ (by assumption)) | (with_reducible assumption) | exact Below.refl _ _)), HX⟩
      case round =>
        clear hW HX x0 y0 y1 y2 y3
        obtain ⟨j, hjk, rfl, HA, hW, HX⟩ := hrel
        obtain ⟨x0, y0, y1, y2, y3⟩ := HX.out
        by_cases hlt : j < c.b.length
        · obtain ⟨s, hi⟩ := get_some hlt
          obtain ⟨b, off, rfl, hb, c0, c1, c2, c3⟩ := lbl_at (HC.out.2.1.below hW) hi
          have hs1 := HS.out j s hi
          have r4 : ((j : Nat) : Int) < (c.b.length : Int) := by omega
          have r0 : (0 : Int) ≤ ((j : Nat) : Int) := by omega
          have HI := Lib.hid hi
          clear hi
          cases hp : lblB s with
          | false =>
            have HN := Lib.hid (all_f HI.out hp)
            unfold lblB at hp
            go_wp2_with (first | (go_at_call 140; refine (l09Label_any _ _ _ _ _ hs1).mono ?_; rintro e v2 ⟨rfl, bv2⟩; rw [hp]))
            go_ret
            exact ⟨ret_bool (by simp [HN.out]), by (repeat (first | (with_reducible exact Below.refl _ _) | (with_reducible refine Ext.drewN ?_ _) | (with_reducible refine Below.drew ?_) | (with_reducible refine Ext.alloc ?_ _) | (with_reducible refine Ext.setCell ?_ (by simp; try omega) _) | (with_reducible refine Ext.trans ?_ (by assumption)) | (with_reducible assumption) | exact Below.refl _ _))⟩
          | true =>
            have HA1 : Hid (alF lblB c.b (j + 1) = true) := Lib.hid (by rw [alF_succ HI.out, HA.out, hp]; rfl)
            unfold lblB at hp
            go_wp2_with (first | (go_at_call 140; refine (l09Label_any _ _ _ _ _ hs1).mono ?_; rintro e v2 ⟨rfl, bv2⟩; rw [hp]))
            go_roundw
            case rel => exact ⟨j + 1, by omega, by go_num, HA1, by (repeat (first | (with_reducible exact Below.refl _ _) | (with_reducible refine Ext.drewN ?_ _) | (with_reducible refine Below.drew ?_) | (with_reducible refine Ext.alloc ?_ _) | (with_reducible refine Ext.setCell ?_ (by simp; try omega) _) | (with_reducible refine Ext.trans ?_ (by assumption)) | (with_reducible assumption) | exact Below.refl _ _)), Lib.hid (HX.out.below bv2 (Nat.le_refl _))⟩
            case measure => simp [intOf]; omega
        · have r4 : ¬ ((j : Nat) : Int) < (c.b.length : Int) := by omega
          have hx : c.b.all lblB = true := by rw [← alF_full, show c.b.length = j by omega]; exact HA.out
          have HXB := Lib.hid hx
          clear HA hx
          go_wp2_with fail
          go_loopw [7] (fun s4 wr => ∃ i : Nat, i ≤ c.d.length ∧ s4 = .int .i64 (i : Nat) ∧ Hid (alF (insB k) c.d i = true) ∧ Below w.heap.size w wr ∧ Hid (BoxC w.heap.size wr c a1 a2 a3 k1 k2 k3)) (fun s4 _ => c.d.length - (intOf s4).toNat)
          case atStart => exact ⟨0, by omega, rfl, Lib.hid (alF_zero _ _), by (repeat (first | (with_reducible exact Below.refl _ _) | (with_reducible refine Ext.drewN ?_ _) | (with_reducible refine Below.drew ?_) | (with_reducible refine Ext.alloc ?_ _) | (with_reducible refine Ext.setCell ?_ (by simp; try omega) _) | (with_reducible refine Ext.trans ?_ (by assumption)) | (with_reducible assumption) | exact Below.refl _ _)), HX⟩
          case round =>
            clear hW HX x0 y0 y1 y2 y3
            obtain ⟨t, htk, rfl, HA, hW, HX⟩ := hrel
            obtain ⟨x0, y0, y1, y2, y3⟩ := HX.out
            by_cases hlt : t < c.d.length
            · obtain ⟨s, hi⟩ := get_some hlt
              obtain ⟨b, off, rfl, hb, c0, c1, c2, c3, c4, c5, c6, c7⟩ := ins_at (HC.out.2.2.below hW) hi
              have r5 : ((t : Nat) : Int) < (c.d.length : Int) := by omega
              have r0 : (0 : Int) ≤ ((t : Nat) : Int) := by omega
              have HI := Lib.hid hi
              clear hi
              cases hp : insB k s with
              | false =>
                have HN := Lib.hid (all_f HI.out hp)
                go_wp2_with (first | (go_at_call 141; refine (l09Instance_any s k _ HK.out).mono ?_; rintro e v2 ⟨rfl, bv2⟩; rw [hp]))
                go_ret
                exact ⟨ret_bool (by simp [HN.out]), by (repeat (first | (with_reducible exact Below.refl _ _) | (with_reducible refine Ext.drewN ?_ _) | (with_reducible refine Below.drew ?_) | (with_reducible refine Ext.alloc ?_ _) | (with_reducible refine Ext.setCell ?_ (by simp; try omega) _) | (with_reducible refine Ext.trans ?_ (by assumption)) | (with_reducible assumption) | exact Below.refl _ _))⟩
              | true =>
                have HA1 : Hid (alF (insB k) c.d (t + 1) = true) := Lib.hid (by rw [alF_succ HI.out, HA.out, hp]; rfl)
                go_wp2_with (first | (go_at_call 141; refine (l09Instance_any s k _ HK.out).mono ?_; rintro e v2 ⟨rfl, bv2⟩; rw [hp]))
                go_roundw
                case rel => exact ⟨t + 1, by omega, by go_num, HA1, by (repeat (first | (with_reducible exact Below.refl _ _) | (with_reducible refine Ext.drewN ?_ _) | (with_reducible refine Below.drew ?_) | (with_reducible refine Ext.alloc ?_ _) | (with_reducible refine Ext.setCell ?_ (by simp; try omega) _) | (with_reducible refine Ext.trans ?_ (by assumption)) | (with_reducible assumption) | exact Below.refl _ _)), Lib.hid (HX.out.below bv2 (Nat.le_refl _))⟩
                case measure => simp [intOf]; omega
            · have r5 : ¬ ((t : Nat) : Int) < (c.d.length : Int) := by omega
              have HXD : Hid (c.d.all (insB k) = true) := Lib.hid (by rw [← alF_full, show c.d.length = t by omega]; exact HA.out)
              go_wp2_with fail
              go_ret
              exact ⟨ret_bool (by rw [HXA.out, HXB.out, HXD.out]; rfl), by (repeat (first | (with_reducible exact Below.refl _ _) | (with_reducible refine Ext.drewN ?_ _) | (with_reducible refine Below.drew ?_) | (with_reducible refine Ext.alloc ?_ _) | (with_reducible refine Ext.setCell ?_ (by simp; try omega) _) | (with_reducible refine Ext.trans ?_ (by assumption)) | (with_reducible assumption) | exact Below.refl _ _))⟩
end Go.Proofs.YtciodcknobccdaaDoor
