/- The laws' helpers over lists of edges. Conditions: the elements' cells are in memory. -/
import Derived.Test.YtmabdemdapnmkaaGreatDoorEgU
import Derived.Test.YtmabdemdapnmkaaGreatDoorQD
namespace Go.Proofs.YtmabdemdapnmkaaGreatDoor
open Go.RowKit
set_option linter.unusedVariables false
set_option linter.unusedSimpArgs false
attribute [local go_sem ↓] Go.wp_at_zero Go.wp_at_succ

theorem eqEdgeX_any (a b c d p q r s : Int) (w : World) : Calls Tryz.prog 66 #[.agg #[.int .i64 a, .int .i64 b, .int .i64 c, .int .i64 d], .agg #[.int .i64 p, .int .i64 q, .int .i64 r, .int .i64 s]] w fun e w' => e = .returned (.bool (eqRB a b c d p q r s)) ∧ Below w.heap.size w w' := by
  have key : (a = p ∧ b = q ∧ c = r ∧ d = s) ∨ (¬ a = p) ∨ (a = p ∧ ¬ b = q) ∨ (a = p ∧ b = q ∧ ¬ c = r) ∨ (a = p ∧ b = q ∧ c = r ∧ ¬ d = s) := by omega
  rcases key with ⟨h1, h2, h3, h4⟩ | h1 | ⟨h1, h2⟩ | ⟨h1, h2, h3⟩ | ⟨h1, h2, h3, h4⟩
  all_goals
    go_enter Tryz.func66, Tryz.ntmps66
    go_wp2_with fail
    go_ret
    exact ⟨ret_bool (by simp [eqRB, h1]; try omega), by (repeat (first | (with_reducible exact Below.refl _ _) | (with_reducible refine Ext.drewN ?_ _) | (with_reducible refine Below.drew ?_) | (with_reducible refine Ext.alloc ?_ _) | (with_reducible refine Ext.setCell ?_ (by simp; try omega) _) | (with_reducible refine Ext.trans ?_ (by assumption)) | (with_reducible assumption) | exact Below.refl _ _))⟩

theorem eqEdgeS_any (a b : Option Addr) (len c1 c2 : Nat) (P Q R S : Nat → Int) (w : World) (hlen : len ≤ 1048576) (hP : RectsIs w.heap.size w a len P Q R S) (hQ : RectsIs w.heap.size w b len P Q R S) :
    Calls Tryz.prog 25 #[.slice a len c1, .slice b len c2] w fun e w' => e = .returned (.bool true) ∧ Below w.heap.size w w' := by
  go_enter Tryz.func25, Tryz.ntmps25
  go_wp2_with fail
  go_loopw [5] (fun s5 wr => ∃ i : Nat, i ≤ len ∧ s5 = .int .i64 i ∧ Below w.heap.size w wr) (fun s5 _ => len - (intOf s5).toNat)
  case atStart => exact ⟨0, by omega, rfl, Below.refl _ _⟩
  case round =>
    obtain ⟨i, hi, rfl, hW⟩ := hrel
    by_cases hlt : i < len
    · obtain ⟨b1, o1, rfl, hb1, x0, x1, x2, x3⟩ := hP.below hW i hlt
      obtain ⟨b2, o2, rfl, hb2, y0, y1, y2, y3⟩ := hQ.below hW i hlt
      have q1 : (i : Int) < (len : Int) := by omega
      have q0 : (0 : Int) ≤ (i : Int) := by omega
      have he : eqRB (P i) (Q i) (R i) (S i) (P i) (Q i) (R i) (S i) = true := by simp [eqRB]
      go_wp2_with fail
      go_region_held3 (fun w' => w'.cell? ⟨b1, o1 + i * 4, none⟩ = some (.int .i64 (P i)) ∧ w'.cell? ⟨b1, o1 + i * 4 + 1, none⟩ = some (.int .i64 (Q i)) ∧ w'.cell? ⟨b1, o1 + i * 4 + 2, none⟩ = some (.int .i64 (R i)) ∧ w'.cell? ⟨b1, o1 + i * 4 + 3, none⟩ = some (.int .i64 (S i)) ∧ w'.cell? ⟨b2, o2 + i * 4, none⟩ = some (.int .i64 (P i)) ∧ w'.cell? ⟨b2, o2 + i * 4 + 1, none⟩ = some (.int .i64 (Q i)) ∧ w'.cell? ⟨b2, o2 + i * 4 + 2, none⟩ = some (.int .i64 (R i)) ∧ w'.cell? ⟨b2, o2 + i * 4 + 3, none⟩ = some (.int .i64 (S i)))
        (first | ((try dsimp only); go_split_ands; (repeat' (with_reducible refine And.intro ?_ ?_)) <;> first | (with_reducible assumption) | (with_reducible exact keepC (by assumption) (by assumption)) | (go_keep; done)))
        (first | (go_at_call 66; refine (eqEdgeX_any _ _ _ _ _ _ _ _ _).mono ?_; rintro e w2 ⟨rfl, bw2⟩))
      go_wp2_with fail
      go_roundw
      case rel => exact ⟨i + 1, by omega, by go_num, by (repeat (first | (with_reducible exact Below.refl _ _) | (with_reducible refine Ext.drewN ?_ _) | (with_reducible refine Below.drew ?_) | (with_reducible refine Ext.alloc ?_ _) | (with_reducible refine Ext.setCell ?_ (by simp; try omega) _) | (with_reducible refine Ext.trans ?_ (by assumption)) | (with_reducible assumption) | exact Below.refl _ _))⟩
      case measure => simp [intOf]; omega
    · have q1 : ¬ (i : Int) < (len : Int) := by omega
      go_wp2_with fail
      go_ret
      exact ⟨rfl, hW⟩

theorem markEdgeS_nil (a : Option Addr) (c : Nat) (k : Int) (w : World) : Calls Tryz.prog 28 #[.slice a 0 c, .int .i64 k] w fun e w' => e = .returned (.int .i64 k) ∧ w = w' := by
  go_enter Tryz.func28, Tryz.ntmps28
  go_wp2_with fail
  refine wp_loop_rounds 1 ?_
  rw [rounds_succ]
  go_wp2_with fail
  go_ret
  exact ⟨rfl, rfl⟩

set_option maxHeartbeats 8000000 in
set_option maxRecDepth 100000 in
theorem markEdgeS_row (g len c : Nat) (k : Int) (P Q R S : Nat → Int) (w : World) (hlen : len ≤ 1048576) (k0 : 0 ≤ k) (k1 : k ≤ 16) (hg : g < w.heap.size) (hr : RowR w g len P Q R S) :
    Calls Tryz.prog 28 #[.slice (some ⟨g, 0, none⟩) len c, .int .i64 k] w fun e w' => e = .returned (.int .i64 (k + 4 * (len : Int))) ∧ RowR w' g len (mkV k 0) (mkV k 1) (mkV k 2) (mkV k 3) ∧ Wr g w w' := by
  have HR := Lib.hid hr
  clear hr
  go_enter Tryz.func28, Tryz.ntmps28
  go_wp2_with fail
  go_loopw [1, 5] (fun s t wr => ∃ i : Nat, i ≤ len ∧ t = .int .i64 i ∧ s = .int .i64 (k + 4 * (i : Int)) ∧ Wr g w wr ∧ Hid (RowR wr g len (mkI P k 0 i) (mkI Q k 1 i) (mkI R k 2 i) (mkI S k 3 i))) (fun _ t _ => len - (intOf t).toNat)
  case atStart => exact ⟨0, by omega, rfl, by simp, Wr.refl _ _, Lib.hid (by rw [mkI_zero, mkI_zero, mkI_zero, mkI_zero]; exact HR.out)⟩
  case round =>
    obtain ⟨i, hi, rfl, rfl, hW, HM⟩ := hrel
    by_cases hlt : i < len
    · obtain ⟨⟨c0, c1, c2, c3⟩, f0, f1, f2, f3⟩ := HM.out i hlt
      have q1 : (i : Int) < (len : Int) := by omega
      have q0 : (0 : Int) ≤ (i : Int) := by omega
      have hst := HM.out.step (i := i) (mkV k 0 i) (mkV k 1 i) (mkV k 2 i) (mkV k 3 i)
      rw [mkI_step, mkI_step, mkI_step, mkI_step] at hst
      obtain ⟨v, hv⟩ : ∃ v, v = k + 4 * (i : Int) := ⟨_, rfl⟩
      have e0 : mkV k 0 i = v := by unfold mkV; omega
      have e1 : mkV k 1 i = v + 1 := by unfold mkV; omega
      have e2 : mkV k 2 i = v + 1 + 1 := by unfold mkV; omega
      have e3 : mkV k 3 i = v + 1 + 1 + 1 := by unfold mkV; omega
      rw [e0, e1, e2, e3] at hst
      have HS := Lib.hid hst
      have v0 : 0 ≤ v := by omega
      have v1 : v ≤ 100000000 := by omega
      rw [← hv]
      have HV := Lib.hid hv
      clear hst e0 e1 e2 e3 hv
      go_wp2_with fail
      go_roundw
      case rel => exact ⟨i + 1, by omega, by go_num, by rw [show v + 1 + 1 + 1 + 1 = k + 4 * ((i + 1 : Nat) : Int) by have := HV.out; omega], (((hW.set _).set _).set _).set _, HS⟩
      case measure => simp [intOf]; omega
    · have q1 : ¬ (i : Int) < (len : Int) := by omega
      obtain rfl : i = len := by omega
      go_wp2_with fail
      go_ret
      exact ⟨rfl, HM.out.congr fun j hj => ⟨mkI_full _ _ _ _ _ hj, mkI_full _ _ _ _ _ hj, mkI_full _ _ _ _ _ hj, mkI_full _ _ _ _ _ hj⟩, hW⟩

theorem heldEdgeS_nil (a : Option Addr) (c : Nat) (k : Int) (w : World) : Calls Tryz.prog 29 #[.slice a 0 c, .int .i64 k] w fun e w' => e = .returned (.int .i64 k) ∧ w = w' := by
  go_enter Tryz.func29, Tryz.ntmps29
  go_wp2_with fail
  refine wp_loop_rounds 1 ?_
  rw [rounds_succ]
  go_wp2_with fail
  go_ret
  exact ⟨rfl, rfl⟩

set_option maxHeartbeats 8000000 in
set_option maxRecDepth 100000 in
theorem heldEdgeS_row (g len c : Nat) (k : Int) (w : World) (hlen : len ≤ 1048576) (k0 : 0 ≤ k) (k1 : k ≤ 16) (hr : RowR w g len (mkV k 0) (mkV k 1) (mkV k 2) (mkV k 3)) :
    Calls Tryz.prog 29 #[.slice (some ⟨g, 0, none⟩) len c, .int .i64 k] w fun e w' => e = .returned (.int .i64 (k + 4 * (len : Int))) ∧ w = w' := by
  have HR := Lib.hid hr
  clear hr
  go_enter Tryz.func29, Tryz.ntmps29
  go_wp2_with fail
  go_loopw [1, 5] (fun s t wr => ∃ i : Nat, i ≤ len ∧ t = .int .i64 i ∧ s = .int .i64 (k + 4 * (i : Int)) ∧ wr = w) (fun _ t _ => len - (intOf t).toNat)
  case atStart => exact ⟨0, by omega, rfl, by simp, rfl⟩
  case round =>
    obtain ⟨i, hi, rfl, rfl, rfl⟩ := hrel
    by_cases hlt : i < len
    · obtain ⟨⟨c0, c1, c2, c3⟩, f0, f1, f2, f3⟩ := HR.out i hlt
      have q1 : (i : Int) < (len : Int) := by omega
      have q0 : (0 : Int) ≤ (i : Int) := by omega
      obtain ⟨v, hv⟩ : ∃ v, v = k + 4 * (i : Int) := ⟨_, rfl⟩
      have e0 : mkV k 0 i = v := by unfold mkV; omega
      have e1 : mkV k 1 i = v + 1 := by unfold mkV; omega
      have e2 : mkV k 2 i = v + 1 + 1 := by unfold mkV; omega
      have e3 : mkV k 3 i = v + 1 + 1 + 1 := by unfold mkV; omega
      rw [e0] at c0
      rw [e1] at c1
      rw [e2] at c2
      rw [e3] at c3
      have v0 : 0 ≤ v := by omega
      have v1 : v ≤ 100000000 := by omega
      rw [← hv]
      have HV := Lib.hid hv
      have n0 : (v != v) = false := by simp
      have n1 : (v + 1 != v + 1) = false := by simp
      have n2 : (v + 1 + 1 != v + 1 + 1) = false := by simp
      have n3 : (v + 1 + 1 + 1 != v + 1 + 1 + 1) = false := by simp
      clear e0 e1 e2 e3 hv f0 f1 f2 f3
      go_wp2_with fail
      go_roundw
      case rel => exact ⟨i + 1, by omega, by go_num, by rw [show v + 1 + 1 + 1 + 1 = k + 4 * ((i + 1 : Nat) : Int) by have := HV.out; omega], by trivial⟩
      case measure => simp [intOf]; omega
    · have q1 : ¬ (i : Int) < (len : Int) := by omega
      obtain rfl : i = len := by omega
      go_wp2_with fail
      go_ret
      exact ⟨rfl, rfl⟩

theorem markOwnE (B : Nat) (a : Option Addr) (l : List R4) (c : Nat) (k : Int) (w : World) (hB : B ≤ w.heap.size) (hl : l.length ≤ 1048576) (k0 : 0 ≤ k) (k1 : k ≤ 16) (hO : OwnsL B w a l) :
    Calls Tryz.prog 28 #[.slice a l.length c, .int .i64 k] w fun e w' => e = .returned (.int .i64 (k + 4 * (l.length : Int))) ∧ HeldL B w' a l.length k ∧ Below B w w' := by
  rcases hO with rfl | ⟨h, rfl, h1, h2, hr⟩
  · refine (markEdgeS_nil a c k w).mono ?_
    rintro e w' ⟨rfl, rfl⟩
    exact ⟨by simp, .inl rfl, Below.refl _ _⟩
  · refine (markEdgeS_row h l.length c k _ _ _ _ w hl k0 k1 h2 hr).mono ?_
    rintro e w' ⟨rfl, hm, hw⟩
    exact ⟨rfl, .inr ⟨h, rfl, h1, Nat.lt_of_lt_of_le h2 hw.size, hm⟩, Wr.below (Below.refl _ _) hw hB h1⟩

theorem heldOwnE (B : Nat) (a : Option Addr) (n c : Nat) (k : Int) (w : World) (hn : n ≤ 1048576) (k0 : 0 ≤ k) (k1 : k ≤ 16) (hH : HeldL B w a n k) :
    Calls Tryz.prog 29 #[.slice a n c, .int .i64 k] w fun e w' => e = .returned (.int .i64 (k + 4 * (n : Int))) ∧ w = w' := by
  rcases hH with rfl | ⟨h, rfl, h1, h2, hr⟩
  · refine (heldEdgeS_nil a c k w).mono ?_
    rintro e w' ⟨rfl, rfl⟩
    exact ⟨by simp, rfl⟩
  · exact heldEdgeS_row h n c k w hn k0 k1 hr

end Go.Proofs.YtmabdemdapnmkaaGreatDoor
