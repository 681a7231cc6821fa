/- The laws' reading of their marks; the laws' copy of a list of rectangles, its row free. -/
import Derived.Test.YtadfmflkaemmbaaDoorRgK
namespace Go.Proofs.YtadfmflkaemmbaaDoor
open Go.RowKit
set_option linter.unusedVariables false
set_option linter.unusedSimpArgs false
attribute [local go_sem ↓] Go.wp_at_zero Go.wp_at_succ

theorem heldRectS_nil (a : Option Addr) (c : Nat) (k : Int) (w : World) : Calls Tryd.prog 19 #[.slice a 0 c, .int .i64 k] w fun e w' => e = .returned (.int .i64 k) ∧ w = w' := by
  go_enter Tryd.func19, Tryd.ntmps19
  go_wp2_with fail
  refine wp_loop_rounds 1 ?_
  rw [rounds_succ]
  go_wp2_with fail
  go_ret
  exact ⟨rfl, rfl⟩

set_option maxHeartbeats 8000000 in
set_option maxRecDepth 100000 in
theorem heldRectS_row (g len c : Nat) (k : Int) (w : World) (hlen : len ≤ 1048576) (k0 : 0 ≤ k) (k1 : k ≤ 16) (hr : RowR w g len (mkV k 0) (mkV k 1) (mkV k 2) (mkV k 3)) :
    Calls Tryd.prog 19 #[.slice (some ⟨g, 0, none⟩) len c, .int .i64 k] w fun e w' => e = .returned (.int .i64 (k + 4 * (len : Int))) ∧ w = w' := by
  have HR := Lib.hid hr
  clear hr
  go_enter Tryd.func19, Tryd.ntmps19
  go_wp2_with fail
  go_loopw [1, 5] (fun s t wr => ∃ i : Nat, i ≤ len ∧ t = .int .i64 i ∧ s = .int .i64 (k + 4 * (i : Int)) ∧ wr = w) (fun _ t _ => len - (intOf t).toNat)
  case atStart => exact ⟨0, by omega, rfl, by simp, rfl⟩
  case round =>
    obtain ⟨i, hi, rfl, rfl, rfl⟩ := hrel
    by_cases hlt : i < len
    · obtain ⟨⟨c0, c1, c2, c3⟩, f0, f1, f2, f3⟩ := HR.out i hlt
      have q1 : (i : Int) < (len : Int) := by omega
      have q0 : (0 : Int) ≤ (i : Int) := by omega
      obtain ⟨v, hv⟩ : ∃ v, v = k + 4 * (i : Int) := ⟨_, rfl⟩
      have e0 : mkV k 0 i = v := by unfold mkV; omega
      have e1 : mkV k 1 i = v + 1 := by unfold mkV; omega
      have e2 : mkV k 2 i = v + 1 + 1 := by unfold mkV; omega
      have e3 : mkV k 3 i = v + 1 + 1 + 1 := by unfold mkV; omega
      rw [e0] at c0
      rw [e1] at c1
      rw [e2] at c2
      rw [e3] at c3
      have v0 : 0 ≤ v := by omega
      have v1 : v ≤ 100000000 := by omega
      rw [← hv]
      have HV := Lib.hid hv
      have n0 : (v != v) = false := by simp
      have n1 : (v + 1 != v + 1) = false := by simp
      have n2 : (v + 1 + 1 != v + 1 + 1) = false := by simp
      have n3 : (v + 1 + 1 + 1 != v + 1 + 1 + 1) = false := by simp
      clear e0 e1 e2 e3 hv f0 f1 f2 f3
      go_wp2_with fail
      go_roundw
      case rel => exact ⟨i + 1, by omega, by go_num, by rw [show v + 1 + 1 + 1 + 1 = k + 4 * ((i + 1 : Nat) : Int) by have := HV.out; omega], by trivial⟩
      case measure => simp [intOf]; omega
    · have q1 : ¬ (i : Int) < (len : Int) := by omega
      obtain rfl : i = len := by omega
      go_wp2_with fail
      go_ret
      exact ⟨rfl, rfl⟩

/-- A copy in a row of its own. -/
def CopyRow (w : World) (len : Nat) (P Q R S : Nat → Int) (e : Ending) (w' : World) : Prop :=
  ∃ g : Nat, w.heap.size ≤ g ∧ g < w'.heap.size ∧ e = .returned (.slice (some ⟨g, 0, none⟩) len len) ∧ Below w.heap.size w w' ∧ RowR w' g len P Q R S

set_option maxHeartbeats 4000000 in
theorem toRectS_row (a : Option Addr) (len cap : Nat) (P Q R S : Nat → Int) (w : World) (hlen : len ≤ 1048576) (hP : RectsIs w.heap.size w a len P Q R S) :
    Calls Tryd.prog 13 #[.slice a len cap] w (CopyRow w len P Q R S) := by
  obtain ⟨i0, hi, hz0, hz1, hz2⟩ := info_parts Tryd.infoR
  go_enter Tryd.func13, Tryd.ntmps13
  go_wp2_with (at_make; refine wpList_make_full _ rfl _ _ 25 rfl w.heap.size 36 i0 (.agg #[.int .i64 0, .int .i64 0, .int .i64 0, .int .i64 0]) 4 Tryd.underlying25 hi hz0 hz1 .i64 .i64 len len len rfl rfl rfl rfl (by rw [hz2]; omega) (by unfold maxLen; omega) (Nat.le_refl _) ?_; intro w1 own1 grow1)
  have hB1 : Below w.heap.size w w1 := (Below.refl _ _).grown grow1 (Nat.le_refl _) (fun k hk => by cases hk)
  have hlt1 := (own1.lt w.heap.size rfl).2
  have hF1 : FillR w.heap.size len 0 w1 P Q R S := fun k hk => by
    refine ⟨⟨?_, ?_, ?_, ?_⟩, own1.frozenAt _, own1.frozenAt _, own1.frozenAt _, own1.frozenAt _⟩
    all_goals
      rw [own1.cellAt _ (by omega)]
      exact made4 _ _ (by omega)
  clear own1 grow1 hi hz0 hz1 hz2
  go_loopw [4] (fun s4 wr => ∃ i : Nat, i ≤ len ∧ s4 = .int .i64 i ∧ w.heap.size < wr.heap.size ∧ Below w.heap.size w wr ∧ FillR w.heap.size len i wr P Q R S) (fun s4 _ => len - (intOf s4).toNat)
  case atStart => exact ⟨0, by omega, rfl, hlt1, hB1, hF1⟩
  case round =>
    obtain ⟨i, hi, rfl, hsz, hW, hF⟩ := hrel
    clear hF1 hB1 hlt1
    by_cases hlt : i < len
    · obtain ⟨b, off, rfl, hb, c0, c1, c2, c3⟩ := hP.below hW i hlt
      have q1 : (i : Int) < (len : Int) := by omega
      have q0 : (0 : Int) ≤ (i : Int) := by omega
      go_wp2_with fail
      refine (toRect_any _ _ _ _ _).mono ?_
      rintro e w2 ⟨rfl, bw2⟩
      have hF2 := hF.below bw2 hsz
      have hs2 := bw2.size
      obtain ⟨⟨d0, d1, d2, d3⟩, f0, f1, f2, f3⟩ := hF2 i hlt
      have HF := hF2.step hlt
      go_wp2_with fail
      go_roundw
      case rel => exact ⟨i + 1, by omega, by go_num, by simp; omega, by (repeat (first | (with_reducible exact Below.refl _ _) | (with_reducible refine Ext.drewN ?_ _) | (with_reducible refine Below.drew ?_) | (with_reducible refine Ext.alloc ?_ _) | (with_reducible refine Ext.setCell ?_ (by simp; try omega) _) | (with_reducible refine Ext.trans ?_ (by assumption)) | (with_reducible assumption) | exact Below.refl _ _)), HF⟩
      case measure => simp [intOf]; omega
    · have q1 : ¬ (i : Int) < (len : Int) := by omega
      obtain rfl : i = len := by omega
      have HF := Lib.hid hF
      clear hF
      go_wp2_with fail
      go_ret
      exact ⟨w.heap.size, Nat.le_refl _, hsz, rfl, hW, fun k hk => by
        obtain ⟨⟨c0, c1, c2, c3⟩, f0, f1, f2, f3⟩ := HF.out k hk
        rw [if_pos hk] at c0 c1 c2 c3
        exact ⟨⟨c0, c1, c2, c3⟩, f0, f1, f2, f3⟩⟩
end Go.Proofs.YtadfmflkaemmbaaDoor
