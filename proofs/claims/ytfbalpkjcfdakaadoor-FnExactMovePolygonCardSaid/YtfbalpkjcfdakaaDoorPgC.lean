/- The program's sides of a polygon and its IsValidPolygon. Condition: the points' cells are in memory. -/
import Derived.Test.YtfbalpkjcfdakaaDoorPgB
import Derived.Test.YtfbalpkjcfdakaaDoorQA
namespace Go.Proofs.YtfbalpkjcfdakaaDoor
open Go.RowKit
set_option linter.unusedVariables false
set_option linter.unusedSimpArgs false
attribute [local go_sem ↓] Go.wp_at_zero Go.wp_at_succ

theorem Tryd.infoE : (Tryd.prog.info? 105).map (fun i => (i.zero, i.size, i.bytes)) = some (some (.agg #[.int .i64 0, .int .i64 0, .int .i64 0, .int .i64 0]), 4, 32) := by kernel_rfl

set_option maxHeartbeats 4000000 in
theorem sidesOf_any (a : Option Addr) (n cap : Nat) (X Y : Nat → Int) (w : World) (hn : n ≤ 1048576) (hP : PtsIs w.heap.size w a n X Y) :
    Calls Tryd.prog 66 #[.slice a n cap] w (CopiedR w n X Y (fun i => X ((i + 1) % n)) (fun i => Y ((i + 1) % n))) := by
  obtain ⟨i0, hi, hz0, hz1, hz2⟩ := info_parts Tryd.infoE
  go_enter Tryd.func66, Tryd.ntmps66
  go_wp2_with (at_make; refine wpList_make_full _ rfl _ _ 79 rfl w.heap.size 105 i0 (.agg #[.int .i64 0, .int .i64 0, .int .i64 0, .int .i64 0]) 4 Tryd.underlying79 hi hz0 hz1 .i64 .i64 n n n rfl rfl rfl rfl (by rw [hz2]; omega) (by unfold maxLen; omega) (Nat.le_refl _) ?_; intro w1 own1 grow1)
  have hB1 : Below w.heap.size w w1 := (Below.refl _ _).grown grow1 (Nat.le_refl _) (fun k hk => by cases hk)
  have hlt1 := (own1.lt w.heap.size rfl).2
  have hF1 : FillR w.heap.size n 0 w1 X Y (fun i => X ((i + 1) % n)) (fun i => Y ((i + 1) % n)) := fun k hk => by
    refine ⟨⟨?_, ?_, ?_, ?_⟩, own1.frozenAt _, own1.frozenAt _, own1.frozenAt _, own1.frozenAt _⟩
    all_goals
      rw [own1.cellAt _ (by omega)]
      exact made4 _ _ (by omega)
  clear own1 grow1 hi hz0 hz1 hz2
  have HF1 := Lib.hid hF1
  have HP := Lib.hid hP
  clear hF1 hP
  go_loopw [11] (fun s wr => ∃ i : Nat, i ≤ n ∧ s = .int .i64 i ∧ w.heap.size < wr.heap.size ∧ Below w.heap.size w wr ∧ Hid (FillR w.heap.size n i wr X Y (fun i => X ((i + 1) % n)) (fun i => Y ((i + 1) % n)))) (fun s _ => n - (intOf s).toNat)
  case atStart => exact ⟨0, by omega, rfl, hlt1, hB1, HF1⟩
  case round =>
    obtain ⟨i, hi, rfl, hsz, hW, HF⟩ := hrel
    clear HF1 hB1 hlt1
    by_cases hlt : i < n
    · obtain ⟨j, hj⟩ : ∃ j, j = (i + 1) % n := ⟨_, rfl⟩
      have hjn : j < n := by rw [hj]; exact Nat.mod_lt _ (by omega)
      have t1 : ((i : Int) + 1).tmod (n : Int) = (j : Int) := tmod_add 1 hj
      have HJ := Lib.hid hj
      clear hj
      obtain ⟨b, off, rfl⟩ := HP.out.base (by omega)
      obtain ⟨hb, cx, cy⟩ := (HP.out.below hW).at rfl hlt
      obtain ⟨_, dx, dy⟩ := (HP.out.below hW).at rfl hjn
      have q1 : (i : Int) < (n : Int) := by omega
      have q0 : (0 : Int) ≤ (i : Int) := by omega
      have q2 : (j : Int) < (n : Int) := by omega
      have q3 : (0 : Int) ≤ (j : Int) := by omega
      have e1 : IntKind.i64.wrap ((i : Int) + 1) = (i : Int) + 1 := by rw [IntKind.wrap_i64]; omega
      have hn0 : ¬ n = 0 := by omega
      have hn0' : ¬ (n : Int) = 0 := by omega
      have e2 : IntKind.i64.wrap (j : Int) = (j : Int) := by rw [IntKind.wrap_i64]; omega
      have hW0 : Below wr.heap.size wr (wr.alloc (.cells #[.int .i64 (X i), .int .i64 (Y i)] 66)) := by (repeat (first | (with_reducible exact Below.refl _ _) | (with_reducible refine Ext.drewN ?_ _) | (with_reducible refine Below.drew ?_) | (with_reducible refine Ext.alloc ?_ _) | (with_reducible refine Ext.setCell ?_ (by simp; try omega) _) | (with_reducible refine Ext.trans ?_ (by assumption)) | (with_reducible assumption) | exact Below.refl _ _))
      go_wp2_with fail
      have hbw := Nat.lt_of_lt_of_le hb hW.size
      have HF0 := Lib.hid (HF.out.below hW0.drew hsz)
      go_region_with (go_at_call 120; refine (edgeBetween_any _ _ _ _ _).mono ?_; rintro e v1 ⟨rfl, bv1⟩; have hF2 := HF0.out.below bv1 (by simp <;> omega); obtain ⟨⟨d0, d1, d2, d3⟩, f0, f1, f2, f3⟩ := hF2 i hlt)
      all_goals
        have HF3 := hF2.step hlt
        simp only [← HJ.out] at HF3
        have hW2 : Below w.heap.size w v1 := hW.trans ((hW0.drew.trans (bv1.mono (by simp))).mono hW.size)
        have hs1 := hW2.size
        have hsv := bv1.size
        simp at hsv
        go_wp2_with fail
        go_roundw
        case rel => exact ⟨i + 1, by omega, by go_num, by simp; omega, by (repeat (first | (with_reducible exact Below.refl _ _) | (with_reducible refine Ext.drewN ?_ _) | (with_reducible refine Below.drew ?_) | (with_reducible refine Ext.alloc ?_ _) | (with_reducible refine Ext.setCell ?_ (by simp; try omega) _) | (with_reducible refine Ext.trans ?_ (by assumption)) | (with_reducible assumption) | exact Below.refl _ _)), Lib.hid HF3⟩
        case measure => simp [intOf]; omega
    · have q1 : ¬ (i : Int) < (n : Int) := by omega
      obtain rfl : i = n := by omega
      go_wp2_with fail
      go_ret
      exact ⟨w.heap.size, Nat.le_refl _, hsz, rfl, hW, fun k hk => by
        obtain ⟨⟨c0, c1, c2, c3⟩, f0, f1, f2, f3⟩ := HF.out k hk
        rw [if_pos hk] at c0 c1 c2 c3
        exact ⟨w.heap.size, 0, rfl, hsz, by simpa using c0, by simpa using c1, by simpa using c2, by simpa using c3⟩⟩
end Go.Proofs.YtfbalpkjcfdakaaDoor
