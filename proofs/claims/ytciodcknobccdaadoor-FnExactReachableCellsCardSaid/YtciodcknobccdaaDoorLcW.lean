/- The program's slices.Reverse of numbers. Condition: the numbers lie in a row of their own. -/
import Derived.Test.YtciodcknobccdaaDoorLcV
import Derived.Test.YtciodcknobccdaaDoorLcF
import Derived.Test.YtciodcknobccdaaDoorLcD
namespace Go.Proofs.YtciodcknobccdaaDoor
open Go.RowKit
set_option linter.unusedVariables false
set_option linter.unusedSimpArgs false
attribute [local go_sem ↓] Go.wp_at_zero Go.wp_at_succ

theorem rowI_len (V : Nat → Int) (n : Nat) : (rowI V n).length = n := by simp [rowI]
theorem rowI_get (V : Nat → Int) {n k : Nat} (h : k < (rowI V n).length) : (rowI V n)[k] = .int .i64 (V k) := by simp [rowI]
theorem rowI_set (V : Nat → Int) (n j : Nat) (v : Int) : (rowI V n).set j (.int .i64 v) = rowI (updV V j v) n := by
  apply List.ext_getElem (by simp [rowI])
  intro k h1 h2
  rw [List.getElem_set, rowI_get, rowI_get]
  unfold updV
  by_cases e : j = k
  · rw [if_pos e, if_pos e.symm]
  · rw [if_neg e, if_neg (Ne.symm e)]
theorem rowI_congr {V U : Nat → Int} {n : Nat} (h : ∀ k, k < n → V k = U k) : rowI V n = rowI U n := by
  unfold rowI
  exact List.map_congr_left fun k hk => by rw [h k (List.mem_range.1 hk)]
theorem rowZ_rowI (xs : List Int) : rowZ xs = rowI (fun j => xs.getD j 0) xs.length := by
  apply List.ext_getElem (by simp [rowI, rowZ])
  intro k h1 h2
  have hk : k < xs.length := by simpa [rowZ] using h1
  simp [rowI, rowZ, hk]
theorem rowI_rev (xs : List Int) : rowI (fun k => xs.getD (xs.length - 1 - k) 0) xs.length = rowZ xs.reverse := by
  apply List.ext_getElem (by simp [rowI, rowZ])
  intro k h1 h2
  have hk : k < xs.length := by simpa [rowI] using h1
  have hk2 : xs.length - 1 - k < xs.length := by omega
  simp [rowI, rowZ, hk2]
/-- The first and the last i numbers changed for each other. -/
def rvG (f : Nat → Int) (n i k : Nat) : Int := if k < i ∨ n - 1 - i < k then f (n - 1 - k) else f k
theorem rvG_zero (f : Nat → Int) (n k : Nat) (hk : k < n) : rvG f n 0 k = f k := by unfold rvG; rw [if_neg (by omega)]
theorem rvG_step (f : Nat → Int) (n i j k : Nat) (hj : j = n - 1 - i) (hi : i < j) (hk : k < n) : updV (updV (rvG f n i) i (f j)) j (f i) k = rvG f n (i + 1) k := by
  subst hj
  unfold updV rvG
  by_cases e : k = n - 1 - i
  · subst e
    rw [if_pos rfl, if_pos (by omega), show n - 1 - (n - 1 - i) = i by omega]
  · rw [if_neg e]
    by_cases e2 : k = i
    · subst e2
      rw [if_pos rfl, if_pos (by omega)]
    · rw [if_neg e2]
      by_cases e3 : k < i ∨ n - 1 - i < k
      · rw [if_pos e3, if_pos (by omega)]
      · rw [if_neg e3, if_neg (by omega)]
theorem rvG_at (f : Nat → Int) (n i : Nat) (hi : i ≤ n - 1 - i) : rvG f n i i = f i := by unfold rvG; rw [if_neg (by omega)]
theorem rvG_at' (f : Nat → Int) (n i j : Nat) (hj : j = n - 1 - i) (hi : i < j) : rvG f n i j = f j := by unfold rvG; rw [if_neg (by omega)]
theorem rvG_end (f : Nat → Int) (n i k : Nat) (hi : ¬ i < n - 1 - i) (h2 : 2 * i ≤ n) (hk : k < n) : rvG f n i k = f (n - 1 - k) := by
  unfold rvG
  by_cases e : k < i ∨ n - 1 - i < k
  · rw [if_pos e]
  · rw [if_neg e]
    congr 1
    omega
set_option maxRecDepth 100000 in
set_option maxHeartbeats 8000000 in
theorem reverseI_any (B g n c : Nat) (V : Nat → Int) (w : World) (hn : n ≤ 1048576) (hO : w.ownsRow B 2 1 (.slice (some ⟨g, 0, none⟩) n c) n (rowI V n)) :
    Calls Tryd.prog 49 #[.slice (some ⟨g, 0, none⟩) n c] w fun e w' => e = .returned (.tuple #[]) ∧ w'.ownsRow B 2 1 (.slice (some ⟨g, 0, none⟩) n c) n (rowI (fun k => V (n - 1 - k)) n) ∧ Below B w w' := by
  have HR := Lib.hid hO
  have hgB := (hO.lt g rfl)
  obtain ⟨hg1, hg2⟩ := hgB
  clear hO
  have e0 : IntKind.i64.wrap ((n : Int) - 1) = (n : Int) - 1 := by rw [IntKind.wrap_i64]; omega
  go_enter Tryd.func49, Tryd.ntmps49
  go_wp2_with fail
  go_loopw [2, 3] (fun s2 s3 wr => ∃ i : Nat, 2 * i ≤ n ∧ s2 = .int .i64 (i : Nat) ∧ s3 = .int .i64 ((n : Int) - 1 - (i : Int)) ∧ Below B w wr ∧ Hid (wr.ownsRow B 2 1 (.slice (some ⟨g, 0, none⟩) n c) n (rowI (rvG V n i) n))) (fun s2 _ _ => n - (intOf s2).toNat)
  case atStart => exact ⟨0, by omega, rfl, by simp, Below.refl _ _, Lib.hid (by rw [rowI_congr (fun k hk => rvG_zero V n k hk)]; exact HR.out)⟩
  case round =>
    obtain ⟨i, hi, rfl, rfl, hW, HM⟩ := hrel
    by_cases hlt : i < n - 1 - i
    · obtain ⟨j, hj⟩ : ∃ j, j = n - 1 - i := ⟨_, rfl⟩
      have hij : i < j := by omega
      have hjn : j < n := by omega
      have hJ : (n : Int) - 1 - (i : Int) = (j : Int) := by omega
      rw [hJ]
      have HJ2 : Hid ((n : Int) - 1 - ((i + 1 : Nat) : Int) = (j : Int) - 1) := Lib.hid (by omega)
      have c0 := HM.out.cellAt i (by omega)
      rw [rowI_at _ (show i < n by omega), rvG_at V n i (by omega)] at c0
      have d0 := HM.out.cellAt j (by omega)
      rw [rowI_at _ hjn, rvG_at' V n i j hj hij] at d0
      have f0 := HM.out.frozenAt i
      have k0 := HM.out.frozenAt j
      have HST : Hid (((wr.setCell ⟨g, i, none⟩ (.int .i64 (V j))).setCell ⟨g, j, none⟩ (.int .i64 (V i))).ownsRow B 2 1 (.slice (some ⟨g, 0, none⟩) n c) n (rowI (rvG V n (i + 1)) n)) := Lib.hid (by
        have h := ((HM.out.stored i (.int .i64 (V j))).1.stored j (.int .i64 (V i))).1
        rw [rowI_set, rowI_set, rowI_congr (fun k hk => rvG_step V n i j k hj hij hk)] at h
        exact h)
      have HBW : Hid (Below B w ((wr.setCell ⟨g, i, none⟩ (.int .i64 (V j))).setCell ⟨g, j, none⟩ (.int .i64 (V i)))) := Lib.hid (by
        have s1 := HM.out.stored i (.int .i64 (V j))
        have s2 := s1.1.stored j (.int .i64 (V i))
        have := hW.size
        exact Below.grown (Below.grown hW s1.2 (by omega) (fun k hk => by cases hk; exact hg1)) s2.2 (by simp; omega) (fun k hk => by cases hk; exact hg1))
      have q0 : (0 : Int) ≤ (i : Int) := by omega
      have q1 : (i : Int) < (n : Int) := by omega
      have q2 : (0 : Int) ≤ (j : Int) := by omega
      have q3 : (j : Int) < (n : Int) := by omega
      have q4 : (i : Int) < (j : Int) := by omega
      have e1 : IntKind.i64.wrap ((i : Int) + 1) = (i : Int) + 1 := by rw [IntKind.wrap_i64]; omega
      have e2 : IntKind.i64.wrap ((j : Int) - 1) = (j : Int) - 1 := by rw [IntKind.wrap_i64]; omega
      have hji : ¬ j = i := by omega
      clear hj hJ
      go_wp2_with fail
      go_region
      all_goals
        go_wp2_with fail
        go_roundw
        case rel => exact ⟨i + 1, by omega, by go_num, by rw [HJ2.out], HBW.out.drew, Lib.hid (show (World.drew _).ownsRow _ _ _ _ _ _ from HST.out)⟩
        case measure => simp [intOf]; omega
    · have q4 : ¬ (i : Int) < (n : Int) - 1 - (i : Int) := by omega
      go_wp2_with fail
      go_end0
      exact ⟨rfl, by rw [← rowI_congr (fun k hk => rvG_end V n i k hlt (by omega) hk)]; exact HM.out, hW⟩
end Go.Proofs.YtciodcknobccdaaDoor
