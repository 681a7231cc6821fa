/- Rows of points that may be written, and the laws' marks in them. Conditions: the points' cells are in memory. -/
import Derived.Test.YtfbalpkjcfdakaaDoorTrU
import Derived.Test.YtfbalpkjcfdakaaDoorQD
namespace Go.Proofs.YtfbalpkjcfdakaaDoor
open Go.RowKit
set_option linter.unusedVariables false
set_option linter.unusedSimpArgs false
attribute [local go_sem ↓] Go.wp_at_zero Go.wp_at_succ

/-- A row of points at block g, which may be written. -/
def RowP (w : World) (g len : Nat) (X Y : Nat → Int) : Prop :=
  ∀ k, k < len → (w.cell? ⟨g, k * 2, none⟩ = some (.int .i64 (X k)) ∧ w.cell? ⟨g, k * 2 + 1, none⟩ = some (.int .i64 (Y k))) ∧ w.frozen? ⟨g, k * 2, none⟩ = false ∧ w.frozen? ⟨g, k * 2 + 1, none⟩ = false
theorem RowP.below {g len : Nat} {w w' : World} {X Y : Nat → Int} {B : Nat} (h : RowP w g len X Y) (hb : Below B w w') (hg : g < B) : RowP w' g len X Y := fun k hk => by
  obtain ⟨⟨c0, c1⟩, f0, f1⟩ := h k hk
  exact ⟨⟨(hb.cell (p := ⟨g, k * 2, none⟩) hg).trans c0, (hb.cell (p := ⟨g, k * 2 + 1, none⟩) hg).trans c1⟩, (hb.frozen (p := ⟨g, k * 2, none⟩) hg).trans f0, (hb.frozen (p := ⟨g, k * 2 + 1, none⟩) hg).trans f1⟩
theorem RowP.pts {g len : Nat} {w : World} {X Y : Nat → Int} (h : RowP w g len X Y) : PtsIs w.heap.size w (some ⟨g, 0, none⟩) len X Y := fun k hk => by
  obtain ⟨⟨c0, c1⟩, _⟩ := h k hk
  exact ⟨g, 0, rfl, World.block_lt_of_cell? w ⟨g, k * 2, none⟩ c0, by simpa using c0, by simpa using c1⟩
theorem RowP.step {g len i : Nat} {w : World} {X Y : Nat → Int} (h : RowP w g len X Y) (p q : Int) : RowP ((w.setCell ⟨g, i * 2, none⟩ (.int .i64 p)).setCell ⟨g, i * 2 + 1, none⟩ (.int .i64 q)) g len (updI X i p) (updI Y i q) := by
  intro k hk
  obtain ⟨⟨c0, c1⟩, f0, f1⟩ := h k hk
  refine ⟨?_, by simpa using f0, by simpa using f1⟩
  unfold updI
  by_cases e : k = i
  · subst e
    simp only [if_true]
    exact ⟨other_cell (by omega) (World.cell?_setCell_same _ _ _ c0), World.cell?_setCell_same _ _ _ (other_cell (by omega) c1)⟩
  · simp only [if_neg e]
    exact ⟨other_cell (by omega) (other_cell (by omega) c0), other_cell (by omega) (other_cell (by omega) c1)⟩
theorem RowP.congr {w : World} {g len : Nat} {X Y X' Y' : Nat → Int} (h : RowP w g len X Y) (e : ∀ k, k < len → X k = X' k ∧ Y k = Y' k) : RowP w g len X' Y' := fun k hk => by
  obtain ⟨e0, e1⟩ := e k hk
  rw [← e0, ← e1]; exact h k hk
theorem Wr.rowp {g b len : Nat} {w w' : World} {X Y : Nat → Int} (h : Wr g w w') (hr : RowP w b len X Y) (hne : b ≠ g) (hb : b < w.heap.size) : RowP w' b len X Y := fun k hk => by
  have fz : ∀ o, w'.frozen? ⟨b, o, none⟩ = w.frozen? ⟨b, o, none⟩ := fun o => World.frozen?_of_block (h.block b hb (by intro e; exact hne (Option.some.inj e)))
  obtain ⟨⟨c0, c1⟩, f0, f1⟩ := hr k hk
  exact ⟨⟨h.cell c0 hne, h.cell c1 hne⟩, (fz _).trans f0, (fz _).trans f1⟩
/-- The marks of point i, from k on. -/
def mkP (k : Int) (j : Nat) (i : Nat) : Int := k + 2 * (i : Int) + (j : Int)
def mkJ (f : Nat → Int) (k : Int) (j n : Nat) (i : Nat) : Int := if i < n then mkP k j i else f i
theorem mkJ_step (f : Nat → Int) (k : Int) (j n : Nat) : updI (mkJ f k j n) n (mkP k j n) = mkJ f k j (n + 1) := by
  funext i
  unfold updI mkJ
  by_cases h : i = n
  · subst h; rw [if_pos rfl, if_pos (by omega)]
  · rw [if_neg h]
    by_cases h2 : i < n
    · rw [if_pos h2, if_pos (by omega)]
    · rw [if_neg h2, if_neg (by omega)]
theorem mkJ_zero (f : Nat → Int) (k : Int) (j : Nat) : mkJ f k j 0 = f := by funext i; unfold mkJ; rw [if_neg (by omega)]
theorem mkJ_full (f : Nat → Int) (k : Int) (j n i : Nat) (h : i < n) : mkJ f k j n i = mkP k j i := by unfold mkJ; rw [if_pos h]

theorem markPointS_nil (a : Option Addr) (c : Nat) (k : Int) (w : World) : Calls Tryd.prog 16 #[.slice a 0 c, .int .i64 k] w fun e w' => e = .returned (.int .i64 k) ∧ w = w' := by
  go_enter Tryd.func16, Tryd.ntmps16
  go_wp2_with fail
  refine wp_loop_rounds 1 ?_
  rw [rounds_succ]
  go_wp2_with fail
  go_ret
  exact ⟨rfl, rfl⟩
set_option maxHeartbeats 8000000 in
set_option maxRecDepth 100000 in
theorem markPointS_row (g len c : Nat) (k : Int) (X Y : Nat → Int) (w : World) (hlen : len ≤ 1048576) (k0 : 0 ≤ k) (k1 : k ≤ 16) (hg : g < w.heap.size) (hr : RowP w g len X Y) :
    Calls Tryd.prog 16 #[.slice (some ⟨g, 0, none⟩) len c, .int .i64 k] w fun e w' => e = .returned (.int .i64 (k + 2 * (len : Int))) ∧ RowP w' g len (mkP k 0) (mkP k 1) ∧ Wr g w w' := by
  have HR := Lib.hid hr
  clear hr
  go_enter Tryd.func16, Tryd.ntmps16
  go_wp2_with fail
  go_loopw [1, 5] (fun s t wr => ∃ i : Nat, i ≤ len ∧ t = .int .i64 i ∧ s = .int .i64 (k + 2 * (i : Int)) ∧ Wr g w wr ∧ Hid (RowP wr g len (mkJ X k 0 i) (mkJ Y k 1 i))) (fun _ t _ => len - (intOf t).toNat)
  case atStart => exact ⟨0, by omega, rfl, by simp, Wr.refl _ _, Lib.hid (by rw [mkJ_zero, mkJ_zero]; exact HR.out)⟩
  case round =>
    obtain ⟨i, hi, rfl, rfl, hW, HM⟩ := hrel
    by_cases hlt : i < len
    · obtain ⟨⟨c0, c1⟩, f0, f1⟩ := HM.out i hlt
      have q1 : (i : Int) < (len : Int) := by omega
      have q0 : (0 : Int) ≤ (i : Int) := by omega
      have hst := HM.out.step (i := i) (mkP k 0 i) (mkP k 1 i)
      rw [mkJ_step, mkJ_step] at hst
      obtain ⟨v, hv⟩ : ∃ v, v = k + 2 * (i : Int) := ⟨_, rfl⟩
      have e0 : mkP k 0 i = v := by unfold mkP; omega
      have e1 : mkP k 1 i = v + 1 := by unfold mkP; omega
      rw [e0, e1] at hst
      have HS := Lib.hid hst
      have v0 : 0 ≤ v := by omega
      have v1 : v ≤ 100000000 := by omega
      rw [← hv]
      have HV := Lib.hid hv
      clear hst e0 e1 hv
      go_wp2_with fail
      go_roundw
      case rel => exact ⟨i + 1, by omega, by go_num, by rw [show v + 1 + 1 = k + 2 * ((i + 1 : Nat) : Int) by have := HV.out; omega], (hW.set _).set _, HS⟩
      case measure => simp [intOf]; omega
    · have q1 : ¬ (i : Int) < (len : Int) := by omega
      obtain rfl : i = len := by omega
      go_wp2_with fail
      go_ret
      exact ⟨rfl, HM.out.congr fun j hj => ⟨mkJ_full _ _ _ _ _ hj, mkJ_full _ _ _ _ _ hj⟩, hW⟩
theorem heldPointS_nil (a : Option Addr) (c : Nat) (k : Int) (w : World) : Calls Tryd.prog 17 #[.slice a 0 c, .int .i64 k] w fun e w' => e = .returned (.int .i64 k) ∧ w = w' := by
  go_enter Tryd.func17, Tryd.ntmps17
  go_wp2_with fail
  refine wp_loop_rounds 1 ?_
  rw [rounds_succ]
  go_wp2_with fail
  go_ret
  exact ⟨rfl, rfl⟩
set_option maxHeartbeats 8000000 in
set_option maxRecDepth 100000 in
theorem heldPointS_row (g len c : Nat) (k : Int) (w : World) (hlen : len ≤ 1048576) (k0 : 0 ≤ k) (k1 : k ≤ 16) (hr : RowP w g len (mkP k 0) (mkP k 1)) :
    Calls Tryd.prog 17 #[.slice (some ⟨g, 0, none⟩) len c, .int .i64 k] w fun e w' => e = .returned (.int .i64 (k + 2 * (len : Int))) ∧ w = w' := by
  have HR := Lib.hid hr
  clear hr
  go_enter Tryd.func17, Tryd.ntmps17
  go_wp2_with fail
  go_loopw [1, 5] (fun s t wr => ∃ i : Nat, i ≤ len ∧ t = .int .i64 i ∧ s = .int .i64 (k + 2 * (i : Int)) ∧ wr = w) (fun _ t _ => len - (intOf t).toNat)
  case atStart => exact ⟨0, by omega, rfl, by simp, rfl⟩
  case round =>
    obtain ⟨i, hi, rfl, rfl, rfl⟩ := hrel
    by_cases hlt : i < len
    · obtain ⟨⟨c0, c1⟩, f0, f1⟩ := HR.out i hlt
      have q1 : (i : Int) < (len : Int) := by omega
      have q0 : (0 : Int) ≤ (i : Int) := by omega
      obtain ⟨v, hv⟩ : ∃ v, v = k + 2 * (i : Int) := ⟨_, rfl⟩
      have e0 : mkP k 0 i = v := by unfold mkP; omega
      have e1 : mkP k 1 i = v + 1 := by unfold mkP; omega
      rw [e0] at c0
      rw [e1] at c1
      have v0 : 0 ≤ v := by omega
      have v1 : v ≤ 100000000 := by omega
      rw [← hv]
      have HV := Lib.hid hv
      clear e0 e1 hv
      go_wp2_with fail
      go_roundw
      case rel => exact ⟨i + 1, by omega, by go_num, by rw [show v + 1 + 1 = k + 2 * ((i + 1 : Nat) : Int) by have := HV.out; omega], by trivial⟩
      case measure => simp [intOf]; omega
    · have q1 : ¬ (i : Int) < (len : Int) := by omega
      obtain rfl : i = len := by omega
      go_wp2_with fail
      go_ret
      exact ⟨rfl, rfl⟩
/-- A copy in a row of its own. -/
def CopyRowP (w : World) (len : Nat) (X Y : Nat → Int) (e : Ending) (w' : World) : Prop :=
  ∃ g : Nat, w.heap.size ≤ g ∧ g < w'.heap.size ∧ e = .returned (.slice (some ⟨g, 0, none⟩) len len) ∧ Below w.heap.size w w' ∧ RowP w' g len X Y
set_option maxHeartbeats 4000000 in
theorem toPointS_row (a : Option Addr) (len cap : Nat) (X Y : Nat → Int) (w : World) (hlen : len ≤ 1048576) (hP : PtsIs w.heap.size w a len X Y) :
    Calls Tryd.prog 13 #[.slice a len cap] w (CopyRowP w len X Y) := by
  obtain ⟨i0, hi, hz0, hz1, hz2⟩ := info_parts A.infoP
  go_enter Tryd.func13, Tryd.ntmps13
  go_wp2_with (at_make; refine wpList_make_full _ rfl _ _ 26 rfl w.heap.size 66 i0 (.agg #[.int .i64 0, .int .i64 0]) 2 Tryd.underlying26 hi hz0 hz1 .i64 .i64 len len len rfl rfl rfl rfl (by rw [hz2]; omega) (by unfold maxLen; omega) (Nat.le_refl _) ?_; intro w1 own1 grow1)
  have hB1 : Below w.heap.size w w1 := (Below.refl _ _).grown grow1 (Nat.le_refl _) (fun k hk => by cases hk)
  have hlt1 := (own1.lt w.heap.size rfl).2
  have hF1 : Filling w.heap.size len 0 w1 X Y := fun k hk => by
    refine ⟨?_, ?_, own1.frozenAt _, own1.frozenAt _⟩
    · rw [own1.cellAt _ (by omega)]
      exact made2 _ _ (by omega)
    · rw [own1.cellAt _ (by omega)]
      exact made2 _ _ (by omega)
  clear own1 grow1 hi hz0 hz1 hz2
  go_loopw [4] (fun s4 wr => ∃ i : Nat, i ≤ len ∧ s4 = .int .i64 i ∧ w.heap.size < wr.heap.size ∧ Below w.heap.size w wr ∧ Filling w.heap.size len i wr X Y) (fun s4 _ => len - (intOf s4).toNat)
  case atStart => exact ⟨0, by omega, rfl, hlt1, hB1, hF1⟩
  case round =>
    obtain ⟨i, hi, rfl, hsz, hW, hF⟩ := hrel
    clear hF1 hB1 hlt1
    by_cases hlt : i < len
    · obtain ⟨b, off, rfl, hb, cx, cy⟩ := hP i hlt
      have dx : wr.cell? ⟨b, off + i * 2, none⟩ = some (.int .i64 (X i)) := (hW.cell (p := ⟨b, off + i * 2, none⟩) hb).trans cx
      have dy : wr.cell? ⟨b, off + i * 2 + 1, none⟩ = some (.int .i64 (Y i)) := (hW.cell (p := ⟨b, off + i * 2 + 1, none⟩) hb).trans cy
      have q1 : (i : Int) < (len : Int) := by omega
      have q0 : (0 : Int) ≤ (i : Int) := by omega
      go_wp2_with fail
      refine (toPoint_any _ _ _).mono ?_
      rintro e w2 ⟨rfl, bw2⟩
      have hF2 := hF.below bw2 hsz
      have hs2 := bw2.size
      obtain ⟨c0, c1, f0, f1⟩ := hF2 i hlt
      have HF := hF2.step hlt
      go_wp2_with fail
      go_roundw
      case rel => exact ⟨i + 1, by omega, by go_num, by simp; omega, by (repeat (first | (with_reducible exact Below.refl _ _) | (with_reducible refine Ext.drewN ?_ _) | (with_reducible refine Below.drew ?_) | (with_reducible refine Ext.alloc ?_ _) | (with_reducible refine Ext.setCell ?_ (by simp; try omega) _) | (with_reducible refine Ext.trans ?_ (by assumption)) | (with_reducible assumption) | exact Below.refl _ _)), HF⟩
      case measure => simp [intOf]; omega
    · have q1 : ¬ (i : Int) < (len : Int) := by omega
      obtain rfl : i = len := by omega
      go_wp2_with fail
      go_ret
      exact ⟨w.heap.size, Nat.le_refl _, hsz, rfl, hW, fun k hk => by
        obtain ⟨c0, c1, f0, f1⟩ := hF k hk
        rw [if_pos hk] at c0 c1
        exact ⟨⟨c0, c1⟩, f0, f1⟩⟩
end Go.Proofs.YtfbalpkjcfdakaaDoor
