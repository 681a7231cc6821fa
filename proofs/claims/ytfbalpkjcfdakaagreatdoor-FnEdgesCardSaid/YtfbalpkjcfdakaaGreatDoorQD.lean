/- Marks over rows of rectangles. Conditions: the rows are in memory. -/
import Derived.Test.YtfbalpkjcfdakaaGreatDoorQA
import Derived.Lib.Hide
import Derived.Test.YtfbalpkjcfdakaaGreatDoorQC
import Derived.Laws.Bits64b
import Derived.Lib.TrailingZeros
import Derived.RangeFuncNested
import Derived.RangeFuncBound
import Derived.RangeFuncCalls
import Derived.RangeFuncLeaves
import Derived.Shelf.Abstract
import Derived.Shelf.RegionOpen
import Derived.WalkKit
import Derived.OwnWalkIn
import Derived.TacticsInMore
import Derived.LoopNIn
import Derived.LoopIn
import Derived.Lib.LaidTab
import Derived.Lib.LaidU8
import Derived.LaidMore
import Derived.Lay
import Derived.Stop.Joined
namespace Go.Proofs.YtfbalpkjcfdakaaGreatDoor
open Go.RowKit
set_option linter.unusedVariables false
set_option linter.unusedSimpArgs false
attribute [local go_sem ↓] Go.wp_at_zero Go.wp_at_succ

/-- A row of rectangles at block g, which may be written. -/
def RowR (w : World) (g len : Nat) (P Q R S : Nat → Int) : Prop :=
  ∀ k, k < len → (w.cell? ⟨g, k * 4, none⟩ = some (.int .i64 (P k)) ∧ w.cell? ⟨g, k * 4 + 1, none⟩ = some (.int .i64 (Q k)) ∧ w.cell? ⟨g, k * 4 + 2, none⟩ = some (.int .i64 (R k)) ∧ w.cell? ⟨g, k * 4 + 3, none⟩ = some (.int .i64 (S k))) ∧ w.frozen? ⟨g, k * 4, none⟩ = false ∧ w.frozen? ⟨g, k * 4 + 1, none⟩ = false ∧ w.frozen? ⟨g, k * 4 + 2, none⟩ = false ∧ w.frozen? ⟨g, k * 4 + 3, none⟩ = false
theorem RowR.below {g len : Nat} {w w' : World} {P Q R S : Nat → Int} {B : Nat} (h : RowR w g len P Q R S) (hb : Below B w w') (hg : g < B) : RowR w' g len P Q R S := fun k hk => by
  obtain ⟨⟨c0, c1, c2, c3⟩, f0, f1, f2, f3⟩ := h k hk
  exact ⟨⟨(hb.cell (p := ⟨g, k * 4, none⟩) hg).trans c0, (hb.cell (p := ⟨g, k * 4 + 1, none⟩) hg).trans c1, (hb.cell (p := ⟨g, k * 4 + 2, none⟩) hg).trans c2, (hb.cell (p := ⟨g, k * 4 + 3, none⟩) hg).trans c3⟩, (hb.frozen (p := ⟨g, k * 4, none⟩) hg).trans f0, (hb.frozen (p := ⟨g, k * 4 + 1, none⟩) hg).trans f1, (hb.frozen (p := ⟨g, k * 4 + 2, none⟩) hg).trans f2, (hb.frozen (p := ⟨g, k * 4 + 3, none⟩) hg).trans f3⟩
theorem RowR.rects {g len : Nat} {w : World} {P Q R S : Nat → Int} (h : RowR w g len P Q R S) : RectsIs w.heap.size w (some ⟨g, 0, none⟩) len P Q R S := fun k hk => by
  obtain ⟨⟨c0, c1, c2, c3⟩, _⟩ := h k hk
  exact ⟨g, 0, rfl, World.block_lt_of_cell? w ⟨g, k * 4, none⟩ c0, by simpa using c0, by simpa using c1, by simpa using c2, by simpa using c3⟩
def updI (f : Nat → Int) (i : Nat) (v : Int) (k : Nat) : Int := if k = i then v else f k
theorem RowR.step {g len i : Nat} {w : World} {P Q R S : Nat → Int} (h : RowR w g len P Q R S) (p q r s : Int) : RowR ((((w.setCell ⟨g, i * 4, none⟩ (.int .i64 p)).setCell ⟨g, i * 4 + 1, none⟩ (.int .i64 q)).setCell ⟨g, i * 4 + 2, none⟩ (.int .i64 r)).setCell ⟨g, i * 4 + 3, none⟩ (.int .i64 s)) g len (updI P i p) (updI Q i q) (updI R i r) (updI S i s) := by
  intro k hk
  obtain ⟨⟨c0, c1, c2, c3⟩, f0, f1, f2, f3⟩ := h k hk
  refine ⟨?_, by simpa using f0, by simpa using f1, by simpa using f2, by simpa using f3⟩
  unfold updI
  by_cases e : k = i
  · subst e
    simp only [if_true]
    refine ⟨?_, ?_, ?_, ?_⟩
    · exact other_cell (by omega) (other_cell (by omega) (other_cell (by omega) (World.cell?_setCell_same _ _ _ c0)))
    · exact other_cell (by omega) (other_cell (by omega) (World.cell?_setCell_same _ _ _ (other_cell (by omega) c1)))
    · exact other_cell (by omega) (World.cell?_setCell_same _ _ _ (other_cell (by omega) (other_cell (by omega) c2)))
    · exact World.cell?_setCell_same _ _ _ (other_cell (by omega) (other_cell (by omega) (other_cell (by omega) c3)))
  · simp only [if_neg e]
    refine ⟨?_, ?_, ?_, ?_⟩
    · exact other_cell (by omega) (other_cell (by omega) (other_cell (by omega) (other_cell (by omega) c0)))
    · exact other_cell (by omega) (other_cell (by omega) (other_cell (by omega) (other_cell (by omega) c1)))
    · exact other_cell (by omega) (other_cell (by omega) (other_cell (by omega) (other_cell (by omega) c2)))
    · exact other_cell (by omega) (other_cell (by omega) (other_cell (by omega) (other_cell (by omega) c3)))

/-- Nothing but block g, and what is new, has changed. -/
def Wr (g : Nat) (a b : World) : Prop := a.grownBy b (some g)
theorem Wr.refl (g : Nat) (w : World) : Wr g w w := World.grownBy.refl w (some g)
theorem Wr.set {g i : Nat} {a w : World} (h : Wr g a w) (v : Value) : Wr g a (w.setCell ⟨g, i, none⟩ v) :=
  ⟨h.os, h.tape, h.output, by simpa using h.size, fun k hk hne => by rw [Below.heap_setCell _ _ _ _ (by intro e; simp at e; exact hne (by rw [e]))]; exact h.block k hk hne⟩
theorem Wr.cell {g b o : Nat} {w w' : World} {v : Value} (h : Wr g w w') (hc : w.cell? ⟨b, o, none⟩ = some v) (hne : b ≠ g) : w'.cell? ⟨b, o, none⟩ = some v :=
  (World.cell?_of_block (h.block b (World.block_lt_of_cell? w ⟨b, o, none⟩ hc) (by intro e; exact hne (Option.some.inj e)))).trans hc
theorem Wr.below {B g : Nat} {a w w' : World} (h : Below B a w) (k : Wr g w w') (hB : B ≤ w.heap.size) (hg : B ≤ g) : Below B a w' :=
  h.grown k hB (fun j hj => by cases hj; exact hg)
theorem Wr.rows {g b len : Nat} {w w' : World} {P Q R S : Nat → Int} (h : Wr g w w') (hr : RowR w b len P Q R S) (hne : b ≠ g) (hb : b < w.heap.size) : RowR w' b len P Q R S := fun k hk => by
  have fz : ∀ o, w'.frozen? ⟨b, o, none⟩ = w.frozen? ⟨b, o, none⟩ := fun o => World.frozen?_of_block (h.block b hb (by intro e; exact hne (Option.some.inj e)))
  obtain ⟨⟨c0, c1, c2, c3⟩, f0, f1, f2, f3⟩ := hr k hk
  exact ⟨⟨h.cell c0 hne, h.cell c1 hne, h.cell c2 hne, h.cell c3 hne⟩, (fz _).trans f0, (fz _).trans f1, (fz _).trans f2, (fz _).trans f3⟩

/-- The marks of rectangle i, from k on. -/
def mkV (k : Int) (j : Nat) (i : Nat) : Int := k + 4 * (i : Int) + (j : Int)
def mkI (f : Nat → Int) (k : Int) (j n : Nat) (i : Nat) : Int := if i < n then mkV k j i else f i
theorem mkI_step (f : Nat → Int) (k : Int) (j n : Nat) : updI (mkI f k j n) n (mkV k j n) = mkI f k j (n + 1) := by
  funext i
  unfold updI mkI
  by_cases h : i = n
  · subst h; rw [if_pos rfl, if_pos (by omega)]
  · rw [if_neg h]
    by_cases h2 : i < n
    · rw [if_pos h2, if_pos (by omega)]
    · rw [if_neg h2, if_neg (by omega)]
theorem mkI_zero (f : Nat → Int) (k : Int) (j : Nat) : mkI f k j 0 = f := by funext i; unfold mkI; rw [if_neg (by omega)]
theorem RowR.congr {w : World} {g len : Nat} {P Q R S P' Q' R' S' : Nat → Int} (h : RowR w g len P Q R S) (e : ∀ k, k < len → P k = P' k ∧ Q k = Q' k ∧ R k = R' k ∧ S k = S' k) : RowR w g len P' Q' R' S' := fun k hk => by
  obtain ⟨e0, e1, e2, e3⟩ := e k hk
  rw [← e0, ← e1, ← e2, ← e3]; exact h k hk
theorem mkI_full (f : Nat → Int) (k : Int) (j n i : Nat) (h : i < n) : mkI f k j n i = mkV k j i := by unfold mkI; rw [if_pos h]

theorem markRectS_nil (a : Option Addr) (c : Nat) (k : Int) (w : World) : Calls Tryz.prog 14 #[.slice a 0 c, .int .i64 k] w fun e w' => e = .returned (.int .i64 k) ∧ w = w' := by
  go_enter Tryz.func14, Tryz.ntmps14
  go_wp2_with fail
  refine wp_loop_rounds 1 ?_
  rw [rounds_succ]
  go_wp2_with fail
  go_ret
  exact ⟨rfl, rfl⟩

set_option maxHeartbeats 8000000 in
set_option maxRecDepth 100000 in
theorem markRectS_row (g len c : Nat) (k : Int) (P Q R S : Nat → Int) (w : World) (hlen : len ≤ 1048576) (k0 : 0 ≤ k) (k1 : k ≤ 16) (hg : g < w.heap.size) (hr : RowR w g len P Q R S) :
    Calls Tryz.prog 14 #[.slice (some ⟨g, 0, none⟩) len c, .int .i64 k] w fun e w' => e = .returned (.int .i64 (k + 4 * (len : Int))) ∧ RowR w' g len (mkV k 0) (mkV k 1) (mkV k 2) (mkV k 3) ∧ Wr g w w' := by
  have HR := Lib.hid hr
  clear hr
  go_enter Tryz.func14, Tryz.ntmps14
  go_wp2_with fail
  go_loopw [1, 5] (fun s t wr => ∃ i : Nat, i ≤ len ∧ t = .int .i64 i ∧ s = .int .i64 (k + 4 * (i : Int)) ∧ Wr g w wr ∧ Hid (RowR wr g len (mkI P k 0 i) (mkI Q k 1 i) (mkI R k 2 i) (mkI S k 3 i))) (fun _ t _ => len - (intOf t).toNat)
  case atStart => exact ⟨0, by omega, rfl, by simp, Wr.refl _ _, Lib.hid (by rw [mkI_zero, mkI_zero, mkI_zero, mkI_zero]; exact HR.out)⟩
  case round =>
    obtain ⟨i, hi, rfl, rfl, hW, HM⟩ := hrel
    by_cases hlt : i < len
    · obtain ⟨⟨c0, c1, c2, c3⟩, f0, f1, f2, f3⟩ := HM.out i hlt
      have q1 : (i : Int) < (len : Int) := by omega
      have q0 : (0 : Int) ≤ (i : Int) := by omega
      have hst := HM.out.step (i := i) (mkV k 0 i) (mkV k 1 i) (mkV k 2 i) (mkV k 3 i)
      rw [mkI_step, mkI_step, mkI_step, mkI_step] at hst
      obtain ⟨v, hv⟩ : ∃ v, v = k + 4 * (i : Int) := ⟨_, rfl⟩
      have e0 : mkV k 0 i = v := by unfold mkV; omega
      have e1 : mkV k 1 i = v + 1 := by unfold mkV; omega
      have e2 : mkV k 2 i = v + 1 + 1 := by unfold mkV; omega
      have e3 : mkV k 3 i = v + 1 + 1 + 1 := by unfold mkV; omega
      rw [e0, e1, e2, e3] at hst
      have HS := Lib.hid hst
      have v0 : 0 ≤ v := by omega
      have v1 : v ≤ 100000000 := by omega
      rw [← hv]
      have HV := Lib.hid hv
      clear hst e0 e1 e2 e3 hv
      go_wp2_with fail
      go_roundw
      case rel => exact ⟨i + 1, by omega, by go_num, by rw [show v + 1 + 1 + 1 + 1 = k + 4 * ((i + 1 : Nat) : Int) by have := HV.out; omega], (((hW.set _).set _).set _).set _, HS⟩
      case measure => simp [intOf]; omega
    · have q1 : ¬ (i : Int) < (len : Int) := by omega
      obtain rfl : i = len := by omega
      go_wp2_with fail
      go_ret
      exact ⟨rfl, HM.out.congr fun j hj => ⟨mkI_full _ _ _ _ _ hj, mkI_full _ _ _ _ _ hj, mkI_full _ _ _ _ _ hj, mkI_full _ _ _ _ _ hj⟩, hW⟩
end Go.Proofs.YtfbalpkjcfdakaaGreatDoor

namespace Go.Proofs.YtfbalpkjcfdakaaGreatDoor
open Go.RowKit
set_option linter.unusedVariables false
set_option linter.unusedSimpArgs false
attribute [local go_sem ↓] Go.wp_at_zero Go.wp_at_succ

theorem heldRectS_nil (a : Option Addr) (c : Nat) (k : Int) (w : World) : Calls Tryz.prog 32 #[.slice a 0 c, .int .i64 k] w fun e w' => e = .returned (.int .i64 k) ∧ w = w' := by
  go_enter Tryz.func32, Tryz.ntmps32
  go_wp2_with fail
  refine wp_loop_rounds 1 ?_
  rw [rounds_succ]
  go_wp2_with fail
  go_ret
  exact ⟨rfl, rfl⟩

set_option maxHeartbeats 8000000 in
set_option maxRecDepth 100000 in
theorem heldRectS_row (g len c : Nat) (k : Int) (w : World) (hlen : len ≤ 1048576) (k0 : 0 ≤ k) (k1 : k ≤ 16) (hr : RowR w g len (mkV k 0) (mkV k 1) (mkV k 2) (mkV k 3)) :
    Calls Tryz.prog 32 #[.slice (some ⟨g, 0, none⟩) len c, .int .i64 k] w fun e w' => e = .returned (.int .i64 (k + 4 * (len : Int))) ∧ w = w' := by
  have HR := Lib.hid hr
  clear hr
  go_enter Tryz.func32, Tryz.ntmps32
  go_wp2_with fail
  go_loopw [1, 5] (fun s t wr => ∃ i : Nat, i ≤ len ∧ t = .int .i64 i ∧ s = .int .i64 (k + 4 * (i : Int)) ∧ wr = w) (fun _ t _ => len - (intOf t).toNat)
  case atStart => exact ⟨0, by omega, rfl, by simp, rfl⟩
  case round =>
    obtain ⟨i, hi, rfl, rfl, rfl⟩ := hrel
    by_cases hlt : i < len
    · obtain ⟨⟨c0, c1, c2, c3⟩, f0, f1, f2, f3⟩ := HR.out i hlt
      have q1 : (i : Int) < (len : Int) := by omega
      have q0 : (0 : Int) ≤ (i : Int) := by omega
      obtain ⟨v, hv⟩ : ∃ v, v = k + 4 * (i : Int) := ⟨_, rfl⟩
      have e0 : mkV k 0 i = v := by unfold mkV; omega
      have e1 : mkV k 1 i = v + 1 := by unfold mkV; omega
      have e2 : mkV k 2 i = v + 1 + 1 := by unfold mkV; omega
      have e3 : mkV k 3 i = v + 1 + 1 + 1 := by unfold mkV; omega
      rw [e0] at c0
      rw [e1] at c1
      rw [e2] at c2
      rw [e3] at c3
      have v0 : 0 ≤ v := by omega
      have v1 : v ≤ 100000000 := by omega
      rw [← hv]
      have HV := Lib.hid hv
      have n0 : (v != v) = false := by simp
      have n1 : (v + 1 != v + 1) = false := by simp
      have n2 : (v + 1 + 1 != v + 1 + 1) = false := by simp
      have n3 : (v + 1 + 1 + 1 != v + 1 + 1 + 1) = false := by simp
      clear e0 e1 e2 e3 hv f0 f1 f2 f3
      go_wp2_with fail
      go_roundw
      case rel => exact ⟨i + 1, by omega, by go_num, by rw [show v + 1 + 1 + 1 + 1 = k + 4 * ((i + 1 : Nat) : Int) by have := HV.out; omega], by trivial⟩
      case measure => simp [intOf]; omega
    · have q1 : ¬ (i : Int) < (len : Int) := by omega
      obtain rfl : i = len := by omega
      go_wp2_with fail
      go_ret
      exact ⟨rfl, rfl⟩

/-- A copy in a row of its own. -/
def CopyRow (w : World) (len : Nat) (P Q R S : Nat → Int) (e : Ending) (w' : World) : Prop :=
  ∃ g : Nat, w.heap.size ≤ g ∧ g < w'.heap.size ∧ e = .returned (.slice (some ⟨g, 0, none⟩) len len) ∧ Below w.heap.size w w' ∧ RowR w' g len P Q R S

set_option maxHeartbeats 4000000 in
theorem toRectS_row (a : Option Addr) (len cap : Nat) (P Q R S : Nat → Int) (w : World) (hlen : len ≤ 1048576) (hP : RectsIs w.heap.size w a len P Q R S) :
    Calls Tryz.prog 10 #[.slice a len cap] w (CopyRow w len P Q R S) := by
  obtain ⟨i0, hi, hz0, hz1, hz2⟩ := info_parts Tryz.infoR
  go_enter Tryz.func10, Tryz.ntmps10
  go_wp2_with (at_make; refine wpList_make_full _ rfl _ _ 26 rfl w.heap.size 65 i0 (.agg #[.int .i64 0, .int .i64 0, .int .i64 0, .int .i64 0]) 4 Tryz.underlying26 hi hz0 hz1 .i64 .i64 len len len rfl rfl rfl rfl (by rw [hz2]; omega) (by unfold maxLen; omega) (Nat.le_refl _) ?_; intro w1 own1 grow1)
  have hB1 : Below w.heap.size w w1 := (Below.refl _ _).grown grow1 (Nat.le_refl _) (fun k hk => by cases hk)
  have hlt1 := (own1.lt w.heap.size rfl).2
  have hF1 : FillR w.heap.size len 0 w1 P Q R S := fun k hk => by
    refine ⟨⟨?_, ?_, ?_, ?_⟩, own1.frozenAt _, own1.frozenAt _, own1.frozenAt _, own1.frozenAt _⟩
    all_goals
      rw [own1.cellAt _ (by omega)]
      exact made4 _ _ (by omega)
  clear own1 grow1 hi hz0 hz1 hz2
  go_loopw [4] (fun s4 wr => ∃ i : Nat, i ≤ len ∧ s4 = .int .i64 i ∧ w.heap.size < wr.heap.size ∧ Below w.heap.size w wr ∧ FillR w.heap.size len i wr P Q R S) (fun s4 _ => len - (intOf s4).toNat)
  case atStart => exact ⟨0, by omega, rfl, hlt1, hB1, hF1⟩
  case round =>
    obtain ⟨i, hi, rfl, hsz, hW, hF⟩ := hrel
    clear hF1 hB1 hlt1
    by_cases hlt : i < len
    · obtain ⟨b, off, rfl, hb, c0, c1, c2, c3⟩ := hP.below hW i hlt
      have q1 : (i : Int) < (len : Int) := by omega
      have q0 : (0 : Int) ≤ (i : Int) := by omega
      go_wp2_with fail
      refine (toRect_any _ _ _ _ _).mono ?_
      rintro e w2 ⟨rfl, bw2⟩
      have hF2 := hF.below bw2 hsz
      have hs2 := bw2.size
      obtain ⟨⟨d0, d1, d2, d3⟩, f0, f1, f2, f3⟩ := hF2 i hlt
      have HF := hF2.step hlt
      go_wp2_with fail
      go_roundw
      case rel => exact ⟨i + 1, by omega, by go_num, by simp; omega, by (repeat (first | (with_reducible exact Below.refl _ _) | (with_reducible refine Ext.drewN ?_ _) | (with_reducible refine Below.drew ?_) | (with_reducible refine Ext.alloc ?_ _) | (with_reducible refine Ext.setCell ?_ (by simp; try omega) _) | (with_reducible refine Ext.trans ?_ (by assumption)) | (with_reducible assumption) | exact Below.refl _ _)), HF⟩
      case measure => simp [intOf]; omega
    · have q1 : ¬ (i : Int) < (len : Int) := by omega
      obtain rfl : i = len := by omega
      have HF := Lib.hid hF
      clear hF
      go_wp2_with fail
      go_ret
      exact ⟨w.heap.size, Nat.le_refl _, hsz, rfl, hW, fun k hk => by
        obtain ⟨⟨c0, c1, c2, c3⟩, f0, f1, f2, f3⟩ := HF.out k hk
        rw [if_pos hk] at c0 c1 c2 c3
        exact ⟨⟨c0, c1, c2, c3⟩, f0, f1, f2, f3⟩⟩
end Go.Proofs.YtfbalpkjcfdakaaGreatDoor

namespace Go.Proofs.YtfbalpkjcfdakaaGreatDoor
open Go.RowKit
set_option linter.unusedVariables false
set_option linter.unusedSimpArgs false

/-- The rectangles of list l are read through slice a. -/
def RectsL (B : Nat) (w : World) (a : Option Addr) (l : List R4) : Prop := RectsIs B w a l.length (pA l) (pB l) (pC l) (pD l)
theorem RectsIs.mono {B C : Nat} {w : World} {a : Option Addr} {n : Nat} {P Q R S : Nat → Int} (h : RectsIs B w a n P Q R S) (hBC : B ≤ C) : RectsIs C w a n P Q R S := fun i hi => by
  obtain ⟨b, o, e, hb, r⟩ := h i hi
  exact ⟨b, o, e, Nat.lt_of_lt_of_le hb hBC, r⟩
theorem RecIs.rects {B : Nat} {w : World} {h : Nat} {l : List R4} (hR : RecIs B w h l) : RectsL w.heap.size w (some ⟨h, 0, none⟩) l := fun i hi => by
  obtain ⟨c0, c1, c2, c3⟩ := hR.2.2 i _ (getD_get hi)
  exact ⟨h, 0, rfl, hR.2.1, by simpa [pA] using c0, by simpa [pB] using c1, by simpa [pC] using c2, by simpa [pD] using c3⟩
theorem RectsL.nil (B : Nat) (w : World) (a : Option Addr) : RectsL B w a [] := fun i hi => absurd hi (Nat.not_lt_zero _)

/-- List l lies in a row of its own, from block B on, which may be written. -/
def OwnsL (B : Nat) (w : World) (a : Option Addr) (l : List R4) : Prop := l = [] ∨ ∃ h, a = some ⟨h, 0, none⟩ ∧ B ≤ h ∧ h < w.heap.size ∧ RowR w h l.length (pA l) (pB l) (pC l) (pD l)
theorem OwnsL.rects {B : Nat} {w : World} {a : Option Addr} {l : List R4} (h : OwnsL B w a l) : RectsL w.heap.size w a l := by
  rcases h with rfl | ⟨h, rfl, _, _, hr⟩
  · exact RectsL.nil _ _ _
  · exact hr.rects
theorem OwnsL.mono {B C : Nat} {w : World} {a : Option Addr} {l : List R4} (h : OwnsL B w a l) (hBC : C ≤ B) : OwnsL C w a l := by
  rcases h with rfl | ⟨h, rfl, h1, r⟩
  · exact .inl rfl
  · exact .inr ⟨h, rfl, Nat.le_trans hBC h1, r⟩
theorem OwnsL.below {B : Nat} {w w' : World} {a : Option Addr} {l : List R4} (h : OwnsL B w a l) (hb : Below w.heap.size w w') : OwnsL B w' a l := by
  rcases h with rfl | ⟨h, rfl, h1, h2, hr⟩
  · exact .inl rfl
  · exact .inr ⟨h, rfl, h1, Nat.lt_of_lt_of_le h2 hb.size, hr.below hb h2⟩
theorem OwnsL.wr {B g : Nat} {w w' : World} {a : Option Addr} {l : List R4} (h : OwnsL B w a l) (hw : Wr g w w') (hg : g < B) : OwnsL B w' a l := by
  rcases h with rfl | ⟨h, rfl, h1, h2, hr⟩
  · exact .inl rfl
  · exact .inr ⟨h, rfl, h1, Nat.lt_of_lt_of_le h2 hw.size, hw.rows hr (by omega) h2⟩
/-- The marks from k on lie there. -/
def HeldL (B : Nat) (w : World) (a : Option Addr) (n : Nat) (k : Int) : Prop := n = 0 ∨ ∃ h, a = some ⟨h, 0, none⟩ ∧ B ≤ h ∧ h < w.heap.size ∧ RowR w h n (mkV k 0) (mkV k 1) (mkV k 2) (mkV k 3)
theorem HeldL.below {B : Nat} {w w' : World} {a : Option Addr} {n : Nat} {k : Int} (h : HeldL B w a n k) (hb : Below w.heap.size w w') : HeldL B w' a n k := by
  rcases h with rfl | ⟨h, rfl, h1, h2, hr⟩
  · exact .inl rfl
  · exact .inr ⟨h, rfl, h1, Nat.lt_of_lt_of_le h2 hb.size, hr.below hb h2⟩

theorem markOwn (B : Nat) (a : Option Addr) (l : List R4) (c : Nat) (k : Int) (w : World) (hB : B ≤ w.heap.size) (hl : l.length ≤ 1048576) (k0 : 0 ≤ k) (k1 : k ≤ 16) (hO : OwnsL B w a l) :
    Calls Tryz.prog 14 #[.slice a l.length c, .int .i64 k] w fun e w' => e = .returned (.int .i64 (k + 4 * (l.length : Int))) ∧ HeldL B w' a l.length k ∧ Below B w w' := by
  rcases hO with rfl | ⟨h, rfl, h1, h2, hr⟩
  · refine (markRectS_nil a c k w).mono ?_
    rintro e w' ⟨rfl, rfl⟩
    exact ⟨by simp, .inl rfl, Below.refl _ _⟩
  · refine (markRectS_row h l.length c k _ _ _ _ w hl k0 k1 h2 hr).mono ?_
    rintro e w' ⟨rfl, hm, hw⟩
    exact ⟨rfl, .inr ⟨h, rfl, h1, Nat.lt_of_lt_of_le h2 hw.size, hm⟩, Wr.below (Below.refl _ _) hw hB h1⟩
theorem heldOwn (B : Nat) (a : Option Addr) (n c : Nat) (k : Int) (w : World) (hn : n ≤ 1048576) (k0 : 0 ≤ k) (k1 : k ≤ 16) (hH : HeldL B w a n k) :
    Calls Tryz.prog 32 #[.slice a n c, .int .i64 k] w fun e w' => e = .returned (.int .i64 (k + 4 * (n : Int))) ∧ w = w' := by
  rcases hH with rfl | ⟨h, rfl, h1, h2, hr⟩
  · refine (heldRectS_nil a c k w).mono ?_
    rintro e w' ⟨rfl, rfl⟩
    exact ⟨by simp, rfl⟩
  · exact heldRectS_row h n c k w hn k0 k1 hr

/-- A call that hands back list l (and a flag), read through a slice. -/
def LRes2 (l : List R4) (b : Bool) (e : Ending) (w : World) : Prop := ∃ a c, e = .returned (.tuple #[.slice a l.length c, .bool b]) ∧ RectsL w.heap.size w a l
def LRes (l : List R4) (e : Ending) (w : World) : Prop := ∃ a c, e = .returned (.slice a l.length c) ∧ RectsL w.heap.size w a l
/-- .. in memory of its own. -/
def LOwn2 (B : Nat) (l : List R4) (b : Bool) (e : Ending) (w : World) : Prop := ∃ a c, e = .returned (.tuple #[.slice a l.length c, .bool b]) ∧ OwnsL B w a l
def LOwn (B : Nat) (l : List R4) (e : Ending) (w : World) : Prop := ∃ a c, e = .returned (.slice a l.length c) ∧ OwnsL B w a l

/-- What RegionOf answers. -/
def roL (P Q R S : Nat → Int) (n : Nat) : List R4 := if okV P Q R S n = true then canonL (covF P Q R S n) else []
theorem roL_len (P Q R S : Nat → Int) (n : Nat) : (roL P Q R S n).length ≤ 3280 := by
  unfold roL; split
  · exact canonL_len _
  · simp
/-- What ClipRegion answers. -/
def clL (P Q R S : Nat → Int) (n : Nat) (a b c d : Int) : List R4 := if (okR P Q R S n && rvB a b c d) = true then canonL (clipF (covF P Q R S n) a b c d) else []
theorem clL_len (P Q R S : Nat → Int) (n : Nat) (a b c d : Int) : (clL P Q R S n a b c d).length ≤ 3280 := by
  unfold clL; split
  · exact canonL_len _
  · simp
end Go.Proofs.YtfbalpkjcfdakaaGreatDoor

namespace Go.Proofs.YtfbalpkjcfdakaaGreatDoor
open Go.RowKit
set_option linter.unusedVariables false
set_option linter.unusedSimpArgs false

theorem bits_andNot_u64_nat (a b : Nat) (ha : a < 18446744073709551616) (hb : b < 18446744073709551616) :
    bits .andNot .u64 (a : Int) (b : Int) = ((a &&& (18446744073709551615 - b) : Nat) : Int) := by
  have h1 : (BitVec.ofInt 64 (a : Int)).toNat = a := by
    rw [BitVec.ofInt_natCast, BitVec.toNat_ofNat]; exact Nat.mod_eq_of_lt (by omega)
  have h2 : (~~~ BitVec.ofInt 64 (b : Int)).toNat = 18446744073709551615 - b := by
    rw [BitVec.toNat_not, BitVec.ofInt_natCast, BitVec.toNat_ofNat, Nat.mod_eq_of_lt (by omega)]
  have hx : a &&& (18446744073709551615 - b) < 2 ^ 64 := Nat.and_lt_two_pow _ (by omega)
  show IntKind.u64.wrap ((BitVec.ofInt 64 (a : Int) &&& ~~~ BitVec.ofInt 64 (b : Int)).toNat : Int) = _
  rw [BitVec.toNat_and, h1, h2, IntKind.wrap_u64]
  omega

theorem cellA {w1 : World} {b o : Nat} {v : Option Value} (h : w1.cell? ⟨b, o, none⟩ = v) (hb : b < w1.heap.size) (O : Obj) : (w1.alloc O).cell? ⟨b, o, none⟩ = v := by
  rw [World.cell?_alloc_lt _ _ _ hb]; exact h
/-- The bits below n. -/
def mk (n : Nat) : Nat := 2 ^ n - 1
theorem mk_bit (n i : Nat) : (mk n).testBit i = decide (i < n) := Nat.testBit_two_pow_sub_one n i
theorem mk_lt {n : Nat} (h : n ≤ 64) : mk n < 18446744073709551616 := by
  have : 2 ^ n ≤ 2 ^ 64 := Nat.pow_le_pow_right (by decide) h
  have : 0 < 2 ^ n := Nat.two_pow_pos n
  unfold mk
  omega
/-- The bits from m to n - 1. -/
def span (m n : Nat) : Nat := mk n &&& (18446744073709551615 - mk m)
theorem not_bit {a : Nat} (ha : a < 18446744073709551616) (i : Nat) : (18446744073709551615 - a).testBit i = (decide (i < 64) && !a.testBit i) := by
  have := Nat.testBit_two_pow_sub_succ (n := 64) (x := a) (by omega) i
  rw [show 2 ^ 64 - (a + 1) = 18446744073709551615 - a by omega] at this
  exact this
theorem span_bit {m n : Nat} (hm : m ≤ 64) (hn : n ≤ 64) (i : Nat) : (span m n).testBit i = (decide (m ≤ i) && decide (i < n)) := by
  unfold span
  rw [Nat.testBit_and, mk_bit, not_bit (mk_lt hm), mk_bit]
  by_cases h : i < n
  · have : i < 64 := by omega
    by_cases h' : i < m <;> simp [h, this, h'] <;> omega
  · simp [h]
theorem span_lt {m n : Nat} (hn : n ≤ 64) : span m n < 18446744073709551616 := by
  unfold span
  exact Nat.lt_of_le_of_lt Nat.and_le_left (mk_lt hn)

/-- Where a word differs from itself moved up by one, c coming in below. -/
theorem up_bit (a i : Nat) (ha : a < 18446744073709551616) (hi : i < 64) (c : Nat) (hc : c ≤ 1) : ((a * 2 % 18446744073709551616) ||| c).testBit i = if i = 0 then decide (c = 1) else a.testBit (i - 1) := by
  rw [Nat.testBit_or]
  have e : (a * 2 % 18446744073709551616).testBit i = (a * 2).testBit i := by
    rw [show (18446744073709551616 : Nat) = 2 ^ 64 by rfl, Nat.testBit_mod_two_pow]; simp [hi]
  rw [e]
  cases i with
  | zero => simp [Nat.testBit_zero]; omega
  | succ j =>
    rw [Nat.testBit_succ, Nat.testBit_succ]
    have h1 : a * 2 / 2 = a := by omega
    have h2 : c / 2 = 0 := by omega
    rw [h1, h2]
    simp
theorem top_bit (a : Nat) (ha : a < 18446744073709551616) : a / 9223372036854775808 ≤ 1 ∧ (a / 9223372036854775808 = 1 ↔ a.testBit 63 = true) := by
  constructor
  · omega
  · rw [Nat.testBit_eq_decide_div_mod_eq]
    simp
    omega

/-- The lowest set bit taken off. -/
theorem drop_low (x : Nat) (h0 : x ≠ 0) (h : x < 18446744073709551616) :
    Go.Lib.ctz 64 x < 64 ∧ x.testBit (Go.Lib.ctz 64 x) = true ∧ (∀ i, i < Go.Lib.ctz 64 x → x.testBit i = false) ∧ (∀ i, (x &&& (x - 1)).testBit i = (x.testBit i && decide (i ≠ Go.Lib.ctz 64 x))) ∧ x &&& (x - 1) < x := by
  obtain ⟨m, hm, hk⟩ := Go.Lib.ctzFrom_spec 64 x (by omega) (by omega)
  have e : Go.Lib.ctz 64 x = Go.Lib.ctzFrom 64 x := by simp [Go.Lib.ctz, h0]
  rw [← e] at hm hk
  obtain ⟨k, hk'⟩ : ∃ k, k = Go.Lib.ctz 64 x := ⟨_, rfl⟩
  rw [← hk'] at hm hk ⊢
  have bx : ∀ i, x.testBit i = (decide (k ≤ i) && (2 * m + 1).testBit (i - k)) := fun i => by
    rw [hm, Nat.mul_comm, Nat.testBit_mul_two_pow]
  have low : ∀ i, i < k → x.testBit i = false := fun i hi => by rw [bx]; simp; omega
  have at_k : x.testBit k = true := by rw [bx]; simp [Nat.testBit_zero]
  have hp : 0 < 2 ^ k := Nat.two_pow_pos k
  have e1 : x - 1 = 2 ^ k * (2 * m) + (2 ^ k - 1) := by
    rw [hm, Nat.mul_add]
    omega
  have b1 : ∀ i, (x - 1).testBit i = if i < k then true else (2 * m).testBit (i - k) := fun i => by
    rw [e1, Nat.testBit_two_pow_mul_add _ (by omega), Nat.testBit_two_pow_sub_one]
    by_cases h : i < k <;> simp [h]
  have key : ∀ i, (x &&& (x - 1)).testBit i = (x.testBit i && decide (i ≠ k)) := fun i => by
    rw [Nat.testBit_and, b1]
    by_cases h : i < k
    · simp [low i h]
    · by_cases h2 : i = k
      · subst h2
        simp [Nat.testBit_zero]
      · rw [if_neg h, bx]
        obtain ⟨j, hj⟩ : ∃ j, i - k = j + 1 := ⟨i - k - 1, by omega⟩
        rw [hj, Nat.testBit_succ, Nat.testBit_succ, show (2 * m + 1) / 2 = m by omega, show 2 * m / 2 = m by omega]
        simp [h2]
  refine ⟨hk, at_k, low, key, ?_⟩
  have hle : x &&& (x - 1) ≤ x - 1 := Nat.and_le_right
  omega
end Go.Proofs.YtfbalpkjcfdakaaGreatDoor

namespace Go.Proofs.YtfbalpkjcfdakaaGreatDoor
open Go.RowKit
set_option linter.unusedVariables false
set_option linter.unusedSimpArgs false

/-- All blocks of w but those of X lie as they lay; none has gone. -/
structure Kept (X : Nat → Prop) (w w' : World) : Prop where
  os : w'.os = w.os
  tape : w'.tape = w.tape
  output : w'.output = w.output
  size : w.heap.size ≤ w'.heap.size
  block : ∀ k, k < w.heap.size → ¬ X k → w'.heap[k]? = w.heap[k]?

theorem Kept.refl (X : Nat → Prop) (w : World) : Kept X w w := ⟨rfl, rfl, rfl, Nat.le_refl _, fun _ _ _ => rfl⟩
theorem Kept.trans {X : Nat → Prop} {a b c : World} (h : Kept X a b) (k : Kept X b c) : Kept X a c :=
  ⟨k.os.trans h.os, k.tape.trans h.tape, k.output.trans h.output, Nat.le_trans h.size k.size, fun i hi hX => (k.block i (Nat.lt_of_lt_of_le hi h.size) hX).trans (h.block i hi hX)⟩
theorem Kept.mono {X Y : Nat → Prop} {a b : World} (h : Kept X a b) (hXY : ∀ k, k < a.heap.size → X k → Y k) : Kept Y a b :=
  ⟨h.os, h.tape, h.output, h.size, fun i hi hY => h.block i hi fun hX => hY (hXY i hi hX)⟩
theorem Kept.of_below {X : Nat → Prop} {a b : World} (h : Below a.heap.size a b) : Kept X a b := ⟨h.os, h.tape, h.output, h.size, fun i hi _ => h.block i hi⟩
theorem Kept.below {X : Nat → Prop} {a b : World} (h : Kept X a b) {n : Nat} (hn : n ≤ a.heap.size) (hX : ∀ k, k < n → ¬ X k) : Below n a b :=
  ⟨h.os, h.tape, h.output, h.size, fun i hi => h.block i (Nat.lt_of_lt_of_le hi hn) (hX i hi)⟩
theorem Kept.cell {X : Nat → Prop} {a b : World} (h : Kept X a b) {p : Addr} (hp : p.block < a.heap.size) (hX : ¬ X p.block) : b.cell? p = a.cell? p := World.cell?_of_block (w := a) (h.block p.block hp hX)
theorem Kept.frozen {X : Nat → Prop} {a b : World} (h : Kept X a b) {p : Addr} (hp : p.block < a.heap.size) (hX : ¬ X p.block) : b.frozen? p = a.frozen? p := World.frozen?_of_block (w := a) (h.block p.block hp hX)
theorem Kept.putObj {X : Nat → Prop} (w : World) {l : Nat} (o : Obj) (hX : X l) : Kept X w (w.putObj l o) :=
  ⟨rfl, rfl, rfl, by simp, fun i _ hi => World.putObj_heap_other (fun e => hi (e ▸ hX))⟩
theorem Kept.setCell {X : Nat → Prop} {a w : World} (h : Kept X a w) {p : Addr} (hX : X p.block) (u : Value) : Kept X a (w.setCell p u) :=
  h.trans ⟨rfl, rfl, rfl, by simp [World.setCell], fun k _ hk => Below.heap_setCell _ _ _ _ (fun e => hk (e ▸ hX))⟩
theorem Kept.alloc {X : Nat → Prop} {a w : World} (h : Kept X a w) (o : Obj) : Kept X a (w.alloc o) :=
  h.trans (.of_below ((Below.refl _ w).alloc (Nat.le_refl _) o))
theorem Kept.drew {X : Nat → Prop} {a w : World} (h : Kept X a w) : Kept X a w.drew := ⟨h.os, h.tape, h.output, h.size, h.block⟩

theorem below_putObj {n : Nat} (w : World) {l : Nat} (o : Obj) (h : n ≤ l) : Below n w (w.putObj l o) :=
  ⟨rfl, rfl, rfl, by simp, fun i hi => World.putObj_heap_other (by omega)⟩

/-- J looks at blocks below n alone. -/
def FarX {β : Type} (n : Nat) (J : β → World → Prop) : Prop := ∀ s A B, J s A → Below n A B → J s B

theorem FarX.and {β : Type} {n : Nat} {J K : β → World → Prop} (h : FarX n J) (k : FarX n K) : FarX n (fun s W => J s W ∧ K s W) :=
  fun s A B hs hb => ⟨h s A B hs.1 hb, k s A B hs.2 hb⟩
theorem FarX.below {β : Type} {n m : Nat} {w : World} (hm : m ≤ n) : FarX n (fun (_ : β) W => Below m w W) := fun _ A B h hb => h.trans (hb.mono hm)

/-- A call of yield, at whatever depth. -/
def YieldW (P : Program) (l : Nat) (args : Array Value) (W : World) (R : Ending → World → Prop) : Prop := ∀ m, YieldAt Fence.wide m P l args W R
theorem YieldW.mk {m : Nat} {P : Program} {l : Nat} {args : Array Value} {W : World} {R : Ending → World → Prop} (h : YieldAt Fence.wide m P l args W R) : YieldW P l args W R := fun _ => by
  obtain ⟨fn, tmps, assign, body, hy, hR⟩ := h
  exact ⟨fn, tmps, assign, body, hy, hR.1, fun c cs _ => hR.2 c cs (room_wide _)⟩
theorem YieldW.at {P : Program} {l : Nat} {args : Array Value} {W : World} {R : Ending → World → Prop} (h : YieldW P l args W R) (m : Nat) : YieldAt Fence.wide m P l args W R := h m
theorem YieldW.inRound {P : Program} {l : Nat} {args : Array Value} {W : World} {R : Ending → World → Prop} (h : YieldW P l args W R) (k m : Nat) : YieldAt (Fence.wide.inRound k) m P l args W R := h m

/-- The iterator value '.func g lb' hands over L, in its order, or stops where a round says so; a round keeps all but X. -/
def SeqX {α : Type} (P : Program) (g : Nat) (lb : Array Value) (encs : α → Array Value) (X : Nat → Prop) (L : List α) (W : World) : Prop :=
  ∀ (l : Nat) (J Jx : List α → World → Prop), FarX W.heap.size J → FarX W.heap.size Jx →
    (∀ pre x post W1, L = pre ++ x :: post → J pre W1 → W.heap.size ≤ W1.heap.size → YieldW P l (encs x) W1 fun e W' =>
      (e = .returned (.bool true) ∧ J (pre ++ [x]) W' ∧ Kept X W1 W') ∨ (e = .returned (.bool false) ∧ Jx (pre ++ [x]) W' ∧ Kept X W1 W')) →
    J [] W →
    Calls P g (#[.func (.yield l) #[] #[]] ++ lb) W fun e W' => (∃ v, e = .returned v) ∧ (J L W' ∨ (∃ pre, pre <+: L ∧ Jx pre W'))

/-- The ways out of a round's body. -/
def postX {α : Type} (X : Nat → Prop) (I : List α → World → Prop) (Ix : Code → List α → World → Prop) (xs : List α) (W : World) : Exit → Act → World → Prop
  | .normal, _, W' => Kept X W W' ∧ I xs W'
  | .ret, _, W' => Kept X W W' ∧ Ix .ret xs W'
  | .exit id, _, W' => Kept X W W' ∧ Ix (.exit id) xs W'
  | .goto t, _, W' => Kept X W W' ∧ Ix (.goto t) xs W'
  | .panic _, _, _ => False
  | .outgrown, _, _ => False

/-- **THE LOOP.** -/
theorem rangeX {P : Program} {α : Type} {g : Operand} {ps : Array Tmp} {assign body : Code} {Q : Exit → Act → World → Prop} {a : Act} {w : World}
    {gf : Nat} {lb : Array Value} (hg : a.eval g = .func (.func gf) #[] lb) (eg : ∀ args w, (callFunc gf args).run P w = .ok (.enter gf args) w)
    {encs : α → Array Value} {L : List α} (X : Nat → Prop) (hX : ∀ k, X k → k < w.heap.size)
    (hseq : ∀ W, Below w.heap.size w W → W.heap.size = w.heap.size + 2 → SeqX P gf lb encs (fun k => X k ∨ k = w.heap.size ∨ k = w.heap.size + 1) L W)
    (hps : ∀ x, (encs x).size = ps.size)
    (I : List α → World → Prop) (Ix : Code → List α → World → Prop) (hI : FarX w.heap.size I) (hIx : ∀ c, FarX w.heap.size (Ix c)) (h0 : I [] w)
    (Ax : α → Act → World → Prop) (hAx : ∀ x a' A B, Ax x a' A → Kept (fun k => k = w.heap.size + 1) A B → Ax x a' B)
    (hassign : ∀ (l : Nat) (pre : List α) (x : α) (post : List α) (W : World) (K : Act → World → Prop), L = pre ++ x :: post → w.heap.size + 2 ≤ W.heap.size → I pre W →
      (∀ a' W', Below W.heap.size W W' → Ax x a' W' → K a' W') →
      assign.wpIn (Fence.wide.inRound l) 9 P (Exit.then K (fun _ _ _ => False)) { tmps := (ps.zip (encs x)).foldl (fun t (p, v) => t.setIfInBounds p v) a.tmps, defers := [] } W)
    (hbody : ∀ (l : Nat) (pre : List α) (x : α) (post : List α) (a' : Act) (W : World), L = pre ++ x :: post → w.heap.size + 2 ≤ W.heap.size → I pre W → Ax x a' W →
      body.wpIn (Fence.wide.inRound l) 9 P (postX X I Ix (pre ++ [x]) W) a' W)
    (hdone : ∀ (D : Nat) (W : World), w.heap.size ≤ D → I L W → W.heap[D]? = some (.deferred (some [])) → Q .normal { a with defers := { target := .collected D, args := #[] } :: a.defers } W)
    (hstop : ∀ (D : Nat) (c : Code) (pre : List α) (W : World), w.heap.size ≤ D → pre <+: L → Ix c pre W → W.heap[D]? = some (.deferred (some [])) → c.wp P Q { a with defers := { target := .collected D, args := #[] } :: a.defers } W) :
    (Code.rangeFunc g ps assign body).wp P Q a w := by
  refine (wpIn_wide (n := 11)).1 (wpIn_rangeFunc fun fn hfn => ?_)
  rw [Fence.wide_round]
  obtain ⟨rc, hrc⟩ : ∃ rc : LoopState → Option Code → Loop, rc = fun st pe => { state := st, pending := pe, fn := fn, tmps := a.tmps, params := ps, assign := assign, body := body, defers := w.heap.size } := ⟨_, rfl⟩
  obtain ⟨V, hV⟩ : ∃ V, (w.alloc (.deferred (some []))).alloc (.loop (rc .ready none)) = V := ⟨_, rfl⟩
  have vs : V.heap.size = w.heap.size + 2 := by rw [← hV]; simp
  have vb : Below w.heap.size w V := by rw [← hV]; exact ((Below.refl _ w).alloc (Nat.le_refl _) _).alloc (by simp) _
  have vl : V.heap[w.heap.size + 1]? = some (.loop (rc .ready none)) := by
    rw [← hV]; have := World.alloc_heap_new (w.alloc (.deferred (some []))) (.loop (rc .ready none)); rwa [World.size_alloc] at this
  have vd : V.heap[w.heap.size]? = some (.deferred (some [])) := by
    rw [← hV]; exact (Below.heap_alloc _ _ _ (by simp)).trans (World.alloc_heap_new w _)
  refine ⟨w.heap.size + 1, [{ target := .collected w.heap.size, args := #[] }], V, { target := .fn (.func gf) lb, args := #[.func (.yield (w.heap.size + 1)) #[] #[]] }, V, gf,
    #[.func (.yield (w.heap.size + 1)) #[] #[]] ++ lb, V, ?_, ?_, ?_, ?_, fun _ => by omega, ?_⟩
  · rw [← hV, hrc]; exact run_enterLoop_outer _ _ _ _ _
  · simp only [resolve, hg]
    simp [go_sem]
  · intro f' hf'
    trivial
  · simp [invoke, go_sem, eg]
  have far1 : ∀ {k : Nat} {A B : World}, k < w.heap.size + 2 → Below V.heap.size A B → B.heap[k]? = A.heap[k]? := fun hk hb => hb.block _ (by omega)
  refine callsIn_wide.2 ((hseq V vb vs (w.heap.size + 1)
    (fun pre W => I pre W ∧ W.heap[w.heap.size + 1]? = some (.loop (rc .ready none)) ∧ W.heap[w.heap.size]? = some (.deferred (some [])))
    (fun pre W => ∃ c, Ix c pre W ∧ W.heap[w.heap.size + 1]? = some (.loop (rc .done (some c))) ∧ W.heap[w.heap.size]? = some (.deferred (some [])))
    (fun s A B hs hb => ⟨hI s A B hs.1 (hb.mono (by omega)), (far1 (by omega) hb).trans hs.2.1, (far1 (by omega) hb).trans hs.2.2⟩)
    (fun s A B hs hb => by
      obtain ⟨c, h₁, h₂, h₃⟩ := hs
      exact ⟨c, hIx c s A B h₁ (hb.mono (by omega)), (far1 (by omega) hb).trans h₂, (far1 (by omega) hb).trans h₃⟩)
    ?_ ⟨hI [] w V h0 vb, vl, vd⟩).mono ?_)
  · rintro pre x post W0 hL ⟨hi0, hl0, hd0⟩ hsz
    have hy := run_yield (P := P) (args := encs x) hl0 (by rw [hrc]; exact hps x)
    rw [hrc] at hy
    refine YieldW.mk (m := 9) ⟨fn, _, assign, body, hy, roundIn_of_wpIn hfn (hassign _ pre x post W0 _ hL (by omega) hi0 ?_)⟩
    intro a' W hbW hax
    have hl := (hbW.block (w.heap.size + 1) (by omega)).trans hl0
    have hd := (hbW.block w.heap.size (by omega)).trans hd0
    have hi := hI pre W0 W hi0 (hbW.mono (by omega))
    have hszW := hbW.size
    refine ⟨_, run_beginRound hl (by rw [hrc]), ?_⟩
    obtain ⟨W2, hW2⟩ : ∃ W2, W.putObj (w.heap.size + 1) (.loop { rc .ready none with state := .busy }) = W2 := ⟨_, rfl⟩
    have l2 : W2.heap[w.heap.size + 1]? = some (.loop { rc .ready none with state := .busy }) := by rw [← hW2]; exact World.putObj_heap_same (by omega)
    have d2 : W2.heap[w.heap.size]? = some (.deferred (some [])) := by rw [← hW2]; exact (World.putObj_heap_other (by omega)).trans hd
    have k2 : Kept (fun k => X k ∨ k = w.heap.size ∨ k = w.heap.size + 1) W0 W2 := by rw [← hW2]; exact (Kept.of_below hbW).trans (Kept.putObj _ _ (.inr (.inr rfl)))
    have i2 : I pre W2 := by rw [← hW2]; exact hI pre W _ hi (below_putObj _ _ (by omega))
    have a2 : Ax x a' W2 := by rw [← hW2]; exact hAx x a' _ _ hax (Kept.putObj _ _ rfl)
    have s2 : w.heap.size + 2 ≤ W2.heap.size := by have := k2.size; omega
    rw [hW2]
    refine wpIn_mono (hbody _ pre x post a' W2 hL s2 i2 a2) ?_
    have fin : ∀ (jump : Option Code) (W3 : World), Kept X W2 W3 → ∃ W4, (Instr.endRound (w.heap.size + 1) jump).run P W3 = .ok (.bool jump.isNone) W4 ∧ Below w.heap.size W3 W4 ∧
        W4.heap[w.heap.size + 1]? = some (.loop (rc (if jump.isNone then .ready else .done) jump)) ∧ W4.heap[w.heap.size]? = some (.deferred (some [])) ∧ Kept (fun k => X k ∨ k = w.heap.size ∨ k = w.heap.size + 1) W0 W4 := by
      intro jump W3 h3
      have l3 := (h3.block (w.heap.size + 1) (by omega) (fun h => by have := hX _ h; omega)).trans l2
      have d3 := (h3.block w.heap.size (by omega) (fun h => by have := hX _ h; omega)).trans d2
      have hsz3 := h3.size
      refine ⟨_, run_endRound (P := P) jump l3, below_putObj _ _ (by omega), ?_, (World.putObj_heap_other (by omega)).trans d3, (k2.trans (h3.mono fun k _ hk => .inl hk)).trans (Kept.putObj _ _ (.inr (.inr rfl)))⟩
      rw [World.putObj_heap_same (by omega), hrc]
    rintro e a3 W3 hp
    cases e with
    | normal =>
      obtain ⟨h3, i3⟩ := hp
      obtain ⟨W4, hr, hb, l4, d4, k4⟩ := fin none W3 h3
      exact ⟨_, W4, hr, .inl ⟨rfl, ⟨hI _ _ _ i3 hb, l4, d4⟩, k4⟩⟩
    | ret =>
      obtain ⟨h3, i3⟩ := hp
      obtain ⟨W4, hr, hb, l4, d4, k4⟩ := fin (some .ret) W3 h3
      exact ⟨_, W4, hr, .inr ⟨rfl, ⟨_, hIx _ _ _ _ i3 hb, l4, d4⟩, k4⟩⟩
    | exit id =>
      obtain ⟨h3, i3⟩ := hp
      obtain ⟨W4, hr, hb, l4, d4, k4⟩ := fin (some (.exit id)) W3 h3
      exact ⟨_, W4, hr, .inr ⟨rfl, ⟨_, hIx _ _ _ _ i3 hb, l4, d4⟩, k4⟩⟩
    | goto t =>
      obtain ⟨h3, i3⟩ := hp
      obtain ⟨W4, hr, hb, l4, d4, k4⟩ := fin (some (.goto t)) W3 h3
      exact ⟨_, W4, hr, .inr ⟨rfl, ⟨_, hIx _ _ _ _ i3 hb, l4, d4⟩, k4⟩⟩
    | panic ch => exact hp.elim
    | outgrown => exact hp.elim
  · rintro e W2 ⟨⟨v, rfl⟩, (⟨hi, hl, hd⟩ | ⟨pre, hpre, c, hi, hl, hd⟩)⟩
    · refine ⟨none, _, by have := run_endLoop (P := P) hl (by rw [hrc]; simp); rw [hrc] at this; exact this, hdone _ _ (Nat.le_refl _) (hI _ _ _ hi (below_putObj _ _ (by omega))) ((World.putObj_heap_other (by omega)).trans hd)⟩
    · refine ⟨some c, _, by have := run_endLoop (P := P) hl (by rw [hrc]; simp); rw [hrc] at this; exact this, wpIn_wide.2 (hstop _ c pre _ (Nat.le_refl _) hpre (hIx c _ _ _ hi (below_putObj _ _ (by omega))) ((World.putObj_heap_other (by omega)).trans hd))⟩

/-- A function that holds such a loop. -/
theorem calls_of_marks {P : Program} {f : FuncId} {fn : Func} {c : Code} {args : Array Value} {w : World} {R : Ending → World → Prop}
    (hf : P.funcs[f]? = some fn) (hb : fn.body = some c)
    (h : c.wp P (bodyPostM Fence.wide 9 P fn R) { tmps := args ++ Array.replicate (fn.ntmps - args.size) undef, defers := [] } w) : Calls P f args w R :=
  (callsIn_wide (n := 9)).1 (callsIn_of_wp_marks hf hb trivial ((wpIn_wide (n := 9)).2 h) rfl)
end Go.Proofs.YtfbalpkjcfdakaaGreatDoor

namespace Go.Proofs.YtfbalpkjcfdakaaGreatDoor
open Go.RowKit Go.Lib
set_option linter.unusedVariables false
set_option linter.unusedSimpArgs false

/-- A pair of words. -/
abbrev colV (A B : Nat) : Value := .agg #[.int .u64 (A : Int), .int .u64 (B : Int)]
/-- A word's range. -/
def W64 (A : Nat) : Prop := A < 18446744073709551616

/-- The variable's cells hold the table. -/
def DebW (w : World) : Prop := ∀ i, i < 64 → w.cell? ⟨1, i, none⟩ = some (.int .u8 ((deBruijn64tab.getD i 0 : Nat) : Int))
theorem DebW.size {W : World} (h : DebW W) : 1 < W.heap.size := by
  have := h 0 (by omega)
  unfold World.cell? at this
  split at this
  · rename_i heq
    exact (Array.getElem?_eq_some_iff.1 heq).1
  · cases this
theorem DebW.below {W W' : World} (h : DebW W) {n : Nat} (hb : Below n W W') (hn : 1 < n) : DebW W' := fun i hi => (hb.cell (p := ⟨1, i, none⟩) hn).trans (h i hi)
theorem DebW.ext {W W' : World} (h : DebW W) (hb : Below W.heap.size W W') : DebW W' := h.below hb h.size
theorem DebW.kept {W W' : World} {X : Nat → Prop} (h : DebW W) (hb : Kept X W W') (hX : ¬ X 1) : DebW W' := fun i hi => (hb.cell (p := ⟨1, i, none⟩) h.size hX).trans (h i hi)
theorem DebW.ne {W : World} (h : DebW W) : ¬ W.heap = #[] := fun e => by have := h.size; rw [e] at this; simp at this
/-- The variables that regions read. -/
structure EnvW (w : World) : Prop where
  deb : DebW w
  chip : ChipW w
theorem EnvW.ext {W W' : World} (h : EnvW W) (hb : Below W.heap.size W W') : EnvW W' := ⟨h.deb.ext hb, h.chip.ext hb⟩

set_option maxHeartbeats 2000000 in
theorem with_any (a b c d : Nat) (w : World) (ha : W64 a) (hb : W64 b) (hc : W64 c) (hd : W64 d) :
    Calls Tryz.prog 177 #[colV a b, colV c d] w fun e w' => e = .returned (colV (a ||| c) (b ||| d)) ∧ Below w.heap.size w w' := by
  have h1 := bits_or_u64_nat a c ha hc
  have h2 := bits_or_u64_nat b d hb hd
  go_enter Tryz.func177, Tryz.ntmps177
  go_wp2_with fail
  refine bodyPost_ret (v := colV (a ||| c) (b ||| d)) (by simp [*, results, Tryz.results177, go_sem]) rfl ⟨rfl, ?_⟩
  (repeat (first | (with_reducible exact Below.refl _ _) | (with_reducible refine Ext.drewN ?_ _) | (with_reducible refine Below.drew ?_) | (with_reducible refine Ext.alloc ?_ _) | (with_reducible refine Ext.setCell ?_ (by simp; try omega) _) | (with_reducible refine Ext.trans ?_ (by assumption)) | (with_reducible assumption) | exact Below.refl _ _))

set_option maxHeartbeats 2000000 in
theorem without_any (a b c d : Nat) (w : World) (ha : W64 a) (hb : W64 b) (hc : W64 c) (hd : W64 d) :
    Calls Tryz.prog 179 #[colV a b, colV c d] w fun e w' => e = .returned (colV (a &&& (18446744073709551615 - c)) (b &&& (18446744073709551615 - d))) ∧ Below w.heap.size w w' := by
  have h1 := bits_andNot_u64_nat a c ha hc
  have h2 := bits_andNot_u64_nat b d hb hd
  go_enter Tryz.func179, Tryz.ntmps179
  go_wp2_with fail
  refine bodyPost_ret (v := colV (a &&& (18446744073709551615 - c)) (b &&& (18446744073709551615 - d))) (by simp [*, results, Tryz.results179, go_sem]) rfl ⟨rfl, ?_⟩
  (repeat (first | (with_reducible exact Below.refl _ _) | (with_reducible refine Ext.drewN ?_ _) | (with_reducible refine Below.drew ?_) | (with_reducible refine Ext.alloc ?_ _) | (with_reducible refine Ext.setCell ?_ (by simp; try omega) _) | (with_reducible refine Ext.trans ?_ (by assumption)) | (with_reducible assumption) | exact Below.refl _ _))

theorem mask_is (n : Nat) (h : n ≤ 64) : IntKind.u64.wrap (IntKind.u64.wrap (2 ^ n) - 1) = ((mk n : Nat) : Int) := by
  have e : (2 : Int) ^ n = ((2 ^ n : Nat) : Int) := by simp
  have hp : 0 < 2 ^ n := Nat.two_pow_pos n
  rw [e, IntKind.wrap_u64, IntKind.wrap_u64]
  unfold mk
  by_cases hn : n = 64
  · subst hn
    decide
  · have : 2 ^ n ≤ 2 ^ 63 := Nat.pow_le_pow_right (by decide) (by omega)
    omega

set_option maxHeartbeats 2000000 in
theorem left_any (x : Int) (w : World) (h1 : -40 ≤ x) (h2 : x ≤ 40) :
    Calls Tryz.prog 108 #[.int .i64 x] w fun e w' => e = .returned (colV (mk (min (x + 40).toNat 64)) (mk ((x + 40).toNat - 64))) ∧ Below w.heap.size w w' := by
  have m1 := mask_is (min (x + 40).toNat 64) (by omega)
  have m2 := mask_is ((x + 40).toNat - 64) (by omega)
  have e1 : min (x + 40).toNat 64 = (min (x + 40) 64).toNat := by omega
  have e2 : (x + 40).toNat - 64 = (max (x + 40 - 64) 0).toNat := by omega
  rw [e1] at m1 ⊢
  rw [e2] at m2 ⊢
  clear e1 e2
  go_enter Tryz.func108, Tryz.ntmps108
  go_wp2_with fail
  go_region
  all_goals go_wp2_with fail
  refine bodyPost_ret (v := colV (mk (min (x + 40) 64).toNat) (mk (max (x + 40 - 64) 0).toNat)) (by simp [*, results, Tryz.results108, go_sem]) rfl ⟨rfl, ?_⟩
  (repeat (first | (with_reducible exact Below.refl _ _) | (with_reducible refine Ext.drewN ?_ _) | (with_reducible refine Below.drew ?_) | (with_reducible refine Ext.alloc ?_ _) | (with_reducible refine Ext.setCell ?_ (by simp; try omega) _) | (with_reducible refine Ext.trans ?_ (by assumption)) | (with_reducible assumption) | exact Below.refl _ _))

set_option maxHeartbeats 2000000 in
theorem tz_any (a : Nat) (w : World) (ha : W64 a) (h0 : a ≠ 0) (hD : DebW w) :
    Calls Tryz.prog 143 #[.int .u64 (a : Int)] w fun e w' => e = .returned (.int .i64 ((ctz 64 a : Nat) : Int)) ∧ w' = w := by
  have hlow := lowest_bit 64 a h0 ha
  obtain ⟨k, hk⟩ : ∃ k, k = ctz 64 a := ⟨_, rfl⟩
  rw [← hk] at hlow ⊢
  obtain ⟨hl, hk64⟩ := hlow
  have hdb := deBruijn64_at k hk64
  obtain ⟨p, hp⟩ : ∃ p, p = 2 ^ k := ⟨_, rfl⟩
  rw [← hp] at hl hdb
  obtain ⟨q, hq⟩ : ∃ q, q = p * 285870213051353865 % 18446744073709551616 := ⟨_, rfl⟩
  rw [← hq] at hdb
  obtain ⟨j, hj⟩ : ∃ j, j = q / 288230376151711744 := ⟨_, rfl⟩
  rw [← hj] at hdb
  have hneg : IntKind.u64.wrap (-(a : Int)) = ((18446744073709551616 - a : Nat) : Int) := by
    rw [IntKind.wrap_u64]
    have : a < 18446744073709551616 := ha
    omega
  have hand := bits_and_u64_nat a (18446744073709551616 - a) ha (by omega)
  rw [show 18446744073709551616 - a = 2 ^ 64 - a by rfl, hl, show 2 ^ 64 - a = 18446744073709551616 - a by rfl] at hand
  have hmul : IntKind.u64.wrap ((p : Int) * 285870213051353865) = (q : Int) := by rw [IntKind.wrap_u64]; omega
  have hdiv : (q : Int) / 288230376151711744 = (j : Int) := by omega
  have hcell := hD j hdb.1
  rw [hdb.2] at hcell
  have hz : ((a : Int) == 0) = false := by simp; omega
  have hz1 : ¬ (a : Int) = 0 := by omega
  have hj1 : (0 : Int) ≤ (j : Int) := by omega
  have hj2 : (j : Int) < 64 := by have := hdb.1; omega
  have hw : IntKind.i64.wrap (k : Int) = k := by rw [IntKind.wrap_i64]; omega
  obtain ⟨c, hc⟩ : ∃ c : Nat, c = 18446744073709551616 - a := ⟨_, rfl⟩
  rw [← hc] at hneg hand
  clear hl hdb hp hq hj hk hc hD
  go_enter Tryz.func143, Tryz.ntmps143
  go_wp2_with fail
  go_ret
  exact ⟨rfl, rfl⟩

theorem and127 (z : Int) : 0 ≤ bits .and .i64 z 127 ∧ bits .and .i64 z 127 ≤ 127 := by
  have h1 : (BitVec.ofInt 64 z &&& BitVec.ofInt 64 127).toNat ≤ 127 := by
    rw [BitVec.toNat_and]
    exact Nat.le_trans Nat.and_le_right (by decide)
  show 0 ≤ IntKind.i64.wrap ((BitVec.ofInt 64 z &&& BitVec.ofInt 64 127).toNat : Int) ∧ IntKind.i64.wrap ((BitVec.ofInt 64 z &&& BitVec.ofInt 64 127).toNat : Int) ≤ 127
  rw [IntKind.wrap_i64]
  omega

theorem ret127 (z : Int) : ∃ n : Nat, n ≤ 127 ∧ Ending.returned (.int .i64 (bits .and .i64 z 127)) = .returned (.int .i64 (n : Int)) := by
  obtain ⟨u1, u2⟩ := and127 z
  obtain ⟨n, hn⟩ := Int.eq_ofNat_of_zero_le u1
  exact ⟨n, by omega, by rw [hn]⟩

set_option maxHeartbeats 2000000 in
theorem ones_any (a : Int) (w : World) :
    Calls Tryz.prog 176 #[.int .u64 a] w fun e w' => (∃ n : Nat, n ≤ 127 ∧ e = .returned (.int .i64 (n : Int))) ∧ w' = w := by
  go_enter Tryz.func176, Tryz.ntmps176
  go_wp2_with fail
  refine bodyPost_ret (results_tmp rfl _ _ _) rfl ?_
  exact ⟨ret127 _, rfl⟩
end Go.Proofs.YtfbalpkjcfdakaaGreatDoor

namespace Go.Proofs.YtfbalpkjcfdakaaGreatDoor
open Go.RowKit
set_option linter.unusedVariables false
set_option linter.unusedSimpArgs false

/-- A box of four numbers. -/
def Box4 (w : World) (g : Nat) (p q r s : Int) : Prop := w.cell? ⟨g, 0, none⟩ = some (.int .i64 p) ∧ w.cell? ⟨g, 1, none⟩ = some (.int .i64 q) ∧ w.cell? ⟨g, 2, none⟩ = some (.int .i64 r) ∧ w.cell? ⟨g, 3, none⟩ = some (.int .i64 s)
theorem Box4.keep {B g : Nat} {w w' : World} {p q r s : Int} (h : Box4 w g p q r s) (hb : Below B w w') (hg : g < B) : Box4 w' g p q r s :=
  ⟨(hb.cell (p := ⟨g, 0, none⟩) hg).trans h.1, (hb.cell (p := ⟨g, 1, none⟩) hg).trans h.2.1, (hb.cell (p := ⟨g, 2, none⟩) hg).trans h.2.2.1, (hb.cell (p := ⟨g, 3, none⟩) hg).trans h.2.2.2⟩
theorem Box4.wr {g b : Nat} {w w' : World} {p q r s : Int} (h : Box4 w b p q r s) (hw : Wr g w w') (hne : b ≠ g) : Box4 w' b p q r s :=
  ⟨hw.cell h.1 hne, hw.cell h.2.1 hne, hw.cell h.2.2.1 hne, hw.cell h.2.2.2 hne⟩

end Go.Proofs.YtfbalpkjcfdakaaGreatDoor

namespace Go.Proofs.YtfbalpkjcfdakaaGreatDoor
open Go.RowKit
set_option linter.unusedVariables false
set_option linter.unusedSimpArgs false

/-- The contract that the walk asks of the program's IsRegion. -/
def ImplIsRegion : Prop := ∀ (m : Option Addr) (n cap : Nat) (P Q R S : Nat → Int) (W : World), n ≤ 1048576 → n ≤ cap → EnvW W → RectsIs W.heap.size W m n P Q R S → Calls Tryz.prog 73 #[.slice m n cap] W fun e W' => e = .returned (.bool (okR P Q R S n)) ∧ Below W.heap.size W W'

end Go.Proofs.YtfbalpkjcfdakaaGreatDoor
