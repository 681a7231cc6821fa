/- The laws' comparisons and marks of lists of numbers. Conditions: the numbers lie in memory; a marked list lies in a row of its own. -/
import Derived.Test.YtciodcknobccdaaDoorLcQ
import Derived.Test.YtciodcknobccdaaDoorLcN
namespace Go.Proofs.YtciodcknobccdaaDoor
open Go.RowKit
set_option linter.unusedVariables false
set_option linter.unusedSimpArgs false
attribute [local go_sem ↓] Go.wp_at_zero Go.wp_at_succ

/-- Numbers that lie in memory. -/
def IntsIs (B : Nat) (w : World) (a : Option Addr) (xs : List Int) : Prop := ∀ i z, xs[i]? = some z → ∃ g off : Nat, a = some ⟨g, off, none⟩ ∧ g < B ∧ w.cell? ⟨g, off + i, none⟩ = some (.int .i64 z)
theorem IntsIs.kept {B C : Nat} {w w' : World} {a : Option Addr} {xs : List Int} (h : IntsIs B w a xs) (hk : ∀ p, p.block < B → w'.cell? p = w.cell? p) (hB : B ≤ C) : IntsIs C w' a xs := fun i z hi => by
  obtain ⟨g, off, h1, h2, h3⟩ := h i z hi
  exact ⟨g, off, h1, Nat.lt_of_lt_of_le h2 hB, (hk _ h2).trans h3⟩
theorem IntsIs.ext {w w' : World} {a : Option Addr} {xs : List Int} (h : IntsIs w.heap.size w a xs) (hb : Below w.heap.size w w') : IntsIs w'.heap.size w' a xs := h.kept (fun p hp => hb.cell hp) hb.size
theorem own_ints {B : Nat} {w : World} {a : Option Addr} {c : Nat} {xs : List Int} (h : w.ownsRow B 2 1 (.slice a xs.length c) xs.length (rowZ xs)) : IntsIs w.heap.size w a xs := fun i z hi => by
  have hl := get_lt hi
  rcases h.2 with ⟨e, h0⟩ | ⟨g, cap, cur, e, _⟩
  · omega
  · cases e
    have hc := h.cellAt i (by omega)
    have h2 : (rowZ xs)[i]? = some (.int .i64 z) := by unfold rowZ; rw [List.getElem?_map, hi]; rfl
    rw [h2] at hc
    exact ⟨g, 0, rfl, (h.lt g rfl).2, by rw [Nat.zero_add]; exact hc⟩
theorem own_marks {B : Nat} {w : World} {a : Option Addr} {c : Nat} {xs : List Int} (h : w.ownsRow B 2 1 (.slice a xs.length c) xs.length (rowZ xs)) : xs.length = 0 ∨ ∃ g, a = some ⟨g, 0, none⟩ ∧ B ≤ g ∧ g < w.heap.size ∧ ∀ o, o < xs.length → NsAt w ⟨g, o, none⟩ := by
  by_cases h0 : xs.length = 0
  · exact .inl h0
  · rcases h.2 with ⟨e, h1⟩ | ⟨g, cap, cur, e, _⟩
    · exact .inl h1
    · cases e
      have hl := h.lt g rfl
      refine .inr ⟨g, rfl, hl.1, hl.2, fun o ho => ?_⟩
      obtain ⟨z, hz⟩ := get_some ho
      have hc := h.cellAt o (by omega)
      have h2 : (rowZ xs)[o]? = some (.int .i64 z) := by unfold rowZ; rw [List.getElem?_map, hz]; rfl
      rw [h2] at hc
      exact ⟨⟨_, hc, nsI _⟩, h.frozenAt o⟩
set_option maxRecDepth 100000 in
set_option maxHeartbeats 4000000 in
theorem eqInt64S_any (a b : Option Addr) (xs : List Int) (c1 c2 : Nat) (w : World) (hn : xs.length ≤ 1048576) (hP : IntsIs w.heap.size w a xs) (hQ : IntsIs w.heap.size w b xs) :
    Calls Tryd.prog 30 #[.slice a xs.length c1, .slice b xs.length c2] w fun e w' => e = .returned (.bool true) ∧ Below w.heap.size w w' := by
  have HP := Lib.hid hP
  have HQ := Lib.hid hQ
  clear hP hQ
  go_enter Tryd.func30, Tryd.ntmps30
  go_wp2_with fail
  go_loopw [5] (fun s5 wr => ∃ i : Nat, i ≤ xs.length ∧ s5 = .int .i64 (i : Nat) ∧ Below w.heap.size w wr) (fun s5 _ => xs.length - (intOf s5).toNat)
  case atStart => exact ⟨0, by omega, rfl, Below.refl _ _⟩
  case round =>
    obtain ⟨i, hik, rfl, hW⟩ := hrel
    by_cases hlt : i < xs.length
    · obtain ⟨z, hz⟩ := get_some hlt
      obtain ⟨g1, o1, rfl, hg1, c0⟩ := HP.out i z hz
      obtain ⟨g2, o2, rfl, hg2, d0⟩ := HQ.out i z hz
      have c0' := (hW.cell (p := ⟨g1, o1 + i, none⟩) hg1).trans c0
      have d0' := (hW.cell (p := ⟨g2, o2 + i, none⟩) hg2).trans d0
      have q3 : ((i : Nat) : Int) < (xs.length : Int) := by omega
      have q0 : (0 : Int) ≤ ((i : Nat) : Int) := by omega
      clear c0 d0 hz
      go_wp2_with fail
      go_region
      all_goals
        go_wp2_with fail
        go_roundw
        case rel => exact ⟨i + 1, by omega, by go_num, by first | assumption | (repeat (first | (with_reducible exact Below.refl _ _) | (with_reducible refine Ext.drewN ?_ _) | (with_reducible refine Below.drew ?_) | (with_reducible refine Ext.alloc ?_ _) | (with_reducible refine Ext.setCell ?_ (by simp; try omega) _) | (with_reducible refine Ext.trans ?_ (by assumption)) | (with_reducible assumption) | exact Below.refl _ _))⟩
        case measure => simp [intOf]; omega
    · have q3 : ¬ ((i : Nat) : Int) < (xs.length : Int) := by omega
      go_wp2_with fail
      go_ret
      exact ⟨rfl, hW⟩
/-- A list that bears the marks from 1 on. -/
def Marked (w : World) (a : Option Addr) (n : Nat) : Prop := ∀ o, o < n → ∃ g : Nat, a = some ⟨g, 0, none⟩ ∧ w.cell? ⟨g, o, none⟩ = some (.int .i64 (1 + (o : Int)))
theorem Marked.ext {w w' : World} {a : Option Addr} {n : Nat} (h : Marked w a n) (hb : Below w.heap.size w w') : Marked w' a n := fun o ho => by
  obtain ⟨g, h1, h2⟩ := h o ho
  exact ⟨g, h1, keepC hb h2⟩
set_option maxRecDepth 100000 in
set_option maxHeartbeats 4000000 in
theorem markInt64S_any (a : Option Addr) (n c lo hi : Nat) (w : World) (hn : n ≤ 1048576) (hr : n = 0 ∨ ∃ g, a = some ⟨g, 0, none⟩ ∧ lo ≤ g ∧ g < hi ∧ ∀ o, o < n → NsAt w ⟨g, o, none⟩) :
    Calls Tryd.prog 32 #[.slice a n c, .int .i64 1] w fun e w' => e = .returned (.int .i64 (1 + (n : Int))) ∧ St lo hi w w' ∧ Marked w' a n := by
  have HRR := Lib.hid hr
  clear hr
  go_enter Tryd.func32, Tryd.ntmps32
  go_wp2_with fail
  go_loopw [1, 5] (fun s t wr => ∃ i : Nat, i ≤ n ∧ t = .int .i64 (i : Nat) ∧ s = .int .i64 (1 + (i : Int)) ∧ Hid (St lo hi w wr) ∧ Hid (Marked wr a i)) (fun _ t _ => n - (intOf t).toNat)
  case atStart => exact ⟨0, by omega, rfl, by simp, Lib.hid (St.refl _ _ _), Lib.hid fun o ho => absurd ho (by omega)⟩
  case round =>
    obtain ⟨i, hi2, rfl, rfl, HS, HM⟩ := hrel
    by_cases hlt : i < n
    · obtain ⟨g, rfl, hlo, hhi, hr⟩ := HRR.out.resolve_left (by omega)
      have HR := Lib.hid hr
      have q1 : (i : Int) < (n : Int) := by omega
      have q0 : (0 : Int) ≤ (i : Int) := by omega
      have e0 := HS.out.ns _ (hr i hlt)
      obtain ⟨⟨x0, c0, -⟩, f0⟩ := e0
      have HS1 := Lib.hid (HS.out.put (HR.out i hlt) hlo hhi (nsI (1 + (i : Int))))
      have HM1 : Hid (Marked (wr.setCell ⟨g, i, none⟩ (.int .i64 (1 + (i : Int)))) (some ⟨g, 0, none⟩) (i + 1)) := Lib.hid fun o ho => by
        refine ⟨g, rfl, ?_⟩
        by_cases e : o = i
        · subst e; exact World.cell?_setCell_same _ _ _ c0
        · obtain ⟨g', h1, h2⟩ := HM.out o (by omega)
          cases h1
          exact other_cellL (by simp; try omega) h2
      clear hr
      go_wp2_with fail
      go_roundw
      case rel => exact ⟨i + 1, by omega, by go_num, by first | rfl | (simp; omega), HS1, HM1⟩
      case measure => simp [intOf]; omega
    · have q1 : ¬ (i : Int) < (n : Int) := by omega
      obtain rfl : i = n := by omega
      go_wp2_with fail
      go_ret
      exact ⟨rfl, HS.out, HM.out⟩
set_option maxRecDepth 100000 in
set_option maxHeartbeats 4000000 in
theorem heldInt64S_any (a : Option Addr) (n c : Nat) (w : World) (hn : n ≤ 1048576) (hM : Marked w a n) :
    Calls Tryd.prog 33 #[.slice a n c, .int .i64 1] w fun e w' => e = .returned (.int .i64 (1 + (n : Int))) ∧ w = w' := by
  have HM := Lib.hid hM
  clear hM
  go_enter Tryd.func33, Tryd.ntmps33
  go_wp2_with fail
  go_loopw [1, 5] (fun s t wr => ∃ i : Nat, i ≤ n ∧ t = .int .i64 (i : Nat) ∧ s = .int .i64 (1 + (i : Int)) ∧ wr = w) (fun _ t _ => n - (intOf t).toNat)
  case atStart => exact ⟨0, by omega, rfl, by simp, rfl⟩
  case round =>
    obtain ⟨i, hi2, rfl, rfl, rfl⟩ := hrel
    by_cases hlt : i < n
    · obtain ⟨g, rfl, c0⟩ := HM.out i hlt
      have q1 : (i : Int) < (n : Int) := by omega
      have q0 : (0 : Int) ≤ (i : Int) := by omega
      go_wp2_with fail
      go_roundw
      case rel => exact ⟨i + 1, by omega, by go_num, by first | rfl | (simp; omega), by trivial⟩
      case measure => simp [intOf]; omega
    · have q1 : ¬ (i : Int) < (n : Int) := by omega
      obtain rfl : i = n := by omega
      go_wp2_with fail
      go_ret
      exact ⟨rfl, rfl⟩
end Go.Proofs.YtciodcknobccdaaDoor
