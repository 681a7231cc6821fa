/- The law's look-up of an edge in a list. Condition: the list's cells are in memory. -/
import Derived.Test.YtmabdemdapnmkaaGreatDoorEmA
import Derived.Test.YtmabdemdapnmkaaGreatDoorEgD
namespace Go.Proofs.YtmabdemdapnmkaaGreatDoor
open Go.RowKit
set_option linter.unusedVariables false
set_option linter.unusedSimpArgs false
attribute [local go_sem ↓] Go.wp_at_zero Go.wp_at_succ

set_option maxRecDepth 100000 in
set_option maxHeartbeats 4000000 in
theorem w6Has_any (a : Option Addr) (L : List R4) (c : Nat) (e : R4) (w : World) (hl : L.length ≤ 1048576) (hR : RectsL w.heap.size w a L) (he : e ∈ L) :
    Calls Tryz.prog 21 #[.slice a L.length c, .agg #[.int .i64 e.a, .int .i64 e.b, .int .i64 e.c, .int .i64 e.d]] w fun r w' => r = .returned (.bool true) ∧ Below w.heap.size w w' := by
  have hE := fun g : R4 => eqEc g.a g.b g.c g.d e.a e.b e.c e.d
  have hI := fun g : R4 => eqRB_iff g e
  go_enter Tryz.func21, Tryz.ntmps21
  go_wp2_with fail
  go_loopw [5] (fun s5 wr => ∃ i : Nat, i ≤ L.length ∧ s5 = .int .i64 (i : Nat) ∧ Hid (e ∈ L.drop i) ∧ Below w.heap.size w wr ∧ w.heap.size < wr.heap.size ∧ wr.cell? ⟨w.heap.size, 0, none⟩ = some (.int .i64 e.a) ∧ wr.cell? ⟨w.heap.size, 1, none⟩ = some (.int .i64 e.b) ∧ wr.cell? ⟨w.heap.size, 2, none⟩ = some (.int .i64 e.c) ∧ wr.cell? ⟨w.heap.size, 3, none⟩ = some (.int .i64 e.d)) (fun s5 _ => L.length - (intOf s5).toNat)
  case atStart => exact ⟨0, by omega, rfl, Lib.hid (by simpa using he), by (repeat (first | (with_reducible exact Below.refl _ _) | (with_reducible refine Ext.drewN ?_ _) | (with_reducible refine Below.drew ?_) | (with_reducible refine Ext.alloc ?_ _) | (with_reducible refine Ext.setCell ?_ (by simp; try omega) _) | (with_reducible refine Ext.trans ?_ (by assumption)) | (with_reducible assumption) | exact Below.refl _ _)), by simp, by simp [go_sem], by simp [go_sem], by simp [go_sem], by simp [go_sem]⟩
  case round =>
    obtain ⟨i, hil, rfl, HM, hW, hsz, p0, p1, p2, p3⟩ := hrel
    have hlt : i < L.length := by
      have h := HM.out
      by_cases hh : i < L.length
      · exact hh
      · rw [List.drop_eq_nil_of_le (by omega)] at h
        cases h
    have q1 : ((i : Nat) : Int) < (L.length : Int) := by omega
    have q0 : (0 : Int) ≤ ((i : Nat) : Int) := by omega
    have hcase := HM.out
    rw [List.drop_eq_getElem_cons hlt, List.mem_cons] at hcase
    have hgi : L.getD i default = L[i] := by simp [hlt]
    rw [← hgi] at hcase
    obtain ⟨b1, o1, rfl, hb1, c0, c1, c2, c3⟩ := hR.below hW i hlt
    unfold pA at c0; unfold pB at c1; unfold pC at c2; unfold pD at c3
    obtain ⟨g, hg⟩ : ∃ g, g = L.getD i default := ⟨_, rfl⟩
    rw [← hg] at c0 c1 c2 c3 hcase
    have hEg := hE g
    simp only [hI g] at hEg
    clear hg hgi hE hI
    cases hd : decide (g = e) with
    | true =>
      simp only [hd] at hEg
      clear hcase hd
      go_wp2_with fail
      go_region
      go_wp2_with fail
      go_ret
      exact ⟨rfl, by (repeat (first | (with_reducible exact Below.refl _ _) | (with_reducible refine Ext.drewN ?_ _) | (with_reducible refine Below.drew ?_) | (with_reducible refine Ext.alloc ?_ _) | (with_reducible refine Ext.setCell ?_ (by simp; try omega) _) | (with_reducible refine Ext.trans ?_ (by assumption)) | (with_reducible assumption) | exact Below.refl _ _))⟩
    | false =>
      simp only [hd] at hEg
      have HN := Lib.hid (hcase.resolve_left fun h => by rw [h] at hd; simp at hd)
      clear hcase hd
      go_wp2_with fail
      go_region
      go_wp2_with fail
      go_roundw
      case rel => exact ⟨i + 1, by omega, by go_num, HN, by (repeat (first | (with_reducible exact Below.refl _ _) | (with_reducible refine Ext.drewN ?_ _) | (with_reducible refine Below.drew ?_) | (with_reducible refine Ext.alloc ?_ _) | (with_reducible refine Ext.setCell ?_ (by simp; try omega) _) | (with_reducible refine Ext.trans ?_ (by assumption)) | (with_reducible assumption) | exact Below.refl _ _)), by simpa using hsz, by simpa [go_sem] using p0, by simpa [go_sem] using p1, by simpa [go_sem] using p2, by simpa [go_sem] using p3⟩
      case measure => simp [intOf]; omega
end Go.Proofs.YtmabdemdapnmkaaGreatDoor
