/- The program's Covers and Overlaps. Conditions: the elements' cells are in memory; the variables that regions read hold their tables. -/
import Derived.Test.YtpbijohdnocleaaDoorSbH
import Derived.Test.YtpbijohdnocleaaDoorSbI
import Derived.Test.YtpbijohdnocleaaDoorSbA
namespace Go.Proofs.YtpbijohdnocleaaDoor
open Go.RowKit Go.Shelf
set_option linter.unusedVariables false
set_option linter.unusedSimpArgs false
attribute [local go_sem] Oper.semAt_some

theorem okA_one (k : Nat) (A B C D : Nat → Int) : okA (fun _ => k) (fun _ => A) (fun _ => B) (fun _ => C) (fun _ => D) 1 = okR A B C D k := by rw [okA, okA, Bool.true_and]
/-- Two operands merged: the words, and what they are compared with none. -/
theorem merge_two {kind : Int} {op : Nat} (hM : MergeC kind op) (m : Option Addr) (n cap : Nat) (P Q R S : Nat → Int) (m' : Option Addr) (k cap' : Nat) (A B C D : Nat → Int) (b : Nat) (w : World) (hn : n ≤ 1048576) (hcap : n ≤ cap) (hk : k ≤ 1048576) (hcap' : k ≤ cap') (hD : EnvW w) (hR : RectsIs w.heap.size w m n P Q R S) (hR' : RectsIs w.heap.size w m' k A B C D) (hc : w.cell? ⟨b, 0, none⟩ = some (.slice m' k cap')) :
    Calls Tryd.prog 98 #[.int .i64 kind, .slice m n cap, .slice (some ⟨b, 0, none⟩) 1 1] w fun e w' => (∃ G, e = .returned (.tuple #[.agg (wArr G), .bool (okR P Q R S n && okR A B C D k)]) ∧ eqG G (fun _ => 0) = (if (okR P Q R S n && okR A B C D k) = true then decide ((canonL (opF op P Q R S n A B C D k)).length = 0) else true)) ∧ Below w.heap.size w w' := by
  refine (hM m n cap P Q R S (some ⟨b, 0, none⟩) 1 1 _ _ _ _ _ _ _ w hn hcap (by omega) hD hR (listsOne hc hk hcap' hR')).mono ?_
  rintro e w1 ⟨⟨G, rfl, hG⟩, bw1⟩
  refine ⟨⟨G, by rw [okA_one], ?_⟩, bw1⟩
  rw [eqG_canon hG, okA_one]
  split
  · rfl
  · rw [canonL_none]; rfl

set_option maxRecDepth 100000 in
set_option maxHeartbeats 1000000 in
theorem implCovers_any (hM : MergeC 2 4) (m : Option Addr) (n cap : Nat) (P Q R S : Nat → Int) (m' : Option Addr) (k cap' : Nat) (A B C D : Nat → Int) (w : World) (hn : n ≤ 1048576) (hcap : n ≤ cap) (hk : k ≤ 1048576) (hcap' : k ≤ cap') (hD : EnvW w) (hR : RectsIs w.heap.size w m n P Q R S) (hR' : RectsIs w.heap.size w m' k A B C D) :
    Calls Tryd.prog 63 #[.slice m n cap, .slice m' k cap'] w fun e w' => e = .returned (.bool (cvB P Q R S n A B C D k)) ∧ Below w.heap.size w w' := by
  have hz := zero59
  have hv : cvB P Q R S n A B C D k = ((okR A B C D k && okR P Q R S n) && (if (okR A B C D k && okR P Q R S n) = true then decide ((canonL (opF 4 A B C D k P Q R S n)).length = 0) else true)) := by
    unfold cvB
    rw [Bool.and_comm (okR P Q R S n)]
    cases okR A B C D k && okR P Q R S n with
    | false => rfl
    | true => rw [if_pos rfl]; congr 1; rw [Bool.eq_iff_iff, beq_iff_eq, decide_eq_true_eq]; omega
  have HV := Lib.hid hv
  clear hv
  go_enter Tryd.func63, Tryd.ntmps63
  go_wp2_with fail
  obtain ⟨wS, hwS⟩ : ∃ wS, wS = w.alloc (.cells #[.slice m n cap] 25) := ⟨_, rfl⟩
  have bS : Below w.heap.size w wS := by rw [hwS]; (repeat (first | (with_reducible exact Below.refl _ _) | (with_reducible refine Ext.drewN ?_ _) | (with_reducible refine Below.drew ?_) | (with_reducible refine Ext.alloc ?_ _) | (with_reducible refine Ext.setCell ?_ (by simp; try omega) _) | (with_reducible refine Ext.trans ?_ (by assumption)) | (with_reducible assumption) | exact Below.refl _ _))
  have cS : wS.cell? ⟨w.heap.size, 0, none⟩ = some (.slice m n cap) := by rw [hwS]; simp [go_sem]
  rw [← hwS]
  clear hwS
  refine (merge_two hM m' k cap' A B C D m n cap P Q R S w.heap.size wS hk hcap' hn hcap (hD.ext bS) (hR'.ext bS) (hR.ext bS) cS).mono ?_
  rintro e w1 ⟨⟨G, rfl, hG⟩, bw1⟩
  have HG := Lib.hid hG
  clear hG
  obtain ⟨bo, hbo⟩ : ∃ bo, bo = (okR A B C D k && okR P Q R S n) := ⟨_, rfl⟩
  rw [← hbo] at HG HV ⊢
  clear hbo
  have r1 := RowsAt.new w1 (fun _ => 0)
  have st1 := store59 G r1
  have sz1 := wArr_size G
  have b1 : Below w1.heap.size w1 ((w1.alloc (.cells (wArr fun _ => 0) 70)).setRow w1.heap.size (wArr G)) := ((Below.refl _ _).alloc (Nat.le_refl _) _).trans (below_setRow _ _ (Nat.le_refl _))
  have r2 := r1.setRow G
  have ld := loadAt59 r2
  have ld2 := loadVar59 r2
  have hq := fun w => eqRows G (fun _ => 0) w
  have B2 := (Ext.trans bS bw1).trans (b1.mono (Ext.trans bS bw1).size)
  have H1 : Hid (bo = true → eqG G (fun _ => 0) = cvB P Q R S n A B C D k) := Lib.hid fun h => by rw [HV.out, HG.out, h]; rfl
  have H0 : Hid (bo = false → cvB P Q R S n A B C D k = false) := Lib.hid fun h => by rw [HV.out, h]; rfl
  clear HV HG
  cases bo with
  | false =>
    go_wp2_with fail
    exact bodyPost_ret (v := .bool false) (by simp [results, Tryd.results63, go_sem]) rfl ⟨by rw [H0.out (by first | rfl | trivial)], B2⟩
  | true =>
    go_wp2_with fail
    refine op_load59 rfl rfl r2 ?_
    go_wp2_with fail
    exact bodyPost_ret (v := .bool (eqG G fun _ => 0)) (by simp [results, Tryd.results63, go_sem]) rfl ⟨by rw [H1.out (by first | rfl | trivial)], B2⟩

set_option maxRecDepth 100000 in
set_option maxHeartbeats 1000000 in
theorem implOverlaps_any (hM : MergeC 1 8) (m : Option Addr) (n cap : Nat) (P Q R S : Nat → Int) (m' : Option Addr) (k cap' : Nat) (A B C D : Nat → Int) (w : World) (hn : n ≤ 1048576) (hcap : n ≤ cap) (hk : k ≤ 1048576) (hcap' : k ≤ cap') (hD : EnvW w) (hR : RectsIs w.heap.size w m n P Q R S) (hR' : RectsIs w.heap.size w m' k A B C D) :
    Calls Tryd.prog 65 #[.slice m n cap, .slice m' k cap'] w fun e w' => e = .returned (.bool (ovL P Q R S n A B C D k)) ∧ Below w.heap.size w w' := by
  have hz := zero59
  have hv : ovL P Q R S n A B C D k = !(if (okR P Q R S n && okR A B C D k) = true then decide ((canonL (opF 8 P Q R S n A B C D k)).length = 0) else true) := by
    unfold ovL
    cases okR P Q R S n && okR A B C D k with
    | false => rfl
    | true =>
      rw [if_pos rfl, Bool.true_and, Bool.eq_iff_iff, Bool.not_eq_true', decide_eq_true_eq, decide_eq_false_iff_not]
      omega
  go_enter Tryd.func65, Tryd.ntmps65
  go_wp2_with fail
  obtain ⟨wS, hwS⟩ : ∃ wS, wS = w.alloc (.cells #[.slice m' k cap'] 25) := ⟨_, rfl⟩
  have bS : Below w.heap.size w wS := by rw [hwS]; (repeat (first | (with_reducible exact Below.refl _ _) | (with_reducible refine Ext.drewN ?_ _) | (with_reducible refine Below.drew ?_) | (with_reducible refine Ext.alloc ?_ _) | (with_reducible refine Ext.setCell ?_ (by simp; try omega) _) | (with_reducible refine Ext.trans ?_ (by assumption)) | (with_reducible assumption) | exact Below.refl _ _))
  have cS : wS.cell? ⟨w.heap.size, 0, none⟩ = some (.slice m' k cap') := by rw [hwS]; simp [go_sem]
  rw [← hwS]
  clear hwS
  refine (merge_two hM m n cap P Q R S m' k cap' A B C D w.heap.size wS hn hcap hk hcap' (hD.ext bS) (hR.ext bS) (hR'.ext bS) cS).mono ?_
  rintro e w1 ⟨⟨G, rfl, hG⟩, bw1⟩
  rw [← hG] at hv
  have HV := Lib.hid hv
  clear hG hv
  obtain ⟨bo, hbo⟩ : ∃ bo, bo = (okR P Q R S n && okR A B C D k) := ⟨_, rfl⟩
  rw [← hbo]
  clear hbo
  have r1 := RowsAt.new w1 (fun _ => 0)
  have st1 := store59 G r1
  have sz1 := wArr_size G
  have b1 : Below w1.heap.size w1 ((w1.alloc (.cells (wArr fun _ => 0) 70)).setRow w1.heap.size (wArr G)) := ((Below.refl _ _).alloc (Nat.le_refl _) _).trans (below_setRow _ _ (Nat.le_refl _))
  have r2 := r1.setRow G
  have hq := fun w => eqRows G (fun _ => 0) w
  have B2 := (Ext.trans bS bw1).trans (b1.mono (Ext.trans bS bw1).size)
  go_upto_region 2 with fail
  refine wp_region_lit ?_
  unfold wpList
  rw [if_pos (by rfl)]
  refine .inl (op_load59 rfl rfl r2 ?_)
  go_wp2_with fail
  exact bodyPost_ret (v := .bool (!(eqG G fun _ => 0))) (by simp [results, Tryd.results65, go_sem]) rfl ⟨by rw [HV.out], B2⟩

/-- The whole chip as a region. -/
theorem full_has (y : Int) (hy : -40 ≤ y ∧ y ≤ 39) (x : Int) : hasB (fun _ => true) x y = (decide (-40 ≤ x) && decide (x ≤ 39)) := by
  by_cases hx : -40 ≤ x ∧ x ≤ 39
  · rw [hasB_in ⟨hx, hy⟩, decide_eq_true hx.1, decide_eq_true hx.2]; rfl
  · rw [hasB_out (fun h => hx h.1)]
    rw [eq_comm, Bool.and_eq_false_iff, decide_eq_false_iff_not, decide_eq_false_iff_not]
    omega
theorem full_runs (y : Int) (hy : -40 ≤ y ∧ y ≤ 39) : runsL (fun _ => true) y = [-40, 40] := by
  have hc : ∀ k : Nat, chg (fun _ => true) (-40 + (k : Int)) y = (decide (k = 0) || decide (k = 80)) := fun k => by
    unfold chg
    rw [full_has y hy, full_has y hy, Bool.eq_iff_iff]
    simp only [bne_iff_ne, ne_eq, Bool.or_eq_true, decide_eq_true_eq]
    rw [Bool.eq_iff_iff]
    simp only [Bool.and_eq_true, decide_eq_true_eq]
    omega
  have h1 : ∀ k : Nat, k < 80 → runsTo (fun _ => true) y (k + 1) = [-40] := fun k => by
    induction k with
    | zero => intro _; rw [runsTo, if_pos (by rw [hc]; rfl), runsTo]; rfl
    | succ k ih => intro hk; rw [runsTo, if_neg (by rw [hc]; simp; omega), ih (by omega)]
  unfold runsL
  rw [runsTo, if_pos (by rw [hc]; rfl), h1 79 (by omega)]
  rfl
theorem full_canon : canonL (fun _ => true) = [⟨-40, -40, 40, 40⟩] := by
  have hb : ∀ (n : Nat) (e : Int), -40 ≤ e → e ≤ 40 → 40 - e ≤ n → bandE (fun _ => true) (-40) n e = 40 := fun n => by
    induction n with
    | zero => intro e h1 h2 h3; rw [bandE]; omega
    | succ n ih =>
      intro e h1 h2 h3
      rw [bandE]
      by_cases h : e < 40
      · rw [if_pos ⟨h, by rw [full_runs e (by omega), full_runs (-40) (by omega)]⟩]
        exact ih (e + 1) (by omega) (by omega) (by omega)
      · rw [if_neg (fun h' => h h'.1)]; omega
  unfold canonL
  rw [canonF, if_pos (by omega), hb 80 (-40 + 1) (by omega) (by omega) (by omega), full_runs (-40) (by omega), canonF_end _ _ _ (by omega)]
  rfl
theorem chip_cov (i : Nat) (hi : i < 6400) : covF (fun _ => -40) (fun _ => -40) (fun _ => 40) (fun _ => 40) 1 i = true := by
  unfold covF
  rw [covB_t]
  exact ⟨0, by omega, by omega, by omega, by omega, by omega⟩
theorem chip_ok : okR (fun _ => -40) (fun _ => -40) (fun _ => 40) (fun _ => 40) 1 = true := by
  rw [okR_iff]
  refine ⟨fun i _ => by decide, ?_⟩
  rw [canonL_congr (g := fun _ => true) (fun k hk => chip_cov k hk), full_canon]
  rfl
theorem cm_mr (P Q R S : Nat → Int) (n : Nat) : mrL 4 (fun _ => -40) (fun _ => -40) (fun _ => 40) (fun _ => 40) 1 (fun _ => n) (fun _ => P) (fun _ => Q) (fun _ => R) (fun _ => S) 1 = cmL P Q R S n := by
  unfold mrL cmL
  rw [chip_ok, okA_one, Bool.true_and]
  cases okR P Q R S n with
  | false => rw [if_neg (by simp), if_neg (by simp)]
  | true =>
    rw [if_pos rfl, if_pos rfl]
    refine canonL_congr fun k hk => ?_
    simp only [mgA, opF]
    rw [chip_cov k hk]
    generalize covF P Q R S n k = b
    cases b <;> decide
set_option maxRecDepth 100000 in
set_option maxHeartbeats 1000000 in
theorem implComplement_any (hM : MergeC 2 4) (m : Option Addr) (n cap : Nat) (P Q R S : Nat → Int) (w : World) (hn : n ≤ 1048576) (hcap : n ≤ cap) (hD : EnvW w) (hR : RectsIs w.heap.size w m n P Q R S) :
    Calls Tryd.prog 55 #[.slice m n cap] w fun e w' => LOwn w.heap.size (cmL P Q R S n) e w' ∧ Below w.heap.size w w' := by
  rw [← cm_mr]
  obtain ⟨h0, h1, h2, h3⟩ := hD.chip
  go_enter Tryd.func55, Tryd.ntmps55
  go_wp2_with fail
  obtain ⟨wS, hwS⟩ : ∃ wS, wS = (w.alloc (.cells #[.int .i64 (-40), .int .i64 (-40), .int .i64 40, .int .i64 40] 36)).alloc (.cells #[.slice m n cap] 25) := ⟨_, rfl⟩
  have bS : Below w.heap.size w wS := by rw [hwS]; (repeat (first | (with_reducible exact Below.refl _ _) | (with_reducible refine Ext.drewN ?_ _) | (with_reducible refine Below.drew ?_) | (with_reducible refine Ext.alloc ?_ _) | (with_reducible refine Ext.setCell ?_ (by simp; try omega) _) | (with_reducible refine Ext.trans ?_ (by assumption)) | (with_reducible assumption) | exact Below.refl _ _))
  have sS : wS.heap.size = w.heap.size + 2 := by rw [hwS]; simp
  have cS : wS.cell? ⟨w.heap.size + 1, 0, none⟩ = some (.slice m n cap) := by rw [hwS]; simp [go_sem]
  have e0 : wS.cell? ⟨w.heap.size, 0, none⟩ = some (.int .i64 (-40)) := by rw [hwS]; simp [go_sem]
  have e1 : wS.cell? ⟨w.heap.size, 1, none⟩ = some (.int .i64 (-40)) := by rw [hwS]; simp [go_sem]
  have e2 : wS.cell? ⟨w.heap.size, 2, none⟩ = some (.int .i64 40) := by rw [hwS]; simp [go_sem]
  have e3 : wS.cell? ⟨w.heap.size, 3, none⟩ = some (.int .i64 40) := by rw [hwS]; simp [go_sem]
  have hC : RectsIs wS.heap.size wS (some ⟨w.heap.size, 0, none⟩) 1 (fun _ => -40) (fun _ => -40) (fun _ => 40) (fun _ => 40) := fun i hi => by
    obtain rfl : i = 0 := by omega
    exact ⟨w.heap.size, 0, rfl, by omega, e0, e1, e2, e3⟩
  rw [← hwS]
  clear hwS
  refine (mergedRegion_any 2 4 hM (some ⟨w.heap.size, 0, none⟩) 1 1 (fun _ => -40) (fun _ => -40) (fun _ => 40) (fun _ => 40) (some ⟨w.heap.size + 1, 0, none⟩) 1 1 _ _ _ _ _ _ _ wS (by omega) (by omega) (by omega) (hD.ext bS) hC (listsOne cS hn hcap (hR.ext bS))).mono ?_
  rintro e w1 ⟨⟨a, c, rfl, ho⟩, bw1⟩
  have HO := Lib.hid ho
  clear ho
  go_wp2_with fail
  go_ret
  exact ⟨⟨a, c, rfl, HO.out.mono bS.size⟩, Ext.trans bS bw1⟩
end Go.Proofs.YtpbijohdnocleaaDoor
