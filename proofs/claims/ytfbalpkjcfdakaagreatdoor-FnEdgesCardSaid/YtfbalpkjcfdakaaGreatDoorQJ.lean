/- The model's Boolean operations. Condition: the rectangles' cells are in memory. -/
import Derived.Test.YtfbalpkjcfdakaaGreatDoorQD
namespace Go.Proofs.YtfbalpkjcfdakaaGreatDoor
open Go.RowKit
set_option linter.unusedVariables false
set_option linter.unusedSimpArgs false
attribute [local go_sem ↓] Go.wp_at_zero Go.wp_at_succ

/-- A truth table of two flags. -/
def tt (op : Nat) (a b : Bool) : Bool := op / (if a = true then (if b = true then 8 else 4) else (if b = true then 2 else 1)) % 2 == 1

theorem bits_made {w w1 : World} (own1 : w1.ownsRow w.heap.size 4 1 (.slice (some ⟨w.heap.size, 0, none⟩) 6400 6400) 6400 (madeCells (Value.bool false).cells 6400).toList) : BitsIs w1 w.heap.size (fun _ => false) := fun k hk => by
  refine ⟨?_, own1.frozenAt _⟩
  rw [own1.cellAt _ (by omega)]
  exact made1 _ _ (by omega)
theorem tt_nat (op K : Nat) : ((op : Int) / (K : Int) % 2 == 1) = (op / K % 2 == 1) := by
  have e : (op : Int) / (K : Int) % 2 = ((op / K % 2 : Nat) : Int) := by simp
  rw [e, Bool.eq_iff_iff, beq_iff_eq, beq_iff_eq]
  omega
theorem tt_tt (op : Nat) : ((op : Int) / 8 % 2 == 1) = tt op true true := tt_nat op 8
theorem tt_tf (op : Nat) : ((op : Int) / 4 % 2 == 1) = tt op true false := tt_nat op 4
theorem tt_ft (op : Nat) : ((op : Int) / 2 % 2 == 1) = tt op false true := tt_nat op 2
theorem tt_ff (op : Nat) : ((op : Int) % 2 == 1) = tt op false false := by
  have := tt_nat op 1
  rw [show ((1 : Nat) : Int) = 1 from rfl, Int.ediv_one] at this
  exact this
theorem comb_step (T : Nat → Bool) (i j : Nat) (v : Bool) (hv : v = T i) : (if j = i then v else (decide (j < i) && T j)) = (decide (j < i + 1) && T j) := by
  by_cases e : j = i
  · subst e
    rw [if_pos rfl, hv, decide_eq_true (Nat.lt_succ_self j), Bool.true_and]
  · rw [if_neg e]
    congr 1
    rw [Bool.eq_iff_iff, decide_eq_true_eq, decide_eq_true_eq]
    omega

set_option maxHeartbeats 8000000 in
set_option maxRecDepth 100000 in
theorem l04Combine_any (g h c d : Nat) (f k : Nat → Bool) (op : Nat) (hop : op ≤ 15) (w : World) (hF : BitsIs w g f) (hK : BitsIs w h k) :
    Calls Tryz.prog 138 #[.slice (some ⟨g, 0, none⟩) 6400 c, .slice (some ⟨h, 0, none⟩) 6400 d, .int .i64 (op : Int)] w fun e w' => BitsRes w.heap.size (fun i => tt op (f i) (k i)) e w' ∧ Below w.heap.size w w' := by
  have HF := Lib.hid hF
  have HK := Lib.hid hK
  clear hF hK
  obtain ⟨i0, hi, hz0, hz1, hz2⟩ := info_parts infoB
  go_enter Tryz.func138, Tryz.ntmps138
  go_wp2_with (at_make; refine wpList_make_full _ rfl _ _ 63 rfl w.heap.size 4 i0 (.bool false) 1 Tryz.underlying63 hi hz0 hz1 .i64 .i64 6400 6400 6400 rfl rfl rfl rfl (by rw [hz2]; omega) (by unfold maxLen; omega) (Nat.le_refl _) ?_; intro w1 own1 grow1)
  have hB1 : Below w.heap.size w w1 := (Below.refl _ _).grown grow1 (Nat.le_refl _) (fun k hk => by cases hk)
  have HF1 := Lib.hid (bits_made own1)
  clear own1 grow1 hi hz0 hz1 hz2
  go_wp2_with fail
  go_loopw [8] (fun s wr => ∃ i : Nat, i ≤ 6400 ∧ s = .int .i64 i ∧ Below w.heap.size w wr ∧ Hid (BitsIs wr w.heap.size (fun j => decide (j < i) && tt op (f j) (k j)))) (fun s _ => 6400 - (intOf s).toNat)
  case atStart => exact ⟨0, by omega, rfl, hB1, Lib.hid (HF1.out.congr fun j _ => by simp)⟩
  case round =>
    obtain ⟨i, hi, rfl, hW, HG⟩ := hrel
    by_cases hlt : i < 6400
    · have q1 : (i : Int) < 6400 := by omega
      have q0 : (0 : Int) ≤ (i : Int) := by omega
      have u0 := keepC hW (HF.out i hlt).1
      have u1 := keepC hW (HK.out i hlt).1
      have t0 := (HG.out i hlt).1
      have t1 := (HG.out i hlt).2
      have HP := Lib.hid fun (v : Bool) (hv : v = tt op (f i) (k i)) => (HG.out.put hlt v).congr fun j _ => comb_step (fun j => tt op (f j) (k j)) i j v hv
      clear HG
      cases hf : f i <;> cases hk : k i <;> rw [hf] at u0 <;> rw [hk] at u1 <;> rw [hf, hk] at HP <;> clear hf hk
      all_goals
        go_wp2_with fail
        go_roundw
      all_goals first
        | (simp [intOf]; omega)
        | exact ⟨i + 1, by omega, by go_num, hW.setCell (Nat.le_refl _) _, Lib.hid (HP.out _ (tt_ff op))⟩
        | exact ⟨i + 1, by omega, by go_num, hW.setCell (Nat.le_refl _) _, Lib.hid (HP.out _ (tt_ft op))⟩
        | exact ⟨i + 1, by omega, by go_num, hW.setCell (Nat.le_refl _) _, Lib.hid (HP.out _ (tt_tf op))⟩
        | exact ⟨i + 1, by omega, by go_num, hW.setCell (Nat.le_refl _) _, Lib.hid (HP.out _ (tt_tt op))⟩
    · have q1 : ¬ (i : Int) < 6400 := by omega
      obtain rfl : i = 6400 := by omega
      have HE := Lib.hid (HG.out.congr fun j hj => show (decide (j < 6400) && tt op (f j) (k j)) = tt op (f j) (k j) by rw [decide_eq_true hj, Bool.true_and])
      clear HG
      go_wp2_with fail
      go_ret
      exact ⟨⟨w.heap.size, rfl, Nat.le_refl _, HE.out⟩, hW⟩

/-- The flags of an operation on two lists. -/
def opF (op : Nat) (P Q R S : Nat → Int) (n : Nat) (A B C D : Nat → Int) (k : Nat) (i : Nat) : Bool := tt op (covF P Q R S n i) (covF A B C D k i)
set_option maxHeartbeats 8000000 in
theorem l04Op_any (m : Option Addr) (n cap : Nat) (P Q R S : Nat → Int) (m' : Option Addr) (k cap' : Nat) (A B C D : Nat → Int) (op : Nat) (hop : op ≤ 15) (w : World) (hn : n ≤ 1048576) (hk : k ≤ 1048576) (hR : RectsIs w.heap.size w m n P Q R S) (hR' : RectsIs w.heap.size w m' k A B C D)
    (hv : ∀ i, i < n → rvB (P i) (Q i) (R i) (S i) = true) (hv' : ∀ i, i < k → rvB (A i) (B i) (C i) (D i) = true) :
    Calls Tryz.prog 105 #[.slice m n cap, .slice m' k cap', .int .i64 (op : Int)] w fun e w' => RecRes w.heap.size (canonL (opF op P Q R S n A B C D k)) e w' ∧ Below w.heap.size w w' := by
  have HR := Lib.hid hR
  have HR' := Lib.hid hR'
  have HV := Lib.hid hv
  have HV' := Lib.hid hv'
  clear hR hR' hv hv'
  obtain ⟨F, hF⟩ : ∃ F, F = opF op P Q R S n A B C D k := ⟨_, rfl⟩
  rw [← hF]
  have HF := Lib.hid hF
  clear hF
  go_enter Tryz.func105, Tryz.ntmps105
  go_wp2_with fail
  refine (l03Bits_any m n cap P Q R S _ hn HR.out HV.out).mono ?_
  rintro e w1 ⟨⟨g, rfl, hg0, hg⟩, bw1⟩
  have HG := Lib.hid hg
  clear hg
  go_wp2_with fail
  refine (l03Bits_any m' k cap' A B C D _ hk (HR'.out.ext bw1) HV'.out).mono ?_
  rintro e w2 ⟨⟨h, rfl, hh0, hh⟩, bw2⟩
  have HH := Lib.hid hh
  have HG2 := Lib.hid (HG.out.below bw2)
  clear hh HG
  go_wp2_with fail
  refine (l04Combine_any g h 6400 6400 _ _ op hop _ HG2.out HH.out).mono ?_
  rintro e w3 ⟨⟨j, rfl, hj0, hj⟩, bw3⟩
  have HJ : Hid (BitsIs w3 j F) := Lib.hid (by rw [HF.out]; exact hj)
  clear hj HH HG2
  go_wp2_with fail
  refine (l03Canon_any j 6400 F _ HJ.out).mono ?_
  rintro e w4 ⟨⟨h4, c4, rfl, hI⟩, bw4⟩
  have HI := Lib.hid hI
  clear hI
  go_wp2_with fail
  go_ret
  have B3 := Ext.trans (Ext.trans bw1 bw2) bw3
  exact ⟨⟨h4, c4, rfl, Nat.le_trans B3.size HI.out.1, HI.out.2⟩, Ext.trans B3 bw4⟩

/-- What an operation answers. -/
def opL (op : Nat) (P Q R S : Nat → Int) (n : Nat) (A B C D : Nat → Int) (k : Nat) : List R4 := if (okR P Q R S n && okR A B C D k) = true then canonL (opF op P Q R S n A B C D k) else []
theorem opL_len (op : Nat) (P Q R S : Nat → Int) (n : Nat) (A B C D : Nat → Int) (k : Nat) : (opL op P Q R S n A B C D k).length ≤ 3280 := by
  unfold opL; split
  · exact canonL_len _
  · simp
theorem opL_no {op : Nat} {P Q R S : Nat → Int} {n : Nat} {A B C D : Nat → Int} {k : Nat} {e : Ending} {w : World} (h : (okR P Q R S n && okR A B C D k) = false) (he : e = .returned (.slice none 0 0)) : LRes (opL op P Q R S n A B C D k) e w := by
  have e0 : opL op P Q R S n A B C D k = [] := by unfold opL; rw [if_neg (by simp [h])]
  rw [e0]
  exact ⟨none, 0, he, RectsL.nil _ _ _⟩
theorem opL_yes {B0 op h c : Nat} {P Q R S : Nat → Int} {n : Nat} {A B C D : Nat → Int} {k : Nat} {e : Ending} {w : World} (hok : (okR P Q R S n && okR A B C D k) = true) (hI : RecIs B0 w h (canonL (opF op P Q R S n A B C D k))) (he : e = .returned (.slice (some ⟨h, 0, none⟩) (canonL (opF op P Q R S n A B C D k)).length c)) : LRes (opL op P Q R S n A B C D k) e w := by
  have e0 : opL op P Q R S n A B C D k = canonL (opF op P Q R S n A B C D k) := by unfold opL; rw [if_pos hok]
  rw [e0]
  exact ⟨_, c, he, hI.rects⟩

end Go.Proofs.YtfbalpkjcfdakaaGreatDoor

/- The model's Complement, Covers and Overlaps. Condition: the rectangles' cells are in memory. -/
namespace Go.Proofs.YtfbalpkjcfdakaaGreatDoor
open Go.RowKit
set_option linter.unusedVariables false
set_option linter.unusedSimpArgs false
attribute [local go_sem ↓] Go.wp_at_zero Go.wp_at_succ

/-- What Complement answers. -/
def cmL (P Q R S : Nat → Int) (n : Nat) : List R4 := if okR P Q R S n = true then canonL (opF 1 P Q R S n P Q R S n) else []
theorem cmL_len (P Q R S : Nat → Int) (n : Nat) : (cmL P Q R S n).length ≤ 3280 := by
  unfold cmL; split
  · exact canonL_len _
  · simp

/-- What Covers and Overlaps answer. -/
def cvB (P Q R S : Nat → Int) (n : Nat) (A B C D : Nat → Int) (k : Nat) : Bool := (okR P Q R S n && okR A B C D k) && ((((canonL (opF 4 A B C D k P Q R S n)).length : Nat) : Int) == 0)
def ovL (P Q R S : Nat → Int) (n : Nat) (A B C D : Nat → Int) (k : Nat) : Bool := (okR P Q R S n && okR A B C D k) && decide (0 < (canonL (opF 8 P Q R S n A B C D k)).length)
end Go.Proofs.YtfbalpkjcfdakaaGreatDoor
