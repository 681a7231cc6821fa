/- Columns told as flags and back. Conditions: none but that the words are words. -/
import Derived.Test.YtgccnongfdbalaaDoorQY
import Derived.Laws.Bits64b
import Derived.Test.YtgccnongfdbalaaDoorQU
import Derived.Test.YtgccnongfdbalaaDoorQN
import Derived.Test.YtgccnongfdbalaaDoorQP
import Derived.Test.YtgccnongfdbalaaDoorQH
import Derived.Test.YtgccnongfdbalaaDoorQT
import Derived.Test.YtgccnongfdbalaaDoorQV
namespace Go.Proofs.YtgccnongfdbalaaDoor
open Go.RowKit Go.Shelf
set_option linter.unusedVariables false
set_option linter.unusedSimpArgs false

/-- Flags in block g. -/
def FlagsIs (w : World) (g : Nat) (f : Nat → Bool) : Prop := ∀ i, i < 80 → w.cell? ⟨g, i, none⟩ = some (.bool (f i)) ∧ w.frozen? ⟨g, i, none⟩ = false
theorem FlagsIs.congr {w : World} {g : Nat} {f f' : Nat → Bool} (h : FlagsIs w g f) (e : ∀ i, i < 80 → f i = f' i) : FlagsIs w g f' := fun i hi => ⟨by rw [← e i hi]; exact (h i hi).1, (h i hi).2⟩
theorem FlagsIs.put {w : World} {g j : Nat} {f : Nat → Bool} (h : FlagsIs w g f) (hj : j < 80) (v : Bool) : FlagsIs (w.setCell ⟨g, j, none⟩ (.bool v)) g (fun i => if i = j then v else f i) := fun i hi => by
  refine ⟨?_, by simpa using (h i hi).2⟩
  by_cases e : i = j
  · subst e
    exact (World.cell?_setCell_same _ _ _ (h i hi).1).trans (by simp)
  · rw [World.cell?_setCell_other _ _ _ _ (by simp <;> omega)]
    rw [(h i hi).1]; simp [e]
theorem FlagsIs.line {w : World} {g : Nat} {f : Nat → Bool} (h : FlagsIs w g f) : LineB w g 80 f := fun j hj => (h j hj).1
theorem made1' {j n : Nat} (h : j < n) : (madeCells (Value.bool false).cells n).toList[j]? = some (.bool false) := made1 _ _ h
theorem flags_made {w1 : World} {B g : Nat} (own1 : w1.ownsRow B 4 1 (.slice (some ⟨g, 0, none⟩) 80 80) 80 (madeCells (Value.bool false).cells 80).toList) : FlagsIs w1 g (fun _ => false) := fun k hk => by
  refine ⟨?_, own1.frozenAt _⟩
  rw [own1.cellAt _ (by omega)]
  exact made1 _ _ (by omega)
/-- A word's bit, as the program reads it. -/
theorem bit_read (A j : Nat) (hA : W64 A) : (bits .and .u64 ((A : Int) / 2 ^ j) 1 == 1) = A.testBit j := by
  have e : (A : Int) / 2 ^ j = ((A / 2 ^ j : Nat) : Int) := by simp
  have h1 : A / 2 ^ j < 18446744073709551616 := Nat.lt_of_le_of_lt (Nat.div_le_self _ _) hA
  rw [e, show (1 : Int) = ((1 : Nat) : Int) by rfl, bits_and_u64_nat _ _ h1 (by omega), Nat.testBit_eq_decide_div_mod_eq, Nat.and_one_is_mod]
  rw [Bool.eq_iff_iff, beq_iff_eq, decide_eq_true_eq]
  omega

set_option maxRecDepth 100000 in
set_option maxHeartbeats 4000000 in
theorem flags_any (A B : Nat) (w : World) (hA : W64 A) (hB : W64 B) :
    Calls Tryd.prog 149 #[colV A B] w fun e w' => (∃ g, e = .returned (.slice (some ⟨g, 0, none⟩) 80 80) ∧ w.heap.size ≤ g ∧ FlagsIs w' g (fun j => colB A B j)) ∧ Below w.heap.size w w' := by
  obtain ⟨i0, hi, hz0, hz1, hz2⟩ := info_parts infoB
  have HA := Lib.hid hA
  have HB := Lib.hid hB
  clear hA hB
  go_enter Tryd.func149, Tryd.ntmps149
  go_wp2_with (at_make; refine wpList_make_full _ rfl _ _ 63 rfl (w.heap.size + 1) 4 i0 (.bool false) 1 Tryd.underlying63 hi hz0 hz1 .i64 .i64 80 80 80 rfl rfl rfl rfl (by rw [hz2]; omega) (by unfold maxLen; omega) (by simp) ?_; intro w1 own1 grow1)
  rw [World.size_alloc] at own1
  have c1 : w1.heap[w.heap.size]? = some (.cells #[.int .u64 (A : Int), .int .u64 (B : Int)] 69 (0, 0)) := (grow1.block _ (by simp) (fun e => by cases e)).trans (heap_alloc_new _ _)
  have d0 : w1.cell? ⟨w.heap.size, 0, none⟩ = some (.int .u64 (A : Int)) := by simp [World.cell?, c1]
  have d1 : w1.cell? ⟨w.heap.size, 1, none⟩ = some (.int .u64 (B : Int)) := by simp [World.cell?, c1]
  have HF1 := Lib.hid (flags_made own1)
  have b1 : Below w.heap.size w w1 := ((Below.refl _ _).alloc (Nat.le_refl _) _).grown grow1 (by simp) (fun j hj => by cases hj)
  have HB1 := Lib.hid b1
  have s1 : w.heap.size + 1 < w1.heap.size := (own_at own1 rfl).2.1
  clear own1 grow1 hi hz0 hz1 hz2 b1 c1
  go_wp2_with fail
  go_loopw [8] (fun s wr => ∃ i : Nat, i ≤ 80 ∧ s = .int .i64 i ∧ Hid (Below w.heap.size w wr) ∧ w.heap.size + 1 < wr.heap.size ∧ wr.cell? ⟨w.heap.size, 0, none⟩ = some (.int .u64 (A : Int)) ∧ wr.cell? ⟨w.heap.size, 1, none⟩ = some (.int .u64 (B : Int)) ∧ Hid (FlagsIs wr (w.heap.size + 1) (fun j => decide (j < i) && colB A B j))) (fun s _ => 80 - (intOf s).toNat)
  case atStart => exact ⟨0, by omega, rfl, HB1, s1, d0, d1, Lib.hid (HF1.out.congr fun j _ => by simp)⟩
  case round =>
    obtain ⟨i, hi, rfl, hW, hs, d0, d1, HG⟩ := hrel
    by_cases hlt : i < 80
    · have q1 : (i : Int) < 80 := by omega
      have q0 : (0 : Int) ≤ (i : Int) := by omega
      have t0 := (HG.out i hlt).1
      have t1 := (HG.out i hlt).2
      by_cases h64 : i < 64
      · have hv : colB A B i = A.testBit i := by unfold colB; rw [if_pos h64]
        have qd : (i : Int).tdiv 64 = 0 := by rw [Int.tdiv_eq_ediv_of_nonneg q0]; omega
        have qm : (i : Int).tmod 64 = (i : Int) := by rw [Int.tmod_eq_emod_of_nonneg q0]; omega
        go_wp2_with fail
        have hb := bit_read A i HA.out
        rw [hb, ← hv]
        have HP := Lib.hid ((HG.out.put hlt (colB A B i)).congr fun j _ => comb_step (fun j => colB A B j) i j (colB A B i) rfl)
        go_roundw
        case rel => exact ⟨i + 1, by omega, by go_num, Lib.hid (hW.out.setCell (by simp) _), by simpa using hs, by rw [World.cell?_setCell_other _ _ _ _ (by simp)]; exact d0, by rw [World.cell?_setCell_other _ _ _ _ (by simp)]; exact d1, HP⟩
        case measure => simp [intOf]; omega
      · have hv : colB A B i = B.testBit (i - 64) := by unfold colB; rw [if_neg h64]
        have qd : (i : Int).tdiv 64 = 1 := by rw [Int.tdiv_eq_ediv_of_nonneg q0]; omega
        have qm : (i : Int).tmod 64 = ((i - 64 : Nat) : Int) := by rw [Int.tmod_eq_emod_of_nonneg q0]; omega
        go_wp2_with fail
        have hb := bit_read B (i - 64) HB.out
        rw [hb, ← hv]
        have HP := Lib.hid ((HG.out.put hlt (colB A B i)).congr fun j _ => comb_step (fun j => colB A B j) i j (colB A B i) rfl)
        go_roundw
        case rel => exact ⟨i + 1, by omega, by go_num, Lib.hid (hW.out.setCell (by simp) _), by simpa using hs, by rw [World.cell?_setCell_other _ _ _ _ (by simp)]; exact d0, by rw [World.cell?_setCell_other _ _ _ _ (by simp)]; exact d1, HP⟩
        case measure => simp [intOf]; omega
    · have q1 : ¬ (i : Int) < 80 := by omega
      obtain rfl : i = 80 := by omega
      have HE := Lib.hid (HG.out.congr fun j hj => show (decide (j < 80) && colB A B j) = colB A B j by rw [decide_eq_true hj, Bool.true_and])
      clear HG
      go_wp2_with fail
      go_ret
      exact ⟨⟨w.heap.size + 1, rfl, by omega, HE.out⟩, hW.out⟩
end Go.Proofs.YtgccnongfdbalaaDoor

namespace Go.Proofs.YtgccnongfdbalaaDoor
open Go.RowKit Go.Shelf
set_option linter.unusedVariables false
set_option linter.unusedSimpArgs false

theorem bit_set (A i j : Nat) : (A ||| 2 ^ i).testBit j = (A.testBit j || decide (i = j)) := by rw [Nat.testBit_or, Nat.testBit_two_pow]
theorem bit_or {A i : Nat} (hA : W64 A) (hi : i < 64) : W64 (A ||| 2 ^ i) := Nat.or_lt_two_pow (n := 64) hA (Nat.pow_lt_pow_right (by omega) hi)
theorem or_is (A i : Nat) (hA : W64 A) (hi : i < 64) : bits .or .u64 (A : Int) (IntKind.u64.wrap (2 ^ i)) = ((A ||| 2 ^ i : Nat) : Int) := by
  have h : (2 : Nat) ^ i < 18446744073709551616 := Nat.pow_lt_pow_right (a := 2) (n := 64) (by omega) hi
  have e : (2 : Int) ^ i = ((2 ^ i : Nat) : Int) := by simp
  rw [e, IntKind.wrap_u64]
  generalize 2 ^ i = k at h ⊢
  rw [show ((k : Int) % 18446744073709551616) = (k : Int) by omega]
  exact bits_or_u64_nat A _ hA h
theorem colB_setA {A B i : Nat} (hi : i < 64) (j : Nat) : colB (A ||| 2 ^ i) B j = (colB A B j || decide (j = i)) := by
  unfold colB
  by_cases h : j < 64
  · rw [if_pos h, if_pos h, bit_set]
    congr 1
    rw [Bool.eq_iff_iff, decide_eq_true_eq, decide_eq_true_eq]
    exact eq_comm
  · rw [if_neg h, if_neg h, decide_eq_false (by omega), Bool.or_false]
theorem colB_setB {A B i : Nat} (hi : 64 ≤ i) (j : Nat) : colB A (B ||| 2 ^ (i - 64)) j = (colB A B j || decide (j = i)) := by
  unfold colB
  by_cases h : j < 64
  · rw [if_pos h, if_pos h, decide_eq_false (by omega), Bool.or_false]
  · rw [if_neg h, if_neg h, bit_set]
    congr 1
    rw [Bool.eq_iff_iff, decide_eq_true_eq, decide_eq_true_eq]
    omega

set_option maxRecDepth 100000 in
set_option maxHeartbeats 4000000 in
theorem columnsFlagged_any (g c : Nat) (f : Nat → Bool) (w : World) (hL : LineB w g 80 f) (hg : g < w.heap.size) :
    Calls Tryd.prog 147 #[.slice (some ⟨g, 0, none⟩) 80 c] w fun e w' => (∃ A B, e = .returned (colV A B) ∧ W64 A ∧ W64 B ∧ ∀ j, colB A B j = (decide (j < 80) && f j)) ∧ Below w.heap.size w w' := by
  have HL := Lib.hid hL
  clear hL
  go_enter Tryd.func147, Tryd.ntmps147
  go_wp2_with fail
  have HB0 : Hid (Below w.heap.size w ((w.alloc (Obj.cells #[Value.int IntKind.u64 0, Value.int IntKind.u64 0] 69)).alloc (Obj.cells #[Value.int IntKind.u64 0, Value.int IntKind.u64 0] 69))) := Lib.hid (((Below.refl _ _).alloc (Nat.le_refl _) _).alloc (by simp) _)
  go_loopw [8] (fun s wr => ∃ (i : Nat) (A B : Nat), i ≤ 80 ∧ s = .int .i64 i ∧ Hid (Below w.heap.size w wr) ∧ w.heap.size + 1 < wr.heap.size ∧ (wr.cell? ⟨w.heap.size + 1, 0, none⟩ = some (.int .u64 (A : Int)) ∧ wr.cell? ⟨w.heap.size + 1, 1, none⟩ = some (.int .u64 (B : Int))) ∧ (wr.frozen? ⟨w.heap.size + 1, 0, none⟩ = false ∧ wr.frozen? ⟨w.heap.size + 1, 1, none⟩ = false) ∧ (wr.cell? ⟨w.heap.size, 0, none⟩ = some (.int .u64 0) ∧ wr.cell? ⟨w.heap.size, 1, none⟩ = some (.int .u64 0) ∧ wr.frozen? ⟨w.heap.size, 0, none⟩ = false ∧ wr.frozen? ⟨w.heap.size, 1, none⟩ = false) ∧ Hid (OKW (A, B) ∧ ∀ j, colB A B j = (decide (j < i) && f j))) (fun s _ => 80 - (intOf s).toNat)
  case atStart =>
    refine ⟨0, 0, 0, by omega, rfl, HB0, by simp, ⟨?_, ?_⟩, ⟨?_, ?_⟩, ⟨?_, ?_, ?_, ?_⟩, Lib.hid ⟨OKW.zero, fun j => by simp [colB]⟩⟩
    all_goals simp [go_sem]
  case round =>
    obtain ⟨i, A, B, hi, rfl, hW, hs, ⟨d0, d1⟩, ⟨z0, z1⟩, ⟨x0, x1, y0, y1⟩, HC⟩ := hrel
    by_cases hlt : i < 80
    · have q1 : (i : Int) < 80 := by omega
      have q0 : (0 : Int) ≤ (i : Int) := by omega
      have u0 : wr.cell? ⟨g, i, none⟩ = some (.bool (f i)) := (hW.out.cell (p := ⟨g, i, none⟩) hg).trans (HL.out i hlt)
      cases hf : f i with
      | false =>
        rw [hf] at u0
        have HC' : Hid (OKW (A, B) ∧ ∀ j, colB A B j = (decide (j < i + 1) && f j)) := Lib.hid ⟨HC.out.1, fun j => by
          rw [HC.out.2 j]
          by_cases e : j = i
          · subst e; rw [hf, Bool.and_false, Bool.and_false]
          · congr 1; rw [Bool.eq_iff_iff, decide_eq_true_eq, decide_eq_true_eq]; omega⟩
        clear hf HC
        go_wp2_with fail
        go_roundw
        case rel => exact ⟨i + 1, A, B, by omega, by go_num, hW, hs, ⟨d0, d1⟩, ⟨z0, z1⟩, ⟨x0, x1, y0, y1⟩, HC'⟩
        case measure => simp [intOf]; omega
      | true =>
        rw [hf] at u0
        by_cases h64 : i < 64
        · have qd : (i : Int).tdiv 64 = 0 := by rw [Int.tdiv_eq_ediv_of_nonneg q0]; omega
          have qm : (i : Int).tmod 64 = (i : Int) := by rw [Int.tmod_eq_emod_of_nonneg q0]; omega
          go_wp2_with fail
          go_region
          all_goals
            have ho := or_is A i HC.out.1.1 (by omega)
            rw [ho]
            clear ho
            have HC' : Hid (OKW (A ||| 2 ^ i, B) ∧ ∀ j, colB (A ||| 2 ^ i) B j = (decide (j < i + 1) && f j)) := Lib.hid ⟨⟨bit_or HC.out.1.1 (by omega), HC.out.1.2⟩, fun j => by
              rw [colB_setA h64, HC.out.2 j]
              by_cases e : j = i
              · subst e; rw [hf, decide_eq_true (rfl : j = j), decide_eq_true (Nat.lt_succ_self j)]; simp
              · rw [decide_eq_false e, Bool.or_false]; congr 1; rw [Bool.eq_iff_iff, decide_eq_true_eq, decide_eq_true_eq]; omega⟩
            clear HC hf
            go_wp2_with fail
            go_roundw
            case rel =>
              refine ⟨i + 1, A ||| 2 ^ i, B, by omega, by go_num, Lib.hid (hW.out.setCell (by simp) _).drew, by simpa using hs, ⟨?_, ?_⟩, ⟨by simpa using z0, by simpa using z1⟩, ⟨(World.cell?_setCell_other _ _ _ _ (by simp)).trans x0, (World.cell?_setCell_other _ _ _ _ (by simp)).trans x1, by simpa using y0, by simpa using y1⟩, HC'⟩
              · exact World.cell?_setCell_same _ _ _ d0
              · exact (World.cell?_setCell_other _ _ _ _ (by simp)).trans d1
            case measure => simp [intOf]; omega
        · have qd : (i : Int).tdiv 64 = 1 := by rw [Int.tdiv_eq_ediv_of_nonneg q0]; omega
          have qm : (i : Int).tmod 64 = ((i - 64 : Nat) : Int) := by rw [Int.tmod_eq_emod_of_nonneg q0]; omega
          have q2 : ((i - 64 : Nat) : Int) ≤ 64 := by omega
          go_wp2_with fail
          go_region
          all_goals
            have ho := or_is B (i - 64) HC.out.1.2 (by omega)
            rw [ho]
            clear ho
            have HC' : Hid (OKW (A, B ||| 2 ^ (i - 64)) ∧ ∀ j, colB A (B ||| 2 ^ (i - 64)) j = (decide (j < i + 1) && f j)) := Lib.hid ⟨⟨HC.out.1.1, bit_or HC.out.1.2 (by omega)⟩, fun j => by
              rw [colB_setB (by omega), HC.out.2 j]
              by_cases e : j = i
              · subst e; rw [hf, decide_eq_true (rfl : j = j), decide_eq_true (Nat.lt_succ_self j)]; simp
              · rw [decide_eq_false e, Bool.or_false]; congr 1; rw [Bool.eq_iff_iff, decide_eq_true_eq, decide_eq_true_eq]; omega⟩
            clear HC hf
            go_wp2_with fail
            go_roundw
            case rel =>
              refine ⟨i + 1, A, B ||| 2 ^ (i - 64), by omega, by go_num, Lib.hid (hW.out.setCell (by simp) _).drew, by simpa using hs, ⟨?_, ?_⟩, ⟨by simpa using z0, by simpa using z1⟩, ⟨(World.cell?_setCell_other _ _ _ _ (by simp)).trans x0, (World.cell?_setCell_other _ _ _ _ (by simp)).trans x1, by simpa using y0, by simpa using y1⟩, HC'⟩
              · exact (World.cell?_setCell_other _ _ _ _ (by simp)).trans d0
              · exact World.cell?_setCell_same _ _ _ d1
            case measure => simp [intOf]; omega
    · have q1 : ¬ (i : Int) < 80 := by omega
      obtain rfl : i = 80 := by omega
      have HC' : Hid (OKW (A, B) ∧ ∀ j, colB A B j = (decide (j < 80) && f j)) := HC
      clear HC
      go_wp2_with fail
      have r0 : ((wr.setCell ⟨w.heap.size, 0, none⟩ (.int .u64 (A : Int))).setCell ⟨w.heap.size, 1, none⟩ (.int .u64 (B : Int))).cell? ⟨w.heap.size, 0, none⟩ = some (.int .u64 (A : Int)) :=
        (World.cell?_setCell_other _ _ _ _ (by simp)).trans (World.cell?_setCell_same _ _ _ x0)
      have r1 : ((wr.setCell ⟨w.heap.size, 0, none⟩ (.int .u64 (A : Int))).setCell ⟨w.heap.size, 1, none⟩ (.int .u64 (B : Int))).cell? ⟨w.heap.size, 1, none⟩ = some (.int .u64 (B : Int)) :=
        World.cell?_setCell_same _ _ _ ((World.cell?_setCell_other _ _ _ _ (by simp)).trans x1)
      exact bodyPost_ret (v := colV A B) (by simp [r0, r1, results, Tryd.results147, go_sem]) rfl ⟨⟨A, B, rfl, HC'.out.1.1, HC'.out.1.2, HC'.out.2⟩, (hW.out.setCell (Nat.le_refl _) _).setCell (Nat.le_refl _) _⟩
end Go.Proofs.YtgccnongfdbalaaDoor

namespace Go.Proofs.YtgccnongfdbalaaDoor
open Go.RowKit Go.Shelf
set_option linter.unusedVariables false
set_option linter.unusedSimpArgs false

theorem slF_congr {E : Type} {op : E → E → E} {z : E} {f g : Nat → E} {n b a i : Nat} (h : ∀ j, j < n → f j = g j) : slF op z f n b a i = slF op z g n b a i := by
  unfold slF
  exact jn_congr fun j h1 h2 => h j (by omega)
theorem colB_high {A B : Nat} (h : ∀ c, 80 ≤ c → colB A B c = false) : B < 65536 := by
  refine Nat.lt_pow_two_of_testBit (n := 16) B fun i hi => ?_
  have := h (i + 64) (by omega)
  unfold colB at this
  rwa [if_neg (by omega), Nat.add_sub_cancel] at this
/-- The first i rows see one of the set in their row. -/
structure AcrossOK (f : Nat → Bool) (b a : Nat) (H : Nat → Nat) (i : Nat) : Prop where
  word : ∀ j, W64 (H j)
  high : ∀ y, y < i → H (y * 2 + 1) < 65536
  bits : ∀ y, y < i → ∀ c, c < 80 → colB (H (y * 2)) (H (y * 2 + 1)) c = acF f b a (y * 80 + c)
theorem AcrossOK.start (f : Nat → Bool) (b a : Nat) : AcrossOK f b a (fun _ => 0) 0 := ⟨fun _ => by unfold W64; decide, fun y h => by omega, fun y h => by omega⟩
theorem AcrossOK.next {f : Nat → Bool} {b a : Nat} {H : Nat → Nat} {i A B : Nat} (h : AcrossOK f b a H i) (hA : W64 A) (hB : B < 65536) (hb : ∀ c, c < 80 → colB A B c = acF f b a (i * 80 + c)) : AcrossOK f b a (setR H i A B) (i + 1) := by
  have e0 : ∀ y, y ≠ i → setR H i A B (y * 2) = H (y * 2) ∧ setR H i A B (y * 2 + 1) = H (y * 2 + 1) := fun y hy => by
    unfold setR upd
    constructor
    · rw [if_neg (by omega), if_neg (by omega)]
    · rw [if_neg (by omega), if_neg (by omega)]
  have e1 : setR H i A B (i * 2) = A ∧ setR H i A B (i * 2 + 1) = B := by
    unfold setR upd
    constructor
    · rw [if_neg (by omega), if_pos rfl]
    · rw [if_pos rfl]
  refine ⟨fun j => ?_, fun y hy => ?_, fun y hy c hc => ?_⟩
  · unfold setR upd
    split
    · exact Nat.lt_trans hB (by decide)
    · split
      · exact hA
      · exact h.word j
  · by_cases e : y = i
    · subst e; rw [e1.2]; exact hB
    · rw [(e0 y e).2]; exact h.high y (by omega)
  · by_cases e : y = i
    · subst e; rw [e1.1, e1.2]; exact hb c hc
    · rw [(e0 y e).1, (e0 y e).2]; exact h.bits y (by omega) c hc
theorem ac_row {f : Nat → Bool} {G : Nat → Nat} (h : RowsOK f G) (b a : Nat) {i c : Nat} (hi : i < 80) (hc : c < 80) : slF orB false (fun j => colB (G (i * 2)) (G (i * 2 + 1)) j) 80 b a c = acF f b a (i * 80 + c) := by
  unfold acF
  rw [show (i * 80 + c) / 80 = i by omega, show (i * 80 + c) % 80 = c by omega]
  refine slF_congr (op := orB) fun j hj => ?_
  rw [h.bits i hi j hj, hasB_nat f hj hi]
/-- The row is as the one before it: so is what it sees. -/
theorem ac_same {f : Nat → Bool} {G H : Nat → Nat} {b a i : Nat} (h : RowsOK f G) (hH : AcrossOK f b a H (i + 1)) (hi : i + 1 < 80) (e0 : G ((i + 1) * 2) = G (i * 2)) (e1 : G ((i + 1) * 2 + 1) = G (i * 2 + 1)) : AcrossOK f b a (setR H (i + 1) (H (i * 2)) (H (i * 2 + 1))) (i + 2) := by
  refine hH.next (hH.word _) (hH.high i (by omega)) fun c hc => ?_
  rw [hH.bits i (by omega) c hc, ← ac_row h b a (by omega) hc, ← ac_row h b a hi hc, e0, e1]
/-- The words that the second slide gives. -/
def colsF (H : Nat → Nat) (y : Nat) : Nat × Nat := (H (y * 2), H (y * 2 + 1))
def dnG (H : Nat → Nat) (b a j : Nat) : Nat := if j % 2 = 0 then (slF wOr (0, 0) (colsF H) 80 b a (j / 2)).1 else (slF wOr (0, 0) (colsF H) 80 b a (j / 2)).2
theorem see_rows {f : Nat → Bool} {b a : Nat} {H : Nat → Nat} (h : AcrossOK f b a H 80) : RowsOK (seeF f b a) (dnG H b a) := by
  have hw : ∀ i, W64 (slF wOr (0, 0) (colsF H) 80 b a i).1 ∧ (slF wOr (0, 0) (colsF H) 80 b a i).2 < 65536 := fun i => jn_wOr_ok fun j h1 h2 => ⟨h.word _, h.high j (by omega)⟩
  have e0 : ∀ i, dnG H b a (i * 2) = (slF wOr (0, 0) (colsF H) 80 b a i).1 := fun i => by
    unfold dnG; rw [if_pos (by omega), show i * 2 / 2 = i by omega]
  have e1 : ∀ i, dnG H b a (i * 2 + 1) = (slF wOr (0, 0) (colsF H) 80 b a i).2 := fun i => by
    unfold dnG; rw [if_neg (by omega), show (i * 2 + 1) / 2 = i by omega]
  refine ⟨fun j => ?_, fun i hi => ?_, fun i hi c hc => ?_⟩
  · unfold dnG
    split
    · exact (hw _).1
    · exact Nat.lt_trans (hw _).2 (by decide)
  · rw [e1]; exact (hw i).2
  · rw [e0, e1, hasB_nat _ hc hi]
    unfold slF
    rw [jn_wOr_col]
    show _ = dnF (acF f b a) b a (i * 80 + c)
    unfold dnF
    rw [show (i * 80 + c) / 80 = i by omega, show (i * 80 + c) % 80 = c by omega]
    unfold slF
    refine jn_congr fun j h1 h2 => ?_
    exact h.bits j (by omega) c hc
theorem cellsW_len (l : List (Nat × Nat)) : (cellsW l).length = l.length * 2 := by
  induction l with
  | nil => rfl
  | cons e l ih => unfold cellsW at ih ⊢; rw [List.flatMap_cons, List.length_append, ih, List.length_cons]; simp; omega
theorem dn_cells (H : Nat → Nat) (b a : Nat) : cellsW (enL (slF wOr (0, 0) (colsF H) 80 b a) 0 80) = (wArr (dnG H b a)).toList := by
  apply List.ext_getElem?
  intro j
  by_cases hj : j < 160
  · have hr : (wArr (dnG H b a)).toList[j]? = some (.int .u64 (dnG H b a j : Int)) := by
      have := wArr_get (dnG H b a) hj
      simpa using this
    rw [hr]
    have hc := cellsW_at _ (j / 2) _ (enL_get (slF wOr (0, 0) (colsF H) 80 b a) 0 80 (j / 2) (by omega))
    rw [Nat.zero_add] at hc
    by_cases e : j % 2 = 0
    · have e2 : j = j / 2 * 2 := by omega
      have := hc.1
      rw [← e2] at this
      rw [this]
      unfold dnG; rw [if_pos e]
    · have e2 : j = j / 2 * 2 + 1 := by omega
      have := hc.2
      rw [← e2] at this
      rw [this]
      unfold dnG; rw [if_neg e]
  · rw [List.getElem?_eq_none (by rw [cellsW_len, enL_len]; omega), List.getElem?_eq_none (by simp [wArr_size]; omega)]
/-- Own columns copied into a chip's rows. -/
theorem run_copyCols (w : World) (g h B : Nat) (G G0 : Nat → Nat) (xs : List Value) (ty : TypeId) (hg : RowsAt w g G0) (ho : w.ownsRow B 69 2 (.slice (some ⟨h, 0, none⟩) 80 80) 80 xs) (hx : xs = (wArr G).toList) :
    (Builtin.copy_ #[147, 147] ty #[.slice (some ⟨g, 0, none⟩) 80 80, .slice (some ⟨h, 0, none⟩) 80 80]).run Tryd.prog w = .ok (goInt 80) (w.setRow g (wArr G)) := by
  subst hx
  have hu : Tryd.prog.underlying 147 = some (.slice 69) := Tryd.underlying147
  have hs : (Tryd.prog.info? 69).map (·.size) = some 2 := by kernel_rfl
  have hl := run_loadCells_list (P := Tryd.prog) w ⟨h, 0, none⟩ (wArr G).toList (fun j v hj => by
    rw [addG]
    rw [ho.cellAt _ (by have := (List.getElem?_eq_some_iff.1 hj).1; simpa [wArr_size] using this)]
    exact hj)
  have hlen : (wArr G).toList.length = 160 := by simp [wArr_size]
  rw [hlen] at hl
  have hst := store59 G hg
  cases hq : Tryd.prog.info? 69 with
  | none => simp [hq] at hs
  | some i =>
    have hi : i.size = 2 := by simpa [hq] using hs
    simp [Builtin.copy_, run_underlying hu, Builtin.lenOf, Builtin.firstCells, sizeOf, typeInfo, hq, hi, hl, hst]
end Go.Proofs.YtgccnongfdbalaaDoor

namespace Go.Proofs.YtgccnongfdbalaaDoor
open Go.RowKit Go.Shelf
set_option linter.unusedVariables false
set_option linter.unusedSimpArgs false

theorem line_own {W : World} {B g n c : Nat} {f : Nat → Bool} (h : W.ownsRow B 4 1 (.slice (some ⟨g, 0, none⟩) n c) n ((enL f 0 n).map Value.bool)) : LineB W g n f := fun j hj => by
  rw [h.cellAt _ (by omega), List.getElem?_map, enL_get _ _ _ _ hj, Nat.zero_add]; rfl
/-- A copy whose run is known. -/
theorem wpIn_copy_run {F : Fence} {n : Nat} {P : Program} {o : Oper} {a : Act} {w : World} {K : Act → World → Prop} {Q : Exit → Act → World → Prop} (s x : Operand) (t : TypeId) (ho : o.op = .call { callee := .builtin .copy, args := #[s, x], argTypes := #[t, t] })
    {v u v' : Value} {w' : World} (hs : a.eval s = v) (hx : a.eval x = u) (hr : (Builtin.copy_ #[t, t] o.type #[v, u]).run P w = .ok v' w') (h : K (a.put o.dst v') w') : o.wpIn F n P a w K Q := by
  unfold Oper.wpIn
  refine ⟨by simp [Oper.about, ho, resolve, Target.leads, Sem.run_pure], ?_⟩
  rw [Oper.semAt_plain F _ _ (by rw [ho]; intro c hc'; cases hc')]
  simp [execOp, ho, resolve, invoke, builtin, hs, hx, hr, Result.andThen]
  exact h
theorem drewB {n : Nat} {W V : World} (h : Below n W.drew V) : Below n W V := ((Below.refl _ _).drew).trans h
theorem drewB' {n : Nat} {W V : World} (h : Below n W V) : Below n W V.drew := h.drew

set_option maxRecDepth 100000 in
set_option maxHeartbeats 16000000 in
theorem inSight_any (bk ah p : Nat) (f : Nat → Bool) (G : Nat → Nat) (w : World) (hG : RowsAt w p G) (hok : RowsOK f G) (hbk : bk ≤ 1000) (hah : ah ≤ 1000) :
    Calls Tryd.prog 128 #[.pointer (some ⟨p, 0, none⟩), .int .i64 (bk : Int), .int .i64 (ah : Int)] w fun e w' => (∃ G', e = .returned (.agg (wArr G')) ∧ RowsOK (seeF f bk ah) G') ∧ Below w.heap.size w w' := by
  have hz := zero59
  have HOK := Lib.hid hok
  clear hok
  have hp := hG.lt
  obtain ⟨w3, hw3⟩ : ∃ w3, w3 = ((w.alloc (.cells (wArr fun _ => 0) 71)).alloc (.cells (wArr fun _ => 0) 71)).alloc (.cells (wArr fun _ => 0) 71) := ⟨_, rfl⟩
  have s3 : w3.heap.size = w.heap.size + 3 := by rw [hw3]; simp
  have b3 : Below w.heap.size w w3 := by rw [hw3]; (repeat (first | (with_reducible exact Below.refl _ _) | (with_reducible refine Ext.drewN ?_ _) | (with_reducible refine Below.drew ?_) | (with_reducible refine Ext.alloc ?_ _) | (with_reducible refine Ext.setCell ?_ (by simp; try omega) _) | (with_reducible refine Ext.trans ?_ (by assumption)) | (with_reducible assumption) | exact Below.refl _ _))
  have r0 : RowsAt w3 w.heap.size (fun _ => 0) := by
    rw [hw3]
    exact (RowsAt.ext (RowsAt.ext (RowsAt.new w (fun _ => 0)) ((Below.refl _ _).alloc (Nat.le_refl _) _)) ((Below.refl _ _).alloc (Nat.le_refl _) _))
  have r1 : RowsAt w3 (w.heap.size + 1) (fun _ => 0) := by
    rw [hw3]
    refine RowsAt.ext ?_ ((Below.refl _ _).alloc (Nat.le_refl _) _)
    have := RowsAt.new (w.alloc (.cells (wArr fun _ => 0) 71)) (fun _ => 0)
    rwa [World.size_alloc] at this
  have r2 : RowsAt w3 (w.heap.size + 2) (fun _ => 0) := by
    rw [hw3]
    have := RowsAt.new ((w.alloc (.cells (wArr fun _ => 0) 71)).alloc (.cells (wArr fun _ => 0) 71)) (fun _ => 0)
    rwa [World.size_alloc, World.size_alloc] at this
  have R0 := Lib.hid r0
  have R1 := Lib.hid r1
  have R2 := Lib.hid r2
  have HG := Lib.hid (hG.ext b3)
  have B3 := Lib.hid b3
  clear r0 r1 r2 hG b3
  go_enter Tryd.func128, Tryd.ntmps128
  go_upto_region 3 with fail
  rw [← hw3]
  clear hw3 hz
  go_loopw [13] (fun s wr => ∃ (i : Nat) (H : Nat → Nat), i ≤ 80 ∧ s = .int .i64 i ∧ w.heap.size + 3 ≤ wr.heap.size ∧ Hid (Below w.heap.size w wr) ∧ Hid (RowsAt wr p G) ∧ Hid (RowsAt wr w.heap.size fun _ => 0) ∧ Hid (RowsAt wr (w.heap.size + 1) H) ∧ Hid (RowsAt wr (w.heap.size + 2) fun _ => 0) ∧ Hid (AcrossOK f bk ah H i)) (fun s _ => 80 - (intOf s).toNat)
  case atStart => exact ⟨0, _, by omega, rfl, by omega, B3, HG, R0, R1, R2, Lib.hid (AcrossOK.start _ _ _)⟩
  case round =>
    obtain ⟨i, H, hi, rfl, hs, hW, HG, R0, R1, R2, HA⟩ := hrel
    by_cases hlt : i < 80
    · have q1 : (i : Int) < 80 := by omega
      have q0 : (0 : Int) ≤ (i : Int) := by omega
      have g0 := HG.out.cell (show i * 2 < 160 by omega)
      have g1 := HG.out.cell (show i * 2 + 1 < 160 by omega)
      have ga0 := keepA g0 (.cells #[.int .u64 0, .int .u64 0] 69)
      have ga1 := keepA g1 (.cells #[.int .u64 0, .int .u64 0] 69)
      go_wp2_with fail
      go_region
      clear ga0 ga1 g0 g1
      obtain ⟨W, hWd⟩ : ∃ W, W = (wr.alloc (Obj.cells #[Value.int IntKind.u64 (G (i * 2) : Int), Value.int IntKind.u64 (G (i * 2 + 1) : Int)] 69)).drew := ⟨_, rfl⟩
      have hBW : Below wr.heap.size wr W := by rw [hWd]; exact ((Below.refl _ _).alloc (Nat.le_refl _) _).drew
      have sW : W.heap.size = wr.heap.size + 1 := by rw [hWd]; exact World.size_alloc _ _
      have xW : W.heap[wr.heap.size]? = some (.cells #[.int .u64 (G (i * 2) : Int), .int .u64 (G (i * 2 + 1) : Int)] 69 (0, 0)) := by rw [hWd]; exact heap_alloc_new _ _
      have x0 : W.cell? ⟨wr.heap.size, 0, none⟩ = some (.int .u64 (G (i * 2) : Int)) := by rw [cell_of_row _ _ 0 _ _ _ xW]; rfl
      have x1 : W.cell? ⟨wr.heap.size, 1, none⟩ = some (.int .u64 (G (i * 2 + 1) : Int)) := by rw [cell_of_row _ _ 1 _ _ _ xW]; rfl
      rw [← hWd]
      clear hWd xW
      have HG := Lib.hid (HG.out.ext hBW)
      have R0 := Lib.hid (R0.out.ext hBW)
      have R1 := Lib.hid (R1.out.ext hBW)
      have R2 := Lib.hid (R2.out.ext hBW)
      have hW := Lib.hid (hW.out.trans (hBW.mono (by omega)))
      obtain ⟨N, hN⟩ : ∃ N, N = wr.heap.size := ⟨_, rfl⟩
      rw [← hN] at sW x0 x1 ⊢
      have hsN : w.heap.size + 3 ≤ N := by omega
      clear hBW hN hs
      by_cases h0 : i = 0
      · have k0 : ¬ (0 : Int) < (i : Int) := by omega
        have k0' : ¬ 0 < i := by omega
        clear h0
        go_wp2_with fail
        go_region
        go_wp2_with fail
        refine (flags_any (G (i * 2)) (G (i * 2 + 1)) _ (HOK.out.word _) (HOK.out.word _)).mono ?_
        rintro e w5 ⟨⟨gf, rfl, hgf, hF⟩, bw5⟩
        have HF := Lib.hid hF
        have hgl : gf < w5.heap.size := World.block_lt_of_cell? w5 ⟨gf, 0, none⟩ (hF 0 (by omega)).1
        clear hF
        go_wp2_with fail
        refine (slideB_any gf 80 80 bk ah (fun j => colB (G (i * 2)) (G (i * 2 + 1)) j) _ HF.out.line hgl (by omega) hbk hah (by omega)).mono ?_
        rintro e w6 ⟨⟨gs, rfl, own6⟩, bw6⟩
        have HL := Lib.hid (line_own own6)
        have hgs := (own_at own6 rfl).2.1
        clear own6 HF
        go_wp2_with fail
        refine (columnsFlagged_any gs 80 (slF orB false (fun j => colB (G (i * 2)) (G (i * 2 + 1)) j) 80 bk ah) _ HL.out hgs).mono ?_
        rintro e w7 ⟨⟨A, B, rfl, hA, hB, hc⟩, bw7⟩
        have hB16 := colB_high (A := A) (B := B) fun c h => by rw [hc, decide_eq_false (by omega), Bool.false_and]
        have b57 : Below W.heap.size W w7 := (drewB bw5).trans (Ext.trans bw6 bw7 |>.mono bw5.size)
        have HG := Lib.hid (HG.out.ext b57)
        have R0 := Lib.hid (R0.out.ext b57)
        have R2 := Lib.hid (R2.out.ext b57)
        have r1 := R1.out.ext b57
        have hW := Lib.hid (hW.out.trans (b57.mono (by omega)))
        have HA := Lib.hid (HA.out.next (A := A) (B := B) hA hB16 fun c h => by rw [hc, decide_eq_true h, Bool.true_and]; exact ac_row HOK.out bk ah hlt h)
        have hz7 := b57.size
        have y0 := r1.cell (show i * 2 < 160 by omega)
        have y1 := r1.cell (show i * 2 + 1 < 160 by omega)
        have f0 := r1.frozen (i * 2)
        have f1 := r1.frozen (i * 2 + 1)
        have R1 := Lib.hid r1
        clear HL hc hA hB hB16 b57 bw5 bw6 bw7 r1 hgs hgl
        go_wp2_with fail
        go_roundw
        case rel => exact ⟨i + 1, setR H i A B, by omega, by go_num, by simp; omega, Lib.hid ((hW.out.setCell (by simp) _).setCell (by simp) _), Lib.hid ((HG.out.other (by simp; omega) _).other (by simp; omega) _), Lib.hid ((R0.out.other (by simp) _).other (by simp) _), Lib.hid ((R1.out.set (by omega) A).set (by omega) B), Lib.hid ((R2.out.other (by simp) _).other (by simp) _), HA⟩
        case measure => simp [intOf]; omega
      · obtain ⟨k, hk⟩ : ∃ k, i = k + 1 := ⟨i - 1, by omega⟩
        have g0 := HG.out.cell (show k * 2 < 160 by omega)
        have g1 := HG.out.cell (show k * 2 + 1 < 160 by omega)
        have k0 : (0 : Int) < (i : Int) := by omega
        have k0' : 0 < i := by omega
        have k1 : (i : Int) - 1 = (k : Int) := by omega
        have k2 : (k : Int) < 80 := by omega
        have HK := Lib.hid hk
        clear hk h0
        cases hq : ((G (i * 2) : Int) == (G (k * 2) : Int) && (G (i * 2 + 1) : Int) == (G (k * 2 + 1) : Int)) with
        | false =>
          have heq := eqCol (G (i * 2) : Int) (G (i * 2 + 1) : Int) (G (k * 2) : Int) (G (k * 2 + 1) : Int)
          rw [hq] at heq
          clear hq
          go_wp2_with fail
          go_region
          clear heq g0 g1
          go_wp2_with fail
          refine (flags_any (G (i * 2)) (G (i * 2 + 1)) _ (HOK.out.word _) (HOK.out.word _)).mono ?_
          rintro e w5 ⟨⟨gf, rfl, hgf, hF⟩, bw5⟩
          have HF := Lib.hid hF
          have hgl : gf < w5.heap.size := World.block_lt_of_cell? w5 ⟨gf, 0, none⟩ (hF 0 (by omega)).1
          clear hF
          go_wp2_with fail
          refine (slideB_any gf 80 80 bk ah (fun j => colB (G (i * 2)) (G (i * 2 + 1)) j) _ HF.out.line hgl (by omega) hbk hah (by omega)).mono ?_
          rintro e w6 ⟨⟨gs, rfl, own6⟩, bw6⟩
          have HL := Lib.hid (line_own own6)
          have hgs := (own_at own6 rfl).2.1
          clear own6 HF
          go_wp2_with fail
          refine (columnsFlagged_any gs 80 (slF orB false (fun j => colB (G (i * 2)) (G (i * 2 + 1)) j) 80 bk ah) _ HL.out hgs).mono ?_
          rintro e w7 ⟨⟨A, B, rfl, hA, hB, hc⟩, bw7⟩
          have hB16 := colB_high (A := A) (B := B) fun c h => by rw [hc, decide_eq_false (by omega), Bool.false_and]
          have b57 : Below W.heap.size W w7 := (drewB bw5).trans (Ext.trans bw6 bw7 |>.mono bw5.size)
          have HG := Lib.hid (HG.out.ext b57)
          have R0 := Lib.hid (R0.out.ext b57)
          have R2 := Lib.hid (R2.out.ext b57)
          have r1 := R1.out.ext b57
          have hW := Lib.hid (hW.out.trans (b57.mono (by omega)))
          have HA := Lib.hid (HA.out.next (A := A) (B := B) hA hB16 fun c h => by rw [hc, decide_eq_true h, Bool.true_and]; exact ac_row HOK.out bk ah hlt h)
          have hz7 := b57.size
          have y0 := r1.cell (show i * 2 < 160 by omega)
          have y1 := r1.cell (show i * 2 + 1 < 160 by omega)
          have f0 := r1.frozen (i * 2)
          have f1 := r1.frozen (i * 2 + 1)
          have R1 := Lib.hid r1
          clear HL hc hA hB hB16 b57 bw5 bw6 bw7 r1 hgs hgl
          go_wp2_with fail
          go_roundw
          case rel => exact ⟨i + 1, setR H i A B, by omega, by go_num, by simp; omega, Lib.hid ((hW.out.setCell (by simp) _).setCell (by simp) _), Lib.hid ((HG.out.other (by simp; omega) _).other (by simp; omega) _), Lib.hid ((R0.out.other (by simp) _).other (by simp) _), Lib.hid ((R1.out.set (by omega) A).set (by omega) B), Lib.hid ((R2.out.other (by simp) _).other (by simp) _), HA⟩
          case measure => simp [intOf]; omega
        | true =>
          have heq := eqCol (G (i * 2) : Int) (G (i * 2 + 1) : Int) (G (k * 2) : Int) (G (k * 2 + 1) : Int)
          rw [hq] at heq
          have hq2 : G (i * 2) = G (k * 2) ∧ G (i * 2 + 1) = G (k * 2 + 1) := by
            simp only [Bool.and_eq_true, beq_iff_eq] at hq
            omega
          have HQ := Lib.hid hq2
          clear hq hq2
          have z0 := R1.out.cell (show k * 2 < 160 by have := HK.out; omega)
          have z1 := R1.out.cell (show k * 2 + 1 < 160 by have := HK.out; omega)
          have y0 := R1.out.cell (show i * 2 < 160 by omega)
          have y1 := R1.out.cell (show i * 2 + 1 < 160 by omega)
          have f0 := R1.out.frozen (i * 2)
          have f1 := R1.out.frozen (i * 2 + 1)
          have HA' : Hid (AcrossOK f bk ah (setR H i (H (k * 2)) (H (k * 2 + 1))) (i + 1)) := Lib.hid (by
            have h1 := HA.out
            have h2 := HQ.out
            have h3 := HK.out
            subst h3
            exact ac_same HOK.out h1 hlt h2.1 h2.2)
          go_wp2_with fail
          go_region
          clear heq g0 g1
          go_wp2_with fail
          go_roundw
          case rel => exact ⟨i + 1, setR H i (H (k * 2)) (H (k * 2 + 1)), by omega, by go_num, by simp; omega, Lib.hid (((drewB' hW.out).setCell (by simp) _).setCell (by simp) _), Lib.hid ((RowsAt.other (V := W.drew) HG.out (by simp; omega) _).other (by simp; omega) _), Lib.hid ((RowsAt.other (V := W.drew) R0.out (by simp) _).other (by simp) _), Lib.hid ((RowsAt.set (W := W.drew) R1.out (by omega) (H (k * 2))).set (by omega) (H (k * 2 + 1))), Lib.hid ((RowsAt.other (V := W.drew) R2.out (by simp) _).other (by simp) _), HA'⟩
          case measure => simp [intOf]; omega
    · have q1 : ¬ (i : Int) < 80 := by omega
      obtain rfl : i = 80 := by omega
      have hmix : Tryd.prog.follows .mixedOrders = true := by kernel_rfl
      have hent := enters_of Tryd.func151 (by kernel_rfl) rfl
      have q3 : ((80 : Nat) : Int) = 80 := rfl
      rw [q3]
      go_upto_region 9 with fail
      refine (wpIn_wide (n := 9)).1 ?_
      gi_wp2
      refine regionT (S := fun _ => True) (tl := fun _ => false) hmix ?_
      refine takeT (i := 0) (.slice (some ⟨w.heap.size + 2, 0, none⟩) 80 80) rfl (by kernel_rfl) (by kernel_rfl) (by kernel_rfl) (by kernel_rfl) (by kernel_rfl) (fun _ _ _ h => h) (by rfl) ?_ (fun _ => rfl) trivial ?_
      · intro w' h9
        simp [go_sem, Act.put]
      simp only [go_sem, Act.put, List.getElem_toArray, List.getElem_cons_succ, List.getElem_cons_zero, List.setIfInBounds_toArray, List.set_cons_succ, List.set_cons_zero]
      refine takeT (i := 1) (.slice (some ⟨w.heap.size + 1, 0, none⟩) 80 80) rfl (by kernel_rfl) (by kernel_rfl) (by kernel_rfl) (by kernel_rfl) (by kernel_rfl) (fun _ _ _ h => h) (by rfl) ?_ (fun _ => rfl) trivial ?_
      · intro w' h9
        simp [go_sem, Act.put]
      simp only [go_sem, Act.put, List.getElem_toArray, List.getElem_cons_succ, List.getElem_cons_zero, List.setIfInBounds_toArray, List.set_cons_succ, List.set_cons_zero]
      refine takeT (i := 2) (.int .i64 (bk : Int)) rfl (by kernel_rfl) (by kernel_rfl) (by kernel_rfl) (by kernel_rfl) (by kernel_rfl) (fun _ _ _ h => h) (by rfl) ?_ (fun _ => rfl) trivial ?_
      · intro w' h9
        simp [go_sem, Act.put]
      simp only [go_sem, Act.put, List.getElem_toArray, List.getElem_cons_succ, List.getElem_cons_zero, List.setIfInBounds_toArray, List.set_cons_succ, List.set_cons_zero]
      refine takeT (i := 3) (.int .i64 (ah : Int)) rfl (by kernel_rfl) (by kernel_rfl) (by kernel_rfl) (by kernel_rfl) (by kernel_rfl) (fun _ _ _ h => h) (by rfl) ?_ (fun _ => rfl) trivial ?_
      · intro w' h9
        simp [go_sem, Act.put]
      simp only [go_sem, Act.put, List.getElem_toArray, List.getElem_cons_succ, List.getElem_cons_zero, List.setIfInBounds_toArray, List.set_cons_succ, List.set_cons_zero]
      refine oneN (i := 4) (by kernel_rfl) (wpOpIn_step rfl fun K' hK' => ?_)
      rw [if_pos (by rfl)]
      refine ⟨fun _ _ => trivial, ?_⟩
      simp only [go_sem, Act.put]
      simp [go_sem, hent]
      have hLC : LineC wr.drew (w.heap.size + 1) 80 (colsF H) := fun j hj => ⟨⟨R1.out.cell (show j * 2 < 160 by omega), R1.out.cell (show j * 2 + 1 < 160 by omega)⟩, HA.out.word _, HA.out.word _⟩
      refine (callsIn_wide.2 (slideC_any (w.heap.size + 1) 80 80 bk ah (colsF H) _ hLC (by show _ < wr.heap.size; omega) (by omega) hbk hah (by omega))).mono ?_
      rintro e w8 ⟨⟨gs, rfl, own8⟩, bw8⟩
      have b8 : Below wr.heap.size wr w8 := Below.trans ((Below.refl _ wr).drew) bw8
      have R0 := Lib.hid (R0.out.ext b8)
      have r2 := R2.out.ext b8
      have hcp := run_copyCols w8 (w.heap.size + 2) gs _ (dnG H bk ah) (fun _ => 0) _ 3 r2 own8 (dn_cells H bk ah)
      have r2' : RowsAt (w8.setRow (w.heap.size + 2) (wArr (dnG H bk ah))) (w.heap.size + 2) (dnG H bk ah) := RowsAt.setRow (W := w8) (dnG H bk ah) r2
      have r0' : RowsAt (w8.setRow (w.heap.size + 2) (wArr (dnG H bk ah))) w.heap.size (fun _ => 0) := (setRow_other _ _ _ (by omega)).trans R0.out
      have hW := Lib.hid (hW.out.trans (b8.mono (by omega)))
      dsimp only
      refine hK' _ _ ⟨trivial, ?_⟩
      clear hK'
      refine oneN (i := 5) (by kernel_rfl) (wpOpIn_step rfl fun K' hK' => ?_)
      rw [if_pos (by rfl)]
      refine wpIn_copy_run (.tmp 46) (.tmp 50) 147 rfl rfl rfl hcp ?_
      refine hK' _ _ ⟨trivial, ?_⟩
      clear hK'
      refine doneT (by kernel_rfl) ?_ _
      gi_wp2
      simp only [go_sem, Act.put, List.getElem_toArray, List.getElem_cons_succ, List.getElem_cons_zero, List.setIfInBounds_toArray, List.set_cons_succ, List.set_cons_zero]
      obtain ⟨W, hWd⟩ : ∃ W, W = w8.setRow (w.heap.size + 2) (wArr (dnG H bk ah)) := ⟨_, rfl⟩
      rw [← hWd] at r2' r0' ⊢
      have hWW : Below w.heap.size w W := by rw [hWd]; exact hW.out.trans (below_setRow _ _ (by omega))
      clear hWd hcp own8
      go_upto_region 10 with fail
      refine wp_region_lit ?_
      unfold wpList
      rw [if_pos (by rfl)]
      refine .inl (op_load59 rfl rfl r2' ?_)
      unfold wpList
      rw [if_pos (by rfl)]
      refine .inl (op_store59 (d := 6) (s := 52) (G := dnG H bk ah) ?_ ?_ ?_ r0' ?_)
      · rfl
      · rfl
      · rfl
      simp only [go_sem, Act.put]
      go_wp2_with fail
      exact bodyPost_ret (v := .agg (wArr (dnG H bk ah))) (by rw [results_one rfl]; simp [asAddr, Result.andThen, loadVar59 (r0'.setRow _)]) rfl ⟨⟨_, rfl, see_rows HA.out⟩, hWW.trans (below_setRow _ _ (Nat.le_refl _))⟩
end Go.Proofs.YtgccnongfdbalaaDoor

namespace Go.Proofs.YtgccnongfdbalaaDoor
open Go.RowKit Go.Shelf
set_option linter.unusedVariables false
set_option linter.unusedSimpArgs false
attribute [local go_sem] Oper.semAt_some

set_option maxRecDepth 100000 in
set_option maxHeartbeats 4000000 in
theorem seeing_any (m : Option Addr) (n cap : Nat) (P Q R S : Nat → Int) (bk ah : Nat) (w : World) (hn : n ≤ 1048576) (hcap : n ≤ cap) (hD : EnvW w) (hR : RectsIs w.heap.size w m n P Q R S) (hok : okR P Q R S n = true) (hbk : bk ≤ 1000) (hah : ah ≤ 1000) :
    Calls Tryd.prog 90 #[.slice m n cap, .int .i64 (bk : Int), .int .i64 (ah : Int)] w fun e w' => LOwnC w.heap.size (canonL (seeF (covF P Q R S n) bk ah)) e w' ∧ Below w.heap.size w w' := by
  have hz := zero59
  have HF0 := Lib.hid (regG_ok hok)
  have HR := Lib.hid hR
  clear hR
  go_enter Tryd.func90, Tryd.ntmps90
  go_wp2_with (first | (go_at_call 73; refine (cellsOf_any m n cap P Q R S _ hn hcap (hD.ext (by (repeat (first | (with_reducible exact Below.refl _ _) | (with_reducible refine Ext.drewN ?_ _) | (with_reducible refine Below.drew ?_) | (with_reducible refine Ext.alloc ?_ _) | (with_reducible refine Ext.setCell ?_ (by simp; try omega) _) | (with_reducible refine Ext.trans ?_ (by assumption)) | (with_reducible assumption) | exact Below.refl _ _)))) (HR.out.ext (by (repeat (first | (with_reducible exact Below.refl _ _) | (with_reducible refine Ext.drewN ?_ _) | (with_reducible refine Below.drew ?_) | (with_reducible refine Ext.alloc ?_ _) | (with_reducible refine Ext.setCell ?_ (by simp; try omega) _) | (with_reducible refine Ext.trans ?_ (by assumption)) | (with_reducible assumption) | exact Below.refl _ _))))).mono ?_; rintro e w1 ⟨rfl, bw1⟩; rw [hok]; have r3 := RowsAt.new w1 (fun _ => 0); have st3 := store59 (regG P Q R S n) r3; have st4 := storeAt59 (regG P Q R S n) r3; have sz3 := wArr_size (regG P Q R S n); have hb3 : Below w1.heap.size w1 ((w1.alloc (.cells (wArr fun _ => 0) 71)).setRow w1.heap.size (wArr (regG P Q R S n))) := ((Below.refl _ _).alloc (Nat.le_refl _) _).trans (below_setRow _ _ (Nat.le_refl _))))
  have bw : Below w.heap.size w w1 := by (repeat (first | (with_reducible exact Below.refl _ _) | (with_reducible refine Ext.drewN ?_ _) | (with_reducible refine Below.drew ?_) | (with_reducible refine Ext.alloc ?_ _) | (with_reducible refine Ext.setCell ?_ (by simp; try omega) _) | (with_reducible refine Ext.trans ?_ (by assumption)) | (with_reducible assumption) | exact Below.refl _ _))
  have r4 := r3.setRow (regG P Q R S n)
  obtain ⟨w3, hw3⟩ : ∃ w3, w3 = (w1.alloc (.cells (wArr fun _ => 0) 71)).setRow w1.heap.size (wArr (regG P Q R S n)) := ⟨_, rfl⟩
  rw [← hw3] at hb3 r4 ⊢
  have B3 := Ext.trans bw hb3
  clear hw3 st3 st4 sz3 r3 bw1 bw
  refine (inSight_any bk ah w1.heap.size (covF P Q R S n) (regG P Q R S n) w3 r4 HF0.out hbk hah).mono ?_
  rintro e w4 ⟨⟨G', rfl, hG'⟩, bw4⟩
  have HG' := Lib.hid hG'
  have B4 := Ext.trans B3 bw4
  clear hG' r4 bw4 hb3 B3
  have r5 := RowsAt.new w4 (fun _ => 0)
  have st5 := store59 G' r5
  have st6 := storeAt59 G' r5
  have sz5 := wArr_size G'
  have hb5 : Below w4.heap.size w4 ((w4.alloc (.cells (wArr fun _ => 0) 71)).setRow w4.heap.size (wArr G')) := ((Below.refl _ _).alloc (Nat.le_refl _) _).trans (below_setRow _ _ (Nat.le_refl _))
  go_wp2_with (first | (go_at_call 72; refine (region_any _ _).mono ?_; rintro e w7 ⟨rfl, hw7⟩; subst hw7))
  have r6 := r5.setRow G'
  obtain ⟨w5, hw5⟩ : ∃ w5, w5 = (w4.alloc (.cells (wArr fun _ => 0) 71)).setRow w4.heap.size (wArr G') := ⟨_, rfl⟩
  rw [← hw5] at hb5 r6 ⊢
  have s5 : w5.heap.size = w4.heap.size + 1 := by rw [hw5, setRow_size]; simp
  have B5 := Ext.trans B4 hb5
  obtain ⟨wS, hwS⟩ : ∃ wS, wS = w5.alloc (.cells #[.pointer (some ⟨w4.heap.size, 0, none⟩)] 116) := ⟨_, rfl⟩
  have bS : Below w5.heap.size w5 wS := by rw [hwS]; (repeat (first | (with_reducible exact Below.refl _ _) | (with_reducible refine Ext.drewN ?_ _) | (with_reducible refine Below.drew ?_) | (with_reducible refine Ext.alloc ?_ _) | (with_reducible refine Ext.setCell ?_ (by simp; try omega) _) | (with_reducible refine Ext.trans ?_ (by assumption)) | (with_reducible assumption) | exact Below.refl _ _))
  have cS : wS.cell? ⟨w5.heap.size, 0, none⟩ = some (.pointer (some ⟨w4.heap.size, 0, none⟩)) := by rw [hwS]; simp [go_sem]
  have BS := Ext.trans B5 bS
  rw [s5] at cS
  have r7 := r6.ext bS
  rw [← hwS]
  clear hwS hw5 st5 st6 sz5 r5 r6
  refine (collect_any (w4.heap.size + 1) w4.heap.size (seeF (covF P Q R S n) bk ah) G' wS cS r7 HG'.out (hD.deb.ext BS)).mono ?_
  rintro e w8 ⟨⟨v, rfl, hv⟩, bw8⟩
  obtain ⟨a, c, rfl, hkc, ho⟩ := ownsL_ownC hv
  have HO := Lib.hid ho
  clear ho hv
  go_wp2_with fail
  exact bodyPost_ret (v := .slice a (canonL (seeF (covF P Q R S n) bk ah)).length c) (by simp [results, Tryd.results90, go_sem]) rfl ⟨⟨a, c, rfl, hkc, HO.out.mono BS.size⟩, Ext.trans BS bw8⟩

theorem cm_cov (P Q R S : Nat → Int) (n : Nat) {k : Nat} (hk : k < 6400) (hok : okR P Q R S n = true) : covF (pA (cmL P Q R S n)) (pB (cmL P Q R S n)) (pC (cmL P Q R S n)) (pD (cmL P Q R S n)) (cmL P Q R S n).length k = !covF P Q R S n k := by
  unfold cmL
  rw [if_pos hok, cov_canonL_all _ hk]
  unfold opF tt
  cases covF P Q R S n k <;> decide
theorem cm_okR (P Q R S : Nat → Int) (n : Nat) (hok : okR P Q R S n = true) : okR (pA (cmL P Q R S n)) (pB (cmL P Q R S n)) (pC (cmL P Q R S n)) (pD (cmL P Q R S n)) (cmL P Q R S n).length = true := by
  unfold cmL
  rw [if_pos hok]
  exact okR_canonL _
set_option maxHeartbeats 4000000 in
theorem seeingOnly_any (m : Option Addr) (n cap : Nat) (P Q R S : Nat → Int) (bk ah : Nat) (w : World) (hn : n ≤ 1048576) (hcap : n ≤ cap) (hD : EnvW w) (hR : RectsIs w.heap.size w m n P Q R S) (hok : okR P Q R S n = true) (hbk : bk ≤ 1000) (hah : ah ≤ 1000) :
    Calls Tryd.prog 91 #[.slice m n cap, .int .i64 (bk : Int), .int .i64 (ah : Int)] w fun e w' => LOwnC w.heap.size (canonL (shF (covF P Q R S n) bk ah)) e w' ∧ Below w.heap.size w w' := by
  have HR := Lib.hid hR
  have HD := Lib.hid hD
  have hl1 := cmL_len P Q R S n
  have ho1 := cm_okR P Q R S n hok
  have hc1 : ∀ k, k < 6400 → covF (pA (cmL P Q R S n)) (pB (cmL P Q R S n)) (pC (cmL P Q R S n)) (pD (cmL P Q R S n)) (cmL P Q R S n).length k = !covF P Q R S n k := fun k hk => cm_cov P Q R S n hk hok
  obtain ⟨l1, hl⟩ : ∃ l1, l1 = cmL P Q R S n := ⟨_, rfl⟩
  rw [← hl] at hl1 ho1 hc1
  have HL1 := Lib.hid hl
  have HC1 := Lib.hid hc1
  have HO1 := Lib.hid ho1
  have HOK := Lib.hid hok
  obtain ⟨L, hL⟩ : ∃ L, L = canonL (shF (covF P Q R S n) bk ah) := ⟨_, rfl⟩
  rw [← hL]
  have HL := Lib.hid hL
  clear hl hc1 ho1 hL hok hR hD
  go_enter Tryd.func91, Tryd.ntmps91
  go_wp2_with fail
  refine (implComplementC_any merge4_any m n cap P Q R S _ hn hcap (HD.out.ext (by (repeat (first | (with_reducible exact Below.refl _ _) | (with_reducible refine Ext.drewN ?_ _) | (with_reducible refine Below.drew ?_) | (with_reducible refine Ext.alloc ?_ _) | (with_reducible refine Ext.setCell ?_ (by simp; try omega) _) | (with_reducible refine Ext.trans ?_ (by assumption)) | (with_reducible assumption) | exact Below.refl _ _)))) (HR.out.ext (by (repeat (first | (with_reducible exact Below.refl _ _) | (with_reducible refine Ext.drewN ?_ _) | (with_reducible refine Below.drew ?_) | (with_reducible refine Ext.alloc ?_ _) | (with_reducible refine Ext.setCell ?_ (by simp; try omega) _) | (with_reducible refine Ext.trans ?_ (by assumption)) | (with_reducible assumption) | exact Below.refl _ _))))).mono ?_
  rintro e w1 ⟨⟨a1, c1, rfl, k1, O1⟩, bw1⟩
  rw [← HL1.out] at k1 O1 ⊢
  have O1 := Lib.hid O1
  have B1 : Below w.heap.size w w1 := by (repeat (first | (with_reducible exact Below.refl _ _) | (with_reducible refine Ext.drewN ?_ _) | (with_reducible refine Below.drew ?_) | (with_reducible refine Ext.alloc ?_ _) | (with_reducible refine Ext.setCell ?_ (by simp; try omega) _) | (with_reducible refine Ext.trans ?_ (by assumption)) | (with_reducible assumption) | exact Below.refl _ _))
  clear bw1
  go_wp2_with fail
  refine (seeing_any a1 l1.length c1 (pA l1) (pB l1) (pC l1) (pD l1) bk ah _ (by omega) k1 (HD.out.ext B1) O1.out.rects HO1.out hbk hah).mono ?_
  rintro e w2 ⟨⟨a2, c2, rfl, k2, O2⟩, bw2⟩
  obtain ⟨l2, hl2⟩ : ∃ l2, l2 = canonL (seeF (covF (pA l1) (pB l1) (pC l1) (pD l1) l1.length) bk ah) := ⟨_, rfl⟩
  rw [← hl2] at k2 O2 ⊢
  have hn2 : l2.length ≤ 3280 := by rw [hl2]; exact canonL_len _
  have ho2 : okR (pA l2) (pB l2) (pC l2) (pD l2) l2.length = true := by rw [hl2]; exact okR_canonL _
  have hfin : cmL (pA l2) (pB l2) (pC l2) (pD l2) l2.length = L := by
    rw [HL.out]
    unfold cmL
    rw [if_pos ho2]
    refine canonL_congr fun k hk => ?_
    have e1 : covF (pA l2) (pB l2) (pC l2) (pD l2) l2.length k = seeF (covF (pA l1) (pB l1) (pC l1) (pD l1) l1.length) bk ah k := by rw [hl2]; exact cov_canonL_all _ hk
    have e2 := seeF_congr (f := covF (pA l1) (pB l1) (pC l1) (pD l1) l1.length) (g := fun j => !covF P Q R S n j) (fun j hj => HC1.out j hj) bk ah hk
    unfold opF
    rw [e1, e2]
    unfold shF tt
    cases seeF (fun j => !covF P Q R S n j) bk ah k <;> decide
  have HF := Lib.hid hfin
  have O2 := Lib.hid O2
  have B2 := Ext.trans B1 bw2
  clear hl2 ho2 hfin bw2
  go_wp2_with fail
  refine (implComplementC_any merge4_any a2 l2.length c2 (pA l2) (pB l2) (pC l2) (pD l2) _ (by omega) k2 (HD.out.ext B2) O2.out.rects).mono ?_
  rintro e w3 ⟨⟨a3, c3, rfl, k3, O3⟩, bw3⟩
  rw [HF.out] at k3 O3 ⊢
  have O3 := Lib.hid O3
  have B3 := Ext.trans B2 bw3
  have B2 := Lib.hid B2.size
  clear bw3
  go_wp2_with fail
  go_ret
  exact ⟨⟨a3, c3, rfl, k3, O3.out.mono B2.out⟩, B3⟩
end Go.Proofs.YtgccnongfdbalaaDoor

namespace Go.Proofs.YtgccnongfdbalaaDoor
open Go.RowKit Go.Shelf
set_option linter.unusedVariables false
set_option linter.unusedSimpArgs false

theorem inB_nat {k : Int} (h : inB k 0 10 = true) : ∃ j : Nat, k = (j : Int) ∧ j ≤ 10 ∧ k.toNat = j := by
  have := inB_t h
  exact ⟨k.toNat, by omega, by omega, rfl⟩
set_option maxHeartbeats 2000000 in
theorem canBeSized_any (m : Option Addr) (n cap : Nat) (P Q R S : Nat → Int) (k : Int) (w : World) (hn : n ≤ 1048576) (hcap : n ≤ cap) (hD : EnvW w) (hR : RectsIs w.heap.size w m n P Q R S) :
    Calls Tryd.prog 89 #[.slice m n cap, .int .i64 k] w fun e w' => e = .returned (.bool (okR P Q R S n && inB k 0 10)) ∧ Below w.heap.size w w' := by
  have HR := Lib.hid hR
  have HD := Lib.hid hD
  clear hR hD
  cases hok : okR P Q R S n with
  | false =>
    go_enter Tryd.func89, Tryd.ntmps89
    go_wp2_with fail
    refine (isRegion_any m n cap P Q R S _ hn hcap (HD.out.ext (by (repeat (first | (with_reducible exact Below.refl _ _) | (with_reducible refine Ext.drewN ?_ _) | (with_reducible refine Below.drew ?_) | (with_reducible refine Ext.alloc ?_ _) | (with_reducible refine Ext.setCell ?_ (by simp; try omega) _) | (with_reducible refine Ext.trans ?_ (by assumption)) | (with_reducible assumption) | exact Below.refl _ _)))) (HR.out.ext (by (repeat (first | (with_reducible exact Below.refl _ _) | (with_reducible refine Ext.drewN ?_ _) | (with_reducible refine Below.drew ?_) | (with_reducible refine Ext.alloc ?_ _) | (with_reducible refine Ext.setCell ?_ (by simp; try omega) _) | (with_reducible refine Ext.trans ?_ (by assumption)) | (with_reducible assumption) | exact Below.refl _ _))))).mono ?_
    rintro e w1 ⟨rfl, bw1⟩
    rw [hok]
    have B1 : Below w.heap.size w w1 := by (repeat (first | (with_reducible exact Below.refl _ _) | (with_reducible refine Ext.drewN ?_ _) | (with_reducible refine Below.drew ?_) | (with_reducible refine Ext.alloc ?_ _) | (with_reducible refine Ext.setCell ?_ (by simp; try omega) _) | (with_reducible refine Ext.trans ?_ (by assumption)) | (with_reducible assumption) | exact Below.refl _ _))
    clear bw1
    go_wp2_with fail
    go_ret
    exact ⟨rfl, B1⟩
  | true =>
    go_enter Tryd.func89, Tryd.ntmps89
    go_wp2_with fail
    refine (isRegion_any m n cap P Q R S _ hn hcap (HD.out.ext (by (repeat (first | (with_reducible exact Below.refl _ _) | (with_reducible refine Ext.drewN ?_ _) | (with_reducible refine Below.drew ?_) | (with_reducible refine Ext.alloc ?_ _) | (with_reducible refine Ext.setCell ?_ (by simp; try omega) _) | (with_reducible refine Ext.trans ?_ (by assumption)) | (with_reducible assumption) | exact Below.refl _ _)))) (HR.out.ext (by (repeat (first | (with_reducible exact Below.refl _ _) | (with_reducible refine Ext.drewN ?_ _) | (with_reducible refine Below.drew ?_) | (with_reducible refine Ext.alloc ?_ _) | (with_reducible refine Ext.setCell ?_ (by simp; try omega) _) | (with_reducible refine Ext.trans ?_ (by assumption)) | (with_reducible assumption) | exact Below.refl _ _))))).mono ?_
    rintro e w1 ⟨rfl, bw1⟩
    rw [hok]
    have B1 : Below w.heap.size w w1 := by (repeat (first | (with_reducible exact Below.refl _ _) | (with_reducible refine Ext.drewN ?_ _) | (with_reducible refine Below.drew ?_) | (with_reducible refine Ext.alloc ?_ _) | (with_reducible refine Ext.setCell ?_ (by simp; try omega) _) | (with_reducible refine Ext.trans ?_ (by assumption)) | (with_reducible assumption) | exact Below.refl _ _))
    clear bw1
    go_wp2_with fail
    refine (inRangeR_any _ _ _ _).mono ?_
    rintro e w2 ⟨rfl, rfl⟩
    go_wp2_with fail
    go_ret
    exact ⟨by rw [Bool.true_and]; rfl, B1⟩
theorem szV_no {F : (Nat → Bool) → Nat → Nat → Bool} {P Q R S : Nat → Int} {n : Nat} {k : Int} (h : (okR P Q R S n && inB k 0 10) = false) : szL F P Q R S n k = [] := by unfold szL; rw [if_neg (by simp [h])]
theorem szV_yes {F : (Nat → Bool) → Nat → Nat → Bool} {P Q R S : Nat → Int} {n : Nat} {k : Int} (h : (okR P Q R S n && inB k 0 10) = true) : szL F P Q R S n k = canonL (F (covF P Q R S n) k.toNat) := by unfold szL; rw [if_pos h]
theorem nilC (B : Nat) (w : World) : LOwnC B [] (.returned (.slice none 0 0)) w := ⟨none, 0, rfl, Nat.le_refl _, .inl rfl⟩
set_option maxHeartbeats 2000000 in
theorem growC_any (m : Option Addr) (n cap : Nat) (P Q R S : Nat → Int) (k : Int) (w : World) (hn : n ≤ 1048576) (hcap : n ≤ cap) (hD : EnvW w) (hR : RectsIs w.heap.size w m n P Q R S) :
    Calls Tryd.prog 36 #[.slice m n cap, .int .i64 k] w fun e w' => LOwnC w.heap.size (szL grF P Q R S n k) e w' ∧ Below w.heap.size w w' := by
  have HR := Lib.hid hR
  have HD := Lib.hid hD
  clear hR hD
  cases hb : (okR P Q R S n && inB k 0 10) with
  | false =>
    rw [szV_no hb]
    go_enter Tryd.func36, Tryd.ntmps36
    go_wp2_with fail
    refine (canBeSized_any m n cap P Q R S k _ hn hcap (HD.out.ext (by (repeat (first | (with_reducible exact Below.refl _ _) | (with_reducible refine Ext.drewN ?_ _) | (with_reducible refine Below.drew ?_) | (with_reducible refine Ext.alloc ?_ _) | (with_reducible refine Ext.setCell ?_ (by simp; try omega) _) | (with_reducible refine Ext.trans ?_ (by assumption)) | (with_reducible assumption) | exact Below.refl _ _)))) (HR.out.ext (by (repeat (first | (with_reducible exact Below.refl _ _) | (with_reducible refine Ext.drewN ?_ _) | (with_reducible refine Below.drew ?_) | (with_reducible refine Ext.alloc ?_ _) | (with_reducible refine Ext.setCell ?_ (by simp; try omega) _) | (with_reducible refine Ext.trans ?_ (by assumption)) | (with_reducible assumption) | exact Below.refl _ _))))).mono ?_
    rintro e w1 ⟨rfl, bw1⟩
    rw [hb]
    have B1 : Below w.heap.size w w1 := by (repeat (first | (with_reducible exact Below.refl _ _) | (with_reducible refine Ext.drewN ?_ _) | (with_reducible refine Below.drew ?_) | (with_reducible refine Ext.alloc ?_ _) | (with_reducible refine Ext.setCell ?_ (by simp; try omega) _) | (with_reducible refine Ext.trans ?_ (by assumption)) | (with_reducible assumption) | exact Below.refl _ _))
    clear bw1
    go_wp2_with fail
    go_ret
    exact ⟨nilC _ _, B1⟩
  | true =>
    rw [szV_yes hb]
    simp only [Bool.and_eq_true] at hb
    obtain ⟨hok, hk⟩ := hb
    obtain ⟨j, rfl, hj, -⟩ := inB_nat hk
    have hb2 : (okR P Q R S n && inB (j : Int) 0 10) = true := by rw [hok, hk]; rfl
    obtain ⟨L, hL⟩ : ∃ L, L = canonL (grF (covF P Q R S n) ((j : Int)).toNat) := ⟨_, rfl⟩
    rw [← hL]
    have HL : Hid (canonL (seeF (covF P Q R S n) j j) = L) := Lib.hid (by rw [hL, Int.toNat_natCast]; rfl)
    have HOK := Lib.hid hok
    have HB2 := Lib.hid hb2
    clear hok hk hL hb2
    go_enter Tryd.func36, Tryd.ntmps36
    go_wp2_with fail
    refine (canBeSized_any m n cap P Q R S _ _ hn hcap (HD.out.ext (by (repeat (first | (with_reducible exact Below.refl _ _) | (with_reducible refine Ext.drewN ?_ _) | (with_reducible refine Below.drew ?_) | (with_reducible refine Ext.alloc ?_ _) | (with_reducible refine Ext.setCell ?_ (by simp; try omega) _) | (with_reducible refine Ext.trans ?_ (by assumption)) | (with_reducible assumption) | exact Below.refl _ _)))) (HR.out.ext (by (repeat (first | (with_reducible exact Below.refl _ _) | (with_reducible refine Ext.drewN ?_ _) | (with_reducible refine Below.drew ?_) | (with_reducible refine Ext.alloc ?_ _) | (with_reducible refine Ext.setCell ?_ (by simp; try omega) _) | (with_reducible refine Ext.trans ?_ (by assumption)) | (with_reducible assumption) | exact Below.refl _ _))))).mono ?_
    rintro e w1 ⟨rfl, bw1⟩
    rw [HB2.out]
    have B1 : Below w.heap.size w w1 := by (repeat (first | (with_reducible exact Below.refl _ _) | (with_reducible refine Ext.drewN ?_ _) | (with_reducible refine Below.drew ?_) | (with_reducible refine Ext.alloc ?_ _) | (with_reducible refine Ext.setCell ?_ (by simp; try omega) _) | (with_reducible refine Ext.trans ?_ (by assumption)) | (with_reducible assumption) | exact Below.refl _ _))
    clear bw1
    go_wp2_with fail
    refine (seeing_any m n cap P Q R S j j _ hn hcap (HD.out.ext B1) (HR.out.ext B1) HOK.out (by omega) (by omega)).mono ?_
    rintro e w2 ⟨⟨a2, c2, rfl, k2, O2⟩, bw2⟩
    rw [HL.out] at k2 O2 ⊢
    have O2 := Lib.hid O2
    have B2 := Ext.trans B1 bw2
    clear bw2
    go_wp2_with fail
    go_ret
    exact ⟨⟨a2, c2, rfl, k2, O2.out.mono B1.size⟩, B2⟩
set_option maxHeartbeats 2000000 in
theorem shrinkC_any (m : Option Addr) (n cap : Nat) (P Q R S : Nat → Int) (k : Int) (w : World) (hn : n ≤ 1048576) (hcap : n ≤ cap) (hD : EnvW w) (hR : RectsIs w.heap.size w m n P Q R S) :
    Calls Tryd.prog 37 #[.slice m n cap, .int .i64 k] w fun e w' => LOwnC w.heap.size (szL srF P Q R S n k) e w' ∧ Below w.heap.size w w' := by
  have HR := Lib.hid hR
  have HD := Lib.hid hD
  clear hR hD
  cases hb : (okR P Q R S n && inB k 0 10) with
  | false =>
    rw [szV_no hb]
    go_enter Tryd.func37, Tryd.ntmps37
    go_wp2_with fail
    refine (canBeSized_any m n cap P Q R S k _ hn hcap (HD.out.ext (by (repeat (first | (with_reducible exact Below.refl _ _) | (with_reducible refine Ext.drewN ?_ _) | (with_reducible refine Below.drew ?_) | (with_reducible refine Ext.alloc ?_ _) | (with_reducible refine Ext.setCell ?_ (by simp; try omega) _) | (with_reducible refine Ext.trans ?_ (by assumption)) | (with_reducible assumption) | exact Below.refl _ _)))) (HR.out.ext (by (repeat (first | (with_reducible exact Below.refl _ _) | (with_reducible refine Ext.drewN ?_ _) | (with_reducible refine Below.drew ?_) | (with_reducible refine Ext.alloc ?_ _) | (with_reducible refine Ext.setCell ?_ (by simp; try omega) _) | (with_reducible refine Ext.trans ?_ (by assumption)) | (with_reducible assumption) | exact Below.refl _ _))))).mono ?_
    rintro e w1 ⟨rfl, bw1⟩
    rw [hb]
    have B1 : Below w.heap.size w w1 := by (repeat (first | (with_reducible exact Below.refl _ _) | (with_reducible refine Ext.drewN ?_ _) | (with_reducible refine Below.drew ?_) | (with_reducible refine Ext.alloc ?_ _) | (with_reducible refine Ext.setCell ?_ (by simp; try omega) _) | (with_reducible refine Ext.trans ?_ (by assumption)) | (with_reducible assumption) | exact Below.refl _ _))
    clear bw1
    go_wp2_with fail
    go_ret
    exact ⟨nilC _ _, B1⟩
  | true =>
    rw [szV_yes hb]
    simp only [Bool.and_eq_true] at hb
    obtain ⟨hok, hk⟩ := hb
    obtain ⟨j, rfl, hj, -⟩ := inB_nat hk
    have hb2 : (okR P Q R S n && inB (j : Int) 0 10) = true := by rw [hok, hk]; rfl
    obtain ⟨L, hL⟩ : ∃ L, L = canonL (srF (covF P Q R S n) ((j : Int)).toNat) := ⟨_, rfl⟩
    rw [← hL]
    have HL : Hid (canonL (shF (covF P Q R S n) j j) = L) := Lib.hid (by rw [hL, Int.toNat_natCast]; rfl)
    have HOK := Lib.hid hok
    have HB2 := Lib.hid hb2
    clear hok hk hL hb2
    go_enter Tryd.func37, Tryd.ntmps37
    go_wp2_with fail
    refine (canBeSized_any m n cap P Q R S _ _ hn hcap (HD.out.ext (by (repeat (first | (with_reducible exact Below.refl _ _) | (with_reducible refine Ext.drewN ?_ _) | (with_reducible refine Below.drew ?_) | (with_reducible refine Ext.alloc ?_ _) | (with_reducible refine Ext.setCell ?_ (by simp; try omega) _) | (with_reducible refine Ext.trans ?_ (by assumption)) | (with_reducible assumption) | exact Below.refl _ _)))) (HR.out.ext (by (repeat (first | (with_reducible exact Below.refl _ _) | (with_reducible refine Ext.drewN ?_ _) | (with_reducible refine Below.drew ?_) | (with_reducible refine Ext.alloc ?_ _) | (with_reducible refine Ext.setCell ?_ (by simp; try omega) _) | (with_reducible refine Ext.trans ?_ (by assumption)) | (with_reducible assumption) | exact Below.refl _ _))))).mono ?_
    rintro e w1 ⟨rfl, bw1⟩
    rw [HB2.out]
    have B1 : Below w.heap.size w w1 := by (repeat (first | (with_reducible exact Below.refl _ _) | (with_reducible refine Ext.drewN ?_ _) | (with_reducible refine Below.drew ?_) | (with_reducible refine Ext.alloc ?_ _) | (with_reducible refine Ext.setCell ?_ (by simp; try omega) _) | (with_reducible refine Ext.trans ?_ (by assumption)) | (with_reducible assumption) | exact Below.refl _ _))
    clear bw1
    go_wp2_with fail
    refine (seeingOnly_any m n cap P Q R S j j _ hn hcap (HD.out.ext B1) (HR.out.ext B1) HOK.out (by omega) (by omega)).mono ?_
    rintro e w2 ⟨⟨a2, c2, rfl, k2, O2⟩, bw2⟩
    rw [HL.out] at k2 O2 ⊢
    have O2 := Lib.hid O2
    have B2 := Ext.trans B1 bw2
    clear bw2
    go_wp2_with fail
    go_ret
    exact ⟨⟨a2, c2, rfl, k2, O2.out.mono B1.size⟩, B2⟩

theorem cov_nil (k : Nat) : covF (pA []) (pB []) (pC []) (pD []) ([] : List R4).length k = false := rfl
theorem okR_nil : okR (pA []) (pB []) (pC []) (pD []) ([] : List R4).length = true := by
  have := okR_canonL (fun _ => false)
  rwa [canonL_none] at this
/-- A size's answer is a region. -/
theorem sz_okR (F : (Nat → Bool) → Nat → Nat → Bool) (P Q R S : Nat → Int) (n : Nat) (k : Int) : okR (pA (szL F P Q R S n k)) (pB (szL F P Q R S n k)) (pC (szL F P Q R S n k)) (pD (szL F P Q R S n k)) (szL F P Q R S n k).length = true := by
  cases hb : (okR P Q R S n && inB k 0 10) with
  | false => rw [szV_no hb]; exact okR_nil
  | true => rw [szV_yes hb]; exact okR_canonL _
theorem see_none (k : Nat) {f : Nat → Bool} (h : ∀ j, j < 6400 → f j = false) {j : Nat} (hj : j < 6400) : seeF f k k j = false := by
  rw [Bool.eq_false_iff]
  intro e
  obtain ⟨u, v, h1, h2, h3, h4, h5, h6, h7⟩ := (seeF_t _ _ _ _).1 e
  rw [h _ (by omega)] at h7
  cases h7
theorem sh_none (k : Nat) {f : Nat → Bool} (h : ∀ j, j < 6400 → f j = false) {j : Nat} (hj : j < 6400) : shF f k k j = false := by
  rw [Bool.eq_false_iff]
  intro e
  have := (shF_t _ _ _ _).1 e (j % 80) (j / 80) (by omega) (by omega) (by omega) (by omega) (by omega) (by omega)
  rw [h _ (by omega)] at this
  cases this
/-- One size after another. -/
theorem sz_two {F G H : (Nat → Bool) → Nat → Nat → Bool} (hH : ∀ f k j, H f k j = G (F f k) k j) (hc : ∀ (f g : Nat → Bool) (k : Nat), (∀ j, j < 6400 → f j = g j) → ∀ j, j < 6400 → G f k j = G g k j)
    (h0 : ∀ (f : Nat → Bool) (k : Nat), (∀ j, j < 6400 → f j = false) → ∀ j, j < 6400 → G f k j = false) (P Q R S : Nat → Int) (n : Nat) (k : Int) :
    szL G (pA (szL F P Q R S n k)) (pB (szL F P Q R S n k)) (pC (szL F P Q R S n k)) (pD (szL F P Q R S n k)) (szL F P Q R S n k).length k = szL H P Q R S n k := by
  have ho := sz_okR F P Q R S n k
  cases hb : (okR P Q R S n && inB k 0 10) with
  | false =>
    rw [szV_no hb]
    rw [szV_no hb] at ho
    rw [szV_no hb]
    cases hk : inB k 0 10 with
    | false => exact szV_no (by rw [hk, Bool.and_false])
    | true =>
      rw [szV_yes (by rw [okR_nil, hk]; rfl)]
      exact (canonL_congr fun j hj => h0 _ _ (fun i _ => cov_nil i) j hj).trans canonL_none
  | true =>
    have hk : inB k 0 10 = true := by simp only [Bool.and_eq_true] at hb; exact hb.2
    rw [szV_yes (F := H) hb, szV_yes (by rw [ho, hk]; rfl)]
    refine canonL_congr fun j hj => ?_
    rw [hH]
    refine hc _ _ _ (fun i hi => ?_) j hj
    rw [szV_yes hb]
    exact cov_canonL_all _ hi
theorem opn_two (P Q R S : Nat → Int) (n : Nat) (k : Int) : szL grF (pA (szL srF P Q R S n k)) (pB (szL srF P Q R S n k)) (pC (szL srF P Q R S n k)) (pD (szL srF P Q R S n k)) (szL srF P Q R S n k).length k = szL opnF P Q R S n k :=
  sz_two (F := srF) (G := grF) (H := opnF) (fun _ _ _ => rfl) (fun f g k h j hj => seeF_congr h k k hj) (fun f k h j hj => see_none k h hj) P Q R S n k
theorem cls_two (P Q R S : Nat → Int) (n : Nat) (k : Int) : szL srF (pA (szL grF P Q R S n k)) (pB (szL grF P Q R S n k)) (pC (szL grF P Q R S n k)) (pD (szL grF P Q R S n k)) (szL grF P Q R S n k).length k = szL clsF P Q R S n k :=
  sz_two (F := grF) (G := srF) (H := clsF) (fun _ _ _ => rfl) (fun f g k h j hj => shF_congr h k k hj) (fun f k h j hj => sh_none k h hj) P Q R S n k

set_option maxHeartbeats 2000000 in
theorem openingC_any (m : Option Addr) (n cap : Nat) (P Q R S : Nat → Int) (k : Int) (w : World) (hn : n ≤ 1048576) (hcap : n ≤ cap) (hD : EnvW w) (hR : RectsIs w.heap.size w m n P Q R S) :
    Calls Tryd.prog 40 #[.slice m n cap, .int .i64 k] w fun e w' => LOwnC w.heap.size (szL opnF P Q R S n k) e w' ∧ Below w.heap.size w w' := by
  have HR := Lib.hid hR
  have HD := Lib.hid hD
  clear hR hD
  obtain ⟨l1, hl⟩ : ∃ l1, l1 = szL srF P Q R S n k := ⟨_, rfl⟩
  have h2 := opn_two P Q R S n k
  rw [← hl] at h2
  have hlen : l1.length ≤ 3280 := by rw [hl]; exact szL_len _ _ _ _ _ _ _
  have HL := Lib.hid hl
  have H2 := Lib.hid h2
  clear hl h2
  go_enter Tryd.func40, Tryd.ntmps40
  go_wp2_with fail
  refine (shrinkC_any m n cap P Q R S k _ hn hcap (HD.out.ext (by (repeat (first | (with_reducible exact Below.refl _ _) | (with_reducible refine Ext.drewN ?_ _) | (with_reducible refine Below.drew ?_) | (with_reducible refine Ext.alloc ?_ _) | (with_reducible refine Ext.setCell ?_ (by simp; try omega) _) | (with_reducible refine Ext.trans ?_ (by assumption)) | (with_reducible assumption) | exact Below.refl _ _)))) (HR.out.ext (by (repeat (first | (with_reducible exact Below.refl _ _) | (with_reducible refine Ext.drewN ?_ _) | (with_reducible refine Below.drew ?_) | (with_reducible refine Ext.alloc ?_ _) | (with_reducible refine Ext.setCell ?_ (by simp; try omega) _) | (with_reducible refine Ext.trans ?_ (by assumption)) | (with_reducible assumption) | exact Below.refl _ _))))).mono ?_
  rintro e w1 ⟨⟨a1, c1, rfl, k1, O1⟩, bw1⟩
  rw [← HL.out] at k1 O1 ⊢
  have O1 := Lib.hid O1
  have B1 : Below w.heap.size w w1 := by (repeat (first | (with_reducible exact Below.refl _ _) | (with_reducible refine Ext.drewN ?_ _) | (with_reducible refine Below.drew ?_) | (with_reducible refine Ext.alloc ?_ _) | (with_reducible refine Ext.setCell ?_ (by simp; try omega) _) | (with_reducible refine Ext.trans ?_ (by assumption)) | (with_reducible assumption) | exact Below.refl _ _))
  clear bw1
  go_wp2_with fail
  refine (growC_any a1 l1.length c1 (pA l1) (pB l1) (pC l1) (pD l1) k _ (by omega) k1 (HD.out.ext B1) O1.out.rects).mono ?_
  rintro e w2 ⟨⟨a2, c2, rfl, k2, O2⟩, bw2⟩
  rw [H2.out] at k2 O2 ⊢
  have O2 := Lib.hid O2
  have B2 := Ext.trans B1 bw2
  clear bw2
  go_wp2_with fail
  go_ret
  exact ⟨⟨a2, c2, rfl, k2, O2.out.mono B1.size⟩, B2⟩

set_option maxHeartbeats 2000000 in
theorem closingC_any (m : Option Addr) (n cap : Nat) (P Q R S : Nat → Int) (k : Int) (w : World) (hn : n ≤ 1048576) (hcap : n ≤ cap) (hD : EnvW w) (hR : RectsIs w.heap.size w m n P Q R S) :
    Calls Tryd.prog 41 #[.slice m n cap, .int .i64 k] w fun e w' => LOwnC w.heap.size (szL clsF P Q R S n k) e w' ∧ Below w.heap.size w w' := by
  have HR := Lib.hid hR
  have HD := Lib.hid hD
  clear hR hD
  obtain ⟨l1, hl⟩ : ∃ l1, l1 = szL grF P Q R S n k := ⟨_, rfl⟩
  have h2 := cls_two P Q R S n k
  rw [← hl] at h2
  have hlen : l1.length ≤ 3280 := by rw [hl]; exact szL_len _ _ _ _ _ _ _
  have HL := Lib.hid hl
  have H2 := Lib.hid h2
  clear hl h2
  go_enter Tryd.func41, Tryd.ntmps41
  go_wp2_with fail
  refine (growC_any m n cap P Q R S k _ hn hcap (HD.out.ext (by (repeat (first | (with_reducible exact Below.refl _ _) | (with_reducible refine Ext.drewN ?_ _) | (with_reducible refine Below.drew ?_) | (with_reducible refine Ext.alloc ?_ _) | (with_reducible refine Ext.setCell ?_ (by simp; try omega) _) | (with_reducible refine Ext.trans ?_ (by assumption)) | (with_reducible assumption) | exact Below.refl _ _)))) (HR.out.ext (by (repeat (first | (with_reducible exact Below.refl _ _) | (with_reducible refine Ext.drewN ?_ _) | (with_reducible refine Below.drew ?_) | (with_reducible refine Ext.alloc ?_ _) | (with_reducible refine Ext.setCell ?_ (by simp; try omega) _) | (with_reducible refine Ext.trans ?_ (by assumption)) | (with_reducible assumption) | exact Below.refl _ _))))).mono ?_
  rintro e w1 ⟨⟨a1, c1, rfl, k1, O1⟩, bw1⟩
  rw [← HL.out] at k1 O1 ⊢
  have O1 := Lib.hid O1
  have B1 : Below w.heap.size w w1 := by (repeat (first | (with_reducible exact Below.refl _ _) | (with_reducible refine Ext.drewN ?_ _) | (with_reducible refine Below.drew ?_) | (with_reducible refine Ext.alloc ?_ _) | (with_reducible refine Ext.setCell ?_ (by simp; try omega) _) | (with_reducible refine Ext.trans ?_ (by assumption)) | (with_reducible assumption) | exact Below.refl _ _))
  clear bw1
  go_wp2_with fail
  refine (shrinkC_any a1 l1.length c1 (pA l1) (pB l1) (pC l1) (pD l1) k _ (by omega) k1 (HD.out.ext B1) O1.out.rects).mono ?_
  rintro e w2 ⟨⟨a2, c2, rfl, k2, O2⟩, bw2⟩
  rw [H2.out] at k2 O2 ⊢
  have O2 := Lib.hid O2
  have B2 := Ext.trans B1 bw2
  clear bw2
  go_wp2_with fail
  go_ret
  exact ⟨⟨a2, c2, rfl, k2, O2.out.mono B1.size⟩, B2⟩

/-- What is left of a region when what covers it shrunk is taken away. -/
theorem out_two (P Q R S : Nat → Int) (n : Nat) (k : Int) (hb : (okR P Q R S n && inB k 0 10) = true) : opL 4 P Q R S n (pA (szL srF P Q R S n k)) (pB (szL srF P Q R S n k)) (pC (szL srF P Q R S n k)) (pD (szL srF P Q R S n k)) (szL srF P Q R S n k).length = szL outF P Q R S n k := by
  have ho := sz_okR srF P Q R S n k
  have hok : okR P Q R S n = true := by simp only [Bool.and_eq_true] at hb; exact hb.1
  unfold opL
  rw [if_pos (by rw [hok, ho]; rfl), szV_yes (F := outF) hb]
  refine canonL_congr fun j hj => ?_
  unfold opF outF
  congr 1
  rw [szV_yes hb]
  exact cov_canonL_all _ hj
set_option maxHeartbeats 2000000 in
theorem outlineC_any (m : Option Addr) (n cap : Nat) (P Q R S : Nat → Int) (k : Int) (w : World) (hn : n ≤ 1048576) (hcap : n ≤ cap) (hD : EnvW w) (hR : RectsIs w.heap.size w m n P Q R S) :
    Calls Tryd.prog 59 #[.slice m n cap, .int .i64 k] w fun e w' => LOwnC w.heap.size (szL outF P Q R S n k) e w' ∧ Below w.heap.size w w' := by
  have HR := Lib.hid hR
  have HD := Lib.hid hD
  clear hR hD
  cases hb : (okR P Q R S n && inB k 0 10) with
  | false =>
    rw [szV_no hb]
    go_enter Tryd.func59, Tryd.ntmps59
    go_wp2_with fail
    refine (canBeSized_any m n cap P Q R S k _ hn hcap (HD.out.ext (by (repeat (first | (with_reducible exact Below.refl _ _) | (with_reducible refine Ext.drewN ?_ _) | (with_reducible refine Below.drew ?_) | (with_reducible refine Ext.alloc ?_ _) | (with_reducible refine Ext.setCell ?_ (by simp; try omega) _) | (with_reducible refine Ext.trans ?_ (by assumption)) | (with_reducible assumption) | exact Below.refl _ _)))) (HR.out.ext (by (repeat (first | (with_reducible exact Below.refl _ _) | (with_reducible refine Ext.drewN ?_ _) | (with_reducible refine Below.drew ?_) | (with_reducible refine Ext.alloc ?_ _) | (with_reducible refine Ext.setCell ?_ (by simp; try omega) _) | (with_reducible refine Ext.trans ?_ (by assumption)) | (with_reducible assumption) | exact Below.refl _ _))))).mono ?_
    rintro e w1 ⟨rfl, bw1⟩
    rw [hb]
    have B1 : Below w.heap.size w w1 := by (repeat (first | (with_reducible exact Below.refl _ _) | (with_reducible refine Ext.drewN ?_ _) | (with_reducible refine Below.drew ?_) | (with_reducible refine Ext.alloc ?_ _) | (with_reducible refine Ext.setCell ?_ (by simp; try omega) _) | (with_reducible refine Ext.trans ?_ (by assumption)) | (with_reducible assumption) | exact Below.refl _ _))
    clear bw1
    go_wp2_with fail
    go_ret
    exact ⟨nilC _ _, B1⟩
  | true =>
    have h2 := out_two P Q R S n k hb
    obtain ⟨l1, hl⟩ : ∃ l1, l1 = szL srF P Q R S n k := ⟨_, rfl⟩
    rw [← hl] at h2
    have hlen : l1.length ≤ 3280 := by rw [hl]; exact szL_len _ _ _ _ _ _ _
    have HL := Lib.hid hl
    have H2 := Lib.hid h2
    have HB := Lib.hid hb
    clear hl h2 hb
    go_enter Tryd.func59, Tryd.ntmps59
    go_wp2_with fail
    refine (canBeSized_any m n cap P Q R S k _ hn hcap (HD.out.ext (by (repeat (first | (with_reducible exact Below.refl _ _) | (with_reducible refine Ext.drewN ?_ _) | (with_reducible refine Below.drew ?_) | (with_reducible refine Ext.alloc ?_ _) | (with_reducible refine Ext.setCell ?_ (by simp; try omega) _) | (with_reducible refine Ext.trans ?_ (by assumption)) | (with_reducible assumption) | exact Below.refl _ _)))) (HR.out.ext (by (repeat (first | (with_reducible exact Below.refl _ _) | (with_reducible refine Ext.drewN ?_ _) | (with_reducible refine Below.drew ?_) | (with_reducible refine Ext.alloc ?_ _) | (with_reducible refine Ext.setCell ?_ (by simp; try omega) _) | (with_reducible refine Ext.trans ?_ (by assumption)) | (with_reducible assumption) | exact Below.refl _ _))))).mono ?_
    rintro e w1 ⟨rfl, bw1⟩
    rw [HB.out]
    have B1 : Below w.heap.size w w1 := by (repeat (first | (with_reducible exact Below.refl _ _) | (with_reducible refine Ext.drewN ?_ _) | (with_reducible refine Below.drew ?_) | (with_reducible refine Ext.alloc ?_ _) | (with_reducible refine Ext.setCell ?_ (by simp; try omega) _) | (with_reducible refine Ext.trans ?_ (by assumption)) | (with_reducible assumption) | exact Below.refl _ _))
    clear bw1
    go_wp2_with fail
    refine (shrinkC_any m n cap P Q R S k _ hn hcap (HD.out.ext B1) (HR.out.ext B1)).mono ?_
    rintro e w2 ⟨⟨a1, c1, rfl, k1, O1⟩, bw1⟩
    rw [← HL.out] at k1 O1 ⊢
    have O1 := Lib.hid O1
    have B2 := Ext.trans B1 bw1
    clear bw1
    go_wp2_with fail
    refine (implDifferenceC_any merge4_any m n cap P Q R S a1 l1.length c1 (pA l1) (pB l1) (pC l1) (pD l1) _ hn hcap (by omega) k1 (HD.out.ext B2) (HR.out.ext B2) O1.out.rects).mono ?_
    rintro e w3 ⟨⟨a2, c2, rfl, k2, O2⟩, bw2⟩
    rw [H2.out] at k2 O2 ⊢
    have O2 := Lib.hid O2
    have B3 := Ext.trans B2 bw2
    clear bw2
    go_wp2_with fail
    go_ret
    exact ⟨⟨a2, c2, rfl, k2, O2.out.mono B2.size⟩, B3⟩
theorem implGrow_any (m : Option Addr) (n cap : Nat) (P Q R S : Nat → Int) (k : Int) (w : World) (hn : n ≤ 1048576) (hcap : n ≤ cap) (hD : EnvW w) (hR : RectsIs w.heap.size w m n P Q R S) :
    Calls Tryd.prog 36 #[.slice m n cap, .int .i64 k] w fun e w' => LOwn w.heap.size (szL grF P Q R S n k) e w' ∧ Below w.heap.size w w' :=
  (growC_any m n cap P Q R S k w hn hcap hD hR).mono fun _ _ h => ⟨h.1.weak, h.2⟩
theorem implShrink_any (m : Option Addr) (n cap : Nat) (P Q R S : Nat → Int) (k : Int) (w : World) (hn : n ≤ 1048576) (hcap : n ≤ cap) (hD : EnvW w) (hR : RectsIs w.heap.size w m n P Q R S) :
    Calls Tryd.prog 37 #[.slice m n cap, .int .i64 k] w fun e w' => LOwn w.heap.size (szL srF P Q R S n k) e w' ∧ Below w.heap.size w w' :=
  (shrinkC_any m n cap P Q R S k w hn hcap hD hR).mono fun _ _ h => ⟨h.1.weak, h.2⟩
theorem implOpening_any (m : Option Addr) (n cap : Nat) (P Q R S : Nat → Int) (k : Int) (w : World) (hn : n ≤ 1048576) (hcap : n ≤ cap) (hD : EnvW w) (hR : RectsIs w.heap.size w m n P Q R S) :
    Calls Tryd.prog 40 #[.slice m n cap, .int .i64 k] w fun e w' => LOwn w.heap.size (szL opnF P Q R S n k) e w' ∧ Below w.heap.size w w' :=
  (openingC_any m n cap P Q R S k w hn hcap hD hR).mono fun _ _ h => ⟨h.1.weak, h.2⟩
theorem implClosing_any (m : Option Addr) (n cap : Nat) (P Q R S : Nat → Int) (k : Int) (w : World) (hn : n ≤ 1048576) (hcap : n ≤ cap) (hD : EnvW w) (hR : RectsIs w.heap.size w m n P Q R S) :
    Calls Tryd.prog 41 #[.slice m n cap, .int .i64 k] w fun e w' => LOwn w.heap.size (szL clsF P Q R S n k) e w' ∧ Below w.heap.size w w' :=
  (closingC_any m n cap P Q R S k w hn hcap hD hR).mono fun _ _ h => ⟨h.1.weak, h.2⟩
theorem implOutline_any (m : Option Addr) (n cap : Nat) (P Q R S : Nat → Int) (k : Int) (w : World) (hn : n ≤ 1048576) (hcap : n ≤ cap) (hD : EnvW w) (hR : RectsIs w.heap.size w m n P Q R S) :
    Calls Tryd.prog 59 #[.slice m n cap, .int .i64 k] w fun e w' => LOwn w.heap.size (szL outF P Q R S n k) e w' ∧ Below w.heap.size w w' :=
  (outlineC_any m n cap P Q R S k w hn hcap hD hR).mono fun _ _ h => ⟨h.1.weak, h.2⟩
end Go.Proofs.YtgccnongfdbalaaDoor
