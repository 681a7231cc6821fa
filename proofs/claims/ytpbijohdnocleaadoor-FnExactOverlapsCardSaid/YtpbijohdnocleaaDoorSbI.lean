/- The program's sets compared as a whole. No condition. -/
import Derived.Test.YtpbijohdnocleaaDoorSbC
import Derived.Test.YtpbijohdnocleaaDoorRiO
import Derived.ChangeKeysEq
namespace Go.Proofs.YtpbijohdnocleaaDoor
open Go.RowKit
set_option linter.unusedVariables false
set_option linter.unusedSimpArgs false

theorem eqColD (d : Nat) (a b c e : Int) (w : World) : (Op.equalIn (d + 2) 68 (.agg #[.int .u64 a, .int .u64 b]) (.agg #[.int .u64 c, .int .u64 e])).run Tryd.prog w = .ok (a == c && b == e) w := by
  have h : (Tryd.prog.info? 66).isSome = true := by kernel_rfl
  obtain ⟨i, hi⟩ := Option.isSome_iff_exists.1 h
  have c1 : Tryd.prog.cellsOf 66 = 1 := by kernel_rfl
  rw [run_equalIn_array w (d + 1) _ _ Tryd.underlying68 hi, c1]
  have r2 : List.range 2 = [0, 1] := rfl
  rw [r2]
  have hq : ∀ (a b : Int) (w : World), (Op.equalIn (d + 1) 66 (.int .u64 a) (.int .u64 b)).run Tryd.prog w = .ok (a == b) w := fun a b w => run_equalIn_int w d _ _ .u64 a b Tryd.underlying66
  have hp : ∀ (x0 x1 : Int) (w : World), (part 66 #[.int .u64 x0, .int .u64 x1] (0 * 1)).run Tryd.prog w = .ok (.int .u64 x0) w ∧ (part 66 #[.int .u64 x0, .int .u64 x1] (1 * 1)).run Tryd.prog w = .ok (.int .u64 x1) w :=
    fun _ _ _ => ⟨by kernel_rfl, by kernel_rfl⟩
  simp only [Op.eqItems, Sem.run_bind, (hp _ _ _).1, (hp _ _ _).2, Result.andThen_ok, hq, Sem.run_ite, Sem.run_pure]
  cases h0 : a == c <;> cases h1 : b == e <;> simp
theorem wArr_two (G : Nat → Nat) {j : Nat} (hj : j < 80) : (wArr G).extract (j * 2) (j * 2 + 2) = #[.int .u64 (G (j * 2) : Int), .int .u64 (G (j * 2 + 1) : Int)] := by
  apply Array.ext_getElem?
  intro i
  rw [Array.getElem?_extract]
  have hs := wArr_size G
  match i with
  | 0 => rw [if_pos (by omega)]; rw [Nat.add_zero, wArr_get G (by omega)]; rfl
  | 1 => rw [if_pos (by omega)]; rw [wArr_get G (by omega)]; rfl
  | i + 2 => rw [if_neg (by omega)]; rfl
theorem partCol (G : Nat → Nat) {j : Nat} (hj : j < 80) (w : World) : (part 68 (wArr G) (j * 2)).run Tryd.prog w = .ok (colV (G (j * 2)) (G (j * 2 + 1))) w := by
  have h1 : (isAgg 68).run Tryd.prog w = .ok true w := by kernel_rfl
  have h2 : (sizeOf 68).run Tryd.prog w = .ok 2 w := by kernel_rfl
  unfold part
  simp only [Sem.run_bind, h1, Result.andThen_ok, if_true, h2, Sem.run_pure, wArr_two G hj]
def eqW (G H : Nat → Nat) (j : Nat) : Bool := (G (j * 2) : Int) == (H (j * 2) : Int) && (G (j * 2 + 1) : Int) == (H (j * 2 + 1) : Int)
def eqG (G H : Nat → Nat) : Bool := (List.range 80).all (eqW G H)
theorem eqItems59 (d : Nat) (G H : Nat → Nat) (w : World) : ∀ is : List Nat, (∀ j, j ∈ is → j < 80) → (Op.eqItems (d + 2) 68 2 (wArr G) (wArr H) is).run Tryd.prog w = .ok (is.all (eqW G H)) w
  | [], _ => by simp [Op.eqItems]
  | j :: is, h => by
    have ih := eqItems59 d G H w is fun k hk => h k (by simp [hk])
    have hj := h j (by simp)
    simp only [Op.eqItems, Sem.run_bind, partCol G hj, partCol H hj, Result.andThen_ok, eqColD, Sem.run_ite, Sem.run_pure, ih, List.all_cons]
    unfold eqW
    cases ((G (j * 2) : Int) == (H (j * 2) : Int) && (G (j * 2 + 1) : Int) == (H (j * 2 + 1) : Int)) <;> simp
theorem eqRows (G H : Nat → Nat) (w : World) : (Op.equalIn 10000 70 (.agg (wArr G)) (.agg (wArr H))).run Tryd.prog w = .ok (eqG G H) w := by
  have h : (Tryd.prog.info? 68).isSome = true := by kernel_rfl
  obtain ⟨i, hi⟩ := Option.isSome_iff_exists.1 h
  have c1 : Tryd.prog.cellsOf 68 = 2 := by kernel_rfl
  rw [run_equalIn_array w 9999 _ _ Tryd.underlying70 hi, c1]
  exact eqItems59 9997 G H w _ fun j hj => List.mem_range.1 hj
theorem hasB_zero {F : Nat → Bool} {G : Nat → Nat} (hf : RowsOK F G) : eqG G (fun _ => 0) = true ↔ ∀ x y, hasB F x y = false := by
  unfold eqG
  rw [List.all_eq_true]
  constructor
  · intro h x y
    by_cases hin : (-40 ≤ x ∧ x ≤ 39) ∧ (-40 ≤ y ∧ y ≤ 39)
    · have h1 := h (y + 40).toNat (List.mem_range.2 (by omega))
      unfold eqW at h1
      simp only [Bool.and_eq_true, beq_iff_eq] at h1
      have hb := hf.bits (y + 40).toNat (by omega) (x + 40).toNat (by omega)
      rw [show (((x + 40).toNat : Nat) : Int) - 40 = x by omega, show (((y + 40).toNat : Nat) : Int) - 40 = y by omega] at hb
      rw [← hb, show G ((y + 40).toNat * 2) = 0 by omega, show G ((y + 40).toNat * 2 + 1) = 0 by omega]
      simp [colB]
    · exact hasB_out hin
  · intro h j hj
    have hj := List.mem_range.1 hj
    have hz : ∀ c : Nat, c < 80 → colB (G (j * 2)) (G (j * 2 + 1)) c = false := fun c hc => by rw [hf.bits j hj c hc]; exact h _ _
    have e1 : G (j * 2) = 0 := by
      apply Nat.eq_of_testBit_eq
      intro c
      rw [Nat.zero_testBit]
      by_cases hc : c < 64
      · have := hz c (by omega)
        unfold colB at this
        rwa [if_pos hc] at this
      · exact tb0 (n := 64) (hf.word _) (by omega)
    have e2 : G (j * 2 + 1) = 0 := by
      apply Nat.eq_of_testBit_eq
      intro c
      rw [Nat.zero_testBit]
      by_cases hc : c < 16
      · have := hz (c + 64) (by omega)
        unfold colB at this
        rwa [if_neg (by omega), Nat.add_sub_cancel] at this
      · exact tb0 (n := 16) (hf.high j hj) (by omega)
    unfold eqW
    simp [e1, e2]
theorem canonL_zero (F : Nat → Bool) : (canonL F).length = 0 ↔ ∀ x y, hasB F x y = false := by
  constructor
  · intro h x y
    by_cases hin : (-40 ≤ x ∧ x ≤ 39) ∧ (-40 ≤ y ∧ y ≤ 39)
    · rw [hasB_in hin]
      have hc := cov_canonL_all F (cIx_lt hin.1.1 hin.1.2 hin.2.1 hin.2.2)
      rw [h] at hc
      rw [← hc]
      rfl
    · exact hasB_out hin
  · intro h
    rw [canonL_same (g := fun _ => false) (fun x y _ _ _ _ => by rw [h x y]; unfold hasB; rw [Bool.and_false]), canonL_none]
    rfl
theorem eqG_canon {F : Nat → Bool} {G : Nat → Nat} (hf : RowsOK F G) : eqG G (fun _ => 0) = decide ((canonL F).length = 0) := by
  rw [Bool.eq_iff_iff, decide_eq_true_eq, hasB_zero hf, canonL_zero]
end Go.Proofs.YtpbijohdnocleaaDoor
