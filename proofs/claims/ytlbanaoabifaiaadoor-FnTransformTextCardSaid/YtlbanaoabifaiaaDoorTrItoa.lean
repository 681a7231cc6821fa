/- The model's decimal numerals are Lib.itoa's, from -99 to 99. -/
import Derived.Test.YtlbanaoabifaiaaDoorTrNeg
import Derived.Lib.ItoaNum
namespace Go.Proofs.YtlbanaoabifaiaaDoor
open Go.RowKit
set_option linter.unusedVariables false
set_option linter.unusedSimpArgs false

theorem itoa_one (u : Nat) (h : u < 10) : Lib.itoa u = [UInt8.ofNat (48 + u)] := by
  rw [Lib.itoa, if_neg (by omega), Int.toNat_natCast, Lib.decDigits_one h]
theorem itoa_two (u : Nat) (h : ¬ u < 10) (h2 : u < 100) : Lib.itoa u = [UInt8.ofNat (48 + u / 10), UInt8.ofNat (48 + u % 10)] := by
  rw [Lib.itoa, if_neg (by omega), Int.toNat_natCast, Lib.decDigits_two h h2]
theorem itoa_neg1 (u : Nat) (h0 : 0 < u) (h : u < 10) : Lib.itoa (-(u : Int)) = [45, UInt8.ofNat (48 + u)] := by
  rw [Lib.itoa, if_pos (by omega), show (-(u : Int)).natAbs = u by omega, Lib.decDigits_one h]
theorem itoa_neg2 (u : Nat) (h : ¬ u < 10) (h2 : u < 100) : Lib.itoa (-(u : Int)) = [45, UInt8.ofNat (48 + u / 10), UInt8.ofNat (48 + u % 10)] := by
  rw [Lib.itoa, if_pos (by omega), show (-(u : Int)).natAbs = u by omega, Lib.decDigits_two h h2]

theorem nums_eq (xs : List Int) (us : List Nat) (h : xs.map Int.toNat = us) : strOfNums xs = ⟨(us.map UInt8.ofNat).toArray⟩ := by
  subst h; simp [strOfNums]

theorem l01Number_any (n : Int) (w : World) (h1 : -99 ≤ n) (h2 : n ≤ 99) : Calls Tryd.prog 49 #[.int .i64 n] w fun e w' => e = .returned (.string ⟨(Lib.itoa n).toArray⟩) ∧ Below w.heap.size w w' := by
  rcases (show n ≤ -10 ∨ (-9 ≤ n ∧ n ≤ -1) ∨ n = 0 ∨ (1 ≤ n ∧ n ≤ 9) ∨ 10 ≤ n by omega) with h | h | h | h | h
  · obtain ⟨u, rfl⟩ : ∃ u : Nat, n = -(u : Int) := ⟨n.natAbs, by omega⟩
    refine (l01Number_neg2 _ w h1 h).mono ?_
    rintro e w' ⟨he, hb⟩
    refine ⟨?_, hb⟩
    have t1 : (-(u : Int)).tmod 10 = -((u : Int) % 10) := by rw [Int.neg_tmod, Int.tmod_eq_emod_of_nonneg (by omega)]
    have t2 : (-(u : Int)).tdiv 10 = -((u : Int) / 10) := by rw [Int.neg_tdiv, Int.tdiv_eq_ediv_of_nonneg (by omega)]
    have t3 : (-((u : Int) / 10)).tmod 10 = -((u : Int) / 10) := by rw [Int.neg_tmod, Int.tmod_eq_emod_of_nonneg (by omega)]; omega
    rw [he, itoa_neg2 u (by omega) (by omega), t1, t2, t3, nums_eq _ [45, 48 + u / 10, 48 + u % 10] (by simp only [List.map_cons, List.map_nil]; congr 1; congr 1 <;> (try congr 1) <;> omega)]
    rfl
  · obtain ⟨u, rfl⟩ : ∃ u : Nat, n = -(u : Int) := ⟨n.natAbs, by omega⟩
    refine (l01Number_neg1 _ w h.1 h.2).mono ?_
    rintro e w' ⟨he, hb⟩
    refine ⟨?_, hb⟩
    rw [he, itoa_neg1 u (by omega) (by omega), nums_eq _ [45, 48 + u] (by simp only [List.map_cons, List.map_nil]; congr 1; congr 1; omega)]
    rfl
  · subst h
    refine (l01Number_zero w).mono ?_
    rintro e w' ⟨he, hb⟩
    exact ⟨by rw [he, show (0 : Int) = ((0 : Nat) : Int) from rfl, itoa_one 0 (by omega)]; rfl, hb⟩
  · obtain ⟨u, rfl⟩ : ∃ u : Nat, n = (u : Int) := ⟨n.toNat, by omega⟩
    refine (l01Number_one _ w h.1 h.2).mono ?_
    rintro e w' ⟨he, hb⟩
    refine ⟨?_, hb⟩
    rw [he, itoa_one u (by omega), nums_eq _ [48 + u] (by simp only [List.map_cons, List.map_nil]; congr 1)]
    rfl
  · obtain ⟨u, rfl⟩ : ∃ u : Nat, n = (u : Int) := ⟨n.toNat, by omega⟩
    refine (l01Number_two _ w h h2).mono ?_
    rintro e w' ⟨he, hb⟩
    refine ⟨?_, hb⟩
    rw [he, itoa_two u (by omega) (by omega), nums_eq _ [48 + u / 10, 48 + u % 10] (by simp only [List.map_cons, List.map_nil]; congr 1 <;> (try congr 1) <;> omega)]
    rfl

end Go.Proofs.YtlbanaoabifaiaaDoor
