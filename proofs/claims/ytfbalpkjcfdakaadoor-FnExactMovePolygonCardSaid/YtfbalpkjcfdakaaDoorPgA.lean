/- Polygons: when they are valid; their signed area; rotations. No program's run in it. -/
import Derived.Test.YtfbalpkjcfdakaaDoorEgP
namespace Go.Proofs.YtfbalpkjcfdakaaDoor
open Go.RowKit
set_option linter.unusedVariables false
set_option linter.unusedSimpArgs false

def flatB (X Y : Nat → Int) (i j k : Nat) : Bool := decide (Y i = Y j) && !decide (X i = X j) && decide (X j = X k) && !decide (Y j = Y k)
theorem flatB_iff {X Y : Nat → Int} {i j k : Nat} : flatB X Y i j k = true ↔ Y i = Y j ∧ X i ≠ X j ∧ X j = X k ∧ Y j ≠ Y k := by
  unfold flatB; simp [and_assoc]
/-- Do the sides from vertex i and from the next one have lengths and turn? -/
def turnB (X Y : Nat → Int) (n i : Nat) : Bool := onB (X i) (Y i) && (flatB X Y i ((i + 1) % n) ((i + 2) % n) || flatB Y X i ((i + 1) % n) ((i + 2) % n))
theorem turnB_iff {X Y : Nat → Int} {n i : Nat} : turnB X Y n i = true ↔ onB (X i) (Y i) = true ∧ ((Y i = Y ((i + 1) % n) ∧ X i ≠ X ((i + 1) % n) ∧ X ((i + 1) % n) = X ((i + 2) % n) ∧ Y ((i + 1) % n) ≠ Y ((i + 2) % n)) ∨ (X i = X ((i + 1) % n) ∧ Y i ≠ Y ((i + 1) % n) ∧ Y ((i + 1) % n) = Y ((i + 2) % n) ∧ X ((i + 1) % n) ≠ X ((i + 2) % n))) := by
  unfold turnB; rw [Bool.and_eq_true, Bool.or_eq_true, flatB_iff, flatB_iff]
def turnsB (X Y : Nat → Int) (n : Nat) : Bool := (List.range n).all (turnB X Y n)
theorem turnsB_f {X Y : Nat → Int} {n i : Nat} (h : i < n) (hf : turnB X Y n i = false) : turnsB X Y n = false := by
  unfold turnsB
  rw [List.all_eq_false]
  exact ⟨i, List.mem_range.2 h, by simp [hf]⟩
theorem turnsB_t {X Y : Nat → Int} {n : Nat} (h : ∀ i, i < n → turnB X Y n i = true) : turnsB X Y n = true := by
  unfold turnsB
  rw [List.all_eq_true]
  exact fun i hi => h i (List.mem_range.1 hi)
theorem turnsB_at {X Y : Nat → Int} {n i : Nat} (h : turnsB X Y n = true) (hi : i < n) : turnB X Y n i = true := by
  unfold turnsB at h
  exact List.all_eq_true.1 h i (List.mem_range.2 hi)
/-- Is the polygon valid? -/
def polyB (X Y : Nat → Int) (n : Nat) : Bool := (decide (4 ≤ n) && decide (n ≤ 12800) && decide (n % 2 = 0)) && turnsB X Y n
theorem polyB_t {X Y : Nat → Int} {n : Nat} (h : polyB X Y n = true) : 4 ≤ n ∧ n ≤ 12800 ∧ n % 2 = 0 ∧ turnsB X Y n = true := by
  unfold polyB at h; simpa [and_assoc] using h
theorem polyB_mk {X Y : Nat → Int} {n : Nat} (h1 : 4 ≤ n) (h2 : n ≤ 12800) (h3 : n % 2 = 0) : polyB X Y n = turnsB X Y n := by
  unfold polyB; simp [h1, h2, h3]
theorem polyB_f {X Y : Nat → Int} {n : Nat} (h : ¬ (4 ≤ n ∧ n ≤ 12800 ∧ n % 2 = 0)) : polyB X Y n = false := by
  cases hp : polyB X Y n with
  | false => rfl
  | true => exact absurd ⟨(polyB_t hp).1, (polyB_t hp).2.1, (polyB_t hp).2.2.1⟩ h

theorem elB_iff {a b c d : Int} : elB a b c d = true ↔ onB a b = true ∧ onB c d = true ∧ ((a = c ∧ b ≠ d) ∨ (a ≠ c ∧ b = d)) := by
  unfold elB
  rw [Bool.and_eq_true, Bool.and_eq_true, and_assoc]
  by_cases p : a = c <;> by_cases q : b = d <;> simp [p, q]
theorem elV_ne {a b c d : Int} (h : elB a b c d = true) : elV a b c d ≠ -1 := by
  rw [elV_t h]; omega
/-- The index before. -/
def pv (n i : Nat) : Nat := if i = 0 then n - 1 else i - 1
/-- Has side i a length, and does it turn off from the one before it? -/
def alt4 (P Q R S : Nat → Int) (n i : Nat) : Bool := elB (P i) (Q i) (R i) (S i) && (decide (P i = R i) != decide (P (pv n i) = R (pv n i)))
theorem alt4_iff {P Q R S : Nat → Int} {n i : Nat} : alt4 P Q R S n i = true ↔ elB (P i) (Q i) (R i) (S i) = true ∧ ¬ (P i = R i ↔ P (pv n i) = R (pv n i)) := by
  unfold alt4
  rw [Bool.and_eq_true]
  by_cases p : P i = R i <;> by_cases q : P (pv n i) = R (pv n i) <;> simp [p, q]
def altsB (P Q R S : Nat → Int) (n : Nat) : Bool := (List.range n).all (alt4 P Q R S n)
theorem altsB_f {P Q R S : Nat → Int} {n i : Nat} (h : i < n) (hf : alt4 P Q R S n i = false) : altsB P Q R S n = false := by
  unfold altsB
  rw [List.all_eq_false]
  exact ⟨i, List.mem_range.2 h, by simp [hf]⟩
theorem altsB_t {P Q R S : Nat → Int} {n : Nat} (h : ∀ i, i < n → alt4 P Q R S n i = true) : altsB P Q R S n = true := by
  unfold altsB
  rw [List.all_eq_true]
  exact fun i hi => h i (List.mem_range.1 hi)
theorem altsB_at {P Q R S : Nat → Int} {n i : Nat} (h : altsB P Q R S n = true) (hi : i < n) : alt4 P Q R S n i = true := by
  unfold altsB at h
  exact List.all_eq_true.1 h i (List.mem_range.2 hi)
theorem mod_nx {n i : Nat} (h : i < n) : (i + 1) % n = if i + 1 = n then 0 else i + 1 := by
  split
  · rename_i e; rw [e, Nat.mod_self]
  · exact Nat.mod_eq_of_lt (by omega)
theorem pv_lt {n i : Nat} (h : i < n) : pv n i < n := by unfold pv; split <;> omega
theorem nx_pv {n i : Nat} (h : i < n) : (pv n i + 1) % n = i := by
  rw [mod_nx (pv_lt h)]; unfold pv; split <;> split <;> omega
theorem pv_nx {n i : Nat} (h : i < n) : pv n ((i + 1) % n) = i := by
  rw [mod_nx h]; unfold pv; split <;> split <;> omega
theorem nx_nx {n i : Nat} : ((i + 1) % n + 1) % n = (i + 2) % n := by rw [Nat.mod_add_mod]
theorem nx2_pv {n i : Nat} (h : i < n) : (pv n i + 2) % n = (i + 1) % n := by rw [← nx_nx, nx_pv h]
/-- The sides of a polygon turn exactly if its vertices do. -/
theorem alts_turns (X Y : Nat → Int) (n : Nat) : altsB X Y (fun i => X ((i + 1) % n)) (fun i => Y ((i + 1) % n)) n = turnsB X Y n := by
  rw [Bool.eq_iff_iff]
  constructor
  · intro h
    refine turnsB_t fun i hi => ?_
    have hj : (i + 1) % n < n := Nat.mod_lt _ (by omega)
    have a := altsB_at h hi
    have b := altsB_at h hj
    rw [alt4_iff, elB_iff] at a b
    rw [pv_nx hi, nx_nx] at b
    rw [turnB_iff]
    refine ⟨a.1.1, ?_⟩
    obtain ⟨⟨_, _, a1⟩, _⟩ := a
    obtain ⟨⟨_, _, b1⟩, b2⟩ := b
    by_cases q : X i = X ((i + 1) % n)
    · by_cases q' : X ((i + 1) % n) = X ((i + 2) % n)
      · exact absurd ⟨fun _ => q, fun _ => q'⟩ b2
      · exact .inr ⟨q, by omega, by omega, q'⟩
    · by_cases q' : X ((i + 1) % n) = X ((i + 2) % n)
      · exact .inl ⟨by omega, q, q', by omega⟩
      · exact absurd ⟨fun k => absurd k q', fun k => absurd k q⟩ b2
  · intro h
    refine altsB_t fun i hi => ?_
    have hj : (i + 1) % n < n := Nat.mod_lt _ (by omega)
    have a := turnsB_at h hi
    have b := turnsB_at h hj
    have c := turnsB_at h (pv_lt hi)
    rw [turnB_iff] at a b c
    rw [nx_pv hi, nx2_pv hi] at c
    rw [alt4_iff, elB_iff]
    show _ ∧ ¬ (_ ↔ X (pv n i) = X ((pv n i + 1) % n))
    rw [nx_pv hi]
    refine ⟨⟨a.1, b.1, ?_⟩, ?_⟩
    · obtain ⟨_, a1⟩ := a
      omega
    · obtain ⟨_, a1⟩ := a
      obtain ⟨_, c1⟩ := c
      show ¬ (X i = X ((i + 1) % n) ↔ X (pv n i) = X i)
      intro k
      rcases c1 with c1 | c1
      · exact c1.2.1 (k.1 c1.2.2.1)
      · exact c1.2.2.2 (k.2 c1.1)
theorem turn_side {X Y : Nat → Int} {n i : Nat} (h : turnB X Y n i = true) : (X i = X ((i + 1) % n) ∧ Y i ≠ Y ((i + 1) % n)) ∨ (X i ≠ X ((i + 1) % n) ∧ Y i = Y ((i + 1) % n)) := by
  rw [turnB_iff] at h
  obtain ⟨_, h⟩ := h
  omega
theorem turn_on {X Y : Nat → Int} {n i : Nat} (h : turnB X Y n i = true) : (-40 ≤ X i ∧ X i ≤ 40) ∧ (-40 ≤ Y i ∧ Y i ≤ 40) := onB_t (turnB_iff.1 h).1

/-- The signed area of the first k sides. -/
def arS (P Q S : Nat → Int) : Nat → Int
  | 0 => 0
  | k + 1 => arS P Q S k + P k * (S k - Q k)
theorem mul_bound {a b A B : Int} (h1 : -A ≤ a) (h2 : a ≤ A) (h3 : -B ≤ b) (h4 : b ≤ B) : -(A * B) ≤ a * b ∧ a * b ≤ A * B := by
  have hA : 0 ≤ A := by omega
  have hB : 0 ≤ B := by omega
  have e1 : 0 ≤ (A - a) * (B - b) := Int.mul_nonneg (by omega) (by omega)
  have e2 : 0 ≤ (A + a) * (B + b) := Int.mul_nonneg (by omega) (by omega)
  have e3 : 0 ≤ (A - a) * (B + b) := Int.mul_nonneg (by omega) (by omega)
  have e4 : 0 ≤ (A + a) * (B - b) := Int.mul_nonneg (by omega) (by omega)
  rw [Int.sub_mul, Int.mul_sub, Int.mul_sub] at e1
  rw [Int.add_mul, Int.mul_add, Int.mul_add] at e2
  rw [Int.sub_mul, Int.mul_add, Int.mul_add] at e3
  rw [Int.add_mul, Int.mul_sub, Int.mul_sub] at e4
  omega
theorem arS_le (P Q S : Nat → Int) : ∀ k, (∀ i, i < k → (-40 ≤ P i ∧ P i ≤ 40) ∧ (-40 ≤ Q i ∧ Q i ≤ 40) ∧ (-40 ≤ S i ∧ S i ≤ 40)) → -(3200 * (k : Int)) ≤ arS P Q S k ∧ arS P Q S k ≤ 3200 * (k : Int)
  | 0, _ => by simp [arS]
  | k + 1, h => by
    have ih := arS_le P Q S k fun i hi => h i (by omega)
    have hk := h k (by omega)
    have := mul_bound (A := 40) (B := 80) (a := P k) (b := S k - Q k) (by omega) (by omega) (by omega) (by omega)
    rw [arS]
    omega
/-- What SignedArea answers. -/
def saV (X Y : Nat → Int) (n : Nat) : Int := if polyB X Y n = true then arS X Y (fun i => Y ((i + 1) % n)) n else 0

/-- Are the vertices of q those of p from vertex k on? -/
def rotB (X Y U V : Nat → Int) (n k : Nat) : Bool := (List.range n).all fun i => X ((i + k) % n) == U i && Y ((i + k) % n) == V i
theorem rotB_t {X Y U V : Nat → Int} {n k : Nat} (h : ∀ i, i < n → X ((i + k) % n) = U i ∧ Y ((i + k) % n) = V i) : rotB X Y U V n k = true := by
  unfold rotB
  rw [List.all_eq_true]
  exact fun i hi => by simp [h i (List.mem_range.1 hi)]
theorem rotB_f {X Y U V : Nat → Int} {n k i : Nat} (hi : i < n) (h : ¬ (X ((i + k) % n) = U i ∧ Y ((i + k) % n) = V i)) : rotB X Y U V n k = false := by
  unfold rotB
  rw [List.all_eq_false]
  refine ⟨i, List.mem_range.2 hi, ?_⟩
  simpa using h
theorem rotB_iff {X Y U V : Nat → Int} {n k : Nat} : rotB X Y U V n k = true ↔ ∀ i, i < n → X ((i + k) % n) = U i ∧ Y ((i + k) % n) = V i := by
  constructor
  · intro h i hi
    unfold rotB at h
    have := List.all_eq_true.1 h i (List.mem_range.2 hi)
    simpa using this
  · exact rotB_t
/-- What SamePolygon answers. -/
def sameB (X Y U V : Nat → Int) (n m : Nat) : Bool := (polyB X Y n && polyB U V m && decide (n = m)) && (List.range n).any (rotB X Y U V n)
end Go.Proofs.YtfbalpkjcfdakaaDoor
