/- The model's flags of the cells that a list of valid rectangles covers. -/
import Derived.Test.YtciodcknobccdaaDoorRgB
namespace Go.Proofs.YtciodcknobccdaaDoor
open Go.RowKit
set_option linter.unusedVariables false
set_option linter.unusedSimpArgs false
attribute [local go_sem ↓] Go.wp_at_zero Go.wp_at_succ

/-- Flags of the first n rectangles and of rows b .. y-1 of the next one; then of columns a .. x-1 of row y. -/
def fM (P Q R S : Nat → Int) (n : Nat) (y : Int) (i : Nat) : Bool :=
  covF P Q R S n i || (decide (P n ≤ (i % 80 : Nat) - 40) && decide (((i % 80 : Nat) : Int) - 40 < R n) && decide (Q n ≤ (i / 80 : Nat) - 40) && decide (((i / 80 : Nat) : Int) - 40 < y))
def fI (P Q R S : Nat → Int) (n : Nat) (y x : Int) (i : Nat) : Bool :=
  fM P Q R S n y i || (decide (((i / 80 : Nat) : Int) - 40 = y) && decide (P n ≤ (i % 80 : Nat) - 40) && decide (((i % 80 : Nat) : Int) - 40 < x))
theorem fM_start (P Q R S : Nat → Int) (n i : Nat) : covF P Q R S n i = fM P Q R S n (Q n) i := by
  unfold fM
  have h : (decide (Q n ≤ ((i / 80 : Nat) : Int) - 40) && decide (((i / 80 : Nat) : Int) - 40 < Q n)) = false := by rw [Bool.and_eq_false_iff, decide_eq_false_iff_not, decide_eq_false_iff_not]; omega
  rw [Bool.and_assoc, h]; simp
theorem fM_end (P Q R S : Nat → Int) (n i : Nat) : fM P Q R S n (S n) i = covF P Q R S (n + 1) i := by
  unfold fM covF; rw [covB]
theorem fI_start (P Q R S : Nat → Int) (n : Nat) (y : Int) (i : Nat) : fM P Q R S n y i = fI P Q R S n y (P n) i := by
  unfold fI
  have h : (decide (P n ≤ ((i % 80 : Nat) : Int) - 40) && decide (((i % 80 : Nat) : Int) - 40 < P n)) = false := by rw [Bool.and_eq_false_iff, decide_eq_false_iff_not, decide_eq_false_iff_not]; omega
  rw [Bool.and_assoc, h]; simp
theorem fI_end (P Q R S : Nat → Int) (n : Nat) (y : Int) (h : Q n ≤ y) (i : Nat) : fI P Q R S n y (R n) i = fM P Q R S n (y + 1) i := by
  unfold fI fM
  rw [Bool.eq_iff_iff]
  simp only [Bool.or_eq_true, Bool.and_eq_true, decide_eq_true_eq]
  cases covF P Q R S n i <;> simp only [false_or, true_or, or_true, Bool.false_eq_true] <;> omega
theorem fI_step (P Q R S : Nat → Int) (n : Nat) (y x : Int) (h1 : -40 ≤ x) (h2 : x ≤ 39) (h3 : -40 ≤ y) (h4 : y ≤ 39) (hp : P n ≤ x) (i : Nat) : (fI P Q R S n y x i || decide (i = cIx x y)) = fI P Q R S n y (x + 1) i := by
  unfold fI cIx
  rw [Bool.eq_iff_iff]
  simp only [Bool.or_eq_true, Bool.and_eq_true, decide_eq_true_eq]
  cases fM P Q R S n y i <;> simp only [false_or, true_or, or_true, Bool.false_eq_true] <;> omega

def BitsRes (B : Nat) (f : Nat → Bool) (e : Ending) (w : World) : Prop := ∃ g, e = .returned (.slice (some ⟨g, 0, none⟩) 6400 6400) ∧ B ≤ g ∧ BitsIs w g f

theorem infoB : (Tryd.prog.info? 4).map (fun i => (i.zero, i.size, i.bytes)) = some (some (.bool false), 1, 1) := by kernel_rfl
theorem made1 (n j : Nat) (h : j < n) : (madeCells (Value.bool false).cells n).toList[j]? = some (.bool false) := by
  have e : (Value.bool false).cells = #[.bool false] := rfl
  rw [e]
  simp only [madeCells, Array.getElem?_toList, Array.getElem?_map]
  rw [Array.getElem?_eq_getElem (by simpa using h)]
  simp only [Option.map_some, Array.getElem_range]
  simp [Nat.mod_one]
theorem bits_set {w : World} {g k : Nat} {f : Nat → Bool} (h : BitsIs w g f) (hk : k < 6400) : w.cell? ⟨g, k, none⟩ = some (.bool (f k)) ∧ w.frozen? ⟨g, k, none⟩ = false := h k hk

set_option maxHeartbeats 8000000 in
set_option maxRecDepth 100000 in
theorem l03Bits_any (m : Option Addr) (len cap : Nat) (P Q R S : Nat → Int) (w : World) (hlen : len ≤ 1048576) (hR : RectsIs w.heap.size w m len P Q R S) (hv : ∀ i, i < len → rvB (P i) (Q i) (R i) (S i) = true) :
    Calls Tryd.prog 105 #[.slice m len cap] w fun e w' => BitsRes w.heap.size (covF P Q R S len) e w' ∧ Below w.heap.size w w' := by
  have HR := Lib.hid hR
  have HV := Lib.hid hv
  clear hR hv
  obtain ⟨i0, hi, hz0, hz1, hz2⟩ := info_parts infoB
  go_enter Tryd.func105, Tryd.ntmps105
  go_wp2_with (at_make; refine wpList_make_full _ rfl _ _ 100 rfl w.heap.size 4 i0 (.bool false) 1 Tryd.underlying100 hi hz0 hz1 .i64 .i64 6400 6400 6400 rfl rfl rfl rfl (by rw [hz2]; omega) (by unfold maxLen; omega) (Nat.le_refl _) ?_; intro w1 own1 grow1)
  have hB1 : Below w.heap.size w w1 := (Below.refl _ _).grown grow1 (Nat.le_refl _) (fun k hk => by cases hk)
  have hF1 : BitsIs w1 w.heap.size (covF P Q R S 0) := fun k hk => by
    refine ⟨?_, own1.frozenAt _⟩
    rw [own1.cellAt _ (by omega)]
    exact made1 _ _ (by omega)
  have HF1 := Lib.hid hF1
  clear own1 grow1 hi hz0 hz1 hz2 hF1
  go_wp2_with fail
  go_loopw [4] (fun s wr => ∃ i : Nat, i ≤ len ∧ s = .int .i64 i ∧ Below w.heap.size w wr ∧ Hid (BitsIs wr w.heap.size (covF P Q R S i))) (fun s _ => len - (intOf s).toNat)
  case atStart => exact ⟨0, by omega, rfl, hB1, HF1⟩
  case round =>
    obtain ⟨i, hi, rfl, hW, HF⟩ := hrel
    by_cases hlt : i < len
    · obtain ⟨b1, o1, rfl, hb1, c0, c1, c2, c3⟩ := HR.out i hlt
      obtain ⟨v1, v2, v3, v4, v5, v6⟩ := rvB_t (HV.out i hlt)
      have q1 : (i : Int) < (len : Int) := by omega
      have q0 : (0 : Int) ≤ (i : Int) := by omega
      have d1 := keepC hW c1
      go_wp2_with fail
      go_loopw [5] (fun s wy => ∃ y : Int, Q i ≤ y ∧ y ≤ S i ∧ s = .int .i64 y ∧ Below w.heap.size w wy ∧ Hid (BitsIs wy w.heap.size (fM P Q R S i y))) (fun s _ => (S i - intOf s).toNat)
      case atStart => exact ⟨Q i, Int.le_refl _, by omega, rfl, hW, Lib.hid (HF.out.congr fun j _ => fM_start P Q R S i j)⟩
      case round =>
        obtain ⟨y, hy0, hy1, rfl, hY, HG⟩ := hrel
        have e3 := keepC hY c3
        by_cases hy : y < S i
        · have e0 := keepC hY c0
          go_wp2_with fail
          go_loopw [6] (fun s wx => ∃ x : Int, P i ≤ x ∧ x ≤ R i ∧ s = .int .i64 x ∧ Below w.heap.size w wx ∧ Hid (BitsIs wx w.heap.size (fI P Q R S i y x))) (fun s _ => (R i - intOf s).toNat)
          case atStart => exact ⟨P i, Int.le_refl _, by omega, rfl, hY, Lib.hid (HG.out.congr fun j _ => fI_start P Q R S i y j)⟩
          case round =>
            obtain ⟨x, hx0, hx1, rfl, hX, HH⟩ := hrel
            have k2 := keepC hX c2
            by_cases hx : x < R i
            · have hk := cIx_lt (x := x) (y := y) (by omega) (by omega) (by omega) (by omega)
              obtain ⟨g1, g2⟩ := bits_set HH.out hk
              have hstep := fun j (_ : j < 6400) => fI_step P Q R S i y x (by omega) (by omega) (by omega) (by omega) hx0 j
              have HS := Lib.hid ((HH.out.set hk).congr hstep)
              clear hstep
              generalize hkk : cIx x y = k at hk g1 g2 HS
              have r0 : (0 : Int) ≤ (k : Int) := by omega
              have r1 : (k : Int) < 6400 := by omega
              go_wp2_with (go_at_call 130; refine (l03At_any x y _ (by omega) (by omega) (by omega) (by omega)).mono ?_; rintro e wz ⟨rfl, rfl⟩; rw [hkk])
              go_roundw
              case rel => exact ⟨x + 1, by omega, by omega, by go_num, hX.setCell (Nat.le_refl _) _, HS⟩
              case measure => simp [intOf]; omega
            · obtain rfl : x = R i := by omega
              go_wp2_with fail
              go_roundw
              case rel => exact ⟨y + 1, by omega, by omega, by go_num, hX, Lib.hid (HH.out.congr fun j _ => fI_end P Q R S i y hy0 j)⟩
              case measure => simp [intOf]; omega
        · obtain rfl : y = S i := by omega
          go_wp2_with fail
          go_roundw
          case rel => exact ⟨i + 1, by omega, by go_num, hY, Lib.hid (HG.out.congr fun j _ => fM_end P Q R S i j)⟩
          case measure => simp [intOf]; omega
    · have q1 : ¬ (i : Int) < (len : Int) := by omega
      obtain rfl : i = len := by omega
      go_wp2_with fail
      go_ret
      exact ⟨⟨w.heap.size, rfl, Nat.le_refl _, HF.out⟩, hW⟩
end Go.Proofs.YtciodcknobccdaaDoor
