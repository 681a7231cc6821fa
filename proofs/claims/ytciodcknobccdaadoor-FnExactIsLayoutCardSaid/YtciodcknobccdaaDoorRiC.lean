/- The program's words: the mask left of a column, the union of two sets of columns, the count of set bits (its range alone), the trailing zeros. Condition: the table of math/bits is in memory. -/
import Derived.Test.YtciodcknobccdaaDoorRiB
import Derived.Test.YtciodcknobccdaaDoorRiA
import Derived.Test.YtciodcknobccdaaDoorReA
import Derived.Lib.LaidTab
import Derived.Lib.LaidU8
import Derived.LaidMore
import Derived.Lay
import Derived.Stop.Joined
namespace Go.Proofs.YtciodcknobccdaaDoor
open Go.RowKit Go.Lib
set_option linter.unusedVariables false
set_option linter.unusedSimpArgs false

/-- A pair of words. -/
abbrev colV (A B : Nat) : Value := .agg #[.int .u64 (A : Int), .int .u64 (B : Int)]
/-- A word's range. -/
def W64 (A : Nat) : Prop := A < 18446744073709551616

/-- The variable's cells hold the table. -/
def DebW (w : World) : Prop := ∀ i, i < 64 → w.cell? ⟨2, i, none⟩ = some (.int .u8 ((deBruijn64tab.getD i 0 : Nat) : Int))
theorem DebW.size {W : World} (h : DebW W) : 2 < W.heap.size := by
  have := h 0 (by omega)
  unfold World.cell? at this
  split at this
  · rename_i heq
    exact (Array.getElem?_eq_some_iff.1 heq).1
  · cases this
theorem DebW.below {W W' : World} (h : DebW W) {n : Nat} (hb : Below n W W') (hn : 2 < n) : DebW W' := fun i hi => (hb.cell (p := ⟨2, i, none⟩) hn).trans (h i hi)
theorem DebW.ext {W W' : World} (h : DebW W) (hb : Below W.heap.size W W') : DebW W' := h.below hb h.size
theorem DebW.kept {W W' : World} {X : Nat → Prop} (h : DebW W) (hb : Kept X W W') (hX : ¬ X 2) : DebW W' := fun i hi => (hb.cell (p := ⟨2, i, none⟩) h.size hX).trans (h i hi)
theorem DebW.ne {W : World} (h : DebW W) : ¬ W.heap = #[] := fun e => by have := h.size; rw [e] at this; simp at this
/-- The variables that regions read. -/
structure EnvW (w : World) : Prop where
  deb : DebW w
  chip : ChipW w
theorem EnvW.ext {W W' : World} (h : EnvW W) (hb : Below W.heap.size W W') : EnvW W' := ⟨h.deb.ext hb, h.chip.ext hb⟩

set_option maxHeartbeats 2000000 in
theorem with_any (a b c d : Nat) (w : World) (ha : W64 a) (hb : W64 b) (hc : W64 c) (hd : W64 d) :
    Calls Tryd.prog 169 #[colV a b, colV c d] w fun e w' => e = .returned (colV (a ||| c) (b ||| d)) ∧ Below w.heap.size w w' := by
  have h1 := bits_or_u64_nat a c ha hc
  have h2 := bits_or_u64_nat b d hb hd
  go_enter Tryd.func169, Tryd.ntmps169
  go_wp2_with fail
  refine bodyPost_ret (v := colV (a ||| c) (b ||| d)) (by simp [*, results, Tryd.results169, go_sem]) rfl ⟨rfl, ?_⟩
  (repeat (first | (with_reducible exact Below.refl _ _) | (with_reducible refine Ext.drewN ?_ _) | (with_reducible refine Below.drew ?_) | (with_reducible refine Ext.alloc ?_ _) | (with_reducible refine Ext.setCell ?_ (by simp; try omega) _) | (with_reducible refine Ext.trans ?_ (by assumption)) | (with_reducible assumption) | exact Below.refl _ _))

set_option maxHeartbeats 2000000 in
theorem without_any (a b c d : Nat) (w : World) (ha : W64 a) (hb : W64 b) (hc : W64 c) (hd : W64 d) :
    Calls Tryd.prog 182 #[colV a b, colV c d] w fun e w' => e = .returned (colV (a &&& (18446744073709551615 - c)) (b &&& (18446744073709551615 - d))) ∧ Below w.heap.size w w' := by
  have h1 := bits_andNot_u64_nat a c ha hc
  have h2 := bits_andNot_u64_nat b d hb hd
  go_enter Tryd.func182, Tryd.ntmps182
  go_wp2_with fail
  refine bodyPost_ret (v := colV (a &&& (18446744073709551615 - c)) (b &&& (18446744073709551615 - d))) (by simp [*, results, Tryd.results182, go_sem]) rfl ⟨rfl, ?_⟩
  (repeat (first | (with_reducible exact Below.refl _ _) | (with_reducible refine Ext.drewN ?_ _) | (with_reducible refine Below.drew ?_) | (with_reducible refine Ext.alloc ?_ _) | (with_reducible refine Ext.setCell ?_ (by simp; try omega) _) | (with_reducible refine Ext.trans ?_ (by assumption)) | (with_reducible assumption) | exact Below.refl _ _))

theorem mask_is (n : Nat) (h : n ≤ 64) : IntKind.u64.wrap (IntKind.u64.wrap (2 ^ n) - 1) = ((mk n : Nat) : Int) := by
  have e : (2 : Int) ^ n = ((2 ^ n : Nat) : Int) := by simp
  have hp : 0 < 2 ^ n := Nat.two_pow_pos n
  rw [e, IntKind.wrap_u64, IntKind.wrap_u64]
  unfold mk
  by_cases hn : n = 64
  · subst hn
    decide
  · have : 2 ^ n ≤ 2 ^ 63 := Nat.pow_le_pow_right (by decide) (by omega)
    omega

set_option maxHeartbeats 2000000 in
theorem left_any (x : Int) (w : World) (h1 : -40 ≤ x) (h2 : x ≤ 40) :
    Calls Tryd.prog 181 #[.int .i64 x] w fun e w' => e = .returned (colV (mk (min (x + 40).toNat 64)) (mk ((x + 40).toNat - 64))) ∧ Below w.heap.size w w' := by
  have m1 := mask_is (min (x + 40).toNat 64) (by omega)
  have m2 := mask_is ((x + 40).toNat - 64) (by omega)
  have e1 : min (x + 40).toNat 64 = (min (x + 40) 64).toNat := by omega
  have e2 : (x + 40).toNat - 64 = (max (x + 40 - 64) 0).toNat := by omega
  rw [e1] at m1 ⊢
  rw [e2] at m2 ⊢
  clear e1 e2
  go_enter Tryd.func181, Tryd.ntmps181
  go_wp2_with fail
  go_region
  all_goals go_wp2_with fail
  refine bodyPost_ret (v := colV (mk (min (x + 40) 64).toNat) (mk (max (x + 40 - 64) 0).toNat)) (by simp [*, results, Tryd.results181, go_sem]) rfl ⟨rfl, ?_⟩
  (repeat (first | (with_reducible exact Below.refl _ _) | (with_reducible refine Ext.drewN ?_ _) | (with_reducible refine Below.drew ?_) | (with_reducible refine Ext.alloc ?_ _) | (with_reducible refine Ext.setCell ?_ (by simp; try omega) _) | (with_reducible refine Ext.trans ?_ (by assumption)) | (with_reducible assumption) | exact Below.refl _ _))

set_option maxHeartbeats 2000000 in
theorem tz_any (a : Nat) (w : World) (ha : W64 a) (h0 : a ≠ 0) (hD : DebW w) :
    Calls Tryd.prog 173 #[.int .u64 (a : Int)] w fun e w' => e = .returned (.int .i64 ((ctz 64 a : Nat) : Int)) ∧ w' = w := by
  have hlow := lowest_bit 64 a h0 ha
  obtain ⟨k, hk⟩ : ∃ k, k = ctz 64 a := ⟨_, rfl⟩
  rw [← hk] at hlow ⊢
  obtain ⟨hl, hk64⟩ := hlow
  have hdb := deBruijn64_at k hk64
  obtain ⟨p, hp⟩ : ∃ p, p = 2 ^ k := ⟨_, rfl⟩
  rw [← hp] at hl hdb
  obtain ⟨q, hq⟩ : ∃ q, q = p * 285870213051353865 % 18446744073709551616 := ⟨_, rfl⟩
  rw [← hq] at hdb
  obtain ⟨j, hj⟩ : ∃ j, j = q / 288230376151711744 := ⟨_, rfl⟩
  rw [← hj] at hdb
  have hneg : IntKind.u64.wrap (-(a : Int)) = ((18446744073709551616 - a : Nat) : Int) := by
    rw [IntKind.wrap_u64]
    have : a < 18446744073709551616 := ha
    omega
  have hand := bits_and_u64_nat a (18446744073709551616 - a) ha (by omega)
  rw [show 18446744073709551616 - a = 2 ^ 64 - a by rfl, hl, show 2 ^ 64 - a = 18446744073709551616 - a by rfl] at hand
  have hmul : IntKind.u64.wrap ((p : Int) * 285870213051353865) = (q : Int) := by rw [IntKind.wrap_u64]; omega
  have hdiv : (q : Int) / 288230376151711744 = (j : Int) := by omega
  have hcell := hD j hdb.1
  rw [hdb.2] at hcell
  have hz : ((a : Int) == 0) = false := by simp; omega
  have hz1 : ¬ (a : Int) = 0 := by omega
  have hj1 : (0 : Int) ≤ (j : Int) := by omega
  have hj2 : (j : Int) < 64 := by have := hdb.1; omega
  have hw : IntKind.i64.wrap (k : Int) = k := by rw [IntKind.wrap_i64]; omega
  obtain ⟨c, hc⟩ : ∃ c : Nat, c = 18446744073709551616 - a := ⟨_, rfl⟩
  rw [← hc] at hneg hand
  clear hl hdb hp hq hj hk hc hD
  go_enter Tryd.func173, Tryd.ntmps173
  go_wp2_with fail
  go_ret
  exact ⟨rfl, rfl⟩

theorem and127 (z : Int) : 0 ≤ bits .and .i64 z 127 ∧ bits .and .i64 z 127 ≤ 127 := by
  have h1 : (BitVec.ofInt 64 z &&& BitVec.ofInt 64 127).toNat ≤ 127 := by
    rw [BitVec.toNat_and]
    exact Nat.le_trans Nat.and_le_right (by decide)
  show 0 ≤ IntKind.i64.wrap ((BitVec.ofInt 64 z &&& BitVec.ofInt 64 127).toNat : Int) ∧ IntKind.i64.wrap ((BitVec.ofInt 64 z &&& BitVec.ofInt 64 127).toNat : Int) ≤ 127
  rw [IntKind.wrap_i64]
  omega

theorem ret127 (z : Int) : ∃ n : Nat, n ≤ 127 ∧ Ending.returned (.int .i64 (bits .and .i64 z 127)) = .returned (.int .i64 (n : Int)) := by
  obtain ⟨u1, u2⟩ := and127 z
  obtain ⟨n, hn⟩ := Int.eq_ofNat_of_zero_le u1
  exact ⟨n, by omega, by rw [hn]⟩

set_option maxHeartbeats 2000000 in
theorem ones_any (a : Int) (w : World) :
    Calls Tryd.prog 183 #[.int .u64 a] w fun e w' => (∃ n : Nat, n ≤ 127 ∧ e = .returned (.int .i64 (n : Int))) ∧ w' = w := by
  go_enter Tryd.func183, Tryd.ntmps183
  go_wp2_with fail
  refine bodyPost_ret (results_tmp rfl _ _ _) rfl ?_
  exact ⟨ret127 _, rfl⟩
end Go.Proofs.YtciodcknobccdaaDoor
