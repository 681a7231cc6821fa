/- FnExactRegionDistance answers true. Conditions: the rectangles' cells are in memory; the variables that regions read hold their tables. -/
import Derived.Test.YtgccnongfdbalaaDoorRDA
import Derived.Test.YtgccnongfdbalaaDoorQJ
import Derived.Test.YtgccnongfdbalaaDoorQP
import Derived.Test.YtgccnongfdbalaaDoorQI
import Derived.ProofKit
import Derived.OpenShut
import Derived.ShutString
import Derived.ChangeOld
import Derived.Carry
import Derived.Below
import Derived.Lib.SmallJoins
import Derived.Lib.LaidU8
import Derived.Test.YtgccnongfdbalaaDoorFacts
import Derived.OpenVars
import Derived.LaidMore
import Derived.Stop.Joined
import Derived.SevenTiedAt
import Derived.Test.YtgccnongfdbalaaDoorTie
import Derived.Test.YtgccnongfdbalaaDoorCards
namespace Go.Proofs.YtgccnongfdbalaaDoor
open Go.RowKit
set_option linter.unusedVariables false
set_option linter.unusedSimpArgs false

set_option maxHeartbeats 16000000 in
set_option maxRecDepth 100000 in
theorem walkRegionDistance (a0 : Option Addr) (n0 c0 : Nat) (a1 : Option Addr) (n1 c1 : Nat) (w : World) (hn0 : n0 ≤ maxLen) (hPe0 : ∃ P Q R S, RectsIs w.heap.size w a0 n0 P Q R S) (hn1 : n1 ≤ maxLen) (hPe1 : ∃ P Q R S, RectsIs w.heap.size w a1 n1 P Q R S) (hDb : EnvW w) :
    Calls Tryd.prog 16 #[.slice a0 n0 c0, .slice a1 n1 c1] w fun e w' => e = .returned (.bool true) ∧ Below w.heap.size w w' := by
  obtain ⟨P0, Q0, R0, S0, hP0⟩ := hPe0
  have HP0 := Lib.hid hP0
  obtain ⟨P1, Q1, R1, S1, hP1⟩ := hPe1
  have HP1 := Lib.hid hP1
  have HD := Lib.hid hDb
  clear hP0 hP1 hDb
  by_cases h0 : (n0 : Int) ≤ 1048576
  case neg =>
    go_enter Tryd.func16, Tryd.ntmps16
    go_wp2_with fail
    refine (szRectS_any a0 n0 c0 (1048576) _ (by omega) (by omega) hn0).mono ?_
    rintro e w1 ⟨rfl, rfl⟩
    rw [if_neg (by omega)]
    go_wp2_with fail
    go_ret
    exact ⟨rfl, Below.refl _ _⟩
  have q0 : ¬ (1048576 - (n0 : Int) < 0) := by omega
  have k0 : n0 ≤ 1048576 := by omega
  by_cases h1 : (n1 : Int) ≤ 1048576 - (n0 : Int)
  case neg =>
    go_enter Tryd.func16, Tryd.ntmps16
    go_wp2_with fail
    refine (szRectS_any a0 n0 c0 (1048576) _ (by omega) (by omega) hn0).mono ?_
    rintro e w1 ⟨rfl, rfl⟩
    rw [if_pos h0]
    go_wp2_with fail
    refine (szRectS_any a1 n1 c1 (1048576 - (n0 : Int)) _ (by omega) (by omega) hn1).mono ?_
    rintro e w1 ⟨rfl, rfl⟩
    rw [if_neg (by omega)]
    go_wp2_with fail
    go_ret
    exact ⟨rfl, Below.refl _ _⟩
  have q1 : ¬ (1048576 - (n0 : Int) - (n1 : Int) < 0) := by omega
  have k1 : n1 ≤ 1048576 := by omega
  obtain ⟨b, hb⟩ : ∃ b, b = rdV P0 Q0 R0 S0 n0 P1 Q1 R1 S1 n1 := ⟨_, rfl⟩
  have HB := Lib.hid hb
  clear hb
  have hne : (!(b == b)) = false := by simp
  have hne' : (b != b) = false := by simp
  go_enter Tryd.func16, Tryd.ntmps16
  go_wp2_with fail
  refine (szRectS_any a0 n0 c0 (1048576) _ (by omega) (by omega) hn0).mono ?_
  rintro e w1 ⟨rfl, rfl⟩
  rw [if_pos h0]
  go_wp2_with fail
  refine (szRectS_any a1 n1 c1 (1048576 - (n0 : Int)) _ (by omega) (by omega) hn1).mono ?_
  rintro e w1 ⟨rfl, rfl⟩
  rw [if_pos h1]
  go_wp2_with fail
  refine (toRectS_any a0 n0 c0 P0 Q0 R0 S0 _ k0 HP0.out).mono ?_
  rintro e u0 ⟨g10, ga10, gb10, rfl, bu0, T0⟩
  have T0 := Lib.hid T0
  have BU0 := bu0
  go_wp2_with fail
  refine (toRectS_any a1 n1 c1 P1 Q1 R1 S1 _ k1 (HP1.out.ext BU0)).mono ?_
  rintro e u1 ⟨g11, ga11, gb11, rfl, bu1, T1⟩
  have T1 := Lib.hid T1
  have T0 := Lib.hid (T0.out.ext bu1)
  have BU1 := Ext.trans BU0 bu1
  go_wp2_with fail
  refine (specRdV_any (some ⟨g10, 0, none⟩) n0 n0 P0 Q0 R0 S0 (some ⟨g11, 0, none⟩) n1 n1 P1 Q1 R1 S1 _ k0 k1 T0.out T1.out).mono ?_
  rintro e w2 ⟨rfl, bw2⟩
  rw [← HB.out]
  have B2 := Ext.trans BU1 bw2
  clear T0 bu0 BU0 ga10 gb10 T1 bu1 BU1 ga11 gb11 bw2
  go_wp2_with fail
  refine (toRectS_row a0 n0 c0 P0 Q0 R0 S0 _ k0 (HP0.out.ext B2)).mono ?_
  rintro e v0 ⟨g0, ga0, gb0, rfl, bv0, X0⟩
  have X0 := Lib.hid X0
  have BV0 := Ext.trans B2 bv0
  have lv0 := bv0.size
  go_wp2_with fail
  refine (toRectS_row a1 n1 c1 P1 Q1 R1 S1 _ k1 (HP1.out.ext BV0)).mono ?_
  rintro e v1 ⟨g1, ga1, gb1, rfl, bv1, X1⟩
  have X1 := Lib.hid X1
  have X0 := Lib.hid (X0.out.below bv1 gb0)
  have gb0 := Nat.lt_of_lt_of_le gb0 bv1.size
  have BV1 := Ext.trans BV0 bv1
  have lv1 := bv1.size
  have B3 := BV1
  clear bv0 bv1 BV0
  go_wp2_with fail
  refine (implRdV_any (some ⟨g0, 0, none⟩) n0 n0 P0 Q0 R0 S0 (some ⟨g1, 0, none⟩) n1 n1 P1 Q1 R1 S1 _ k0 (Nat.le_refl _) k1 (Nat.le_refl _) (HD.out.ext B3) X0.out.rects X1.out.rects).mono ?_
  rintro e w4 ⟨rfl, bw4⟩
  rw [← HB.out]
  have X0 := Lib.hid (X0.out.below bw4 gb0)
  have X1 := Lib.hid (X1.out.below bw4 gb1)
  have Bc := Ext.trans B3 bw4
  have l4 := bw4.size
  have gc0 := Nat.lt_of_lt_of_le gb0 l4
  have gc1 := Nat.lt_of_lt_of_le gb1 l4
  clear bw4
  go_wp2_with fail
  refine (toRectS_any a0 n0 c0 P0 Q0 R0 S0 _ k0 (HP0.out.ext Bc)).mono ?_
  rintro e x0 ⟨g60, ga60, gb60, rfl, bx0, T0⟩
  have T0 := Lib.hid T0
  have X0 := Lib.hid (X0.out.below bx0 gc0)
  have X1 := Lib.hid (X1.out.below bx0 gc1)
  have Bc := Ext.trans Bc bx0
  have lsx0 := bx0.size
  have gc0 := Nat.lt_of_lt_of_le gc0 lsx0
  have gc1 := Nat.lt_of_lt_of_le gc1 lsx0
  clear bx0
  go_wp2_with fail
  refine (eqRectS_any (some ⟨g0, 0, none⟩) (some ⟨g60, 0, none⟩) n0 n0 n0 P0 Q0 R0 S0 _ k0 X0.out.rects T0.out).mono ?_
  rintro e y0 ⟨rfl, by0⟩
  clear T0
  have X0 := Lib.hid (X0.out.below by0 gc0)
  have X1 := Lib.hid (X1.out.below by0 gc1)
  have Bc := Ext.trans Bc by0
  have lsy0 := by0.size
  have gc0 := Nat.lt_of_lt_of_le gc0 lsy0
  have gc1 := Nat.lt_of_lt_of_le gc1 lsy0
  clear by0
  go_wp2_with fail
  refine (toRectS_any a1 n1 c1 P1 Q1 R1 S1 _ k1 (HP1.out.ext Bc)).mono ?_
  rintro e x1 ⟨g61, ga61, gb61, rfl, bx1, T1⟩
  have T1 := Lib.hid T1
  have X0 := Lib.hid (X0.out.below bx1 gc0)
  have X1 := Lib.hid (X1.out.below bx1 gc1)
  have Bc := Ext.trans Bc bx1
  have lsx1 := bx1.size
  have gc0 := Nat.lt_of_lt_of_le gc0 lsx1
  have gc1 := Nat.lt_of_lt_of_le gc1 lsx1
  clear bx1
  go_wp2_with fail
  refine (eqRectS_any (some ⟨g1, 0, none⟩) (some ⟨g61, 0, none⟩) n1 n1 n1 P1 Q1 R1 S1 _ k1 X1.out.rects T1.out).mono ?_
  rintro e y1 ⟨rfl, by1⟩
  clear T1
  have X0 := Lib.hid (X0.out.below by1 gc0)
  have X1 := Lib.hid (X1.out.below by1 gc1)
  have Bc := Ext.trans Bc by1
  have lsy1 := by1.size
  have gc0 := Nat.lt_of_lt_of_le gc0 lsy1
  have gc1 := Nat.lt_of_lt_of_le gc1 lsy1
  clear by1
  go_wp2_with fail
  go_ret
  exact ⟨rfl, Bc⟩
end Go.Proofs.YtgccnongfdbalaaDoor

namespace Go.Proofs.YtgccnongfdbalaaDoor.fnExactRegionDistance
open Go.Proofs.YtgccnongfdbalaaDoor
open Go.ChangeShapes Go.WideShapes Go.ChangeAt Go.RowKit Go.Joins
open Go.ChangeMaps (open_string shut_string)
set_option linter.unusedVariables false

theorem addN0 (x : Addr) : x.add 0 = x := by simp [Addr.add]
theorem addNk (b o k : Nat) : (⟨b, o, none⟩ : Addr).add k = ⟨b, o + k, none⟩ := by
  unfold Addr.add
  split
  · rename_i h; subst h; rfl
  · rfl
theorem own : ownKnob Tryd.prog.godebug = none := by kernel_rfl
theorem laidOut : laidOutB Tryd.prog = true := by kernel_rfl

abbrev laid := Rows.fnExactRegionDistanceRow.laid
set_option maxRecDepth 100000 in
theorem lifted (os : Os) (started : os.Started) (H : Type) (enc : TypeId × Value → H) :
    ReturnsInHanded {} Tryd.checked os 16 .any (fun w args => (Rows.fnExactRegionDistanceSpec.pre enc Tryd.prog Tryd.f16 Rows.fnExactRegionDistanceRow.domain false w args ∧ laidMetH Tryd.prog Rows.fnExactRegionDistanceRow.laid w) ∧ sizedMet enc Tryd.prog Tryd.f16 (OpenSpec.ofChange Rows.fnExactRegionDistanceSpec) false w args)
      (Rows.fnExactRegionDistanceSpec.post enc Tryd.prog Tryd.f16 false true false false) := by
  refine returnsInHanded_of_change_and (C := Tryd.checked) (X := fun w _ => laidMetH Tryd.prog Rows.fnExactRegionDistanceRow.laid w) (fun _ _ _ hh h => h.of_heap hh) own started (by kernel_rfl) Tryd.func16
    (ChangeSpec.witness_shaped (enc := enc) (C := Tryd.checked) (os := os) (X := fun w _ => laidMetH Tryd.prog Rows.fnExactRegionDistanceRow.laid w) false (World.laidAll Tryd.prog os Rows.fnExactRegionDistanceRow.laid) #[.slice none 0 0, .slice none 0 0] 8 (World.laidAll_os _ _ _)
      (World.shaped_of_ZipB (by kernel_rfl) (by kernel_rfl)) (by kernel_rfl) (by kernel_rfl) (by kernel_rfl)
      (by rw [MakeChecks.laidMetH_plain _ _ _ (by kernel_rfl)]; exact laidMet_laidAll _ (by kernel_rfl) (by kernel_rfl))) ?_
  intro W base args ds gs before hval0 hW hcnd _ hL _
  have hval : ∀ (j : Nat) t v, Tryd.f16.params[j]? = some t → args[j]? = some v → Value.okWide Tryd.prog W .any base t v := hval0
  have hW' := hW
  obtain ⟨p, q, hA0, hV, rfl, hfz, hnd⟩ := hW
  have hA : DataW.TrodAll enc Tryd.prog W 0 (fun _ => true) true Tryd.f16.params.toList args.toList ds p := hA0
  rw [Tryd.params16] at hA hval
  obtain ⟨v0, vs0, d0, ds0, p0, q0, hargs, rfl, rfl, h0, r0⟩ := trodAll_cons hA
  obtain ⟨v1, vs1, d1, ds1, p1, q1, rfl, rfl, rfl, h1, r1⟩ := trodAll_cons r0
  obtain ⟨rfl, rfl, rfl⟩ := trodAll_nil r1
  obtain rfl : args = #[v0, v1] := by cases args; simp_all
  obtain ⟨g0, gt0, gcs0, gf0, gd0, gp0, rfl, hg1, hg2, hg3, hg4, hg5⟩ := trodVars_one hV
  have k0 := h0
  have lt0 : ∀ x ∈ p0, x.block < W.heap.size := by obtain ⟨m, hm⟩ := k0; exact DataW.trod_lt m _ _ _ hm
  obtain ⟨a0, len0, cap0, rfl⟩ := okWide_slice Tryd.underlying49 (hval 0 49 v0 rfl rfl)
  have pts0 : len0 ≤ maxLen ∧ ∃ P Q R S : Nat → Int, RectsIs W.heap.size W a0 len0 P Q R S := by
    obtain ⟨fuel, hf⟩ := h0
    exact rects_open hf
  have k1 := h1
  have lt1 : ∀ x ∈ p1, x.block < W.heap.size := by obtain ⟨m, hm⟩ := k1; exact DataW.trod_lt m _ _ _ hm
  obtain ⟨a1, len1, cap1, rfl⟩ := okWide_slice Tryd.underlying49 (hval 1 49 v1 rfl rfl)
  have pts1 : len1 ≤ maxLen ∧ ∃ P Q R S : Nat → Int, RectsIs W.heap.size W a1 len1 P Q R S := by
    obtain ⟨fuel, hf⟩ := h1
    exact rects_open hf
  have hEnv : EnvW W := ⟨deb_of_laid hL (by kernel_rfl) (by simp [Rows.fnExactRegionDistanceRow]), chip_of_laid hL (by kernel_rfl) (by simp [Rows.fnExactRegionDistanceRow])⟩
  clear hA0 hval0
  refine (walkRegionDistance a0 len0 cap0 a1 len1 cap1 W pts0.1 pts0.2 pts1.1 pts1.2 hEnv).mono fun e W' ⟨he, bel⟩ => ?_
  subst he
  exact ⟨_, rfl, _, _, _, [], _, _, hW', trodAll_mk1 (shut_bool Tryd.underlying4 _), (trodAll_cons_mk (Below.trod laidOut (by kernel_rfl) (of_decide_eq_true (by kernel_rfl)) k0 bel lt0) (trodAll_cons_mk (Below.trod laidOut (by kernel_rfl) (of_decide_eq_true (by kernel_rfl)) k1 bel lt1) trodAll_mk0)), (Below.trodVars laidOut bel (by kernel_rfl) hV), bel.frame _, fun h => by cases h⟩

end Go.Proofs.YtgccnongfdbalaaDoor.fnExactRegionDistance
