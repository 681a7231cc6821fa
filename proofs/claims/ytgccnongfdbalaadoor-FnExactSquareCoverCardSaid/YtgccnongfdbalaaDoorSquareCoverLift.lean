/- FnExactSquareCover answers true. Conditions: the rectangles' cells are in memory; the variables that regions read hold their tables. -/
import Derived.Test.YtgccnongfdbalaaDoorRBA
import Derived.Test.YtgccnongfdbalaaDoorQZ
import Derived.Test.YtgccnongfdbalaaDoorQV
import Derived.Test.YtgccnongfdbalaaDoorQJ
import Derived.Test.YtgccnongfdbalaaDoorQI
import Derived.ProofKit
import Derived.OpenShut
import Derived.ShutString
import Derived.ChangeOld
import Derived.Carry
import Derived.Below
import Derived.Lib.SmallJoins
import Derived.Lib.LaidU8
import Derived.Test.YtgccnongfdbalaaDoorFacts
import Derived.OpenVars
import Derived.LaidMore
import Derived.Stop.Joined
import Derived.SevenTiedAt
import Derived.Test.YtgccnongfdbalaaDoorTie
import Derived.Test.YtgccnongfdbalaaDoorCards
namespace Go.Proofs.YtgccnongfdbalaaDoor
open Go.RowKit
set_option linter.unusedVariables false
set_option linter.unusedSimpArgs false

set_option maxHeartbeats 16000000 in
set_option maxRecDepth 100000 in
theorem walkSquareCover (a0 : Option Addr) (n0 c0 : Nat) (kk : Int) (w : World) (hn0 : n0 ≤ maxLen) (hPe0 : ∃ P Q R S, RectsIs w.heap.size w a0 n0 P Q R S) (hDb : EnvW w) :
    Calls Tryd.prog 13 #[.slice a0 n0 c0, .int .i64 kk] w fun e w' => e = .returned (.bool true) ∧ Below w.heap.size w w' := by
  obtain ⟨P0, Q0, R0, S0, hP0⟩ := hPe0
  have HP0 := Lib.hid hP0
  have HD := Lib.hid hDb
  clear hP0 hDb
  by_cases h0 : (n0 : Int) ≤ 1048576
  case neg =>
    go_enter Tryd.func13, Tryd.ntmps13
    go_wp2_with fail
    refine (szRectS_any a0 n0 c0 (1048576) _ (by omega) (by omega) hn0).mono ?_
    rintro e w1 ⟨rfl, rfl⟩
    rw [if_neg (by omega)]
    go_wp2_with fail
    go_ret
    exact ⟨rfl, Below.refl _ _⟩
  have q0 : ¬ (1048576 - (n0 : Int) < 0) := by omega
  have k0 : n0 ≤ 1048576 := by omega
  have hlen := sqL_len P0 Q0 R0 S0 n0 kk
  obtain ⟨l, hl⟩ : ∃ l, l = sqL P0 Q0 R0 S0 n0 kk := ⟨_, rfl⟩
  rw [← hl] at hlen
  have HL := Lib.hid hl
  clear hl
  obtain ⟨N, hN⟩ : ∃ N, N = l.length := ⟨_, rfl⟩
  have HN := Lib.hid hN
  rw [← hN] at hlen
  clear hN
  have hmm : ((1 + 4 * (N : Int)) != (1 + 4 * (N : Int))) = false := by simp
  have hnn : ¬ (1 + 4 * (N : Int)) < 0 := by omega
  have hk : ¬ (1 + 4 * (n0 : Int)) < 0 := by omega
  go_enter Tryd.func13, Tryd.ntmps13
  go_wp2_with fail
  refine (szRectS_any a0 n0 c0 (1048576) _ (by omega) (by omega) hn0).mono ?_
  rintro e w1 ⟨rfl, rfl⟩
  rw [if_pos h0]
  go_wp2_with fail
  refine (toRectS_any a0 n0 c0 P0 Q0 R0 S0 _ k0 HP0.out).mono ?_
  rintro e u0 ⟨g10, ga10, gb10, rfl, bu0, T0⟩
  have T0 := Lib.hid T0
  have BU0 := bu0
  go_wp2_with fail
  refine (specSquareCover_all (some ⟨g10, 0, none⟩) n0 n0 P0 Q0 R0 S0 kk _ k0 T0.out).mono ?_
  rintro e w2 ⟨⟨a9, c9, rfl, RZ⟩, bw2⟩
  rw [← HL.out, ← HN.out]
  rw [← HL.out] at RZ
  have RZ := Lib.hid RZ
  have B2 := Ext.trans BU0 bw2
  clear T0 bu0 BU0 ga10 gb10 bw2
  go_wp2_with fail
  refine (toRectS_row a0 n0 c0 P0 Q0 R0 S0 _ k0 (HP0.out.ext B2)).mono ?_
  rintro e v0 ⟨g0, ga0, gb0, rfl, bv0, X0⟩
  have X0 := Lib.hid X0
  have RZ := Lib.hid (RZ.out.below bv0)
  have BV0 := Ext.trans B2 bv0
  have lv0 := bv0.size
  have B3 := BV0
  clear bv0
  go_wp2_with fail
  refine (implSquareCover_any (some ⟨g0, 0, none⟩) n0 n0 P0 Q0 R0 S0 kk _ k0 (Nat.le_refl _) (HD.out.ext B3) X0.out.rects).mono ?_
  rintro e w4 ⟨⟨a4, c4, rfl, O4⟩, bw4⟩
  rw [← HL.out, ← HN.out]
  rw [← HL.out] at O4
  have O := Lib.hid O4
  clear O4
  have RZ := Lib.hid (RZ.out.below (bw4.mono (by omega)))
  have X0 := Lib.hid (X0.out.below bw4 gb0)
  have Bc := Ext.trans B3 bw4
  have l4 := bw4.size
  have gc0 := Nat.lt_of_lt_of_le gb0 l4
  clear bw4
  go_wp2_with fail
  rw [HN.out]
  refine (eqRectS_any a4 a9 l.length c4 c9 (pA l) (pB l) (pC l) (pD l) _ (by have := HN.out; omega) O.out.rects (RZ.out.mono (by omega))).mono ?_
  rintro e w5 ⟨rfl, bw5⟩
  rw [← HN.out]
  have X0 := Lib.hid (X0.out.below bw5 gc0)
  have O := Lib.hid (O.out.below bw5)
  have RZ := Lib.hid (RZ.out.below (bw5.mono (by omega)))
  have Bc := Ext.trans Bc bw5
  have lsw5 := bw5.size
  have gc0 := Nat.lt_of_lt_of_le gc0 lsw5
  clear bw5
  go_wp2_with fail
  refine (toRectS_any a0 n0 c0 P0 Q0 R0 S0 _ k0 (HP0.out.ext Bc)).mono ?_
  rintro e x0 ⟨g60, ga60, gb60, rfl, bx0, T0⟩
  have T0 := Lib.hid T0
  have X0 := Lib.hid (X0.out.below bx0 gc0)
  have O := Lib.hid (O.out.below bx0)
  have RZ := Lib.hid (RZ.out.below (bx0.mono (by omega)))
  have Bc := Ext.trans Bc bx0
  have lsx0 := bx0.size
  have gc0 := Nat.lt_of_lt_of_le gc0 lsx0
  clear bx0
  go_wp2_with fail
  refine (eqRectS_any (some ⟨g0, 0, none⟩) (some ⟨g60, 0, none⟩) n0 n0 n0 P0 Q0 R0 S0 _ k0 X0.out.rects T0.out).mono ?_
  rintro e y0 ⟨rfl, by0⟩
  clear T0
  have X0 := Lib.hid (X0.out.below by0 gc0)
  have O := Lib.hid (O.out.below by0)
  have RZ := Lib.hid (RZ.out.below (by0.mono (by omega)))
  have Bc := Ext.trans Bc by0
  have lsy0 := by0.size
  have gc0 := Nat.lt_of_lt_of_le gc0 lsy0
  clear by0
  go_wp2_with fail
  refine (markRectS_rowK g0 n0 n0 (1) P0 Q0 R0 S0 _ k0 (by omega) (by omega) (by omega) X0.out).mono ?_
  rintro e z0 ⟨rfl, -, hw0⟩
  have O := Lib.hid (O.out.wr hw0 gb0)
  have RZ := Lib.hid (RZ.out.below (Wr.below (Below.refl _ _) hw0 (by omega) (by omega)))
  have lz0 := hw0.size
  have Bc := Wr.below Bc hw0 (by have := Bc.size; omega) (by have := B2.size; omega)
  clear X0 hw0
  go_wp2_with fail
  rw [HN.out]
  refine (eqRectS_any a4 a9 l.length c4 c9 (pA l) (pB l) (pC l) (pD l) _ (by have := HN.out; omega) O.out.rects (RZ.out.mono (by omega))).mono ?_
  rintro e w9 ⟨rfl, bw9⟩
  rw [← HN.out]
  have O := Lib.hid (O.out.below bw9)
  have RZ := Lib.hid (RZ.out.below (bw9.mono (by omega)))
  have Bc := Ext.trans Bc bw9
  have lsw9 := bw9.size
  clear bw9
  go_wp2_with fail
  rw [HN.out]
  refine (markOwn v0.heap.size a4 l c4 1 _ (by omega) (by have := HN.out; omega) (by omega) (by omega) O.out).mono ?_
  rintro e w10 ⟨rfl, H10, bw10⟩
  rw [← HN.out]
  have H := Lib.hid H10
  clear H10
  have RZ := Lib.hid (RZ.out.below (bw10.mono (by omega)))
  have B10 : Below w.heap.size w w10 := Bc.trans (bw10.mono (by have := B3.size; omega))
  have l10 := bw10.size
  clear O bw10 Bc
  go_wp2_with fail
  rw [HN.out]
  refine (heldOwn v0.heap.size a4 l.length c4 1 _ (by have := HN.out; omega) (by omega) (by omega) H.out).mono ?_
  rintro e w10' ⟨rfl, rfl⟩
  rw [← HN.out]
  go_wp2_with fail
  refine (toRectS_any a0 n0 c0 P0 Q0 R0 S0 _ k0 (HP0.out.ext B10)).mono ?_
  rintro e s0 ⟨g80, ga80, gb80, rfl, bs0, T0⟩
  have T0 := Lib.hid T0
  have H := Lib.hid (H.out.below bs0)
  have RZ := Lib.hid (RZ.out.below (bs0.mono (by omega)))
  have BS0 := Ext.trans B10 bs0
  have lt0 := bs0.size
  go_wp2_with fail
  refine (implSquareCover_any (some ⟨g80, 0, none⟩) n0 n0 P0 Q0 R0 S0 kk _ k0 (Nat.le_refl _) (HD.out.ext BS0) T0.out).mono ?_
  rintro e w12 ⟨⟨a12, c12, rfl, O12⟩, bw12⟩
  rw [← HL.out, ← HN.out]
  rw [← HL.out] at O12
  have O := Lib.hid O12
  clear O12
  have H := Lib.hid (H.out.below bw12)
  have RZ := Lib.hid (RZ.out.below (bw12.mono (by omega)))
  have B12 := Ext.trans BS0 bw12
  have l12 := bw12.size
  clear bw12
  go_wp2_with fail
  rw [HN.out]
  refine (eqRectS_any a12 a9 l.length c12 c9 (pA l) (pB l) (pC l) (pD l) _ (by have := HN.out; omega) O.out.rects (RZ.out.mono (by omega))).mono ?_
  rintro e w13 ⟨rfl, bw13⟩
  rw [← HN.out]
  have H := Lib.hid (H.out.below bw13)
  have B13 := Ext.trans B12 bw13
  clear bw13 RZ O
  go_wp2_with fail
  rw [HN.out]
  refine (heldOwn v0.heap.size a4 l.length c4 1 _ (by have := HN.out; omega) (by omega) (by omega) H.out).mono ?_
  rintro e w14 ⟨rfl, rfl⟩
  rw [← HN.out]
  go_wp2_with fail
  go_ret
  exact ⟨rfl, B13⟩
end Go.Proofs.YtgccnongfdbalaaDoor

namespace Go.Proofs.YtgccnongfdbalaaDoor.fnExactSquareCover
open Go.Proofs.YtgccnongfdbalaaDoor
open Go.ChangeShapes Go.WideShapes Go.ChangeAt Go.RowKit Go.Joins
open Go.ChangeMaps (open_string shut_string)
set_option linter.unusedVariables false

theorem addN0 (x : Addr) : x.add 0 = x := by simp [Addr.add]
theorem addNk (b o k : Nat) : (⟨b, o, none⟩ : Addr).add k = ⟨b, o + k, none⟩ := by
  unfold Addr.add
  split
  · rename_i h; subst h; rfl
  · rfl
theorem own : ownKnob Tryd.prog.godebug = none := by kernel_rfl
theorem laidOut : laidOutB Tryd.prog = true := by kernel_rfl

abbrev laid := Rows.fnExactSquareCoverRow.laid
set_option maxRecDepth 100000 in
theorem lifted (os : Os) (started : os.Started) (H : Type) (enc : TypeId × Value → H) :
    ReturnsInHanded {} Tryd.checked os 13 .any (fun w args => (Rows.fnExactSquareCoverSpec.pre enc Tryd.prog Tryd.f13 Rows.fnExactSquareCoverRow.domain false w args ∧ laidMetH Tryd.prog Rows.fnExactSquareCoverRow.laid w) ∧ sizedMet enc Tryd.prog Tryd.f13 (OpenSpec.ofChange Rows.fnExactSquareCoverSpec) false w args)
      (Rows.fnExactSquareCoverSpec.post enc Tryd.prog Tryd.f13 false true false false) := by
  refine returnsInHanded_of_change_and (C := Tryd.checked) (X := fun w _ => laidMetH Tryd.prog Rows.fnExactSquareCoverRow.laid w) (fun _ _ _ hh h => h.of_heap hh) own started (by kernel_rfl) Tryd.func13
    (ChangeSpec.witness_shaped (enc := enc) (C := Tryd.checked) (os := os) (X := fun w _ => laidMetH Tryd.prog Rows.fnExactSquareCoverRow.laid w) false (World.laidAll Tryd.prog os Rows.fnExactSquareCoverRow.laid) #[.slice none 0 0, .int .i64 0] 8 (World.laidAll_os _ _ _)
      (World.shaped_of_ZipB (by kernel_rfl) (by kernel_rfl)) (by kernel_rfl) (by kernel_rfl) (by kernel_rfl)
      (by rw [MakeChecks.laidMetH_plain _ _ _ (by kernel_rfl)]; exact laidMet_laidAll _ (by kernel_rfl) (by kernel_rfl))) ?_
  intro W base args ds gs before hval0 hW hcnd _ hL _
  have hval : ∀ (j : Nat) t v, Tryd.f13.params[j]? = some t → args[j]? = some v → Value.okWide Tryd.prog W .any base t v := hval0
  have hW' := hW
  obtain ⟨p, q, hA0, hV, rfl, hfz, hnd⟩ := hW
  have hA : DataW.TrodAll enc Tryd.prog W 0 (fun _ => true) true Tryd.f13.params.toList args.toList ds p := hA0
  rw [Tryd.params13] at hA hval
  obtain ⟨v0, vs0, d0, ds0, p0, q0, hargs, rfl, rfl, h0, r0⟩ := trodAll_cons hA
  obtain ⟨v1, vs1, d1, ds1, p1, q1, rfl, rfl, rfl, h1, r1⟩ := trodAll_cons r0
  obtain ⟨rfl, rfl, rfl⟩ := trodAll_nil r1
  obtain rfl : args = #[v0, v1] := by cases args; simp_all
  obtain ⟨g0, gt0, gcs0, gf0, gd0, gp0, rfl, hg1, hg2, hg3, hg4, hg5⟩ := trodVars_one hV
  have k0 := h0
  have lt0 : ∀ x ∈ p0, x.block < W.heap.size := by obtain ⟨m, hm⟩ := k0; exact DataW.trod_lt m _ _ _ hm
  obtain ⟨a0, len0, cap0, rfl⟩ := okWide_slice Tryd.underlying49 (hval 0 49 v0 rfl rfl)
  have pts0 : len0 ≤ maxLen ∧ ∃ P Q R S : Nat → Int, RectsIs W.heap.size W a0 len0 P Q R S := by
    obtain ⟨fuel, hf⟩ := h0
    exact rects_open hf
  have k1 := h1
  have lt1 : ∀ x ∈ p1, x.block < W.heap.size := by obtain ⟨m, hm⟩ := k1; exact DataW.trod_lt m _ _ _ hm
  obtain ⟨a1, rfl, -, -, w1⟩ := open_int Tryd.underlying2 (hval 1 2 v1 rfl rfl) h1
  have hEnv : EnvW W := ⟨deb_of_laid hL (by kernel_rfl) (by simp [Rows.fnExactSquareCoverRow]), chip_of_laid hL (by kernel_rfl) (by simp [Rows.fnExactSquareCoverRow])⟩
  clear hA0 hval0
  refine (walkSquareCover a0 len0 cap0 a1 W pts0.1 pts0.2 hEnv).mono fun e W' ⟨he, bel⟩ => ?_
  subst he
  exact ⟨_, rfl, _, _, _, [], _, _, hW', trodAll_mk1 (shut_bool Tryd.underlying4 _), (trodAll_cons_mk (Below.trod laidOut (by kernel_rfl) (of_decide_eq_true (by kernel_rfl)) k0 bel lt0) (trodAll_cons_mk (Below.trod laidOut (by kernel_rfl) (of_decide_eq_true (by kernel_rfl)) k1 bel lt1) trodAll_mk0)), (Below.trodVars laidOut bel (by kernel_rfl) hV), bel.frame _, fun h => by cases h⟩

end Go.Proofs.YtgccnongfdbalaaDoor.fnExactSquareCover
