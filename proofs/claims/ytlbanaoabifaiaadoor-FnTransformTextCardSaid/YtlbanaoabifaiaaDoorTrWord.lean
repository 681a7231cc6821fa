/- The program's first word of a transform's text. -/
import Derived.Test.YtlbanaoabifaiaaDoorTrFmt
import Derived.Test.YtlbanaoabifaiaaDoorShelf
namespace Go.Proofs.YtlbanaoabifaiaaDoor
open Go.RowKit
set_option linter.unusedVariables false
set_option linter.unusedSimpArgs false

theorem small_itoa (n : Int) (w : World) (h0 : 0 ≤ n) (h1 : n < 100) : Calls Tryd.prog 29 #[.int .i64 n, .int .i64 10] w fun e w' => e = .returned (.string (itoaB n)) ∧ w' = w := by
  obtain ⟨u, rfl⟩ : ∃ u : Nat, n = (u : Int) := ⟨n.toNat, by omega⟩
  refine (Tryd.strconv_FormatInt_10_small u (by omega) w).mono ?_
  rintro e w' ⟨rfl, rfl⟩
  refine ⟨?_, rfl⟩
  rw [itoaB, Lib.itoa, if_neg (by omega), Int.toNat_natCast]

set_option maxHeartbeats 4000000 in
theorem word_any (o : Int) (w : World) (o0 : 0 ≤ o) (o7 : o ≤ 7) : Calls Tryd.prog 28 #[.int .i64 o] w fun e w' => e = .returned (.string (letterB o ++ itoaB (o % 4))) ∧ Below w.heap.size w w' := by
  by_cases h4 : o < 4
  · have z0 := itoaB_size o (by omega) (by omega)
    have zL : (⟨#[114]⟩ : ByteArray).size = 1 := rfl
    have r1 := addR ⟨#[114]⟩ (itoaB o) (by omega)
    go_enter Tryd.func28, Tryd.ntmps28
    go_wp2_with (first | (go_at_call 29; refine (small_itoa _ _ (by omega) (by omega)).mono ?_; rintro e w1 ⟨rfl, rfl⟩))
    go_ret
    exact ⟨by rw [show o % 4 = o by omega]; simp [letterB, h4], by (repeat (first | (with_reducible exact Below.refl _ _) | (with_reducible refine Ext.drewN ?_ _) | (with_reducible refine Below.drew ?_) | (with_reducible refine Ext.alloc ?_ _) | (with_reducible refine Ext.setCell ?_ (by simp; try omega) _) | (with_reducible refine Ext.trans ?_ (by assumption)) | (with_reducible assumption) | exact Below.refl _ _))⟩
  · have e4 : o % 4 = o - 4 := by omega
    have z0 := itoaB_size (o - 4) (by omega) (by omega)
    have zL : (⟨#[109]⟩ : ByteArray).size = 1 := rfl
    have r1 := addR ⟨#[109]⟩ (itoaB (o - 4)) (by omega)
    rw [e4]
    go_enter Tryd.func28, Tryd.ntmps28
    go_wp2_with (first | (go_at_call 29; refine (small_itoa _ _ (by omega) (by omega)).mono ?_; rintro e w1 ⟨rfl, rfl⟩))
    go_ret
    exact ⟨by simp [letterB, h4], by (repeat (first | (with_reducible exact Below.refl _ _) | (with_reducible refine Ext.drewN ?_ _) | (with_reducible refine Below.drew ?_) | (with_reducible refine Ext.alloc ?_ _) | (with_reducible refine Ext.setCell ?_ (by simp; try omega) _) | (with_reducible refine Ext.trans ?_ (by assumption)) | (with_reducible assumption) | exact Below.refl _ _))⟩

end Go.Proofs.YtlbanaoabifaiaaDoor
