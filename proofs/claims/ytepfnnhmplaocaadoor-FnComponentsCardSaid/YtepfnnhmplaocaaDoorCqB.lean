/- The list that stage 7's statements draw: DrawFillHoles. Condition: the code's bytes lie in memory. -/
import Derived.Test.YtepfnnhmplaocaaDoorCqA
namespace Go.Proofs.YtepfnnhmplaocaaDoor
open Go.RowKit
set_option linter.unusedVariables false
set_option linter.unusedSimpArgs false
attribute [local go_sem ↓] Go.wp_at_zero Go.wp_at_succ

theorem one4 {w : World} {b : Nat} {p q r s : Int} (c0 : w.cell? ⟨b, 0, none⟩ = some (.int .i64 p)) (c1 : w.cell? ⟨b, 1, none⟩ = some (.int .i64 q)) (c2 : w.cell? ⟨b, 2, none⟩ = some (.int .i64 r)) (c3 : w.cell? ⟨b, 3, none⟩ = some (.int .i64 s)) : RectsIs w.heap.size w (some ⟨b, 0, none⟩) 1 (fun _ => p) (fun _ => q) (fun _ => r) (fun _ => s) := fun i hi => by
  obtain rfl : i = 0 := by omega
  exact ⟨b, 0, rfl, World.block_lt_of_cell? w ⟨b, 0, none⟩ c0, c0, c1, c2, c3⟩
set_option maxHeartbeats 8000000 in
theorem drawFillHoles_any (a : Option Addr) (len cap : Nat) (w : World) (hlen : len ≤ 8192) (hC : CodeIs w.heap.size w a len) :
    Calls Tryd.prog 37 #[.slice a len cap] w (DrawnRes w) := by
  go_enter Tryd.func37, Tryd.ntmps37
  go_wp2_with fail
  refine (l01From_any w.heap.size a len cap _ hlen (Nat.le_refl _) hC).mono ?_
  rintro e w1 ⟨g, hg0, hg1, rfl, bw1, hS1⟩
  have A1 := Lib.hid (show SrcAt w.heap.size g w1 w1 a len cap from ⟨Only.refl _ _, hS1, hC.below bw1, bw1.size⟩)
  have B1 := Lib.hid bw1
  have l1 := bw1.size
  clear hS1 bw1 hC
  go_wp2_with fail
  refine (drawFrame_any w.heap.size g a len cap w1 hlen l1 hg0 A1.out).mono ?_
  rintro e w2 ⟨h2, c2, f2, rfl, hI2, hA2⟩
  have I2 := Lib.hid hI2
  have A2 := Lib.hid hA2
  have l2 := hA2.1.size
  have n2 := canonL_len f2
  clear hI2 hA2 A1
  go_wp2_with fail
  refine (A2.out.next2 2 hlen hg0 (by omega) (by omega)).mono ?_
  rintro e w3 ⟨⟨r3, p3, q3, rfl⟩, on3, hA3⟩
  have I3 := Lib.hid (I2.out.only on3 hg1)
  have A3 := Lib.hid hA3
  have l3 := on3.size
  clear hA3 on3 I2 A2
  by_cases hr : r3 = 0
  · subst hr
    go_wp2_with fail
    refine (A3.out.rect hlen hg0).mono ?_
    rintro e w4 ⟨⟨p, q, r, s, hv, rfl⟩, on4, hA4⟩
    have A4 := Lib.hid hA4
    have l4 := on4.size
    have HV : Hid (∀ i : Nat, i < 1 → rvB p q r s = true) := Lib.hid (fun _ _ => hv)
    clear hA4 on4 I3 A3 hv
    go_wp2_with fail
    obtain ⟨W4, hW4⟩ : ∃ W4, W4 = w4.alloc (.cells #[.int .i64 p, .int .i64 q, .int .i64 r, .int .i64 s] 39) := ⟨_, rfl⟩
    have A5 := Lib.hid (show SrcAt w.heap.size g w1 W4 a len cap by rw [hW4]; exact A4.out.ext ((Below.refl _ _).alloc (Nat.le_refl _) _))
    have y0 : W4.cell? ⟨w4.heap.size, 0, none⟩ = some (.int .i64 p) := by rw [hW4]; simp [go_sem]
    have y1 : W4.cell? ⟨w4.heap.size, 1, none⟩ = some (.int .i64 q) := by rw [hW4]; simp [go_sem]
    have y2 : W4.cell? ⟨w4.heap.size, 2, none⟩ = some (.int .i64 r) := by rw [hW4]; simp [go_sem]
    have y3 : W4.cell? ⟨w4.heap.size, 3, none⟩ = some (.int .i64 s) := by rw [hW4]; simp [go_sem]
    have s4 : w4.heap.size < W4.heap.size := World.block_lt_of_cell? W4 ⟨w4.heap.size, 0, none⟩ y0
    rw [← hW4]
    obtain ⟨N4, hN4⟩ : ∃ N4, w4.heap.size = N4 := ⟨_, rfl⟩
    rw [hN4] at y0 y1 y2 y3 s4 l4 ⊢
    clear hW4 A4 hN4
    go_region_held3 (fun w' => Below W4.heap.size W4 w' ∧ W4.heap.size ≤ w'.heap.size ∧ w'.cell? ⟨N4, 0, none⟩ = some (.int .i64 p) ∧ w'.cell? ⟨N4, 1, none⟩ = some (.int .i64 q) ∧ w'.cell? ⟨N4, 2, none⟩ = some (.int .i64 r) ∧ w'.cell? ⟨N4, 3, none⟩ = some (.int .i64 s))
      (first | ((try dsimp only); go_split_ands; (repeat' (with_reducible refine And.intro ?_ ?_)) <;> first | ((repeat (with_reducible refine keepS ?_ (by simp; try omega) _)); (first | (with_reducible assumption) | (with_reducible exact keepC (by assumption) (by assumption)) | (with_reducible exact keepA (by assumption) _) | (with_reducible exact keepR (by assumption) (by omega) _))) | ((try simp only [World.size_alloc, World.size_setCell, World.size_drew]); omega) | (refine Mats.below hM ?_ hM.size; (repeat (first | (with_reducible exact Below.refl _ _) | (with_reducible refine Ext.drewN ?_ _) | (with_reducible refine Below.drew ?_) | (with_reducible refine Ext.alloc ?_ _) | (with_reducible refine Ext.setCell ?_ (by simp; try omega) _) | (with_reducible refine Ext.trans ?_ (by assumption)) | (with_reducible assumption) | exact Below.refl _ _)); done) | ((repeat (first | (with_reducible exact Below.refl _ _) | (with_reducible refine Ext.drewN ?_ _) | (with_reducible refine Below.drew ?_) | (with_reducible refine Ext.alloc ?_ _) | (with_reducible refine Ext.setCell ?_ (by simp; try omega) _) | (with_reducible refine Ext.trans ?_ (by assumption)) | (with_reducible assumption) | exact Below.refl _ _)); done) | (go_keep; done)))
      ((first
        | (have k6 := hb6; clear k6; have k7 := hb7; clear k7; go_at_call 69; go_loud (refine (l03Canon_any g8 6400 _ _ hb8).mono ?_; rintro e v9 ⟨⟨h9, c9, rfl, hI9⟩, bv9⟩; obtain ⟨sv9, zv9, cv9, fv9⟩ := bcell bv9; (try simp only [World.size_alloc, World.size_setCell, World.size_drew] at sv9)))
        | (have k6 := hb6; clear k6; have k7 := hb7; clear k7; go_at_call 70; go_loud (refine (l04Combine_any g6 g7 6400 6400 _ _ 4 (by decide) _ (hb6.below (by (repeat (first | (with_reducible exact Below.refl _ _) | (with_reducible refine Ext.drewN ?_ _) | (with_reducible refine Below.drew ?_) | (with_reducible refine Ext.alloc ?_ _) | (with_reducible refine Ext.setCell ?_ (by simp; try omega) _) | (with_reducible refine Ext.trans ?_ (by assumption)) | (with_reducible assumption) | exact Below.refl _ _)))) hb7).mono ?_; rintro e v8 ⟨⟨g8, rfl, hg8, hb8⟩, bv8⟩; obtain ⟨sv8, zv8, cv8, fv8⟩ := bcell bv8; (try simp only [World.size_alloc, World.size_setCell, World.size_drew] at sv8)))
        | (have k6 := hb6; clear k6; go_at_call 57; go_loud (refine (l03Bits_any _ 1 1 (fun _ => p) (fun _ => q) (fun _ => r) (fun _ => s) _ (by omega) (one4 (by first | (simp [go_sem]; done) | exact keepC bv6 (by simp [go_sem]) | exact keepC bv6 (keepC bv5 (by simp [go_sem])) | exact keepC (by assumption) (by assumption)) (by first | (simp [go_sem]; done) | exact keepC bv6 (by simp [go_sem]) | exact keepC bv6 (keepC bv5 (by simp [go_sem])) | exact keepC (by assumption) (by assumption)) (by first | (simp [go_sem]; done) | exact keepC bv6 (by simp [go_sem]) | exact keepC bv6 (keepC bv5 (by simp [go_sem])) | exact keepC (by assumption) (by assumption)) (by first | (simp [go_sem]; done) | exact keepC bv6 (by simp [go_sem]) | exact keepC bv6 (keepC bv5 (by simp [go_sem])) | exact keepC (by assumption) (by assumption))) HV.out).mono ?_; rintro e v7 ⟨⟨g7, rfl, hg7, hb7⟩, bv7⟩; obtain ⟨sv7, zv7, cv7, fv7⟩ := bcell bv7; (try simp only [World.size_alloc, World.size_setCell, World.size_drew] at sv7)))
        | (have k5 := hb5; clear k5; go_at_call 71; go_loud (refine (l05GrowBits_any g5 6400 _ 1 (by omega) _ (hb5.below (by (repeat (first | (with_reducible exact Below.refl _ _) | (with_reducible refine Ext.drewN ?_ _) | (with_reducible refine Below.drew ?_) | (with_reducible refine Ext.alloc ?_ _) | (with_reducible refine Ext.setCell ?_ (by simp; try omega) _) | (with_reducible refine Ext.trans ?_ (by assumption)) | (with_reducible assumption) | exact Below.refl _ _))))).mono ?_; rintro e v6 ⟨⟨g6, rfl, hg6, hb6⟩, bv6⟩; obtain ⟨sv6, zv6, cv6, fv6⟩ := bcell bv6; (try simp only [World.size_alloc, World.size_setCell, World.size_drew] at sv6)))
        | (go_at_call 57; go_loud (refine (l03Bits_any _ 1 1 (fun _ => p) (fun _ => q) (fun _ => r) (fun _ => s) _ (by omega) (one4 (by first | (simp [go_sem]; done) | exact keepC bv6 (by simp [go_sem]) | exact keepC bv6 (keepC bv5 (by simp [go_sem])) | exact keepC (by assumption) (by assumption)) (by first | (simp [go_sem]; done) | exact keepC bv6 (by simp [go_sem]) | exact keepC bv6 (keepC bv5 (by simp [go_sem])) | exact keepC (by assumption) (by assumption)) (by first | (simp [go_sem]; done) | exact keepC bv6 (by simp [go_sem]) | exact keepC bv6 (keepC bv5 (by simp [go_sem])) | exact keepC (by assumption) (by assumption)) (by first | (simp [go_sem]; done) | exact keepC bv6 (by simp [go_sem]) | exact keepC bv6 (keepC bv5 (by simp [go_sem])) | exact keepC (by assumption) (by assumption))) HV.out).mono ?_; rintro e v5 ⟨⟨g5, rfl, hg5, hb5⟩, bv5⟩; obtain ⟨sv5, zv5, cv5, fv5⟩ := bcell bv5; (try simp only [World.size_alloc, World.size_setCell, World.size_drew] at sv5)))))
    all_goals
      rename_i hHeld
      obtain ⟨hb9, hs9, -⟩ := hHeld
      have A9 := Lib.hid (A5.out.ext hb9)
      obtain ⟨f9, hf9⟩ : ∃ f : Nat → Bool, (fun i => tt 4 (seeF (covF (fun _ => p) (fun _ => q) (fun _ => r) (fun _ => s) 1) 1 1 i) (covF (fun _ => p) (fun _ => q) (fun _ => r) (fun _ => s) 1 i)) = f := ⟨_, rfl⟩
      rw [hf9] at hI9 ⊢
      have I9 := Lib.hid (hI9.lower (show w1.heap.size ≤ v8.heap.size by omega))
      have n9 := canonL_len f9
      clear hI9 hb9 hb5 hb6 hb7 hb8 hf9
      go_wp2_with fail
      refine (spoil_any w1.heap.size w.heap.size g h9 c9 (canonL f9) 14 a len cap v9 v9 hlen hg0 (by omega) A9.out.rebase hg1 (by omega) n9 I9.out (by omega) (by omega)).mono ?_
      rintro e x5 ⟨h5, c5, l5, rfl, n5, hI5, hA5⟩
      have I5 := Lib.hid (hI5.lower l1)
      have O5 := Lib.hid (A9.out.join hA5).1
      clear hI5 hA5 A9 I9
      go_wp2_with fail
      go_ret
      exact ⟨_, l5, rfl, ⟨h5, c5, rfl, n5, I5.out⟩, Only.below B1.out O5.out l1 hg0⟩
  · have hb : (r3 == 0) = false := by simpa using hr
    go_wp2_with fail
    refine (spoil_any w1.heap.size w.heap.size g h2 c2 (canonL f2) 14 a len cap w3 w3 hlen hg0 (by omega) A3.out.rebase hg1 (by omega) n2 I3.out (by omega) (by omega)).mono ?_
    rintro e w5 ⟨h5, c5, l5, rfl, n5, hI5, hA5⟩
    have I5 := Lib.hid (hI5.lower l1)
    have O5 := Lib.hid (A3.out.join hA5).1
    clear hI5 hA5 A3 I3
    go_wp2_with fail
    go_ret
    exact ⟨_, l5, rfl, ⟨h5, c5, rfl, n5, I5.out⟩, Only.below B1.out O5.out l1 hg0⟩
end Go.Proofs.YtepfnnhmplaocaaDoor
