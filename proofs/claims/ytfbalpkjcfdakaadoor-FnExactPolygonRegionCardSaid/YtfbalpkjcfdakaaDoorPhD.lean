/- The model's fill between the sides of a polygon; PolygonRegion and PolygonContains. Condition: the points' cells are in memory. -/
import Derived.Test.YtfbalpkjcfdakaaDoorPhC
import Derived.Test.YtfbalpkjcfdakaaDoorPgE
import Derived.Test.YtfbalpkjcfdakaaDoorQC
import Derived.Test.YtfbalpkjcfdakaaDoorQD
namespace Go.Proofs.YtfbalpkjcfdakaaDoor
open Go.RowKit
set_option linter.unusedVariables false
set_option linter.unusedSimpArgs false
attribute [local go_sem ↓] Go.wp_at_zero Go.wp_at_succ

set_option maxHeartbeats 8000000 in
set_option maxRecDepth 100000 in
theorem l06Fill_any (m : Option Addr) (n cap : Nat) (P Q R S : Nat → Int) (w : World) (hn : n ≤ 1048576) (hR : RectsIs w.heap.size w m n P Q R S) (hv : ∀ i, i < n → elB (P i) (Q i) (R i) (S i) = true) :
    Calls Tryd.prog 61 #[.slice m n cap] w fun e w' => BitsRes w.heap.size (fillF (listR P Q R S n)) e w' ∧ Below w.heap.size w w' := by
  have HR := Lib.hid hR
  have HV := Lib.hid hv
  clear hR hv
  obtain ⟨i0, hi, hz0, hz1, hz2⟩ := info_parts infoB
  go_enter Tryd.func61, Tryd.ntmps61
  go_wp2_with (at_make; refine wpList_make_full _ rfl _ _ 77 rfl w.heap.size 4 i0 (.bool false) 1 Tryd.underlying77 hi hz0 hz1 .i64 .i64 6400 6400 6400 rfl rfl rfl rfl (by rw [hz2]; omega) (by unfold maxLen; omega) (Nat.le_refl _) ?_; intro w1 own1 grow1)
  have hB1 : Below w.heap.size w w1 := (Below.refl _ _).grown grow1 (Nat.le_refl _) (fun k hk => by cases hk)
  have hF1 : BitsIs w1 w.heap.size (fillF (listR P Q R S 0)) := fun k hk => by
    refine ⟨?_, own1.frozenAt _⟩
    rw [own1.cellAt _ (by omega), fillF_none]
    exact made1 _ _ (by omega)
  have HF1 := Lib.hid hF1
  clear own1 grow1 hi hz0 hz1 hz2 hF1
  go_wp2_with fail
  go_loopw [4] (fun s wr => ∃ i : Nat, i ≤ n ∧ s = .int .i64 i ∧ Below w.heap.size w wr ∧ Hid (BitsIs wr w.heap.size (fillF (listR P Q R S i)))) (fun s _ => n - (intOf s).toNat)
  case atStart => exact ⟨0, by omega, rfl, hB1, HF1⟩
  case round =>
    obtain ⟨i, hi, rfl, hW, HF⟩ := hrel
    by_cases hlt : i < n
    · obtain ⟨b1, o1, rfl, hb1, c0, c1, c2, c3⟩ := HR.out.below hW i hlt
      obtain ⟨hon1, hon2, hdir⟩ := elB_iff.1 (HV.out i hlt)
      obtain ⟨⟨x1, x2⟩, x3, x4⟩ := onB_t hon1
      obtain ⟨⟨y1, y2⟩, y3, y4⟩ := onB_t hon2
      have q1 : (i : Int) < (n : Int) := by omega
      have q0 : (0 : Int) ≤ (i : Int) := by omega
      by_cases hp : P i = R i
      case neg =>
        go_wp2_with fail
        go_roundw
        case rel => exact ⟨i + 1, by omega, by go_num, by (repeat (first | (with_reducible exact Below.refl _ _) | (with_reducible refine Ext.drewN ?_ _) | (with_reducible refine Below.drew ?_) | (with_reducible refine Ext.alloc ?_ _) | (with_reducible refine Ext.setCell ?_ (by simp; try omega) _) | (with_reducible refine Ext.trans ?_ (by assumption)) | (with_reducible assumption) | exact Below.refl _ _)), Lib.hid ((HF.out.below (by (repeat (first | (with_reducible exact Below.refl _ _) | (with_reducible refine Ext.drewN ?_ _) | (with_reducible refine Below.drew ?_) | (with_reducible refine Ext.alloc ?_ _) | (with_reducible refine Ext.setCell ?_ (by simp; try omega) _) | (with_reducible refine Ext.trans ?_ (by assumption)) | (with_reducible assumption) | exact Below.refl _ _)))).congr fun j _ => fl_end hp j)⟩
        case measure => simp [intOf]; omega
      case pos =>
        obtain ⟨lo, hlo⟩ : ∃ lo, min (Q i) (S i) = lo := ⟨_, rfl⟩
        obtain ⟨hi', hhi⟩ : ∃ hi, max (Q i) (S i) = hi := ⟨_, rfl⟩
        have l1 : -40 ≤ lo := by omega
        have l2 : hi' ≤ 40 := by omega
        have l3 : lo < hi' := by omega
        have hsw : w.heap.size < wr.heap.size := HF.out.lt
        have hne : ¬ wr.heap.size = w.heap.size := by omega
        go_wp2_with fail
        go_loopw [6] (fun s wy => ∃ y : Int, lo ≤ y ∧ y ≤ hi' ∧ s = .int .i64 y ∧ Below w.heap.size w wy ∧ (wy.cell? ⟨wr.heap.size, 0, none⟩ = some (.int .i64 (R i)) ∧ wy.cell? ⟨wr.heap.size, 1, none⟩ = some (.int .i64 (Q i)) ∧ wy.cell? ⟨wr.heap.size, 3, none⟩ = some (.int .i64 (S i))) ∧ Hid (BitsIs wy w.heap.size (tgF (fillF (listR P Q R S i)) (fmQ (R i) lo y)))) (fun s _ => (hi' - intOf s).toNat)
        case atStart => exact ⟨lo, by omega, by omega, rfl, by (repeat (first | (with_reducible exact Below.refl _ _) | (with_reducible refine Ext.drewN ?_ _) | (with_reducible refine Below.drew ?_) | (with_reducible refine Ext.alloc ?_ _) | (with_reducible refine Ext.setCell ?_ (by simp; try omega) _) | (with_reducible refine Ext.trans ?_ (by assumption)) | (with_reducible assumption) | exact Below.refl _ _)), by simp [go_sem], Lib.hid ((HF.out.below (by (repeat (first | (with_reducible exact Below.refl _ _) | (with_reducible refine Ext.drewN ?_ _) | (with_reducible refine Below.drew ?_) | (with_reducible refine Ext.alloc ?_ _) | (with_reducible refine Ext.setCell ?_ (by simp; try omega) _) | (with_reducible refine Ext.trans ?_ (by assumption)) | (with_reducible assumption) | exact Below.refl _ _)))).congr fun j _ => fm_start _ _ _ _ (Int.le_refl _) j)⟩
        case round =>
          rename World => wy
          obtain ⟨y, hy0, hy1, rfl, hY, ⟨d0, d1, d3⟩, HG⟩ := hrel
          by_cases hy : y < hi'
          · go_wp2_with fail
            go_loopw [7] (fun s wx => ∃ x : Int, R i ≤ x ∧ x ≤ 40 ∧ s = .int .i64 x ∧ Below w.heap.size w wx ∧ (wx.cell? ⟨wr.heap.size, 0, none⟩ = some (.int .i64 (R i)) ∧ wx.cell? ⟨wr.heap.size, 1, none⟩ = some (.int .i64 (Q i)) ∧ wx.cell? ⟨wr.heap.size, 3, none⟩ = some (.int .i64 (S i))) ∧ Hid (BitsIs wx w.heap.size (tgF (fillF (listR P Q R S i)) (fiQ (R i) lo y x)))) (fun s _ => (40 - intOf s).toNat)
            case atStart => exact ⟨R i, Int.le_refl _, by omega, rfl, hY, ⟨d0, d1, d3⟩, Lib.hid (HG.out.congr fun j _ => fi_start _ _ _ _ j)⟩
            case round =>
              rename World => wx
              clear d0 d1 d3 hY HG
              obtain ⟨x, hx0, hx1, rfl, hX, ⟨d0, d1, d3⟩, HH⟩ := hrel
              by_cases hx : x < 40
              · have hk := cIx_lt (x := x) (y := y) (by omega) (by omega) (by omega) (by omega)
                obtain ⟨g1, g2⟩ := bits_set HH.out hk
                have hstep := fun j (_ : j < 6400) => fi_step (fillF (listR P Q R S i)) (R i) lo y x (by omega) (by omega) (by omega) (by omega) hx0 j
                have HS := Lib.hid ((HH.out.tog hk).congr hstep)
                clear hstep
                generalize hkk : cIx x y = k at hk g1 g2 HS
                have r0 : (0 : Int) ≤ (k : Int) := by omega
                have r1 : (k : Int) < 6400 := by omega
                have hwx : IntKind.i64.wrap (x + 1) = x + 1 := by rw [IntKind.wrap_i64]; omega
                go_wp2_with (go_at_call 111; refine (l03At_any x y _ (by omega) (by omega) (by omega) (by omega)).mono ?_; rintro e wz ⟨rfl, rfl⟩; rw [hkk])
                go_roundw
                case rel => exact ⟨x + 1, by omega, by omega, by go_num, hX.setCell (Nat.le_refl _) _, ⟨keepS d0 (fun e => hne e.symm) _, keepS d1 (fun e => hne e.symm) _, keepS d3 (fun e => hne e.symm) _⟩, HS⟩
                case measure => simp [intOf]; omega
              · obtain rfl : x = 40 := by omega
                have hwy : IntKind.i64.wrap (y + 1) = y + 1 := by rw [IntKind.wrap_i64]; omega
                go_wp2_with fail
                go_roundw
                case rel => exact ⟨y + 1, by omega, by omega, by go_num, hX, ⟨d0, d1, d3⟩, Lib.hid (HH.out.congr fun j _ => fi_end _ _ _ _ hy0 j)⟩
                case measure => simp [intOf]; omega
          · obtain rfl : y = hi' := by omega
            go_wp2_with fail
            go_roundw
            case rel => exact ⟨i + 1, by omega, by go_num, hY, Lib.hid (HG.out.congr fun j _ => by rw [← hlo, ← hhi, ← hp]; exact fm_end hp j)⟩
            case measure => simp [intOf]; omega
    · have q1 : ¬ (i : Int) < (n : Int) := by omega
      obtain rfl : i = n := by omega
      go_wp2_with fail
      go_ret
      exact ⟨⟨w.heap.size, rfl, Nat.le_refl _, HF.out⟩, hW⟩

theorem poly_sides {X Y : Nat → Int} {n : Nat} (h : polyB X Y n = true) {i : Nat} (hi : i < n) : elB (X i) (Y i) (X ((i + 1) % n)) (Y ((i + 1) % n)) = true := by
  have := (polyB_t h).2.2.2
  rw [← alts_turns] at this
  exact (alt4_iff.1 (altsB_at this hi)).1
/-- The cells inside. -/
def sdF (X Y : Nat → Int) (n : Nat) : Nat → Bool := fillF (listR X Y (fun i => X ((i + 1) % n)) (fun i => Y ((i + 1) % n)) n)
/-- What PolygonRegion answers. -/
def prL (X Y : Nat → Int) (n : Nat) : List R4 := if polyB X Y n = true then canonL (sdF X Y n) else []
theorem prL_len (X Y : Nat → Int) (n : Nat) : (prL X Y n).length ≤ 3280 := by
  unfold prL; split
  · exact canonL_len _
  · simp
set_option maxHeartbeats 4000000 in
theorem specPolygonRegion_any (a : Option Addr) (n cap : Nat) (X Y : Nat → Int) (w : World) (hn : n ≤ 1048576) (hP : PtsIs w.heap.size w a n X Y) :
    Calls Tryd.prog 20 #[.slice a n cap] w fun e w' => LRes2 (prL X Y n) (polyB X Y n) e w' ∧ Below w.heap.size w w' := by
  have hV := fun w' hP' => specIsValidPolygon_any a n cap X Y w' hn hP'
  cases hp : polyB X Y n with
  | false =>
    rw [show prL X Y n = [] by unfold prL; rw [if_neg (by simp [hp])]]
    rw [hp] at hV
    go_enter Tryd.func20, Tryd.ntmps20
    go_wp2_with (go_at_call 49; refine (hV _ (hP.ext (by (repeat (first | (with_reducible exact Below.refl _ _) | (with_reducible refine Ext.drewN ?_ _) | (with_reducible refine Below.drew ?_) | (with_reducible refine Ext.alloc ?_ _) | (with_reducible refine Ext.setCell ?_ (by simp; try omega) _) | (with_reducible refine Ext.trans ?_ (by assumption)) | (with_reducible assumption) | exact Below.refl _ _))))).mono ?_; rintro e w1 ⟨rfl, bw1⟩)
    go_ret2
    exact ⟨⟨none, 0, rfl, RectsL.nil _ _ _⟩, by (repeat (first | (with_reducible exact Below.refl _ _) | (with_reducible refine Ext.drewN ?_ _) | (with_reducible refine Below.drew ?_) | (with_reducible refine Ext.alloc ?_ _) | (with_reducible refine Ext.setCell ?_ (by simp; try omega) _) | (with_reducible refine Ext.trans ?_ (by assumption)) | (with_reducible assumption) | exact Below.refl _ _))⟩
  | true =>
    rw [show prL X Y n = canonL (sdF X Y n) by unfold prL; rw [if_pos hp]]
    rw [hp] at hV
    have hS := fun w' hP' => l08Sides_any a n cap X Y w' hn hP'
    have hel : Hid (∀ i, i < n → elB (X i) (Y i) (X ((i + 1) % n)) (Y ((i + 1) % n)) = true) := Lib.hid fun i hi => poly_sides hp hi
    clear hp
    obtain ⟨f, hf⟩ : ∃ f, f = sdF X Y n := ⟨_, rfl⟩
    rw [← hf]
    have HFF := Lib.hid hf
    clear hf
    go_enter Tryd.func20, Tryd.ntmps20
    go_wp2_with (first | (go_at_call 49; refine (hV _ (hP.ext (by (repeat (first | (with_reducible exact Below.refl _ _) | (with_reducible refine Ext.drewN ?_ _) | (with_reducible refine Below.drew ?_) | (with_reducible refine Ext.alloc ?_ _) | (with_reducible refine Ext.setCell ?_ (by simp; try omega) _) | (with_reducible refine Ext.trans ?_ (by assumption)) | (with_reducible assumption) | exact Below.refl _ _))))).mono ?_; rintro e w1 ⟨rfl, bw1⟩) | (go_at_call 62; refine (hS _ (hP.ext (by (repeat (first | (with_reducible exact Below.refl _ _) | (with_reducible refine Ext.drewN ?_ _) | (with_reducible refine Below.drew ?_) | (with_reducible refine Ext.alloc ?_ _) | (with_reducible refine Ext.setCell ?_ (by simp; try omega) _) | (with_reducible refine Ext.trans ?_ (by assumption)) | (with_reducible assumption) | exact Below.refl _ _))))).mono ?_; rintro e w2 ⟨⟨g, c, rfl, hc, hg, R2⟩, bw2⟩) | (go_at_call 61; refine (l06Fill_any _ n _ _ _ _ _ _ hn R2 hel.out).mono ?_; rintro e w3 ⟨⟨g3, rfl, hg3, B3⟩, bw3⟩; have B3' : BitsIs w3 g3 f := by (rw [HFF.out]; exact B3)) | (go_at_call 64; refine (l03Canon_any g3 _ f _ B3').mono ?_; rintro e w4 ⟨⟨g4, c4, rfl, hI⟩, bw4⟩))
    go_ret2
    exact ⟨⟨_, c4, rfl, hI.rects⟩, by (repeat (first | (with_reducible exact Below.refl _ _) | (with_reducible refine Ext.drewN ?_ _) | (with_reducible refine Below.drew ?_) | (with_reducible refine Ext.alloc ?_ _) | (with_reducible refine Ext.setCell ?_ (by simp; try omega) _) | (with_reducible refine Ext.trans ?_ (by assumption)) | (with_reducible assumption) | exact Below.refl _ _))⟩
set_option maxHeartbeats 4000000 in
theorem specPolygonContains_any (a : Option Addr) (n cap : Nat) (x y : Int) (X Y : Nat → Int) (w : World) (hn : n ≤ 1048576) (hP : PtsIs w.heap.size w a n X Y) :
    Calls Tryd.prog 18 #[.slice a n cap, .int .i64 x, .int .i64 y] w fun e w' => e = .returned (.bool (polyB X Y n && hasB (sdF X Y n) x y)) ∧ Below w.heap.size w w' := by
  have hV := fun w' hP' => specIsValidPolygon_any a n cap X Y w' hn hP'
  cases hp : polyB X Y n with
  | false =>
    rw [hp] at hV
    go_enter Tryd.func18, Tryd.ntmps18
    go_wp2_with (go_at_call 49; refine (hV _ (hP.ext (by (repeat (first | (with_reducible exact Below.refl _ _) | (with_reducible refine Ext.drewN ?_ _) | (with_reducible refine Below.drew ?_) | (with_reducible refine Ext.alloc ?_ _) | (with_reducible refine Ext.setCell ?_ (by simp; try omega) _) | (with_reducible refine Ext.trans ?_ (by assumption)) | (with_reducible assumption) | exact Below.refl _ _))))).mono ?_; rintro e w1 ⟨rfl, bw1⟩)
    go_ret
    exact ⟨rfl, by (repeat (first | (with_reducible exact Below.refl _ _) | (with_reducible refine Ext.drewN ?_ _) | (with_reducible refine Below.drew ?_) | (with_reducible refine Ext.alloc ?_ _) | (with_reducible refine Ext.setCell ?_ (by simp; try omega) _) | (with_reducible refine Ext.trans ?_ (by assumption)) | (with_reducible assumption) | exact Below.refl _ _))⟩
  | true =>
    rw [hp] at hV
    have hS := fun w' hP' => l08Sides_any a n cap X Y w' hn hP'
    have hel : Hid (∀ i, i < n → elB (X i) (Y i) (X ((i + 1) % n)) (Y ((i + 1) % n)) = true) := Lib.hid fun i hi => poly_sides hp hi
    clear hp
    obtain ⟨f, hf⟩ : ∃ f, f = sdF X Y n := ⟨_, rfl⟩
    rw [← hf]
    have HFF := Lib.hid hf
    clear hf
    go_enter Tryd.func18, Tryd.ntmps18
    go_wp2_with (first | (go_at_call 49; refine (hV _ (hP.ext (by (repeat (first | (with_reducible exact Below.refl _ _) | (with_reducible refine Ext.drewN ?_ _) | (with_reducible refine Below.drew ?_) | (with_reducible refine Ext.alloc ?_ _) | (with_reducible refine Ext.setCell ?_ (by simp; try omega) _) | (with_reducible refine Ext.trans ?_ (by assumption)) | (with_reducible assumption) | exact Below.refl _ _))))).mono ?_; rintro e w1 ⟨rfl, bw1⟩) | (go_at_call 62; refine (hS _ (hP.ext (by (repeat (first | (with_reducible exact Below.refl _ _) | (with_reducible refine Ext.drewN ?_ _) | (with_reducible refine Below.drew ?_) | (with_reducible refine Ext.alloc ?_ _) | (with_reducible refine Ext.setCell ?_ (by simp; try omega) _) | (with_reducible refine Ext.trans ?_ (by assumption)) | (with_reducible assumption) | exact Below.refl _ _))))).mono ?_; rintro e w2 ⟨⟨g, c, rfl, hc, hg, R2⟩, bw2⟩) | (go_at_call 61; refine (l06Fill_any _ n _ _ _ _ _ _ hn R2 hel.out).mono ?_; rintro e w3 ⟨⟨g3, rfl, hg3, B3⟩, bw3⟩; have B3' : BitsIs w3 g3 f := by (rw [HFF.out]; exact B3)) | (go_at_call 60; refine (l03Has_any g3 _ f x y _ B3').mono ?_; rintro e w4 ⟨rfl, rfl⟩))
    go_ret
    exact ⟨ret_bool (by simp), by (repeat (first | (with_reducible exact Below.refl _ _) | (with_reducible refine Ext.drewN ?_ _) | (with_reducible refine Below.drew ?_) | (with_reducible refine Ext.alloc ?_ _) | (with_reducible refine Ext.setCell ?_ (by simp; try omega) _) | (with_reducible refine Ext.trans ?_ (by assumption)) | (with_reducible assumption) | exact Below.refl _ _))⟩
end Go.Proofs.YtfbalpkjcfdakaaDoor
