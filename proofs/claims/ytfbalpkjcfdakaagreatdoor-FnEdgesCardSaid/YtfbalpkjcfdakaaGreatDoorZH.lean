/- The words of a set of unit cells, one row changed by the columns to the left of an edge. No program's run in it. -/
import Derived.Test.YtfbalpkjcfdakaaGreatDoorZF
import Derived.Test.YtfbalpkjcfdakaaGreatDoorQK
import Derived.Test.YtfbalpkjcfdakaaGreatDoorZG
import Derived.Test.YtfbalpkjcfdakaaGreatDoorQC
import Derived.Test.YtfbalpkjcfdakaaGreatDoorQD
import Derived.Test.YtfbalpkjcfdakaaGreatDoorQH
import Derived.Test.YtfbalpkjcfdakaaGreatDoorQI
namespace Go.Proofs.YtfbalpkjcfdakaaGreatDoor
open Go.RowKit
set_option linter.unusedVariables false
set_option linter.unusedSimpArgs false

theorem RowsOK.congr {f g : Nat → Bool} {G : Nat → Nat} (h : RowsOK f G) (e : ∀ k, k < 6400 → f k = g k) : RowsOK g G := by
  refine ⟨h.word, h.high, fun i hi c hc => ?_⟩
  rw [h.bits i hi c hc]
  have hin : (-40 ≤ ((c : Int) - 40) ∧ ((c : Int) - 40) ≤ 39) ∧ (-40 ≤ ((i : Int) - 40) ∧ ((i : Int) - 40) ≤ 39) := by omega
  rw [hasB_in hin, hasB_in hin]
  exact e _ (cIx_lt hin.1.1 hin.1.2 hin.2.1 hin.2.2)
theorem mk16 {n : Nat} (h : n ≤ 16) : mk n < 65536 := by
  unfold mk
  have : 2 ^ n ≤ 2 ^ 16 := Nat.pow_le_pow_right (by decide) h
  have : 0 < 2 ^ n := Nat.two_pow_pos n
  omega
theorem mk_col {c j : Nat} (hc : c ≤ 80) (hj : j < 80) : colB (mk (min c 64)) (mk (c - 64)) j = decide (j < c) := by
  unfold colB
  by_cases h : j < 64
  · rw [if_pos h, mk_bit]
    exact decide_eq_decide.2 (by omega)
  · rw [if_neg h, mk_bit]
    exact decide_eq_decide.2 (by omega)
theorem xor_col (A B C D j : Nat) : colB (A ^^^ C) (B ^^^ D) j = (colB A B j != colB C D j) := by
  unfold colB
  by_cases h : j < 64
  · rw [if_pos h, if_pos h, if_pos h, Nat.testBit_xor]
  · rw [if_neg h, if_neg h, if_neg h, Nat.testBit_xor]
/-- Row i with its first c columns turned over. -/
def xorR (G : Nat → Nat) (i c : Nat) : Nat → Nat := setR G i (G (i * 2) ^^^ mk (min c 64)) (G (i * 2 + 1) ^^^ mk (c - 64))
theorem xorR_ok {f : Nat → Bool} {G : Nat → Nat} (h : RowsOK f G) {i c : Nat} (hi : i < 80) (hc : c ≤ 80) : RowsOK (fun k => f k != (decide (k / 80 = i) && decide (k % 80 < c))) (xorR G i c) := by
  unfold xorR
  refine ⟨setR_word h.word (Nat.xor_lt_two_pow (n := 64) (h.word _) (mk_lt (by omega))) (Nat.xor_lt_two_pow (n := 64) (h.word _) (mk_lt (by omega))), fun j hj => ?_, fun j hj d hd => ?_⟩
  · rw [setR_odd]
    split
    · exact Nat.xor_lt_two_pow (n := 16) (h.high i hi) (mk16 (by omega))
    · exact h.high j hj
  · have hin : (-40 ≤ ((d : Int) - 40) ∧ ((d : Int) - 40) ≤ 39) ∧ (-40 ≤ ((j : Int) - 40) ∧ ((j : Int) - 40) ≤ 39) := by omega
    have hb := h.bits j hj d hd
    rw [hasB_in hin] at hb ⊢
    have q1 : cIx ((d : Int) - 40) ((j : Int) - 40) / 80 = j := by unfold cIx; omega
    have q2 : cIx ((d : Int) - 40) ((j : Int) - 40) % 80 = d := by unfold cIx; omega
    rw [setR_even, setR_odd]
    show _ = (f _ != (decide (_ / 80 = i) && decide (_ % 80 < c)))
    rw [q1, q2]
    by_cases e : j = i
    · subst e
      rw [if_pos rfl, if_pos rfl, xor_col, mk_col hc hd, hb]
      simp
    · rw [if_neg e, if_neg e, hb]
      simp [e]
theorem tg_row {f : Nat → Bool} {G : Nat → Nat} {a lo y : Int} (h : RowsOK (tgF f fun u v => (decide (lo ≤ v) && decide (v < y)) && decide (u < a)) G) (h1 : -40 ≤ a) (h2 : a ≤ 40) (h3 : -40 ≤ y) (h4 : y ≤ 39) (h5 : lo ≤ y) :
    RowsOK (tgF f fun u v => (decide (lo ≤ v) && decide (v < y + 1)) && decide (u < a)) (xorR G (y + 40).toNat (a + 40).toNat) := by
  refine (xorR_ok h (i := (y + 40).toNat) (c := (a + 40).toNat) (by omega) (by omega)).congr fun k hk => ?_
  unfold tgF
  have e1 : decide (k / 80 = (y + 40).toNat) = decide ((((k / 80 : Nat) : Int) - 40) = y) := decide_eq_decide.2 (by omega)
  have e2 : decide (k % 80 < (a + 40).toNat) = decide ((((k % 80 : Nat) : Int) - 40) < a) := decide_eq_decide.2 (by omega)
  rw [e1, e2]
  generalize (((k / 80 : Nat) : Int) - 40) = v
  generalize (((k % 80 : Nat) : Int) - 40) = u
  have e3 : (decide (lo ≤ v) && decide (v < y + 1)) = ((decide (lo ≤ v) && decide (v < y)) != decide (v = y)) := by
    by_cases p : v = y
    · subst p; simp [h5]; omega
    · have : decide (v < y + 1) = decide (v < y) := decide_eq_decide.2 (by omega)
      rw [this]; simp [p]
  dsimp only
  rw [e3]
  cases f k <;> cases (decide (lo ≤ v) && decide (v < y)) <;> cases decide (v = y) <;> cases decide (u < a) <;> rfl
/-- The next edge done: the set filled from the right. -/
theorem tg_next {P Q R S : Nat → Int} {i : Nat} {G : Nat → Nat} (hp : P i = R i ∨ Q i = S i) (h : RowsOK (tgF (fillR (listR P Q R S i)) fun u v => (decide (min (Q i) (S i) ≤ v) && decide (v < max (Q i) (S i))) && decide (u < P i)) G) : RowsOK (fillR (listR P Q R S (i + 1))) G := by
  refine h.congr fun k hk => ?_
  unfold tgF
  rw [listR_succ]
  unfold fillR
  rw [rgt_snoc]
  dsimp only
  congr 1
  by_cases q : Q i = S i
  · rw [crs_flat (by exact q), q]
    have : (decide (min (S i) (S i) ≤ (((k / 80 : Nat) : Int) - 40)) && decide ((((k / 80 : Nat) : Int) - 40) < max (S i) (S i))) = false := by rw [Bool.and_eq_false_iff, decide_eq_false_iff_not, decide_eq_false_iff_not]; omega
    rw [this]
  · have ha : P i = R i := by omega
    congr 1
    unfold crs
    simp [ha]
theorem tg_none (f : Nat → Bool) (a lo : Int) {G : Nat → Nat} (h : RowsOK f G) : RowsOK (tgF f fun u v => (decide (lo ≤ v) && decide (v < lo)) && decide (u < a)) G := by
  refine h.congr fun k hk => ?_
  unfold tgF
  have : ∀ v : Int, (decide (lo ≤ v) && decide (v < lo)) = false := fun v => by rw [Bool.and_eq_false_iff, decide_eq_false_iff_not, decide_eq_false_iff_not]; omega
  dsimp only
  rw [this]; simp
theorem tg_flat (f : Nat → Bool) (a lo hi : Int) (hle : hi ≤ lo) {G : Nat → Nat} (h : RowsOK f G) : RowsOK (tgF f fun u v => (decide (lo ≤ v) && decide (v < hi)) && decide (u < a)) G := by
  refine h.congr fun k hk => ?_
  unfold tgF
  have : ∀ v : Int, (decide (lo ≤ v) && decide (v < hi)) = false := fun v => by rw [Bool.and_eq_false_iff, decide_eq_false_iff_not, decide_eq_false_iff_not]; omega
  dsimp only
  rw [this]; simp
theorem fillR_nil : fillR [] = fun _ => false := by funext k; unfold fillR rgt; simp
theorem fillF_nil : fillF [] = fun _ => false := by funext k; unfold fillF lft; simp
end Go.Proofs.YtfbalpkjcfdakaaGreatDoor

namespace Go.Proofs.YtfbalpkjcfdakaaGreatDoor
open Go.RowKit
set_option linter.unusedVariables false
set_option linter.unusedSimpArgs false
attribute [local go_sem ↓] Go.wp_at_zero Go.wp_at_succ

set_option maxHeartbeats 8000000 in
set_option maxRecDepth 100000 in
theorem l06Fill_any (m : Option Addr) (n cap : Nat) (P Q R S : Nat → Int) (w : World) (hn : n ≤ 1048576) (hR : RectsIs w.heap.size w m n P Q R S) (hv : ∀ i, i < n → elB (P i) (Q i) (R i) (S i) = true) :
    Calls Tryz.prog 66 #[.slice m n cap] w fun e w' => BitsRes w.heap.size (fillF (listR P Q R S n)) e w' ∧ Below w.heap.size w w' := by
  have HR := Lib.hid hR
  have HV := Lib.hid hv
  clear hR hv
  obtain ⟨i0, hi, hz0, hz1, hz2⟩ := info_parts infoB
  go_enter Tryz.func66, Tryz.ntmps66
  go_wp2_with (at_make; refine wpList_make_full _ rfl _ _ 63 rfl w.heap.size 4 i0 (.bool false) 1 Tryz.underlying63 hi hz0 hz1 .i64 .i64 6400 6400 6400 rfl rfl rfl rfl (by rw [hz2]; omega) (by unfold maxLen; omega) (Nat.le_refl _) ?_; intro w1 own1 grow1)
  have hB1 : Below w.heap.size w w1 := (Below.refl _ _).grown grow1 (Nat.le_refl _) (fun k hk => by cases hk)
  have hF1 : BitsIs w1 w.heap.size (fillF (listR P Q R S 0)) := fun k hk => by
    refine ⟨?_, own1.frozenAt _⟩
    rw [own1.cellAt _ (by omega), fillF_none]
    exact made1 _ _ (by omega)
  have HF1 := Lib.hid hF1
  clear own1 grow1 hi hz0 hz1 hz2 hF1
  go_wp2_with fail
  go_loopw [4] (fun s wr => ∃ i : Nat, i ≤ n ∧ s = .int .i64 i ∧ Below w.heap.size w wr ∧ Hid (BitsIs wr w.heap.size (fillF (listR P Q R S i)))) (fun s _ => n - (intOf s).toNat)
  case atStart => exact ⟨0, by omega, rfl, hB1, HF1⟩
  case round =>
    obtain ⟨i, hi, rfl, hW, HF⟩ := hrel
    by_cases hlt : i < n
    · obtain ⟨b1, o1, rfl, hb1, c0, c1, c2, c3⟩ := HR.out.below hW i hlt
      obtain ⟨hon1, hon2, hdir⟩ := elB_iff.1 (HV.out i hlt)
      obtain ⟨⟨x1, x2⟩, x3, x4⟩ := onB_t hon1
      obtain ⟨⟨y1, y2⟩, y3, y4⟩ := onB_t hon2
      have q1 : (i : Int) < (n : Int) := by omega
      have q0 : (0 : Int) ≤ (i : Int) := by omega
      by_cases hp : P i = R i
      case neg =>
        go_wp2_with fail
        go_roundw
        case rel => exact ⟨i + 1, by omega, by go_num, by (repeat (first | (with_reducible exact Below.refl _ _) | (with_reducible refine Ext.drewN ?_ _) | (with_reducible refine Below.drew ?_) | (with_reducible refine Ext.alloc ?_ _) | (with_reducible refine Ext.setCell ?_ (by simp; try omega) _) | (with_reducible refine Ext.trans ?_ (by assumption)) | (with_reducible assumption) | exact Below.refl _ _)), Lib.hid ((HF.out.below (by (repeat (first | (with_reducible exact Below.refl _ _) | (with_reducible refine Ext.drewN ?_ _) | (with_reducible refine Below.drew ?_) | (with_reducible refine Ext.alloc ?_ _) | (with_reducible refine Ext.setCell ?_ (by simp; try omega) _) | (with_reducible refine Ext.trans ?_ (by assumption)) | (with_reducible assumption) | exact Below.refl _ _)))).congr fun j _ => fl_end hp j)⟩
        case measure => simp [intOf]; omega
      case pos =>
        obtain ⟨lo, hlo⟩ : ∃ lo, min (Q i) (S i) = lo := ⟨_, rfl⟩
        obtain ⟨hi', hhi⟩ : ∃ hi, max (Q i) (S i) = hi := ⟨_, rfl⟩
        have l1 : -40 ≤ lo := by omega
        have l2 : hi' ≤ 40 := by omega
        have l3 : lo < hi' := by omega
        have hsw : w.heap.size < wr.heap.size := HF.out.lt
        have hne : ¬ wr.heap.size = w.heap.size := by omega
        go_wp2_with fail
        go_loopw [6] (fun s wy => ∃ y : Int, lo ≤ y ∧ y ≤ hi' ∧ s = .int .i64 y ∧ Below w.heap.size w wy ∧ (wy.cell? ⟨wr.heap.size, 0, none⟩ = some (.int .i64 (R i)) ∧ wy.cell? ⟨wr.heap.size, 1, none⟩ = some (.int .i64 (Q i)) ∧ wy.cell? ⟨wr.heap.size, 3, none⟩ = some (.int .i64 (S i))) ∧ Hid (BitsIs wy w.heap.size (tgF (fillF (listR P Q R S i)) (fmQ (R i) lo y)))) (fun s _ => (hi' - intOf s).toNat)
        case atStart => exact ⟨lo, by omega, by omega, rfl, by (repeat (first | (with_reducible exact Below.refl _ _) | (with_reducible refine Ext.drewN ?_ _) | (with_reducible refine Below.drew ?_) | (with_reducible refine Ext.alloc ?_ _) | (with_reducible refine Ext.setCell ?_ (by simp; try omega) _) | (with_reducible refine Ext.trans ?_ (by assumption)) | (with_reducible assumption) | exact Below.refl _ _)), by simp [go_sem], Lib.hid ((HF.out.below (by (repeat (first | (with_reducible exact Below.refl _ _) | (with_reducible refine Ext.drewN ?_ _) | (with_reducible refine Below.drew ?_) | (with_reducible refine Ext.alloc ?_ _) | (with_reducible refine Ext.setCell ?_ (by simp; try omega) _) | (with_reducible refine Ext.trans ?_ (by assumption)) | (with_reducible assumption) | exact Below.refl _ _)))).congr fun j _ => fm_start _ _ _ _ (Int.le_refl _) j)⟩
        case round =>
          rename World => wy
          obtain ⟨y, hy0, hy1, rfl, hY, ⟨d0, d1, d3⟩, HG⟩ := hrel
          by_cases hy : y < hi'
          · go_wp2_with fail
            go_loopw [7] (fun s wx => ∃ x : Int, R i ≤ x ∧ x ≤ 40 ∧ s = .int .i64 x ∧ Below w.heap.size w wx ∧ (wx.cell? ⟨wr.heap.size, 0, none⟩ = some (.int .i64 (R i)) ∧ wx.cell? ⟨wr.heap.size, 1, none⟩ = some (.int .i64 (Q i)) ∧ wx.cell? ⟨wr.heap.size, 3, none⟩ = some (.int .i64 (S i))) ∧ Hid (BitsIs wx w.heap.size (tgF (fillF (listR P Q R S i)) (fiQ (R i) lo y x)))) (fun s _ => (40 - intOf s).toNat)
            case atStart => exact ⟨R i, Int.le_refl _, by omega, rfl, hY, ⟨d0, d1, d3⟩, Lib.hid (HG.out.congr fun j _ => fi_start _ _ _ _ j)⟩
            case round =>
              rename World => wx
              clear d0 d1 d3 hY HG
              obtain ⟨x, hx0, hx1, rfl, hX, ⟨d0, d1, d3⟩, HH⟩ := hrel
              by_cases hx : x < 40
              · have hk := cIx_lt (x := x) (y := y) (by omega) (by omega) (by omega) (by omega)
                obtain ⟨g1, g2⟩ := bits_set HH.out hk
                have hstep := fun j (_ : j < 6400) => fi_step (fillF (listR P Q R S i)) (R i) lo y x (by omega) (by omega) (by omega) (by omega) hx0 j
                have HS := Lib.hid ((HH.out.tog hk).congr hstep)
                clear hstep
                generalize hkk : cIx x y = k at hk g1 g2 HS
                have r0 : (0 : Int) ≤ (k : Int) := by omega
                have r1 : (k : Int) < 6400 := by omega
                have hwx : IntKind.i64.wrap (x + 1) = x + 1 := by rw [IntKind.wrap_i64]; omega
                go_wp2_with (go_at_call 99; refine (l03At_any x y _ (by omega) (by omega) (by omega) (by omega)).mono ?_; rintro e wz ⟨rfl, rfl⟩; rw [hkk])
                go_roundw
                case rel => exact ⟨x + 1, by omega, by omega, by go_num, hX.setCell (Nat.le_refl _) _, ⟨keepS d0 (fun e => hne e.symm) _, keepS d1 (fun e => hne e.symm) _, keepS d3 (fun e => hne e.symm) _⟩, HS⟩
                case measure => simp [intOf]; omega
              · obtain rfl : x = 40 := by omega
                have hwy : IntKind.i64.wrap (y + 1) = y + 1 := by rw [IntKind.wrap_i64]; omega
                go_wp2_with fail
                go_roundw
                case rel => exact ⟨y + 1, by omega, by omega, by go_num, hX, ⟨d0, d1, d3⟩, Lib.hid (HH.out.congr fun j _ => fi_end _ _ _ _ hy0 j)⟩
                case measure => simp [intOf]; omega
          · obtain rfl : y = hi' := by omega
            go_wp2_with fail
            go_roundw
            case rel => exact ⟨i + 1, by omega, by go_num, hY, Lib.hid (HG.out.congr fun j _ => by rw [← hlo, ← hhi, ← hp]; exact fm_end hp j)⟩
            case measure => simp [intOf]; omega
    · have q1 : ¬ (i : Int) < (n : Int) := by omega
      obtain rfl : i = n := by omega
      go_wp2_with fail
      go_ret
      exact ⟨⟨w.heap.size, rfl, Nat.le_refl _, HF.out⟩, hW⟩

theorem poly_sides {X Y : Nat → Int} {n : Nat} (h : polyB X Y n = true) {i : Nat} (hi : i < n) : elB (X i) (Y i) (X ((i + 1) % n)) (Y ((i + 1) % n)) = true := by
  have := (polyB_t h).2.2.2
  rw [← alts_turns] at this
  exact (alt4_iff.1 (altsB_at this hi)).1
/-- The cells inside. -/
def sdF (X Y : Nat → Int) (n : Nat) : Nat → Bool := fillF (listR X Y (fun i => X ((i + 1) % n)) (fun i => Y ((i + 1) % n)) n)
/-- What PolygonRegion answers. -/
def prL (X Y : Nat → Int) (n : Nat) : List R4 := if polyB X Y n = true then canonL (sdF X Y n) else []
theorem prL_len (X Y : Nat → Int) (n : Nat) : (prL X Y n).length ≤ 3280 := by
  unfold prL; split
  · exact canonL_len _
  · simp
end Go.Proofs.YtfbalpkjcfdakaaGreatDoor

namespace Go.Proofs.YtfbalpkjcfdakaaGreatDoor
open Go.RowKit Go.Shelf
set_option linter.unusedVariables false
set_option linter.unusedSimpArgs false
attribute [local go_sem ↓] Go.wp_at_zero Go.wp_at_succ

/-- Have all edges a length? -/
def elsB (P Q R S : Nat → Int) (n : Nat) : Bool := (List.range n).all fun i => elB (P i) (Q i) (R i) (S i)
theorem elsB_f {P Q R S : Nat → Int} {n i : Nat} (h : i < n) (hf : elB (P i) (Q i) (R i) (S i) = false) : elsB P Q R S n = false := by
  unfold elsB
  rw [List.all_eq_false]
  exact ⟨i, List.mem_range.2 h, by simp [hf]⟩
theorem elsB_t {P Q R S : Nat → Int} {n : Nat} (h : ∀ i, i < n → elB (P i) (Q i) (R i) (S i) = true) : elsB P Q R S n = true := by
  unfold elsB
  rw [List.all_eq_true]
  exact fun i hi => h i (List.mem_range.1 hi)
theorem elsB_at {P Q R S : Nat → Int} {n i : Nat} (h : elsB P Q R S n = true) (hi : i < n) : elB (P i) (Q i) (R i) (S i) = true := by
  unfold elsB at h
  exact List.all_eq_true.1 h i (List.mem_range.2 hi)
def RBres (P Q R S : Nat → Int) (n : Nat) (e : Ending) : Prop := ∃ G, e = .returned (.tuple #[.agg (wArr G), .bool (elsB P Q R S n)]) ∧ (elsB P Q R S n = true → RowsOK (fillR (listR P Q R S n)) G)

set_option maxRecDepth 100000 in
set_option maxHeartbeats 8000000 in
theorem rowsBetween_any (b off n cap : Nat) (P Q R S : Nat → Int) (w : World) (hn : n ≤ 1048576) (hR : RectsIs w.heap.size w (some ⟨b, off, none⟩) n P Q R S) :
    Calls Tryz.prog 59 #[.slice (some ⟨b, off, none⟩) n cap] w fun e w' => RBres P Q R S n e ∧ Below w.heap.size w w' := by
  have hz := zero59
  have HR := Lib.hid hR
  clear hR
  go_enter Tryz.func59, Tryz.ntmps59
  go_wp2_with fail
  go_loopw [11] (fun s wr => ∃ (i : Nat) (G : Nat → Nat), i ≤ n ∧ s = .int .i64 i ∧ Below w.heap.size w wr ∧ w.heap.size + 1 < wr.heap.size ∧ Hid (RowsAt wr w.heap.size (fun _ => 0)) ∧ Hid (RowsAt wr (w.heap.size + 1) G) ∧ Hid (RowsOK (fillR (listR P Q R S i)) G) ∧ Hid (∀ k, k < i → elB (P k) (Q k) (R k) (S k) = true)) (fun s _ => n - (intOf s).toNat)
  case atStart => exact ⟨0, fun _ => 0, by omega, rfl, by (repeat (first | (with_reducible exact Below.refl _ _) | (with_reducible refine Ext.drewN ?_ _) | (with_reducible refine Below.drew ?_) | (with_reducible refine Ext.alloc ?_ _) | (with_reducible refine Ext.setCell ?_ (by simp; try omega) _) | (with_reducible refine Ext.trans ?_ (by assumption)) | (with_reducible assumption) | exact Below.refl _ _)), by simp, Lib.hid (RowsAt.ext (RowsAt.new w _) ((Below.refl _ _).alloc (Nat.le_refl _) _)), Lib.hid (by have := RowsAt.new (w.alloc (.cells (wArr fun _ => 0) 86)) (fun _ => 0); rwa [World.size_alloc] at this), Lib.hid (by rw [show listR P Q R S 0 = [] from rfl, fillR_nil]; exact rows_none), Lib.hid fun k hk => absurd hk (by omega)⟩
  case round =>
    obtain ⟨i, G, hi, rfl, hW, hsz, HR0, HR1, HO, HA⟩ := hrel
    by_cases hlt : i < n
    · obtain ⟨hb, c0, c1, c2, c3⟩ := (HR.out.below hW).at rfl hlt
      have q1 : (i : Int) < (n : Int) := by omega
      have q0 : (0 : Int) ≤ (i : Int) := by omega
      cases hel : elB (P i) (Q i) (R i) (S i) with
      | false =>
        have hE := fun w => implEdgeLength_any (P i) (Q i) (R i) (S i) w
        rw [elV_f hel] at hE
        have ho := elsB_f hlt hel
        have HOO := Lib.hid ho
        clear ho hel
        go_wp2_with (go_at_call 35; refine (hE _).mono ?_; rintro e v1 ⟨rfl, bv1⟩; have r2 := (HR0.out.ext (by (repeat (first | (with_reducible exact Below.refl _ _) | (with_reducible refine Ext.drewN ?_ _) | (with_reducible refine Below.drew ?_) | (with_reducible refine Ext.alloc ?_ _) | (with_reducible refine Ext.setCell ?_ (by simp; try omega) _) | (with_reducible refine Ext.trans ?_ (by assumption)) | (with_reducible assumption) | exact Below.refl _ _)) : Below wr.heap.size wr (wr.alloc (.cells #[.int .i64 (P i), .int .i64 (Q i), .int .i64 (R i), .int .i64 (S i)] 55)))).ext bv1; have st := storeAt59 (fun _ => 0) r2; have st3 := store59 (fun _ => 0) r2; have sz3 := wArr_size (fun _ => 0); have hl := loadVar59 (r2.setRow (fun _ => 0)))
        have hBw : Below w.heap.size w v1 := by (repeat (first | (with_reducible exact Below.refl _ _) | (with_reducible refine Ext.drewN ?_ _) | (with_reducible refine Below.drew ?_) | (with_reducible refine Ext.alloc ?_ _) | (with_reducible refine Ext.setCell ?_ (by simp; try omega) _) | (with_reducible refine Ext.trans ?_ (by assumption)) | (with_reducible assumption) | exact Below.refl _ _))
        refine bodyPost_ret (v := .tuple #[.agg (wArr fun _ => 0), .bool false]) (by rw [results_cell_tmp rfl]; simp [asAddr, Result.andThen, hl]) rfl ⟨⟨fun _ => 0, by rw [HOO.out], fun h => by rw [HOO.out] at h; cases h⟩, hBw.trans (below_setRow _ _ (Nat.le_refl _))⟩
      | true =>
        have hE := fun w => implEdgeLength_any (P i) (Q i) (R i) (S i) w
        have hz1 := elV_ne hel
        have hz0 : (elV (P i) (Q i) (R i) (S i) == -1) = false := by simpa using hz1
        generalize elV (P i) (Q i) (R i) (S i) = z at hE hz1 hz0
        obtain ⟨hon1, hon2, hdir⟩ := elB_iff.1 hel
        obtain ⟨⟨x1, x2⟩, x3, x4⟩ := onB_t hon1
        obtain ⟨⟨y1, y2⟩, y3, y4⟩ := onB_t hon2
        obtain ⟨lo, hlo⟩ : ∃ lo, min (Q i) (S i) = lo := ⟨_, rfl⟩
        obtain ⟨hi', hhi⟩ : ∃ hi, max (Q i) (S i) = hi := ⟨_, rfl⟩
        have l1 : -40 ≤ lo := by omega
        have l2 : hi' ≤ 40 := by omega
        have l3 : lo ≤ hi' := by omega
        have HEL := Lib.hid hel
        have HDIR := Lib.hid hdir
        clear hel hdir hon1 hon2
        go_wp2_with (go_at_call 35; refine (hE _).mono ?_; rintro e v1 ⟨rfl, bv1⟩; obtain ⟨sv1, zv1, cv1, fv1⟩ := bcell bv1; (try simp only [World.size_alloc, World.size_setCell, World.size_drew] at sv1))
        have hne : ¬ wr.heap.size = w.heap.size := by omega
        have hBw : Below wr.heap.size wr v1 := by (repeat (first | (with_reducible exact Below.refl _ _) | (with_reducible refine Ext.drewN ?_ _) | (with_reducible refine Below.drew ?_) | (with_reducible refine Ext.alloc ?_ _) | (with_reducible refine Ext.setCell ?_ (by simp; try omega) _) | (with_reducible refine Ext.trans ?_ (by assumption)) | (with_reducible assumption) | exact Below.refl _ _))
        have hWv := hW.trans (hBw.mono hW.size)
        have HR0v := Lib.hid (HR0.out.ext hBw)
        have HR1v := Lib.hid (HR1.out.ext hBw)
        have d0 : v1.cell? ⟨wr.heap.size, 0, none⟩ = some (.int .i64 (P i)) := by rw [cv1 _ _ (by simp)]; simp [go_sem]
        have d1 : v1.cell? ⟨wr.heap.size, 1, none⟩ = some (.int .i64 (Q i)) := by rw [cv1 _ _ (by simp)]; simp [go_sem]
        have d3 : v1.cell? ⟨wr.heap.size, 3, none⟩ = some (.int .i64 (S i)) := by rw [cv1 _ _ (by simp)]; simp [go_sem]
        clear sv1 zv1 cv1 fv1 bv1 hBw
        go_loopw [7] (fun s wy => ∃ (y : Int) (G : Nat → Nat), lo ≤ y ∧ y ≤ hi' ∧ s = .int .i64 y ∧ Below w.heap.size w wy ∧ (wy.cell? ⟨wr.heap.size, 0, none⟩ = some (.int .i64 (P i)) ∧ wy.cell? ⟨wr.heap.size, 1, none⟩ = some (.int .i64 (Q i)) ∧ wy.cell? ⟨wr.heap.size, 3, none⟩ = some (.int .i64 (S i))) ∧ Hid (RowsAt wy w.heap.size (fun _ => 0)) ∧ Hid (RowsAt wy (w.heap.size + 1) G) ∧ Hid (RowsOK (tgF (fillR (listR P Q R S i)) fun u v => (decide (lo ≤ v) && decide (v < y)) && decide (u < P i)) G)) (fun s _ => (hi' - intOf s).toNat)
        case atStart => exact ⟨lo, G, by omega, by omega, rfl, hWv, ⟨d0, d1, d3⟩, HR0v, HR1v, Lib.hid (tg_none _ _ _ HO.out)⟩
        case round =>
          rename World => wy
          clear d0 d1 d3 hWv HR0v HR1v HO HR0 HR1
          obtain ⟨y, G, hy0, hy1, rfl, hY, ⟨d0, d1, d3⟩, HR0, HR1, HO⟩ := hrel
          by_cases hy : y < hi'
          · obtain ⟨q, hq⟩ : ∃ q : Nat, y + 40 = (q : Int) := ⟨(y + 40).toNat, by omega⟩
            have HQ := Lib.hid (show (y + 40).toNat = q by omega)
            have g0 := HR1.out.cell (j := q * 2) (by omega)
            have g1 := HR1.out.cell (j := q * 2 + 1) (by omega)
            have f0 := HR1.out.frozen (q * 2)
            have f1 := HR1.out.frozen (q * 2 + 1)
            have w0 := HO.out.word (q * 2)
            have w1 := HO.out.word (q * 2 + 1)
            have m0 : W64 (mk (min (P i + 40).toNat 64)) := mk_lt (by omega)
            have m1 : W64 (mk ((P i + 40).toNat - 64)) := mk_lt (by omega)
            have hL := fun w => left_any (P i) w (by omega) (by omega)
            have HXR := Lib.hid (tg_row HO.out (by omega) (by omega) (by omega) (by omega) hy0)
            generalize hA0 : mk (min (P i + 40).toNat 64) = A0 at m0 hL
            generalize hA1 : mk ((P i + 40).toNat - 64) = A1 at m1 hL
            have HA0 := Lib.hid hA0
            have HA1 := Lib.hid hA1
            clear hA0 hA1
            have r0 : (0 : Int) ≤ (q : Int) := by omega
            have r1 : (q : Int) < 80 := by omega
            have hwr : IntKind.i64.wrap (q : Int) = (q : Int) := by rw [IntKind.wrap_i64]; omega
            have hwy : IntKind.i64.wrap (y + 1) = y + 1 := by rw [IntKind.wrap_i64]; omega
            have hsy : w.heap.size + 1 < wy.heap.size := HR1.out.lt
            have her : wr.heap.size < wy.heap.size := World.block_lt_of_cell? wy ⟨wr.heap.size, 0, none⟩ d0
            go_wp2_with fail
            go_region_with (first | (go_at_call 108; refine (hL _).mono ?_; rintro e v2 ⟨rfl, bv2⟩; have bw2 : Below wy.heap.size wy v2 := (by (repeat (first | (with_reducible exact Below.refl _ _) | (with_reducible refine Ext.drewN ?_ _) | (with_reducible refine Below.drew ?_) | (with_reducible refine Ext.alloc ?_ _) | (with_reducible refine Ext.setCell ?_ (by simp; try omega) _) | (with_reducible refine Ext.trans ?_ (by assumption)) | (with_reducible assumption) | exact Below.refl _ _))); have g0' := keepC bw2 g0; have g1' := keepC bw2 g1; have k0' := keepC bw2 d0) | (go_at_call 107; refine (differing_any _ _ _ _ _ w0 w1 m0 m1).mono ?_; rintro e v3 ⟨rfl, bv3⟩; have bw3 : Below wy.heap.size wy v3 := (by (repeat (first | (with_reducible exact Below.refl _ _) | (with_reducible refine Ext.drewN ?_ _) | (with_reducible refine Below.drew ?_) | (with_reducible refine Ext.alloc ?_ _) | (with_reducible refine Ext.setCell ?_ (by simp; try omega) _) | (with_reducible refine Ext.trans ?_ (by assumption)) | (with_reducible assumption) | exact Below.refl _ _))); have g0'' := keepC bw3 g0; have g1'' := keepC bw3 g1; have f0'' := (bw3.frozen (p := ⟨w.heap.size + 1, q * 2, none⟩) hsy).trans f0; have f1'' := (bw3.frozen (p := ⟨w.heap.size + 1, q * 2 + 1, none⟩) hsy).trans f1))
            all_goals
              have hset := ((HR1.out.ext bw3).set (j := q * 2) (by omega) (G (q * 2) ^^^ A0)).set (j := q * 2 + 1) (by omega) (G (q * 2 + 1) ^^^ A1)
              have HSET : Hid (RowsAt ((v3.setCell ⟨w.heap.size + 1, q * 2, none⟩ (.int .u64 ((G (q * 2) ^^^ A0 : Nat) : Int))).setCell ⟨w.heap.size + 1, q * 2 + 1, none⟩ (.int .u64 ((G (q * 2 + 1) ^^^ A1 : Nat) : Int))) (w.heap.size + 1) (xorR G (y + 40).toNat (P i + 40).toNat)) := Lib.hid (by rw [HQ.out]; unfold xorR; rw [HA0.out, HA1.out]; exact hset)
              clear hset
              have hne1 : ¬ w.heap.size + 1 = wr.heap.size := by omega
              have hne0 : ¬ w.heap.size + 1 = w.heap.size := by omega
              have hwv : Below w.heap.size w v3 := hY.trans (bw3.mono hY.size)
              have hr0 := HR0.out.ext bw3
              go_wp2_with fail
              go_roundw
              case rel => exact ⟨y + 1, _, by omega, by omega, by go_num, (hwv.setCell (p := ⟨w.heap.size + 1, q * 2, none⟩) (show w.heap.size ≤ w.heap.size + 1 from Nat.le_succ _) _).setCell (p := ⟨w.heap.size + 1, q * 2 + 1, none⟩) (show w.heap.size ≤ w.heap.size + 1 from Nat.le_succ _) _, ⟨keepS (keepS (keepC bw3 d0) hne1 _) hne1 _, keepS (keepS (keepC bw3 d1) hne1 _) hne1 _, keepS (keepS (keepC bw3 d3) hne1 _) hne1 _⟩, Lib.hid (RowsAt.kept hr0 (X := fun k => k = w.heap.size + 1) (((Kept.refl (fun k => k = w.heap.size + 1) v3).setCell (p := ⟨w.heap.size + 1, q * 2, none⟩) rfl _).setCell (p := ⟨w.heap.size + 1, q * 2 + 1, none⟩) rfl _) (by omega)), HSET, HXR⟩
              case measure => simp [intOf]; omega
          · obtain rfl : y = hi' := by omega
            go_wp2_with fail
            go_roundw
            case rel => exact ⟨i + 1, G, by omega, by go_num, hY, by have := World.block_lt_of_cell? _ _ d0; simp at this; omega, HR0, HR1, Lib.hid (tg_next (by have := HDIR.out; omega) (by rw [hlo, hhi]; exact HO.out)), Lib.hid fun k hk => by
              by_cases e : k = i
              · rw [e]; exact HEL.out
              · exact HA.out k (by omega)⟩
            case measure => simp [intOf]; omega
    · have q1 : ¬ (i : Int) < (n : Int) := by omega
      obtain rfl : i = n := by omega
      have hl := loadAt59 HR1.out
      have hl' := loadVar59 HR1.out
      have st := storeAt59 G HR0.out
      have hl2 := loadVar59 (HR0.out.setRow G)
      clear hl hl' st hl2
      go_upto_region 13 with fail
      refine wp_region_lit ?_
      unfold wpList
      rw [if_pos (by rfl)]
      refine .inl (op_load59 rfl rfl HR1.out ?_)
      unfold wpList
      rw [if_pos (by rfl)]
      refine .inl (op_store59 (d := 2) (s := 46) (G := G) ?_ ?_ ?_ HR0.out ?_)
      · rfl
      · rfl
      · rfl
      simp only [go_sem, Act.put]
      go_wp2_with fail
      have he := elsB_t HA.out
      refine bodyPost_ret (v := .tuple #[.agg (wArr G), .bool true]) (by rw [results_cell_tmp rfl]; simp [asAddr, Result.andThen, loadVar59 (HR0.out.setRow _)]) rfl ⟨⟨G, by rw [he], fun _ => HO.out⟩, hW.trans (below_setRow _ _ (Nat.le_refl _))⟩
end Go.Proofs.YtfbalpkjcfdakaaGreatDoor
