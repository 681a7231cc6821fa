/- FindTransform: the program's. Conditions: the points' cells are in memory; the variable orientationMatrices holds its table. -/
import Derived.Test.YtlbanaoabifaiaaDoorTrU
import Derived.Test.YtlbanaoabifaiaaDoorTrH
namespace Go.Proofs.YtlbanaoabifaiaaDoor
open Go.RowKit
set_option linter.unusedVariables false
set_option linter.unusedSimpArgs false
attribute [local go_sem ↓] Go.wp_at_zero Go.wp_at_succ

def allB (p : Nat → Bool) (n : Nat) : Bool := (List.range n).all p
theorem allB_succ (p : Nat → Bool) (n : Nat) : allB p (n + 1) = (allB p n && p n) := by
  unfold allB; rw [List.range_succ, List.all_append]; simp
theorem allB_f {p : Nat → Bool} {n i : Nat} (h : i < n) (hf : p i = false) : allB p n = false := by
  unfold allB
  rw [List.all_eq_false]
  exact ⟨i, List.mem_range.2 h, by simp [hf]⟩
theorem allB_t {p : Nat → Bool} {n : Nat} (h : ∀ i, i < n → p i = true) : allB p n = true := by
  unfold allB
  rw [List.all_eq_true]
  exact fun i hi => h i (List.mem_range.1 hi)
def hitB (o : Nat) (x y : Int) (X Y U V : Nat → Int) (i : Nat) : Bool := tX o (X i) (Y i) + x == U i && tY o (X i) (Y i) + y == V i
def mapB (o : Nat) (x y : Int) (X Y U V : Nat → Int) (len : Nat) : Bool := allB (hitB o x y X Y U V) len

set_option maxHeartbeats 4000000 in
theorem mapsAll_any (o : Nat) (x y : Int) (a b : Option Addr) (len c1 c2 : Nat) (X Y U V : Nat → Int) (w : World) (ho : o < 8) (hM : Mats w) (hx : -1000 ≤ x) (hx' : x ≤ 1000) (hy : -1000 ≤ y) (hy' : y ≤ 1000) (hlen : len ≤ 8)
    (hon : ∀ i, i < len → (-1000 ≤ X i ∧ X i ≤ 1000) ∧ (-1000 ≤ Y i ∧ Y i ≤ 1000)) (hP : PtsIs w.heap.size w a len X Y) (hQ : PtsIs w.heap.size w b len U V) :
    Calls Tryd.prog 34 #[.agg #[.int .i64 o, .int .i64 x, .int .i64 y], .slice a len c1, .slice b len c2] w fun e w' => e = .returned (.bool (mapB o x y X Y U V len)) ∧ Below w.heap.size w w' := by
  have HON := Lib.hid hon
  clear hon
  go_enter Tryd.func34, Tryd.ntmps34
  go_wp2_with fail
  go_loopw [11] (fun s5 wr => ∃ i : Nat, i ≤ len ∧ s5 = .int .i64 i ∧ w.heap.size < wr.heap.size ∧ Below w.heap.size w wr ∧ wr.cell? ⟨w.heap.size, 0, none⟩ = some (.int .i64 o) ∧ wr.cell? ⟨w.heap.size, 1, none⟩ = some (.int .i64 x) ∧ wr.cell? ⟨w.heap.size, 2, none⟩ = some (.int .i64 y) ∧ ∀ k, k < i → hitB o x y X Y U V k = true) (fun s5 _ => len - (intOf s5).toNat)
  case atStart => exact ⟨0, by omega, rfl, by simp, by (repeat (first | (with_reducible exact Below.refl _ _) | (with_reducible refine Ext.drewN ?_ _) | (with_reducible refine Below.drew ?_) | (with_reducible refine Ext.alloc ?_ _) | (with_reducible refine Ext.setCell ?_ (by simp; try omega) _) | (with_reducible refine Ext.trans ?_ (by assumption)) | (with_reducible assumption) | exact Below.refl _ _)), by simp, by simp, by simp, fun k hk => absurd hk (by omega)⟩
  case round =>
    obtain ⟨i, hi, rfl, hsz, hW, e0, e1, e2, hhit⟩ := hrel
    have HH := Lib.hid hhit
    clear hhit
    by_cases hlt : i < len
    · obtain ⟨b1, o1, rfl, hb1, cx, cy⟩ := hP.below hW i hlt
      obtain ⟨b2, o2, rfl, hb2, dx, dy⟩ := hQ.below hW i hlt
      have q1 : (i : Int) < (len : Int) := by omega
      have q0 : (0 : Int) ≤ (i : Int) := by omega
      obtain ⟨⟨x1, x2⟩, x3, x4⟩ := HON.out i hlt
      have E0 := keepA e0 (.cells #[.int .i64 (X i), .int .i64 (Y i)] 32)
      have E1 := keepA e1 (.cells #[.int .i64 (X i), .int .i64 (Y i)] 32)
      have E2 := keepA e2 (.cells #[.int .i64 (X i), .int .i64 (Y i)] 32)
      have D0 := keepA dx (.cells #[.int .i64 (X i), .int .i64 (Y i)] 32)
      have D1 := keepA dy (.cells #[.int .i64 (X i), .int .i64 (Y i)] 32)
      cases hh : hitB o x y X Y U V i with
      | false =>
        have heq : ∀ w : World, (Op.equalIn 10000 32 (.agg #[.int .i64 (tX o (X i) (Y i) + x), .int .i64 (tY o (X i) (Y i) + y)]) (.agg #[.int .i64 (U i), .int .i64 (V i)])).run Tryd.prog w = .ok false w := fun w => by rw [eqPt]; exact congrArg (fun t => Result.ok t w) hh
        have HF := Lib.hid hh
        clear hh
        go_wp2_with fail
        go_region_held3 (fun w' => Below w.heap.size w w' ∧ w'.cell? ⟨w.heap.size, 0, none⟩ = some (.int .i64 o) ∧ w'.cell? ⟨w.heap.size, 1, none⟩ = some (.int .i64 x) ∧ w'.cell? ⟨w.heap.size, 2, none⟩ = some (.int .i64 y) ∧ w'.cell? ⟨wr.heap.size, 0, none⟩ = some (.int .i64 (X i)) ∧ w'.cell? ⟨wr.heap.size, 1, none⟩ = some (.int .i64 (Y i)) ∧ w'.cell? ⟨b2, o2 + i * 2, none⟩ = some (.int .i64 (U i)) ∧ w'.cell? ⟨b2, o2 + i * 2 + 1, none⟩ = some (.int .i64 (V i)))
          (first | ((try dsimp only); go_split_ands; (repeat' (with_reducible refine And.intro ?_ ?_)) <;> first | ((repeat (with_reducible refine keepS ?_ (by simp; try omega) _)); (first | (with_reducible assumption) | (with_reducible exact keepC (by assumption) (by assumption)) | (with_reducible exact keepA (by assumption) _) | (with_reducible exact keepR (by assumption) (by omega) _))) | ((try simp only [World.size_alloc, World.size_setCell, World.size_drew]); omega) | (refine Mats.below hM ?_ hM.size; (repeat (first | (with_reducible exact Below.refl _ _) | (with_reducible refine Ext.drewN ?_ _) | (with_reducible refine Below.drew ?_) | (with_reducible refine Ext.alloc ?_ _) | (with_reducible refine Ext.setCell ?_ (by simp; try omega) _) | (with_reducible refine Ext.trans ?_ (by assumption)) | (with_reducible assumption) | exact Below.refl _ _)); done) | ((repeat (first | (with_reducible exact Below.refl _ _) | (with_reducible refine Ext.drewN ?_ _) | (with_reducible refine Below.drew ?_) | (with_reducible refine Ext.alloc ?_ _) | (with_reducible refine Ext.setCell ?_ (by simp; try omega) _) | (with_reducible refine Ext.trans ?_ (by assumption)) | (with_reducible assumption) | exact Below.refl _ _)); done) | (go_keep; done)))
          (first | (go_at_call 31; refine (tImage_any o x y (X i) (Y i) _ ho ?_ hx hx' hy hy' x1 x2 x3 x4).mono ?_; (go_split_ands; refine Mats.below hM ?_ hM.size; assumption); rintro e v1 ⟨rfl, bv1⟩))
        go_wp2_with fail
        go_ret
        exact ⟨ret_bool (allB_f hlt HF.out).symm, by (repeat (first | (with_reducible exact Below.refl _ _) | (with_reducible refine Ext.drewN ?_ _) | (with_reducible refine Below.drew ?_) | (with_reducible refine Ext.alloc ?_ _) | (with_reducible refine Ext.setCell ?_ (by simp; try omega) _) | (with_reducible refine Ext.trans ?_ (by assumption)) | (with_reducible assumption) | exact Below.refl _ _))⟩
      | true =>
        have heq : ∀ w : World, (Op.equalIn 10000 32 (.agg #[.int .i64 (tX o (X i) (Y i) + x), .int .i64 (tY o (X i) (Y i) + y)]) (.agg #[.int .i64 (U i), .int .i64 (V i)])).run Tryd.prog w = .ok true w := fun w => by rw [eqPt]; exact congrArg (fun t => Result.ok t w) hh
        have HF := Lib.hid hh
        clear hh
        go_wp2_with fail
        go_region_held3 (fun w' => Below w.heap.size w w' ∧ w'.cell? ⟨w.heap.size, 0, none⟩ = some (.int .i64 o) ∧ w'.cell? ⟨w.heap.size, 1, none⟩ = some (.int .i64 x) ∧ w'.cell? ⟨w.heap.size, 2, none⟩ = some (.int .i64 y) ∧ w'.cell? ⟨wr.heap.size, 0, none⟩ = some (.int .i64 (X i)) ∧ w'.cell? ⟨wr.heap.size, 1, none⟩ = some (.int .i64 (Y i)) ∧ w'.cell? ⟨b2, o2 + i * 2, none⟩ = some (.int .i64 (U i)) ∧ w'.cell? ⟨b2, o2 + i * 2 + 1, none⟩ = some (.int .i64 (V i)))
          (first | ((try dsimp only); go_split_ands; (repeat' (with_reducible refine And.intro ?_ ?_)) <;> first | ((repeat (with_reducible refine keepS ?_ (by simp; try omega) _)); (first | (with_reducible assumption) | (with_reducible exact keepC (by assumption) (by assumption)) | (with_reducible exact keepA (by assumption) _) | (with_reducible exact keepR (by assumption) (by omega) _))) | ((try simp only [World.size_alloc, World.size_setCell, World.size_drew]); omega) | (refine Mats.below hM ?_ hM.size; (repeat (first | (with_reducible exact Below.refl _ _) | (with_reducible refine Ext.drewN ?_ _) | (with_reducible refine Below.drew ?_) | (with_reducible refine Ext.alloc ?_ _) | (with_reducible refine Ext.setCell ?_ (by simp; try omega) _) | (with_reducible refine Ext.trans ?_ (by assumption)) | (with_reducible assumption) | exact Below.refl _ _)); done) | ((repeat (first | (with_reducible exact Below.refl _ _) | (with_reducible refine Ext.drewN ?_ _) | (with_reducible refine Below.drew ?_) | (with_reducible refine Ext.alloc ?_ _) | (with_reducible refine Ext.setCell ?_ (by simp; try omega) _) | (with_reducible refine Ext.trans ?_ (by assumption)) | (with_reducible assumption) | exact Below.refl _ _)); done) | (go_keep; done)))
          (first | (go_at_call 31; refine (tImage_any o x y (X i) (Y i) _ ho ?_ hx hx' hy hy' x1 x2 x3 x4).mono ?_; (go_split_ands; refine Mats.below hM ?_ hM.size; assumption); rintro e v1 ⟨rfl, bv1⟩))
        go_split_ands
        have hsv := bv1.size
        simp only [World.size_alloc, World.size_drew] at hsv
        go_wp2_with fail
        go_roundw
        case rel => exact ⟨i + 1, by omega, by go_num, by omega, by (repeat (first | (with_reducible exact Below.refl _ _) | (with_reducible refine Ext.drewN ?_ _) | (with_reducible refine Below.drew ?_) | (with_reducible refine Ext.alloc ?_ _) | (with_reducible refine Ext.setCell ?_ (by simp; try omega) _) | (with_reducible refine Ext.trans ?_ (by assumption)) | (with_reducible assumption) | exact Below.refl _ _)), by assumption, by assumption, by assumption, fun k hk => by
          by_cases e : k = i
          · subst e; exact HF.out
          · exact HH.out k (by omega)⟩
        case measure => simp [intOf]; omega
    · have q1 : ¬ (i : Int) < (len : Int) := by omega
      obtain rfl : i = len := by omega
      go_wp2_with fail
      go_ret
      exact ⟨ret_bool (allB_t HH.out).symm, hW⟩
end Go.Proofs.YtlbanaoabifaiaaDoor
