/- Edges: their end points, their lengths. Conditions: a list's cells are in memory. -/
import Derived.Test.YtfbalpkjcfdakaaDoorQR
import Derived.Lib.Hide
namespace Go.Proofs.YtfbalpkjcfdakaaDoor
open Go.RowKit
set_option linter.unusedVariables false
set_option linter.unusedSimpArgs false
attribute [local go_sem ↓] Go.wp_at_zero Go.wp_at_succ

/-- The slice's elements are the points (X i, Y i), below block B. -/
def PtI (B : Nat) (w : World) (a : Option Addr) (len : Nat) (X Y : Nat → Int) : Prop :=
  ∀ i, i < len → ∃ b off : Nat, a = some ⟨b, off, none⟩ ∧ b < B ∧ w.cell? ⟨b, off + i * 2, none⟩ = some (.int .i64 (X i)) ∧ w.cell? ⟨b, off + i * 2 + 1, none⟩ = some (.int .i64 (Y i))
theorem PtI.below {B : Nat} {w w' : World} {a : Option Addr} {len : Nat} {X Y : Nat → Int} (h : PtI B w a len X Y) (hb : Below B w w') : PtI B w' a len X Y := fun i hi => by
  obtain ⟨b, off, h1, h2, h3, h4⟩ := h i hi
  exact ⟨b, off, h1, h2, (hb.cell (p := ⟨b, off + i * 2, none⟩) h2).trans h3, (hb.cell (p := ⟨b, off + i * 2 + 1, none⟩) h2).trans h4⟩
def allO (X Y : Nat → Int) (len : Nat) : Bool := (List.range len).all fun i => onB (X i) (Y i)
theorem allO_f {X Y : Nat → Int} {len i : Nat} (h : i < len) (hf : onB (X i) (Y i) = false) : allO X Y len = false := by
  unfold allO
  rw [List.all_eq_false]
  exact ⟨i, List.mem_range.2 h, by simp [hf]⟩
theorem allO_t {X Y : Nat → Int} {len : Nat} (h : ∀ i, i < len → onB (X i) (Y i) = true) : allO X Y len = true := by
  unfold allO
  rw [List.all_eq_true]
  exact fun i hi => h i (List.mem_range.1 hi)
theorem areOnChip2_any (a : Option Addr) (len cap : Nat) (X Y : Nat → Int) (w : World) (hlen : len ≤ 1048576) (hP : PtI w.heap.size w a len X Y) :
    Calls Tryd.prog 56 #[.slice a len cap] w fun e w' => e = .returned (.bool (allO X Y len)) ∧ Below w.heap.size w w' := by
  go_enter Tryd.func56, Tryd.ntmps56
  go_wp2_with fail
  go_loopw [7] (fun s5 wr => ∃ i : Nat, i ≤ len ∧ s5 = .int .i64 i ∧ Below w.heap.size w wr ∧ ∀ k, k < i → onB (X k) (Y k) = true) (fun s5 _ => len - (intOf s5).toNat)
  case atStart => exact ⟨0, by omega, rfl, Below.refl _ _, fun k hk => absurd hk (by omega)⟩
  case round =>
    obtain ⟨i, hi, rfl, hW, hon⟩ := hrel
    have HON := Lib.hid hon
    clear hon
    by_cases hlt : i < len
    · obtain ⟨b1, o1, rfl, hb1, cx, cy⟩ := hP.below hW i hlt
      have q1 : (i : Int) < (len : Int) := by omega
      have q0 : (0 : Int) ≤ (i : Int) := by omega
      go_wp2_with fail
      refine (isOnChip_any _ _ _).mono ?_
      rintro e w2 ⟨rfl, bw2⟩
      cases ho : onB (X i) (Y i) with
      | false =>
        go_wp2_with fail
        go_ret
        exact ⟨ret_bool (allO_f hlt ho).symm, by (repeat (first | (with_reducible exact Below.refl _ _) | (with_reducible refine Ext.drewN ?_ _) | (with_reducible refine Below.drew ?_) | (with_reducible refine Ext.alloc ?_ _) | (with_reducible refine Ext.setCell ?_ (by simp; try omega) _) | (with_reducible refine Ext.trans ?_ (by assumption)) | (with_reducible assumption) | exact Below.refl _ _))⟩
      | true =>
        go_wp2_with fail
        go_roundw
        case rel => exact ⟨i + 1, by omega, by go_num, by (repeat (first | (with_reducible exact Below.refl _ _) | (with_reducible refine Ext.drewN ?_ _) | (with_reducible refine Below.drew ?_) | (with_reducible refine Ext.alloc ?_ _) | (with_reducible refine Ext.setCell ?_ (by simp; try omega) _) | (with_reducible refine Ext.trans ?_ (by assumption)) | (with_reducible assumption) | exact Below.refl _ _)), fun k hk => by
          by_cases e : k = i
          · subst e; exact ho
          · exact HON.out k (by omega)⟩
        case measure => simp [intOf]; omega
    · have q1 : ¬ (i : Int) < (len : Int) := by omega
      obtain rfl : i = len := by omega
      go_wp2_with fail
      go_ret
      exact ⟨ret_bool (allO_t HON.out).symm, hW⟩

def pk (a b : Int) (i : Nat) : Int := if i = 0 then a else b
theorem pts2 {w : World} {g : Nat} {a b c d : Int} (h0 : w.cell? ⟨g, 0, none⟩ = some (.int .i64 a)) (h1 : w.cell? ⟨g, 1, none⟩ = some (.int .i64 b)) (h2 : w.cell? ⟨g, 2, none⟩ = some (.int .i64 c)) (h3 : w.cell? ⟨g, 3, none⟩ = some (.int .i64 d)) :
    PtI w.heap.size w (some ⟨g, 0, none⟩) 2 (pk a c) (pk b d) := fun i hi => by
  have hg := World.block_lt_of_cell? w ⟨g, 0, none⟩ h0
  rcases (show i = 0 ∨ i = 1 by omega) with rfl | rfl
  · exact ⟨g, 0, rfl, hg, h0, h1⟩
  · exact ⟨g, 0, rfl, hg, h2, h3⟩
theorem allO2 (a b c d : Int) : allO (pk a c) (pk b d) 2 = (onB a b && onB c d) := by
  simp [allO, List.range_succ, pk]

theorem eBegin_any (a b c d : Int) (w : World) : Calls Tryd.prog 156 #[.agg #[.int .i64 a, .int .i64 b, .int .i64 c, .int .i64 d]] w fun e w' => e = .returned (.agg #[.int .i64 a, .int .i64 b]) ∧ Below w.heap.size w w' := by
  go_enter Tryd.func156, Tryd.ntmps156
  go_wp2_with fail
  first | go_ret | (refine bodyPost_ret (v := .agg #[.int .i64 a, .int .i64 b]) (by simp [*, results, Tryd.results156, go_sem]) rfl ?_)
  exact ⟨rfl, by (repeat (first | (with_reducible exact Below.refl _ _) | (with_reducible refine Ext.drewN ?_ _) | (with_reducible refine Below.drew ?_) | (with_reducible refine Ext.alloc ?_ _) | (with_reducible refine Ext.setCell ?_ (by simp; try omega) _) | (with_reducible refine Ext.trans ?_ (by assumption)) | (with_reducible assumption) | exact Below.refl _ _))⟩
theorem eEnd_any (a b c d : Int) (w : World) : Calls Tryd.prog 157 #[.agg #[.int .i64 a, .int .i64 b, .int .i64 c, .int .i64 d]] w fun e w' => e = .returned (.agg #[.int .i64 c, .int .i64 d]) ∧ Below w.heap.size w w' := by
  go_enter Tryd.func157, Tryd.ntmps157
  go_wp2_with fail
  first | go_ret | (refine bodyPost_ret (v := .agg #[.int .i64 c, .int .i64 d]) (by simp [*, results, Tryd.results157, go_sem]) rfl ?_)
  exact ⟨rfl, by (repeat (first | (with_reducible exact Below.refl _ _) | (with_reducible refine Ext.drewN ?_ _) | (with_reducible refine Below.drew ?_) | (with_reducible refine Ext.alloc ?_ _) | (with_reducible refine Ext.setCell ?_ (by simp; try omega) _) | (with_reducible refine Ext.trans ?_ (by assumption)) | (with_reducible assumption) | exact Below.refl _ _))⟩
theorem edgeBetween_any (a b c d : Int) (w : World) : Calls Tryd.prog 120 #[.agg #[.int .i64 a, .int .i64 b], .agg #[.int .i64 c, .int .i64 d]] w fun e w' => e = .returned (.agg #[.int .i64 a, .int .i64 b, .int .i64 c, .int .i64 d]) ∧ Below w.heap.size w w' := by
  go_enter Tryd.func120, Tryd.ntmps120
  go_wp2_with fail
  first | go_ret | (refine bodyPost_ret (v := .agg #[.int .i64 a, .int .i64 b, .int .i64 c, .int .i64 d]) (by simp [*, results, Tryd.results120, go_sem]) rfl ?_)
  exact ⟨rfl, by (repeat (first | (with_reducible exact Below.refl _ _) | (with_reducible refine Ext.drewN ?_ _) | (with_reducible refine Below.drew ?_) | (with_reducible refine Ext.alloc ?_ _) | (with_reducible refine Ext.setCell ?_ (by simp; try omega) _) | (with_reducible refine Ext.trans ?_ (by assumption)) | (with_reducible assumption) | exact Below.refl _ _))⟩

def hi4 (x y z u : Int) : Int := if u > (if z > (if y > x then y else x) then z else (if y > x then y else x)) then u else (if z > (if y > x then y else x) then z else (if y > x then y else x))
theorem run_max_int4 {P : Program} {w : World} (ts : Array TypeId) (t : TypeId) (k k1 k2 k3 : IntKind) (x y z u : Int) : (Builtin.max_ ts t #[.int k x, .int k1 y, .int k2 z, .int k3 u]).run P w = .ok (.int k (hi4 x y z u)) w := by
  simp only [Builtin.max_, Builtin.max2, hi4]
  simp [Builtin.max_, Builtin.max2]
attribute [local go_sem] run_max_int4

/-- Has the edge a length? -/
def elB (a b c d : Int) : Bool := (onB a b && onB c d) && !(decide (a = c) == decide (b = d))
def elV (a b c d : Int) : Int := if elB a b c d = true then max (c - a) (a - c) + max (d - b) (b - d) else -1
theorem elV_f {a b c d : Int} (h : elB a b c d = false) : elV a b c d = -1 := by simp [elV, h]
theorem elV_t {a b c d : Int} (h : elB a b c d = true) : elV a b c d = max (c - a) (a - c) + max (d - b) (b - d) := by simp [elV, h]

set_option maxHeartbeats 4000000 in
theorem implEdgeLength_any (a b c d : Int) (w : World) : Calls Tryd.prog 117 #[.agg #[.int .i64 a, .int .i64 b, .int .i64 c, .int .i64 d]] w fun e w' => e = .returned (.int .i64 (elV a b c d)) ∧ Below w.heap.size w w' := by
  have hon := allO2 a b c d
  cases h0 : (onB a b && onB c d) with
  | false =>
    rw [elV_f (by simp [elB, h0])]
    rw [h0] at hon
    go_enter Tryd.func117, Tryd.ntmps117
    go_wp2_with fail
    go_region_held3 (fun w' => w.heap.size < w'.heap.size ∧ Below w.heap.size w w' ∧ w'.cell? ⟨w.heap.size, 0, none⟩ = some (.int .i64 a) ∧ w'.cell? ⟨w.heap.size, 1, none⟩ = some (.int .i64 b) ∧ w'.cell? ⟨w.heap.size, 2, none⟩ = some (.int .i64 c) ∧ w'.cell? ⟨w.heap.size, 3, none⟩ = some (.int .i64 d))
      (first | ((try dsimp only); go_split_ands; (repeat' (with_reducible refine And.intro ?_ ?_)) <;> first | ((repeat (with_reducible refine keepS ?_ (by simp; try omega) _)); (first | (with_reducible assumption) | (with_reducible exact keepC (by assumption) (by assumption)) | (with_reducible exact keepA (by assumption) _) | (with_reducible exact keepR (by assumption) (by omega) _))) | ((try simp only [World.size_alloc, World.size_setCell, World.size_drew]); omega) | (refine Mats.below hM ?_ hM.size; (repeat (first | (with_reducible exact Below.refl _ _) | (with_reducible refine Ext.drewN ?_ _) | (with_reducible refine Below.drew ?_) | (with_reducible refine Ext.alloc ?_ _) | (with_reducible refine Ext.setCell ?_ (by simp; try omega) _) | (with_reducible refine Ext.trans ?_ (by assumption)) | (with_reducible assumption) | exact Below.refl _ _)); done) | ((repeat (first | (with_reducible exact Below.refl _ _) | (with_reducible refine Ext.drewN ?_ _) | (with_reducible refine Below.drew ?_) | (with_reducible refine Ext.alloc ?_ _) | (with_reducible refine Ext.setCell ?_ (by simp; try omega) _) | (with_reducible refine Ext.trans ?_ (by assumption)) | (with_reducible assumption) | exact Below.refl _ _)); done) | (go_keep; done)))
      (first | (go_at_call 156; refine (eBegin_any a b c d _).mono ?_; rintro e v1 ⟨rfl, bv1⟩; obtain ⟨sv1, zv1, cv1, fv1⟩ := bcell bv1; (try simp only [World.size_alloc, World.size_setCell, World.size_drew] at sv1); (try have nv1_w_0 : w.heap.size < v1.heap.size := by omega); (try have nv1_w_1 : w.heap.size + 1 < v1.heap.size := by omega); (try have nv1_w_2 : w.heap.size + 1 + 1 < v1.heap.size := by omega); (try have nv1_v2_0 : v2.heap.size < v1.heap.size := by omega); (try have nv1_v2_1 : v2.heap.size + 1 < v1.heap.size := by omega); (try have nv1_v3_0 : v3.heap.size < v1.heap.size := by omega); (try have nv1_v3_1 : v3.heap.size + 1 < v1.heap.size := by omega)) | (go_at_call 157; refine (eEnd_any a b c d _).mono ?_; rintro e v2 ⟨rfl, bv2⟩; obtain ⟨sv2, zv2, cv2, fv2⟩ := bcell bv2; (try simp only [World.size_alloc, World.size_setCell, World.size_drew] at sv2); (try have nv2_w_0 : w.heap.size < v2.heap.size := by omega); (try have nv2_w_1 : w.heap.size + 1 < v2.heap.size := by omega); (try have nv2_w_2 : w.heap.size + 1 + 1 < v2.heap.size := by omega); (try have nv2_v1_0 : v1.heap.size < v2.heap.size := by omega); (try have nv2_v1_1 : v1.heap.size + 1 < v2.heap.size := by omega); (try have nv2_v3_0 : v3.heap.size < v2.heap.size := by omega); (try have nv2_v3_1 : v3.heap.size + 1 < v2.heap.size := by omega)) | (go_at_call 56; refine (areOnChip2_any _ 2 _ (pk a c) (pk b d) _ (by omega) (pts2 (by simp [go_sem]) (by simp [go_sem]) (by simp [go_sem]) (by simp [go_sem]))).mono ?_; rintro e v3 ⟨rfl, bv3⟩; rw [hon]; obtain ⟨sv3, zv3, cv3, fv3⟩ := bcell bv3; (try simp only [World.size_alloc, World.size_setCell, World.size_drew] at sv3); (try have nv3_w_0 : w.heap.size < v3.heap.size := by omega); (try have nv3_w_1 : w.heap.size + 1 < v3.heap.size := by omega); (try have nv3_w_2 : w.heap.size + 1 + 1 < v3.heap.size := by omega); (try have nv3_v1_0 : v1.heap.size < v3.heap.size := by omega); (try have nv3_v1_1 : v1.heap.size + 1 < v3.heap.size := by omega); (try have nv3_v2_0 : v2.heap.size < v3.heap.size := by omega); (try have nv3_v2_1 : v2.heap.size + 1 < v3.heap.size := by omega)))
    all_goals
      go_wp2_with fail
      go_ret
      exact ⟨rfl, by (repeat (first | (with_reducible exact Below.refl _ _) | (with_reducible refine Ext.drewN ?_ _) | (with_reducible refine Below.drew ?_) | (with_reducible refine Ext.alloc ?_ _) | (with_reducible refine Ext.setCell ?_ (by simp; try omega) _) | (with_reducible refine Ext.trans ?_ (by assumption)) | (with_reducible assumption) | exact Below.refl _ _))⟩
  | true =>
    rw [h0] at hon
    rw [Bool.and_eq_true] at h0
    obtain ⟨⟨x1, x2⟩, x3, x4⟩ := onB_t h0.1
    obtain ⟨⟨y1, y2⟩, y3, y4⟩ := onB_t h0.2
    have e1 : IntKind.i64.wrap (c - a) = c - a := by rw [IntKind.wrap_i64]; omega
    have e2 : IntKind.i64.wrap (d - b) = d - b := by rw [IntKind.wrap_i64]; omega
    have e3 : IntKind.i64.wrap (-(c - a)) = -(c - a) := by rw [IntKind.wrap_i64]; omega
    have e4 : IntKind.i64.wrap (-(d - b)) = -(d - b) := by rw [IntKind.wrap_i64]; omega
    have p1 : decide (a = c) = (c - a == 0) := by rw [Bool.eq_iff_iff]; simp; omega
    have p2 : decide (b = d) = (d - b == 0) := by rw [Bool.eq_iff_iff]; simp; omega
    have hv : elV a b c d = if (!((c - a == 0) == (d - b == 0))) = true then max (c - a) (a - c) + max (d - b) (b - d) else -1 := by
      unfold elV elB
      rw [h0.1, h0.2, p1, p2]
      rfl
    rw [hv]
    clear hv h0 p1 p2
    cases p : (c - a == 0)
    all_goals
      cases q : (d - b == 0)
      all_goals
        go_enter Tryd.func117, Tryd.ntmps117
        go_wp2_with fail
        go_region_held3 (fun w' => w.heap.size < w'.heap.size ∧ Below w.heap.size w w' ∧ w'.cell? ⟨w.heap.size, 0, none⟩ = some (.int .i64 a) ∧ w'.cell? ⟨w.heap.size, 1, none⟩ = some (.int .i64 b) ∧ w'.cell? ⟨w.heap.size, 2, none⟩ = some (.int .i64 c) ∧ w'.cell? ⟨w.heap.size, 3, none⟩ = some (.int .i64 d))
          (first | ((try dsimp only); go_split_ands; (repeat' (with_reducible refine And.intro ?_ ?_)) <;> first | ((repeat (with_reducible refine keepS ?_ (by simp; try omega) _)); (first | (with_reducible assumption) | (with_reducible exact keepC (by assumption) (by assumption)) | (with_reducible exact keepA (by assumption) _) | (with_reducible exact keepR (by assumption) (by omega) _))) | ((try simp only [World.size_alloc, World.size_setCell, World.size_drew]); omega) | (refine Mats.below hM ?_ hM.size; (repeat (first | (with_reducible exact Below.refl _ _) | (with_reducible refine Ext.drewN ?_ _) | (with_reducible refine Below.drew ?_) | (with_reducible refine Ext.alloc ?_ _) | (with_reducible refine Ext.setCell ?_ (by simp; try omega) _) | (with_reducible refine Ext.trans ?_ (by assumption)) | (with_reducible assumption) | exact Below.refl _ _)); done) | ((repeat (first | (with_reducible exact Below.refl _ _) | (with_reducible refine Ext.drewN ?_ _) | (with_reducible refine Below.drew ?_) | (with_reducible refine Ext.alloc ?_ _) | (with_reducible refine Ext.setCell ?_ (by simp; try omega) _) | (with_reducible refine Ext.trans ?_ (by assumption)) | (with_reducible assumption) | exact Below.refl _ _)); done) | (go_keep; done)))
          (first | (go_at_call 156; refine (eBegin_any a b c d _).mono ?_; rintro e v1 ⟨rfl, bv1⟩; obtain ⟨sv1, zv1, cv1, fv1⟩ := bcell bv1; (try simp only [World.size_alloc, World.size_setCell, World.size_drew] at sv1); (try have nv1_w_0 : w.heap.size < v1.heap.size := by omega); (try have nv1_w_1 : w.heap.size + 1 < v1.heap.size := by omega); (try have nv1_w_2 : w.heap.size + 1 + 1 < v1.heap.size := by omega); (try have nv1_v2_0 : v2.heap.size < v1.heap.size := by omega); (try have nv1_v2_1 : v2.heap.size + 1 < v1.heap.size := by omega); (try have nv1_v3_0 : v3.heap.size < v1.heap.size := by omega); (try have nv1_v3_1 : v3.heap.size + 1 < v1.heap.size := by omega)) | (go_at_call 157; refine (eEnd_any a b c d _).mono ?_; rintro e v2 ⟨rfl, bv2⟩; obtain ⟨sv2, zv2, cv2, fv2⟩ := bcell bv2; (try simp only [World.size_alloc, World.size_setCell, World.size_drew] at sv2); (try have nv2_w_0 : w.heap.size < v2.heap.size := by omega); (try have nv2_w_1 : w.heap.size + 1 < v2.heap.size := by omega); (try have nv2_w_2 : w.heap.size + 1 + 1 < v2.heap.size := by omega); (try have nv2_v1_0 : v1.heap.size < v2.heap.size := by omega); (try have nv2_v1_1 : v1.heap.size + 1 < v2.heap.size := by omega); (try have nv2_v3_0 : v3.heap.size < v2.heap.size := by omega); (try have nv2_v3_1 : v3.heap.size + 1 < v2.heap.size := by omega)) | (go_at_call 56; refine (areOnChip2_any _ 2 _ (pk a c) (pk b d) _ (by omega) (pts2 (by simp [go_sem]) (by simp [go_sem]) (by simp [go_sem]) (by simp [go_sem]))).mono ?_; rintro e v3 ⟨rfl, bv3⟩; rw [hon]; obtain ⟨sv3, zv3, cv3, fv3⟩ := bcell bv3; (try simp only [World.size_alloc, World.size_setCell, World.size_drew] at sv3); (try have nv3_w_0 : w.heap.size < v3.heap.size := by omega); (try have nv3_w_1 : w.heap.size + 1 < v3.heap.size := by omega); (try have nv3_w_2 : w.heap.size + 1 + 1 < v3.heap.size := by omega); (try have nv3_v1_0 : v1.heap.size < v3.heap.size := by omega); (try have nv3_v1_1 : v1.heap.size + 1 < v3.heap.size := by omega); (try have nv3_v2_0 : v2.heap.size < v3.heap.size := by omega); (try have nv3_v2_1 : v2.heap.size + 1 < v3.heap.size := by omega)))
        all_goals
          go_wp2_with fail
          go_region
          go_wp2_with fail
          go_ret
          exact ⟨ret_int (by simp at p q ⊢; (try unfold hi4); (try omega)), by (repeat (first | (with_reducible exact Below.refl _ _) | (with_reducible refine Ext.drewN ?_ _) | (with_reducible refine Below.drew ?_) | (with_reducible refine Ext.alloc ?_ _) | (with_reducible refine Ext.setCell ?_ (by simp; try omega) _) | (with_reducible refine Ext.trans ?_ (by assumption)) | (with_reducible assumption) | exact Below.refl _ _))⟩
end Go.Proofs.YtfbalpkjcfdakaaDoor
