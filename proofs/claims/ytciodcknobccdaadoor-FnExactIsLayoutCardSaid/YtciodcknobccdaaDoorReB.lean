/- Rectangles: equality of whole rectangles, validity by the program, many rectangles at once, what two have in common. Conditions: those of each theorem. -/
import Derived.Test.YtciodcknobccdaaDoorReA
import Derived.Laws.StructEq
namespace Go.Proofs.YtciodcknobccdaaDoor
open Go.RowKit
set_option linter.unusedVariables false
set_option linter.unusedSimpArgs false
attribute [local go_sem ↓] Go.wp_at_zero Go.wp_at_succ

def eqRB (a b c d p q r s : Int) : Bool := a == p && (b == q && (c == r && d == s))
theorem eqRc (a b c d p q r s : Int) (w : World) : (Op.equalIn 10000 142 (.agg #[.int .i64 a, .int .i64 b, .int .i64 c, .int .i64 d]) (.agg #[.int .i64 p, .int .i64 q, .int .i64 r, .int .i64 s])).run Tryd.prog w = .ok (eqRB a b c d p q r s) w := by
  have hq : ∀ (a b : Int) (w : World), (Op.equalIn 9999 2 (.int .i64 a) (.int .i64 b)).run Tryd.prog w = .ok (a == b) w := fun a b w => run_equalIn_int w 9998 _ _ .i64 a b Tryd.underlying2
  have hs : Tryd.prog.stoodInHeld 142 = false := by kernel_rfl
  have hu : Tryd.prog.underlying 142 = some (.struct (Tryd.prog.fieldsOf 142)) := by kernel_rfl
  rw [run_equalIn_agg w 9999 _ _ _ hu hs]
  have hp : ∀ (x0 x1 x2 x3 : Int) (w : World), (part 2 #[.int .i64 x0, .int .i64 x1, .int .i64 x2, .int .i64 x3] 0).run Tryd.prog w = .ok (.int .i64 x0) w ∧ (part 2 #[.int .i64 x0, .int .i64 x1, .int .i64 x2, .int .i64 x3] 1).run Tryd.prog w = .ok (.int .i64 x1) w ∧ (part 2 #[.int .i64 x0, .int .i64 x1, .int .i64 x2, .int .i64 x3] 2).run Tryd.prog w = .ok (.int .i64 x2) w ∧ (part 2 #[.int .i64 x0, .int .i64 x1, .int .i64 x2, .int .i64 x3] 3).run Tryd.prog w = .ok (.int .i64 x3) w :=
    fun _ _ _ _ _ => ⟨by kernel_rfl, by kernel_rfl, by kernel_rfl, by kernel_rfl⟩
  have hf : (Tryd.prog.fieldsOf 142).toList.map (fun f => (f.name, f.type, f.offset)) = [("X0", 2, 0), ("Y0", 2, 1), ("X1", 2, 2), ("Y1", 2, 3)] := by kernel_rfl
  generalize (Tryd.prog.fieldsOf 142).toList = fs at hf
  rcases fs with _ | ⟨f0, _ | ⟨f1, _ | ⟨f2, _ | ⟨f3, _ | ⟨f4, r⟩⟩⟩⟩⟩
  · simp at hf
  · simp at hf
  · simp at hf
  · simp at hf
  · simp only [List.map_cons, List.map_nil, List.cons.injEq, Prod.mk.injEq, and_true] at hf
    obtain ⟨⟨n0, t0, o0⟩, ⟨n1, t1, o1⟩, ⟨n2, t2, o2⟩, n3, t3, o3⟩ := hf
    simp only [Op.eqFields, n0, t0, o0, n1, t1, o1, n2, t2, o2, n3, t3, o3, eqRB]
    simp only [ne_eq, String.reduceEq, not_false_eq_true, if_true, Sem.run_bind, (hp _ _ _ _ _).1, (hp _ _ _ _ _).2.1, (hp _ _ _ _ _).2.2.1, (hp _ _ _ _ _).2.2.2, Result.andThen_ok, hq, Sem.run_ite, Sem.run_pure]
    cases h0 : a == p <;> cases h1 : b == q <;> cases h2 : c == r <;> cases h3 : d == s <;> simp
  · simp at hf

/-- A slice of one or two rectangles at the start of a block. -/
theorem rects1 {w : World} {g : Nat} {a b c d : Int} (h0 : w.cell? ⟨g, 0, none⟩ = some (.int .i64 a)) (h1 : w.cell? ⟨g, 1, none⟩ = some (.int .i64 b)) (h2 : w.cell? ⟨g, 2, none⟩ = some (.int .i64 c)) (h3 : w.cell? ⟨g, 3, none⟩ = some (.int .i64 d)) :
    RectsIs w.heap.size w (some ⟨g, 0, none⟩) 1 (fun _ => a) (fun _ => b) (fun _ => c) (fun _ => d) := fun i hi => by
  obtain rfl : i = 0 := by omega
  exact ⟨g, 0, rfl, World.block_lt_of_cell? w ⟨g, 0, none⟩ h0, h0, h1, h2, h3⟩
def pick (a b : Int) (i : Nat) : Int := if i = 0 then a else b
theorem rects2 {w : World} {g : Nat} {a b c d p q r s : Int} (h0 : w.cell? ⟨g, 0, none⟩ = some (.int .i64 a)) (h1 : w.cell? ⟨g, 1, none⟩ = some (.int .i64 b)) (h2 : w.cell? ⟨g, 2, none⟩ = some (.int .i64 c)) (h3 : w.cell? ⟨g, 3, none⟩ = some (.int .i64 d)) (h4 : w.cell? ⟨g, 4, none⟩ = some (.int .i64 p)) (h5 : w.cell? ⟨g, 5, none⟩ = some (.int .i64 q)) (h6 : w.cell? ⟨g, 6, none⟩ = some (.int .i64 r)) (h7 : w.cell? ⟨g, 7, none⟩ = some (.int .i64 s)) :
    RectsIs w.heap.size w (some ⟨g, 0, none⟩) 2 (pick a p) (pick b q) (pick c r) (pick d s) := fun i hi => by
  have hg := World.block_lt_of_cell? w ⟨g, 0, none⟩ h0
  rcases (show i = 0 ∨ i = 1 by omega) with rfl | rfl
  · exact ⟨g, 0, rfl, hg, h0, h1, h2, h3⟩
  · exact ⟨g, 0, rfl, hg, h4, h5, h6, h7⟩

theorem mn1 (a p : Int) : mn (fun _ => a) p 1 = p ↔ p ≤ a := by
  show (if a < p then a else p) = p ↔ p ≤ a
  by_cases h : a < p
  · rw [if_pos h]; omega
  · rw [if_neg h]; omega
theorem mx1 (a p : Int) : mx (fun _ => a) p 1 = p ↔ a ≤ p := by
  show (if p < a then a else p) = p ↔ a ≤ p
  by_cases h : p < a
  · rw [if_pos h]; omega
  · rw [if_neg h]; omega
theorem box_eq (a b c d p q r s : Int) : eqRB (mn (fun _ => a) p 1) (mn (fun _ => b) q 1) (mx (fun _ => c) r 1) (mx (fun _ => d) s 1) p q r s = decide (p ≤ a ∧ q ≤ b ∧ c ≤ r ∧ d ≤ s) := by
  simp only [eqRB]
  rw [Bool.eq_iff_iff]
  simp only [Bool.and_eq_true, beq_iff_eq, decide_eq_true_eq, mn1, mx1]

set_option maxHeartbeats 4000000 in
theorem within_any (a b c d p q r s : Int) (w : World) : Calls Tryd.prog 180 #[.agg #[.int .i64 a, .int .i64 b, .int .i64 c, .int .i64 d], .agg #[.int .i64 p, .int .i64 q, .int .i64 r, .int .i64 s]] w fun e w' => e = .returned (.bool (decide (p ≤ a ∧ q ≤ b ∧ c ≤ r ∧ d ≤ s))) ∧ Below w.heap.size w w' := by
  have heq : ∀ w : World, (Op.equalIn 10000 142 (.agg #[.int .i64 (mn (fun _ => a) p 1), .int .i64 (mn (fun _ => b) q 1), .int .i64 (mx (fun _ => c) r 1), .int .i64 (mx (fun _ => d) s 1)]) (.agg #[.int .i64 p, .int .i64 q, .int .i64 r, .int .i64 s])).run Tryd.prog w = .ok (decide (p ≤ a ∧ q ≤ b ∧ c ≤ r ∧ d ≤ s)) w := fun w => by rw [eqRc, box_eq]
  go_enter Tryd.func180, Tryd.ntmps180
  go_wp2_with fail
  go_region_held3 (fun w' => w.heap.size + 1 < w'.heap.size ∧ Below w.heap.size w w' ∧ w'.cell? ⟨w.heap.size, 0, none⟩ = some (.int .i64 a) ∧ w'.cell? ⟨w.heap.size, 1, none⟩ = some (.int .i64 b) ∧ w'.cell? ⟨w.heap.size, 2, none⟩ = some (.int .i64 c) ∧ w'.cell? ⟨w.heap.size, 3, none⟩ = some (.int .i64 d) ∧ w'.cell? ⟨w.heap.size + 1, 0, none⟩ = some (.int .i64 p) ∧ w'.cell? ⟨w.heap.size + 1, 1, none⟩ = some (.int .i64 q) ∧ w'.cell? ⟨w.heap.size + 1, 2, none⟩ = some (.int .i64 r) ∧ w'.cell? ⟨w.heap.size + 1, 3, none⟩ = some (.int .i64 s))
    (first | ((try dsimp only); go_split_ands; (repeat' (with_reducible refine And.intro ?_ ?_)) <;> first | ((repeat (with_reducible refine keepS ?_ (by simp; try omega) _)); (first | (with_reducible assumption) | (with_reducible exact keepC (by assumption) (by assumption)) | (with_reducible exact keepA (by assumption) _) | (with_reducible exact keepR (by assumption) (by omega) _))) | ((try simp only [World.size_alloc, World.size_setCell, World.size_drew]); omega) | (refine Mats.below hM ?_ hM.size; (repeat (first | (with_reducible exact Below.refl _ _) | (with_reducible refine Ext.drewN ?_ _) | (with_reducible refine Below.drew ?_) | (with_reducible refine Ext.alloc ?_ _) | (with_reducible refine Ext.setCell ?_ (by simp; try omega) _) | (with_reducible refine Ext.trans ?_ (by assumption)) | (with_reducible assumption) | exact Below.refl _ _)); done) | ((repeat (first | (with_reducible exact Below.refl _ _) | (with_reducible refine Ext.drewN ?_ _) | (with_reducible refine Below.drew ?_) | (with_reducible refine Ext.alloc ?_ _) | (with_reducible refine Ext.setCell ?_ (by simp; try omega) _) | (with_reducible refine Ext.trans ?_ (by assumption)) | (with_reducible assumption) | exact Below.refl _ _)); done) | (go_keep; done)))
    (first | (go_at_call 189; refine (boxOf_any p q r s _ 1 _ (fun _ => a) (fun _ => b) (fun _ => c) (fun _ => d) _ (by omega) (rects1 (by simp [go_sem]) (by simp [go_sem]) (by simp [go_sem]) (by simp [go_sem]))).mono ?_; rintro e v1 ⟨rfl, bv1⟩; obtain ⟨sv1, zv1, cv1, fv1⟩ := bcell bv1; (try simp only [World.size_alloc, World.size_setCell, World.size_drew] at sv1)))
  all_goals
    go_wp2_with fail
    go_ret
    exact ⟨ret_bool (by simp), by (repeat (first | (with_reducible exact Below.refl _ _) | (with_reducible refine Ext.drewN ?_ _) | (with_reducible refine Below.drew ?_) | (with_reducible refine Ext.alloc ?_ _) | (with_reducible refine Ext.setCell ?_ (by simp; try omega) _) | (with_reducible refine Ext.trans ?_ (by assumption)) | (with_reducible assumption) | exact Below.refl _ _))⟩

set_option maxHeartbeats 4000000 in
theorem implValidRect_any (a b c d : Int) (w : World) (hC : ChipW w) : Calls Tryd.prog 165 #[.agg #[.int .i64 a, .int .i64 b, .int .i64 c, .int .i64 d]] w fun e w' => e = .returned (.bool (rvB a b c d)) ∧ Below w.heap.size w w' := by
  have nz := hC.ne
  have hz := hC.size
  obtain ⟨g0, g1, g2, g3⟩ := hC
  have key : (a < c ∧ b < d) ∨ (¬ a < c) ∨ (a < c ∧ ¬ b < d) := by omega
  rcases key with ⟨h1, h2⟩ | h1 | ⟨h1, h2⟩
  · go_enter Tryd.func165, Tryd.ntmps165
    go_wp2_with fail
    go_call (within_any a b c d (-40) (-40) 40 40) as e w1 ⟨rfl, bw1⟩
    obtain ⟨sw1, zw1, cw1, fw1⟩ := bcell bw1
    try simp only [World.size_alloc, World.size_setCell, World.size_drew] at sw1
    try have lw1_w_0 : w.heap.size < w1.heap.size := by omega
    try have lw1_w_1 : w.heap.size + 1 < w1.heap.size := by omega
    try have lw1_w_2 : w.heap.size + 1 + 1 < w1.heap.size := by omega
    try have lw1_w_3 : w.heap.size + 1 + 1 + 1 < w1.heap.size := by omega
    try have lw1_w_4 : w.heap.size + 1 + 1 + 1 + 1 < w1.heap.size := by omega
    try have lw1_w_5 : w.heap.size + 1 + 1 + 1 + 1 + 1 < w1.heap.size := by omega
    try have lw1_w_6 : w.heap.size + 1 + 1 + 1 + 1 + 1 + 1 < w1.heap.size := by omega
    go_wp2_with fail
    go_ret
    exact ⟨ret_bool (by unfold rvB; rw [Bool.eq_iff_iff]; simp only [Bool.and_eq_true, decide_eq_true_eq]; omega), by (repeat (first | (with_reducible exact Below.refl _ _) | (with_reducible refine Ext.drewN ?_ _) | (with_reducible refine Below.drew ?_) | (with_reducible refine Ext.alloc ?_ _) | (with_reducible refine Ext.setCell ?_ (by simp; try omega) _) | (with_reducible refine Ext.trans ?_ (by assumption)) | (with_reducible assumption) | exact Below.refl _ _))⟩
  all_goals
    go_enter Tryd.func165, Tryd.ntmps165
    go_wp2_with fail
    go_ret
    exact ⟨ret_bool (rvB_f (by omega)).symm, by (repeat (first | (with_reducible exact Below.refl _ _) | (with_reducible refine Ext.drewN ?_ _) | (with_reducible refine Below.drew ?_) | (with_reducible refine Ext.alloc ?_ _) | (with_reducible refine Ext.setCell ?_ (by simp; try omega) _) | (with_reducible refine Ext.trans ?_ (by assumption)) | (with_reducible assumption) | exact Below.refl _ _))⟩

def allV (P Q R S : Nat → Int) (n : Nat) : Bool := (List.range n).all fun i => rvB (P i) (Q i) (R i) (S i)
theorem allV_f {P Q R S : Nat → Int} {n i : Nat} (h : i < n) (hf : rvB (P i) (Q i) (R i) (S i) = false) : allV P Q R S n = false := by
  unfold allV
  rw [List.all_eq_false]
  exact ⟨i, List.mem_range.2 h, by simp [hf]⟩
theorem allV_t {P Q R S : Nat → Int} {n : Nat} (h : ∀ i, i < n → rvB (P i) (Q i) (R i) (S i) = true) : allV P Q R S n = true := by
  unfold allV
  rw [List.all_eq_true]
  exact fun i hi => h i (List.mem_range.1 hi)
theorem allV_at {P Q R S : Nat → Int} {n i : Nat} (h : allV P Q R S n = true) (hi : i < n) : rvB (P i) (Q i) (R i) (S i) = true := by
  unfold allV at h
  exact List.all_eq_true.1 h i (List.mem_range.2 hi)

set_option maxHeartbeats 4000000 in
theorem areValid_any (m : Option Addr) (len cap : Nat) (P Q R S : Nat → Int) (w : World) (hC : ChipW w) (hlen : len ≤ 1048576) (hR : RectsIs w.heap.size w m len P Q R S) :
    Calls Tryd.prog 149 #[.slice m len cap] w fun e w' => e = .returned (.bool (allV P Q R S len)) ∧ Below w.heap.size w w' := by
  go_enter Tryd.func149, Tryd.ntmps149
  go_wp2_with fail
  go_loopw [7] (fun s5 wr => ∃ i : Nat, i ≤ len ∧ s5 = .int .i64 i ∧ Below w.heap.size w wr ∧ ∀ k, k < i → rvB (P k) (Q k) (R k) (S k) = true) (fun s5 _ => len - (intOf s5).toNat)
  case atStart => exact ⟨0, by omega, rfl, by (repeat (first | (with_reducible exact Below.refl _ _) | (with_reducible refine Ext.drewN ?_ _) | (with_reducible refine Below.drew ?_) | (with_reducible refine Ext.alloc ?_ _) | (with_reducible refine Ext.setCell ?_ (by simp; try omega) _) | (with_reducible refine Ext.trans ?_ (by assumption)) | (with_reducible assumption) | exact Below.refl _ _)), fun k hk => absurd hk (by omega)⟩
  case round =>
    obtain ⟨i, hi, rfl, hW, hon⟩ := hrel
    have HON := Lib.hid hon
    clear hon
    by_cases hlt : i < len
    · obtain ⟨b1, o1, rfl, hb1, c0, c1, c2, c3⟩ := hR.below hW i hlt
      have q1 : (i : Int) < (len : Int) := by omega
      have q0 : (0 : Int) ≤ (i : Int) := by omega
      go_wp2_with fail
      refine (implValidRect_any _ _ _ _ _ (hC.ext (by (repeat (first | (with_reducible exact Below.refl _ _) | (with_reducible refine Ext.drewN ?_ _) | (with_reducible refine Below.drew ?_) | (with_reducible refine Ext.alloc ?_ _) | (with_reducible refine Ext.setCell ?_ (by simp; try omega) _) | (with_reducible refine Ext.trans ?_ (by assumption)) | (with_reducible assumption) | exact Below.refl _ _))))).mono ?_
      rintro e w2 ⟨rfl, bw2⟩
      cases ho : rvB (P i) (Q i) (R i) (S i) with
      | false =>
        go_wp2_with fail
        go_ret
        exact ⟨ret_bool (allV_f hlt ho).symm, by (repeat (first | (with_reducible exact Below.refl _ _) | (with_reducible refine Ext.drewN ?_ _) | (with_reducible refine Below.drew ?_) | (with_reducible refine Ext.alloc ?_ _) | (with_reducible refine Ext.setCell ?_ (by simp; try omega) _) | (with_reducible refine Ext.trans ?_ (by assumption)) | (with_reducible assumption) | exact Below.refl _ _))⟩
      | true =>
        go_wp2_with fail
        go_roundw
        case rel => exact ⟨i + 1, by omega, by go_num, by (repeat (first | (with_reducible exact Below.refl _ _) | (with_reducible refine Ext.drewN ?_ _) | (with_reducible refine Below.drew ?_) | (with_reducible refine Ext.alloc ?_ _) | (with_reducible refine Ext.setCell ?_ (by simp; try omega) _) | (with_reducible refine Ext.trans ?_ (by assumption)) | (with_reducible assumption) | exact Below.refl _ _)), fun k hk => by
          by_cases e : k = i
          · subst e; exact ho
          · exact HON.out k (by omega)⟩
        case measure => simp [intOf]; omega
    · have q1 : ¬ (i : Int) < (len : Int) := by omega
      obtain rfl : i = len := by omega
      go_wp2_with fail
      go_ret
      exact ⟨ret_bool (allV_t HON.out).symm, by (repeat (first | (with_reducible exact Below.refl _ _) | (with_reducible refine Ext.drewN ?_ _) | (with_reducible refine Below.drew ?_) | (with_reducible refine Ext.alloc ?_ _) | (with_reducible refine Ext.setCell ?_ (by simp; try omega) _) | (with_reducible refine Ext.trans ?_ (by assumption)) | (with_reducible assumption) | exact Below.refl _ _))⟩

theorem allV2 (a b c d p q r s : Int) : allV (pick a p) (pick b q) (pick c r) (pick d s) 2 = (rvB a b c d && rvB p q r s) := by
  unfold allV
  rw [show List.range 2 = [0, 1] from rfl]
  simp [pick]

def hi2 (a p : Int) : Int := if a < p then p else a
def lo2 (a p : Int) : Int := if p < a then p else a
theorem ret_rect {a b c d p q r s : Int} (h0 : a = p) (h1 : b = q) (h2 : c = r) (h3 : d = s) : Ending.returned (.agg #[.int .i64 a, .int .i64 b, .int .i64 c, .int .i64 d]) = .returned (.agg #[.int .i64 p, .int .i64 q, .int .i64 r, .int .i64 s]) := by rw [h0, h1, h2, h3]
end Go.Proofs.YtciodcknobccdaaDoor
