/- Parts that do not reach the border. Conditions: the rectangles' cells are in memory; the tables are in memory. -/
import Derived.Test.YtepfnnhmplaocaaDoorCpS
namespace Go.Proofs.YtepfnnhmplaocaaDoor
open Go.RowKit
set_option linter.unusedVariables false
set_option linter.unusedSimpArgs false
attribute [local go_sem ↓] Go.wp_at_zero Go.wp_at_succ

theorem partF_congr {f g : Nat → Bool} (h : ∀ k, k < 6400 → f k = g k) (wide : Bool) (x y : Int) : partF f wide x y = partF g wide x y := by
  have e : ∀ x y, hasB f x y = hasB g x y := fun x y => hasB_congr h x y
  funext k
  rw [Bool.eq_iff_iff, partF_t, partF_t]
  exact ⟨fun c => c.congr e, fun c => c.congr fun x y => (e x y).symm⟩
theorem startsTo_congr {f g : Nat → Bool} (h : ∀ k, k < 6400 → f k = g k) (wide : Bool) : ∀ n, n ≤ 6400 → startsTo f wide n = startsTo g wide n
  | 0, _ => rfl
  | n + 1, hn => by
    rw [startsTo, startsTo, startsTo_congr h wide n (by omega), h n (by omega)]
    have e : (fun s => partF f wide (cxN s) (cyN s) n) = fun s => partF g wide (cxN s) (cyN s) n := by funext s; rw [partF_congr h]
    rw [e]
theorem cmpL_congr {f g : Nat → Bool} (h : ∀ k, k < 6400 → f k = g k) (wide : Bool) : cmpL f wide = cmpL g wide := by
  unfold cmpL
  rw [startsTo_congr h wide 6400 (Nat.le_refl _)]
  apply List.map_congr_left
  intro s _
  rw [partF_congr h]
/-- Does a rectangle of the list reach the border? -/
def rchB (l : List R4) : Bool := l.any fun r => decide (r.a < -39) || decide (r.b < -39) || decide (39 < r.c) || decide (39 < r.d)
theorem rch_inn (g : Nat → Bool) : innB g = !rchB (canonL g) := by
  cases hr : rchB (canonL g) with
  | true =>
    unfold rchB at hr
    rw [List.any_eq_true] at hr
    obtain ⟨r, hr, hb⟩ := hr
    obtain ⟨v1, v2, v3, v4, v5, v6⟩ := rvB_t (canonL_valid g r hr)
    simp only [Bool.or_eq_true, decide_eq_true_eq] at hb
    have cell : ∀ x y, r.a ≤ x → x < r.c → r.b ≤ y → y < r.d → hasB g x y = true := fun x y h1 h2 h3 h4 => has_canonL.2 ⟨r, hr, h1, h2, h3, h4⟩
    have fin : ∀ t : Int, -40 ≤ t → t ≤ 39 → brd g t = true → innB g = !true := fun t h1 h2 h3 => by
      rw [Bool.not_true]
      refine innB_f (j := (t + 40).toNat) (by omega) ?_
      rw [show -40 + (((t + 40).toNat : Nat) : Int) = t by omega]
      exact h3
    rcases hb with ((hb | hb) | hb) | hb
    · exact fin r.b (by omega) (by omega) (by unfold brd; rw [cell (-40) r.b (by omega) (by omega) (by omega) (by omega)]; simp)
    · exact fin r.a (by omega) (by omega) (by unfold brd; rw [cell r.a (-40) (by omega) (by omega) (by omega) (by omega)]; simp)
    · exact fin r.b (by omega) (by omega) (by unfold brd; rw [cell 39 r.b (by omega) (by omega) (by omega) (by omega)]; simp)
    · exact fin r.a (by omega) (by omega) (by unfold brd; rw [cell r.a 39 (by omega) (by omega) (by omega) (by omega)]; simp)
  | false =>
    rw [Bool.not_false]
    unfold rchB at hr
    rw [List.any_eq_false] at hr
    refine innB_t fun j hj => ?_
    have no : ∀ x y, (x = -40 ∨ x = 39 ∨ y = -40 ∨ y = 39) → hasB g x y = false := fun x y hxy => by
      cases hh : hasB g x y with
      | false => rfl
      | true =>
        obtain ⟨r, hr', r1, r2, r3, r4⟩ := has_canonL.1 hh
        have := hr r hr'
        simp only [Bool.or_eq_true, decide_eq_true_eq, not_or] at this
        omega
    unfold brd
    rw [no _ _ (.inr (.inr (.inl rfl))), no _ _ (.inr (.inr (.inr rfl))), no _ _ (.inl rfl), no _ _ (.inr (.inl rfl))]
    rfl
theorem mn_le (f : Nat → Int) (s : Int) : ∀ n, mn f s n = s ↔ ∀ i, i < n → s ≤ f i := by
  have low : ∀ n, mn f s n ≤ s := fun n => by
    induction n with
    | zero => exact Int.le_refl _
    | succ n ih => rw [mn]; split <;> omega
  intro n
  induction n with
  | zero => simp [mn]
  | succ n ih =>
    have hl := low n
    rw [mn]
    split
    · rename_i h
      constructor
      · intro e; omega
      · intro e; have := e n (by omega); omega
    · rename_i h
      rw [ih]
      constructor
      · intro e i hi
        by_cases k : i = n
        · subst k; have := ih.2 e; omega
        · exact e i (by omega)
      · intro e i hi; exact e i (by omega)
theorem mx_ge (f : Nat → Int) (s : Int) : ∀ n, mx f s n = s ↔ ∀ i, i < n → f i ≤ s := by
  have up : ∀ n, s ≤ mx f s n := fun n => by
    induction n with
    | zero => exact Int.le_refl _
    | succ n ih => rw [mx]; split <;> omega
  intro n
  induction n with
  | zero => simp [mx]
  | succ n ih =>
    have hl := up n
    rw [mx]
    split
    · rename_i h
      constructor
      · intro e; omega
      · intro e; have := e n (by omega); omega
    · rename_i h
      rw [ih]
      constructor
      · intro e i hi
        by_cases k : i = n
        · subst k; have := ih.2 e; omega
        · exact e i (by omega)
      · intro e i hi; exact e i (by omega)
theorem rch_box (l : List R4) : rchB l = true ↔ ¬ (mn (pA l) (-39) l.length = -39 ∧ mn (pB l) (-39) l.length = -39 ∧ mx (pC l) 39 l.length = 39 ∧ mx (pD l) 39 l.length = 39) := by
  rw [mn_le, mn_le, mx_ge, mx_ge]
  unfold rchB
  rw [List.any_eq_true]
  constructor
  · rintro ⟨r, hr, hb⟩ ⟨h1, h2, h3, h4⟩
    obtain ⟨i, hi⟩ := List.getElem?_of_mem hr
    have hil := (List.getElem?_eq_some_iff.1 hi).1
    have e : l.getD i default = r := by rw [List.getD, hi]; rfl
    have k1 := h1 i hil
    have k2 := h2 i hil
    have k3 := h3 i hil
    have k4 := h4 i hil
    unfold pA at k1; unfold pB at k2; unfold pC at k3; unfold pD at k4
    rw [e] at k1 k2 k3 k4
    simp only [Bool.or_eq_true, decide_eq_true_eq] at hb
    omega
  · intro h
    refine Classical.byContradiction fun hn => h ?_
    have key : ∀ i, i < l.length → -39 ≤ pA l i ∧ -39 ≤ pB l i ∧ pC l i ≤ 39 ∧ pD l i ≤ 39 := fun i hi => by
      have hm : l.getD i default ∈ l := List.mem_of_getElem? (getD_get hi)
      have : ¬ ((decide ((l.getD i default).a < -39) || decide ((l.getD i default).b < -39) || decide (39 < (l.getD i default).c) || decide (39 < (l.getD i default).d)) = true) := fun k => hn ⟨_, hm, k⟩
      simp only [Bool.or_eq_true, decide_eq_true_eq, not_or] at this
      unfold pA pB pC pD
      omega
    exact ⟨fun i hi => (key i hi).1, fun i hi => (key i hi).2.1, fun i hi => (key i hi).2.2.1, fun i hi => (key i hi).2.2.2⟩
set_option maxHeartbeats 4000000 in
set_option maxRecDepth 100000 in
theorem reaches_any (a : Option Addr) (l : List R4) (c : Nat) (w : World) (hl : l.length ≤ 1048576) (hD : EnvW w) (hR : RectsIs w.heap.size w a l.length (pA l) (pB l) (pC l) (pD l)) :
    Calls Tryd.prog 78 #[.slice a l.length c] w fun e w' => e = .returned (.bool (rchB l)) ∧ Below w.heap.size w w' := by
  have HR := Lib.hid hR
  obtain ⟨z0, z1, z2, z3⟩ := hD.2
  have hrb := rch_box l
  obtain ⟨n, hn⟩ : ∃ n, l.length = n := ⟨_, rfl⟩
  rw [hn] at hrb hl ⊢
  rw [hn] at HR
  have hbox := fun w' hR' => boxOf_any (-39) (-39) 39 39 a n c (pA l) (pB l) (pC l) (pD l) w' hl hR'
  obtain ⟨p, hp⟩ : ∃ p, mn (pA l) (-39) n = p := ⟨_, rfl⟩
  obtain ⟨q, hq⟩ : ∃ q, mn (pB l) (-39) n = q := ⟨_, rfl⟩
  obtain ⟨r, hr⟩ : ∃ r, mx (pC l) 39 n = r := ⟨_, rfl⟩
  obtain ⟨s, hs⟩ : ∃ s, mx (pD l) 39 n = s := ⟨_, rfl⟩
  rw [hp, hq, hr, hs] at hrb hbox
  have HRB := Lib.hid hrb
  clear hR hn hp hq hr hs hrb hD
  have heq : eqRB p q r s (-39) (-39) 39 39 = !rchB l := by
    rw [Bool.eq_iff_iff, Bool.not_eq_true', ← Bool.not_eq_true, HRB.out]
    unfold eqRB
    simp only [Bool.and_eq_true, beq_iff_eq]
    exact ⟨fun h k => k h, fun h => Classical.byContradiction fun k => h k⟩
  have hcmp := fun W : World => eqRc p q r s (-39) (-39) 39 39 W
  rw [heq] at hcmp
  obtain ⟨b, hb⟩ : ∃ b, rchB l = b := ⟨_, rfl⟩
  rw [hb] at hcmp ⊢
  clear heq hb HRB
  go_enter Tryd.func78, Tryd.ntmps78
  go_wp2_with fail
  obtain ⟨W0, hW0⟩ : ∃ W0, W0 = w.alloc (.cells #[.int .i64 (-39), .int .i64 (-39), .int .i64 39, .int .i64 39] 39) := ⟨_, rfl⟩
  have bW : Below w.heap.size w W0 := by rw [hW0]; (repeat (first | (with_reducible exact Below.refl _ _) | (with_reducible refine Ext.drewN ?_ _) | (with_reducible refine Below.drew ?_) | (with_reducible refine Ext.alloc ?_ _) | (with_reducible refine Ext.setCell ?_ (by simp; try omega) _) | (with_reducible refine Ext.trans ?_ (by assumption)) | (with_reducible assumption) | exact Below.refl _ _))
  have e0 : W0.cell? ⟨w.heap.size, 0, none⟩ = some (.int .i64 (-39)) := by rw [hW0]; simp [go_sem]
  have e1 : W0.cell? ⟨w.heap.size, 1, none⟩ = some (.int .i64 (-39)) := by rw [hW0]; simp [go_sem]
  have e2 : W0.cell? ⟨w.heap.size, 2, none⟩ = some (.int .i64 39) := by rw [hW0]; simp [go_sem]
  have e3 : W0.cell? ⟨w.heap.size, 3, none⟩ = some (.int .i64 39) := by rw [hW0]; simp [go_sem]
  rw [← hW0]
  clear hW0
  go_region_held3 (fun w' => Below W0.heap.size W0 w' ∧ w'.cell? ⟨w.heap.size, 0, none⟩ = some (.int .i64 (-39)) ∧ w'.cell? ⟨w.heap.size, 1, none⟩ = some (.int .i64 (-39)) ∧ w'.cell? ⟨w.heap.size, 2, none⟩ = some (.int .i64 39) ∧ w'.cell? ⟨w.heap.size, 3, none⟩ = some (.int .i64 39))
    (first | ((try dsimp only); go_split_ands; (repeat' (with_reducible refine And.intro ?_ ?_)) <;> first | ((repeat (with_reducible refine keepS ?_ (by simp; try omega) _)); (first | (with_reducible assumption) | (with_reducible exact keepC (by assumption) (by assumption)) | (with_reducible exact keepA (by assumption) _) | (with_reducible exact keepR (by assumption) (by omega) _))) | ((try simp only [World.size_alloc, World.size_setCell, World.size_drew]); omega) | (refine Mats.below hM ?_ hM.size; (repeat (first | (with_reducible exact Below.refl _ _) | (with_reducible refine Ext.drewN ?_ _) | (with_reducible refine Below.drew ?_) | (with_reducible refine Ext.alloc ?_ _) | (with_reducible refine Ext.setCell ?_ (by simp; try omega) _) | (with_reducible refine Ext.trans ?_ (by assumption)) | (with_reducible assumption) | exact Below.refl _ _)); done) | ((repeat (first | (with_reducible exact Below.refl _ _) | (with_reducible refine Ext.drewN ?_ _) | (with_reducible refine Below.drew ?_) | (with_reducible refine Ext.alloc ?_ _) | (with_reducible refine Ext.setCell ?_ (by simp; try omega) _) | (with_reducible refine Ext.trans ?_ (by assumption)) | (with_reducible assumption) | exact Below.refl _ _)); done) | (go_keep; done)))
    ((go_at_call 116; refine (hbox _ (HR.out.ext (Ext.trans bW (by (repeat (first | (with_reducible exact Below.refl _ _) | (with_reducible refine Ext.drewN ?_ _) | (with_reducible refine Below.drew ?_) | (with_reducible refine Ext.alloc ?_ _) | (with_reducible refine Ext.setCell ?_ (by simp; try omega) _) | (with_reducible refine Ext.trans ?_ (by assumption)) | (with_reducible assumption) | exact Below.refl _ _)))))).mono ?_; rintro e w5 ⟨rfl, bw5⟩; obtain ⟨sw5, zw5, cw5, fw5⟩ := bcell bw5; (try simp only [World.size_alloc, World.size_setCell, World.size_drew] at sw5)))
  all_goals
    have B5 : Below W0.heap.size W0 w5 := by (repeat (first | (with_reducible exact Below.refl _ _) | (with_reducible refine Ext.drewN ?_ _) | (with_reducible refine Below.drew ?_) | (with_reducible refine Ext.alloc ?_ _) | (with_reducible refine Ext.setCell ?_ (by simp; try omega) _) | (with_reducible refine Ext.trans ?_ (by assumption)) | (with_reducible assumption) | exact Below.refl _ _))
    have B6 := Ext.trans bW B5
    rename_i hHeld
    clear hHeld
    go_wp2_with fail
    go_ret
    first | exact ⟨by cases b <;> rfl, B6⟩ | exact ⟨by cases b <;> rfl, B6.drew⟩ | exact ⟨by cases b <;> rfl, Ext.drewN B6 _⟩
end Go.Proofs.YtepfnnhmplaocaaDoor
