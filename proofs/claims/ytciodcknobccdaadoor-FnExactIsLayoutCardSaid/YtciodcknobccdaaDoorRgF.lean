/- The model's test of a region. -/
import Derived.Test.YtciodcknobccdaaDoorRgE
import Derived.Test.YtciodcknobccdaaDoorReC
namespace Go.Proofs.YtciodcknobccdaaDoor
open Go.RowKit
set_option linter.unusedVariables false
set_option linter.unusedSimpArgs false
attribute [local go_sem ↓] Go.wp_at_zero Go.wp_at_succ

theorem R4.ext' {r s : R4} (h1 : r.a = s.a) (h2 : r.b = s.b) (h3 : r.c = s.c) (h4 : r.d = s.d) : r = s := by
  cases r; cases s; simp_all
theorem ext_R4 {l l' : List R4} (h : l.length = l'.length) (hg : ∀ j, j < l.length → l.getD j default = l'.getD j default) : l = l' := by
  refine List.ext_getElem h fun i h1 h2 => ?_
  have := hg i h1
  rw [List.getD, List.getD, List.getElem?_eq_getElem h1, List.getElem?_eq_getElem h2] at this
  exact this
theorem getD_get {l : List R4} {j : Nat} (h : j < l.length) : l[j]? = some (l.getD j default) := by
  rw [List.getD, List.getElem?_eq_getElem h]; rfl
theorem listR_getD (P Q R S : Nat → Int) (n i : Nat) (h : i < n) : (listR P Q R S n).getD i default = R4.mk (P i) (Q i) (R i) (S i) := by
  rw [List.getD, listR_get P Q R S n i h]; rfl

set_option maxHeartbeats 8000000 in
set_option maxRecDepth 100000 in
theorem l03Same_any (B g c : Nat) (l : List R4) (m : Option Addr) (len cap : Nat) (P Q R S : Nat → Int) (w : World) (hlen : len ≤ 1048576) (hl : l.length ≤ 1048576) (hA : RecIs B w g l) (hR : RectsIs w.heap.size w m len P Q R S) :
    Calls Tryd.prog 103 #[.slice (some ⟨g, 0, none⟩) l.length c, .slice m len cap] w fun e w' => e = .returned (.bool (decide (l = listR P Q R S len))) ∧ Below w.heap.size w w' := by
  have HA := Lib.hid hA
  have HR := Lib.hid hR
  clear hA hR
  obtain ⟨n, hn⟩ : ∃ n, n = l.length := ⟨_, rfl⟩
  have HN := Lib.hid hn
  rw [← hn]
  rw [← hn] at hl
  clear hn
  by_cases hne : n = len
  · subst hne
    have e0 : ((n : Int) != (n : Int)) = false := by simp
    go_enter Tryd.func103, Tryd.ntmps103
    go_wp2_with fail
    go_loopw [5] (fun s wr => ∃ k : Nat, k ≤ n ∧ s = .int .i64 k ∧ Below w.heap.size w wr ∧ ∀ j, j < k → l.getD j default = R4.mk (P j) (Q j) (R j) (S j)) (fun s _ => n - (intOf s).toNat)
    case atStart => exact ⟨0, by omega, rfl, Below.refl _ _, fun j hj => by omega⟩
    case round =>
      obtain ⟨k, hk, rfl, hW, heq⟩ := hrel
      have HQ := Lib.hid heq
      clear heq
      by_cases hlt : k < n
      · obtain ⟨b1, o1, rfl, hb1, c0, c1, c2, c3⟩ := HR.out k hlt
        obtain ⟨a0, a1, a2, a3⟩ := HA.out.2.2 k _ (getD_get (by have := HN.out; omega))
        have q1 : (k : Int) < (n : Int) := by omega
        have q0 : (0 : Int) ≤ (k : Int) := by omega
        obtain ⟨r, hr⟩ : ∃ r, r = l.getD k default := ⟨_, rfl⟩
        rw [← hr] at a0 a1 a2 a3
        have HRR := Lib.hid hr
        clear hr
        have x0 := keepC hW a0
        have x1 := keepC hW a1
        have x2 := keepC hW a2
        have x3 := keepC hW a3
        have y0 := keepC hW c0
        have y1 := keepC hW c1
        have y2 := keepC hW c2
        have y3 := keepC hW c3
        clear a0 a1 a2 a3 c0 c1 c2 c3
        have hcmp := fun W : World => eqRc r.a r.b r.c r.d (P k) (Q k) (R k) (S k) W
        cases hv : eqRB r.a r.b r.c r.d (P k) (Q k) (R k) (S k) with
        | true =>
          rw [hv] at hcmp
          have HV := Lib.hid hv
          clear hv
          go_wp2_with fail
          go_region_held3 (fun w' => Below wr.heap.size wr w' ∧ w'.cell? ⟨g, k * 4, none⟩ = some (.int .i64 r.a) ∧ w'.cell? ⟨g, k * 4 + 1, none⟩ = some (.int .i64 r.b) ∧ w'.cell? ⟨g, k * 4 + 2, none⟩ = some (.int .i64 r.c) ∧ w'.cell? ⟨g, k * 4 + 3, none⟩ = some (.int .i64 r.d) ∧ w'.cell? ⟨b1, o1 + k * 4, none⟩ = some (.int .i64 (P k)) ∧ w'.cell? ⟨b1, o1 + k * 4 + 1, none⟩ = some (.int .i64 (Q k)) ∧ w'.cell? ⟨b1, o1 + k * 4 + 2, none⟩ = some (.int .i64 (R k)) ∧ w'.cell? ⟨b1, o1 + k * 4 + 3, none⟩ = some (.int .i64 (S k)))
            (first | ((try dsimp only); go_split_ands; (repeat' (with_reducible refine And.intro ?_ ?_)) <;> first | ((repeat (with_reducible refine keepS ?_ (by simp; try omega) _)); (first | (with_reducible assumption) | (with_reducible exact keepC (by assumption) (by assumption)) | (with_reducible exact keepA (by assumption) _) | (with_reducible exact keepR (by assumption) (by omega) _))) | ((try simp only [World.size_alloc, World.size_setCell, World.size_drew]); omega) | (refine Mats.below hM ?_ hM.size; (repeat (first | (with_reducible exact Below.refl _ _) | (with_reducible refine Ext.drewN ?_ _) | (with_reducible refine Below.drew ?_) | (with_reducible refine Ext.alloc ?_ _) | (with_reducible refine Ext.setCell ?_ (by simp; try omega) _) | (with_reducible refine Ext.trans ?_ (by assumption)) | (with_reducible assumption) | exact Below.refl _ _)); done) | ((repeat (first | (with_reducible exact Below.refl _ _) | (with_reducible refine Ext.drewN ?_ _) | (with_reducible refine Below.drew ?_) | (with_reducible refine Ext.alloc ?_ _) | (with_reducible refine Ext.setCell ?_ (by simp; try omega) _) | (with_reducible refine Ext.trans ?_ (by assumption)) | (with_reducible assumption) | exact Below.refl _ _)); done) | (go_keep; done)))
            (fail)
          go_wp2_with fail
          go_roundw
          case rel => exact ⟨k + 1, by omega, by go_num, by (repeat (first | (with_reducible exact Below.refl _ _) | (with_reducible refine Ext.drewN ?_ _) | (with_reducible refine Below.drew ?_) | (with_reducible refine Ext.alloc ?_ _) | (with_reducible refine Ext.setCell ?_ (by simp; try omega) _) | (with_reducible refine Ext.trans ?_ (by assumption)) | (with_reducible assumption) | exact Below.refl _ _)), fun j hj => by
            by_cases e : j = k
            · subst e
              rw [← HRR.out]
              have hv := HV.out
              unfold eqRB at hv
              simp only [Bool.and_eq_true, beq_iff_eq] at hv
              exact R4.ext' hv.1 hv.2.1 hv.2.2.1 hv.2.2.2
            · exact HQ.out j (by omega)⟩
          case measure => simp [intOf]; omega
        | false =>
          rw [hv] at hcmp
          have hres : decide (l = listR P Q R S n) = false := decide_eq_false (fun e => by
            have h1 := HRR.out
            rw [e, listR_getD P Q R S n k hlt] at h1
            rw [h1] at hv
            simp [eqRB] at hv)
          clear hv
          go_wp2_with fail
          go_region_held3 (fun w' => Below wr.heap.size wr w' ∧ w'.cell? ⟨g, k * 4, none⟩ = some (.int .i64 r.a) ∧ w'.cell? ⟨g, k * 4 + 1, none⟩ = some (.int .i64 r.b) ∧ w'.cell? ⟨g, k * 4 + 2, none⟩ = some (.int .i64 r.c) ∧ w'.cell? ⟨g, k * 4 + 3, none⟩ = some (.int .i64 r.d) ∧ w'.cell? ⟨b1, o1 + k * 4, none⟩ = some (.int .i64 (P k)) ∧ w'.cell? ⟨b1, o1 + k * 4 + 1, none⟩ = some (.int .i64 (Q k)) ∧ w'.cell? ⟨b1, o1 + k * 4 + 2, none⟩ = some (.int .i64 (R k)) ∧ w'.cell? ⟨b1, o1 + k * 4 + 3, none⟩ = some (.int .i64 (S k)))
            (first | ((try dsimp only); go_split_ands; (repeat' (with_reducible refine And.intro ?_ ?_)) <;> first | ((repeat (with_reducible refine keepS ?_ (by simp; try omega) _)); (first | (with_reducible assumption) | (with_reducible exact keepC (by assumption) (by assumption)) | (with_reducible exact keepA (by assumption) _) | (with_reducible exact keepR (by assumption) (by omega) _))) | ((try simp only [World.size_alloc, World.size_setCell, World.size_drew]); omega) | (refine Mats.below hM ?_ hM.size; (repeat (first | (with_reducible exact Below.refl _ _) | (with_reducible refine Ext.drewN ?_ _) | (with_reducible refine Below.drew ?_) | (with_reducible refine Ext.alloc ?_ _) | (with_reducible refine Ext.setCell ?_ (by simp; try omega) _) | (with_reducible refine Ext.trans ?_ (by assumption)) | (with_reducible assumption) | exact Below.refl _ _)); done) | ((repeat (first | (with_reducible exact Below.refl _ _) | (with_reducible refine Ext.drewN ?_ _) | (with_reducible refine Below.drew ?_) | (with_reducible refine Ext.alloc ?_ _) | (with_reducible refine Ext.setCell ?_ (by simp; try omega) _) | (with_reducible refine Ext.trans ?_ (by assumption)) | (with_reducible assumption) | exact Below.refl _ _)); done) | (go_keep; done)))
            (fail)
          go_wp2_with fail
          go_ret
          exact ⟨ret_bool hres.symm, by (repeat (first | (with_reducible exact Below.refl _ _) | (with_reducible refine Ext.drewN ?_ _) | (with_reducible refine Below.drew ?_) | (with_reducible refine Ext.alloc ?_ _) | (with_reducible refine Ext.setCell ?_ (by simp; try omega) _) | (with_reducible refine Ext.trans ?_ (by assumption)) | (with_reducible assumption) | exact Below.refl _ _))⟩
      · have q1 : ¬ (k : Int) < (n : Int) := by omega
        obtain rfl : k = n := by omega
        have hres : decide (l = listR P Q R S k) = true := decide_eq_true (ext_R4 (by rw [listR_len, ← HN.out]) (fun j hj => by
          have := HN.out
          rw [HQ.out j (by omega), listR_getD P Q R S k j (by omega)]))
        have HRES := Lib.hid hres
        clear hres
        go_wp2_with fail
        go_ret
        exact ⟨ret_bool HRES.out.symm, hW⟩
  · have e0 : ((n : Int) != (len : Int)) = true := by simp; omega
    have hres : decide (l = listR P Q R S len) = false := decide_eq_false (fun e => hne (by rw [HN.out, e, listR_len]))
    have HRES := Lib.hid hres
    clear hres
    go_enter Tryd.func103, Tryd.ntmps103
    go_wp2_with fail
    go_ret
    exact ⟨ret_bool HRES.out.symm, Below.refl _ _⟩

/-- The sum of the first n areas. -/
def sumA (P Q R S : Nat → Int) : Nat → Int
  | 0 => 0
  | n + 1 => sumA P Q R S n + areaV (P n) (Q n) (R n) (S n)
theorem areaV_bd {a b c d : Int} (h : rvB a b c d = true) : 0 ≤ areaV a b c d ∧ areaV a b c d ≤ 6400 := by
  obtain ⟨h1, h2, h3, h4, h5, h6⟩ := rvB_t h
  unfold areaV
  rw [if_pos h]
  have e1 : 0 ≤ c - a := by omega
  have e2 : c - a ≤ 80 := by omega
  have e3 : 0 ≤ d - b := by omega
  have e4 : d - b ≤ 80 := by omega
  refine ⟨Int.mul_nonneg e1 e3, ?_⟩
  calc (c - a) * (d - b) ≤ 80 * (d - b) := Int.mul_le_mul_of_nonneg_right e2 e3
    _ ≤ 80 * 80 := Int.mul_le_mul_of_nonneg_left e4 (by decide)
theorem sumA_bd (P Q R S : Nat → Int) : ∀ n, (∀ i, i < n → rvB (P i) (Q i) (R i) (S i) = true) → 0 ≤ sumA P Q R S n ∧ sumA P Q R S n ≤ 6400 * n
  | 0, _ => by simp [sumA]
  | n + 1, h => by
    have h1 := sumA_bd P Q R S n fun i hi => h i (by omega)
    have h2 := areaV_bd (h n (by omega))
    rw [sumA]; omega
/-- Is a list a region? -/
def okR (P Q R S : Nat → Int) (n : Nat) : Bool := okV P Q R S n && decide (sumA P Q R S n ≤ 6400) && decide (canonL (covF P Q R S n) = listR P Q R S n)

end Go.Proofs.YtciodcknobccdaaDoor
