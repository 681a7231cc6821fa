/- The columns that at least one rectangle of a list covers. Conditions: the elements' cells are in memory, the rectangles are valid. -/
import Derived.Test.YtciodcknobccdaaDoorRiC
import Derived.Test.YtciodcknobccdaaDoorRhC
namespace Go.Proofs.YtciodcknobccdaaDoor
open Go.RowKit
set_option linter.unusedVariables false
set_option linter.unusedSimpArgs false
attribute [local go_sem ↓] Go.wp_at_zero Go.wp_at_succ

/-- A pair of words in memory. -/
def ColAt (w : World) (g : Nat) (A B : Nat) : Prop := w.cell? ⟨g, 0, none⟩ = some (.int .u64 (A : Int)) ∧ w.cell? ⟨g, 1, none⟩ = some (.int .u64 (B : Int)) ∧ w.frozen? ⟨g, 0, none⟩ = false ∧ w.frozen? ⟨g, 1, none⟩ = false
theorem ColAt.lt {w : World} {g A B : Nat} (h : ColAt w g A B) : g < w.heap.size := World.block_lt_of_cell? w ⟨g, 0, none⟩ h.1
theorem ColAt.kept {w w' : World} {g A B : Nat} (h : ColAt w g A B) {n : Nat} (hb : Below n w w') (hn : g < n) : ColAt w' g A B :=
  ⟨(hb.cell (p := ⟨g, 0, none⟩) hn).trans h.1, (hb.cell (p := ⟨g, 1, none⟩) hn).trans h.2.1, (hb.frozen (p := ⟨g, 0, none⟩) hn).trans h.2.2.1, (hb.frozen (p := ⟨g, 1, none⟩) hn).trans h.2.2.2⟩
theorem ColAt.below {w w' : World} {g A B : Nat} (h : ColAt w g A B) (hb : Below w.heap.size w w') : ColAt w' g A B := h.kept hb h.lt

theorem ColAt.other {w : World} {g A B : Nat} (h : ColAt w g A B) {p : Addr} (hp : p.block ≠ g) (u : Value) : ColAt (w.setCell p u) g A B := by
  obtain ⟨c0, c1, f0, f1⟩ := h
  exact ⟨keepS c0 hp u, keepS c1 hp u, by simpa [go_sem] using f0, by simpa [go_sem] using f1⟩
theorem ColAt.alloc {w : World} {g A B : Nat} (h : ColAt w g A B) (O : Obj) : ColAt (w.alloc O) g A B := h.below ((Below.refl _ _).alloc (Nat.le_refl _) O)
theorem ColAt.drew {w : World} {g A B : Nat} (h : ColAt w g A B) : ColAt w.drew g A B := h
theorem ColAt.new (w : World) (A B : Nat) (t : TypeId) : ColAt (w.alloc (.cells #[.int .u64 (A : Int), .int .u64 (B : Int)] t)) w.heap.size A B := by unfold ColAt; simp [go_sem]
theorem ColAt.zero (w : World) (t : TypeId) : ColAt (w.alloc (.cells #[.int .u64 0, .int .u64 0] t)) w.heap.size 0 0 := by unfold ColAt; simp [go_sem]
theorem ColAt.newAt (w : World) (A B : Nat) (t : TypeId) {g : Nat} (h : g = w.heap.size) : ColAt (w.alloc (.cells #[.int .u64 (A : Int), .int .u64 (B : Int)] t)) g A B := h ▸ ColAt.new w A B t
theorem ColAt.zeroAt (w : World) (t : TypeId) {g : Nat} (h : g = w.heap.size) : ColAt (w.alloc (.cells #[.int .u64 0, .int .u64 0] t)) g 0 0 := h ▸ ColAt.zero w t
theorem ColAt.new1 (w : World) (O : Obj) (A B : Nat) (t : TypeId) : ColAt ((w.alloc O).alloc (.cells #[.int .u64 (A : Int), .int .u64 (B : Int)] t)) (w.heap.size + 1) A B := by unfold ColAt; simp [go_sem]
theorem ColAt.zero1 (w : World) (O : Obj) (t : TypeId) : ColAt ((w.alloc O).alloc (.cells #[.int .u64 0, .int .u64 0] t)) (w.heap.size + 1) 0 0 := by unfold ColAt; simp [go_sem]
theorem ColAt.set {w : World} {g A B : Nat} (h : ColAt w g A B) (p q : Nat) : ColAt ((w.setCell ⟨g, 0, none⟩ (.int .u64 (p : Int))).setCell ⟨g, 1, none⟩ (.int .u64 (q : Int))) g p q := by
  obtain ⟨c0, c1, f0, f1⟩ := h
  refine ⟨?_, ?_, by simpa [go_sem] using f0, by simpa [go_sem] using f1⟩
  · rw [World.cell?_setCell_other _ _ _ _ (by simp)]; exact World.cell?_setCell_same _ _ _ c0
  · have h2 : (w.setCell ⟨g, 0, none⟩ (.int .u64 (p : Int))).cell? ⟨g, 1, none⟩ = some (.int .u64 (B : Int)) := by
      rw [World.cell?_setCell_other _ _ _ _ (by simp)]; exact c1
    exact World.cell?_setCell_same _ _ _ h2

/-- The column's number below and above the first word's end. -/
def lo0 (x : Int) : Nat := min (x + 40).toNat 64
def lo1 (x : Int) : Nat := (x + 40).toNat - 64
def cA (P R : Nat → Int) : Nat → Nat
  | 0 => 0
  | n + 1 => cA P R n ||| span (lo0 (P n)) (lo0 (R n))
def cB (P R : Nat → Int) : Nat → Nat
  | 0 => 0
  | n + 1 => cB P R n ||| span (lo1 (P n)) (lo1 (R n))
theorem lo0_le (x : Int) : lo0 x ≤ 64 := by unfold lo0; omega
theorem lo1_le {x : Int} (h : x ≤ 40) : lo1 x ≤ 16 := by unfold lo1; omega
theorem cA_lt (P R : Nat → Int) : ∀ n, W64 (cA P R n)
  | 0 => by unfold W64 cA; omega
  | n + 1 => by
    unfold W64 cA
    exact Nat.or_lt_two_pow (n := 64) (cA_lt P R n) (span_lt (lo0_le _))
theorem cB_lt (P R : Nat → Int) : ∀ n, (∀ i, i < n → R i ≤ 40) → cB P R n < 65536
  | 0, _ => by unfold cB; omega
  | n + 1, h => by
    unfold cB
    refine Nat.or_lt_two_pow (n := 16) (cB_lt P R n fun i hi => h i (by omega)) ?_
    unfold span
    refine Nat.lt_of_le_of_lt Nat.and_le_left ?_
    have := lo1_le (h n (by omega))
    have h2 : 2 ^ lo1 (R n) ≤ 2 ^ 16 := Nat.pow_le_pow_right (by decide) this
    have h3 : 0 < 2 ^ lo1 (R n) := Nat.two_pow_pos _
    unfold mk
    omega

set_option maxHeartbeats 4000000 in
theorem cols_any (m : Option Addr) (len cap : Nat) (P Q R S : Nat → Int) (w : World) (hlen : len ≤ 1048576) (hR : RectsIs w.heap.size w m len P Q R S) (hv : ∀ i, i < len → rvB (P i) (Q i) (R i) (S i) = true) :
    Calls Tryd.prog 168 #[.slice m len cap] w fun e w' => e = .returned (colV (cA P R len) (cB P R len)) ∧ Below w.heap.size w w' := by
  go_enter Tryd.func168, Tryd.ntmps168
  go_wp2_with fail
  go_loopw [10] (fun s5 wr => ∃ i : Nat, i ≤ len ∧ s5 = .int .i64 (i : Nat) ∧ w.heap.size + 1 < wr.heap.size ∧ Below w.heap.size w wr ∧ ColAt wr w.heap.size 0 0 ∧ ColAt wr (w.heap.size + 1) (cA P R i) (cB P R i)) (fun s5 _ => len - (intOf s5).toNat)
  case atStart => exact ⟨0, by omega, rfl, by simp, by (repeat (first | (with_reducible exact Below.refl _ _) | (with_reducible refine Ext.drewN ?_ _) | (with_reducible refine Below.drew ?_) | (with_reducible refine Ext.alloc ?_ _) | (with_reducible refine Ext.setCell ?_ (by simp; try omega) _) | (with_reducible refine Ext.trans ?_ (by assumption)) | (with_reducible assumption) | exact Below.refl _ _)), by unfold ColAt; simp [go_sem], by unfold ColAt; simp [go_sem, cA, cB]⟩
  case round =>
    obtain ⟨i, hi, rfl, hsz, hW, hZ, hX⟩ := hrel
    have HZ := Lib.hid hZ
    have HX := Lib.hid hX
    obtain ⟨z0, z1, z2, z3⟩ := hZ
    obtain ⟨e0, e1, e2, e3⟩ := hX
    by_cases hlt : i < len
    · obtain ⟨b1, o1, rfl, hb1, c0, c1, c2, c3⟩ := hR.below hW i hlt
      have q1 : ((i : Nat) : Int) < (len : Int) := by omega
      have q0 : (0 : Int) ≤ ((i : Nat) : Int) := by omega
      have hvi := hv i hlt
      obtain ⟨r1, r2, r3, r4, r5, r6⟩ : -40 ≤ P i ∧ P i < R i ∧ R i ≤ 40 ∧ -40 ≤ Q i ∧ Q i < S i ∧ S i ≤ 40 := rvB_t hvi
      go_upto_region 5 with fail
      go_cut [6, 7] (fun s6 s7 wx => ∃ g h : Nat, s6 = .pointer (some ⟨g, 0, none⟩) ∧ s7 = .pointer (some ⟨h, 0, none⟩) ∧ wr.heap.size < g ∧ wr.heap.size < h ∧ ColAt wx g (mk (lo0 (P i))) (mk (lo1 (P i))) ∧ ColAt wx h (mk (lo0 (R i))) (mk (lo1 (R i))) ∧ Below (wr.alloc (.cells #[.int .i64 (P i), .int .i64 (Q i), .int .i64 (R i), .int .i64 (S i)] 142)).heap.size (wr.alloc (.cells #[.int .i64 (P i), .int .i64 (Q i), .int .i64 (R i), .int .i64 (S i)] 142)) wx)
      case first =>
        have hc0 : Hid (∀ w', Below (wr.alloc (.cells #[.int .i64 (P i), .int .i64 (Q i), .int .i64 (R i), .int .i64 (S i)] 142)).heap.size (wr.alloc (.cells #[.int .i64 (P i), .int .i64 (Q i), .int .i64 (R i), .int .i64 (S i)] 142)) w' → w'.cell? ⟨wr.heap.size, 0, none⟩ = some (.int .i64 (P i))) := fun w' hb => keepC hb (by simp [go_sem])
        have hc2 : Hid (∀ w', Below (wr.alloc (.cells #[.int .i64 (P i), .int .i64 (Q i), .int .i64 (R i), .int .i64 (S i)] 142)).heap.size (wr.alloc (.cells #[.int .i64 (P i), .int .i64 (Q i), .int .i64 (R i), .int .i64 (S i)] 142)) w' → w'.cell? ⟨wr.heap.size, 2, none⟩ = some (.int .i64 (R i))) := fun w' hb => keepC hb (by simp [go_sem])
        go_region_held3 (fun w' => Below (wr.alloc (.cells #[.int .i64 (P i), .int .i64 (Q i), .int .i64 (R i), .int .i64 (S i)] 142)).heap.size (wr.alloc (.cells #[.int .i64 (P i), .int .i64 (Q i), .int .i64 (R i), .int .i64 (S i)] 142)) w' ∧ w'.cell? ⟨wr.heap.size, 0, none⟩ = some (.int .i64 (P i)) ∧ w'.cell? ⟨wr.heap.size, 2, none⟩ = some (.int .i64 (R i)))
          (first | (refine ⟨?_, ?_, ?_⟩ <;> first | ((repeat (first | (with_reducible exact Below.refl _ _) | (with_reducible refine Ext.drewN ?_ _) | (with_reducible refine Below.drew ?_) | (with_reducible refine Ext.alloc ?_ _) | (with_reducible refine Ext.setCell ?_ (by simp; try omega) _) | (with_reducible refine Ext.trans ?_ (by assumption)) | (with_reducible assumption) | exact Below.refl _ _)); done) | (refine hc0.out _ ?_; (repeat (first | (with_reducible exact Below.refl _ _) | (with_reducible refine Ext.drewN ?_ _) | (with_reducible refine Below.drew ?_) | (with_reducible refine Ext.alloc ?_ _) | (with_reducible refine Ext.setCell ?_ (by simp; try omega) _) | (with_reducible refine Ext.trans ?_ (by assumption)) | (with_reducible assumption) | exact Below.refl _ _)); done) | (refine hc2.out _ ?_; (repeat (first | (with_reducible exact Below.refl _ _) | (with_reducible refine Ext.drewN ?_ _) | (with_reducible refine Below.drew ?_) | (with_reducible refine Ext.alloc ?_ _) | (with_reducible refine Ext.setCell ?_ (by simp; try omega) _) | (with_reducible refine Ext.trans ?_ (by assumption)) | (with_reducible assumption) | exact Below.refl _ _)); done)))
          (first | (go_at_call_of 181 (Value.int .i64 (P i)); refine (left_any _ _ (by omega) (by omega)).mono ?_; rintro e v0 ⟨rfl, bv0⟩; obtain ⟨sv0, zv0, cv0, fv0⟩ := bcell bv0; (try simp only [World.size_alloc, World.size_setCell, World.size_drew] at sv0); (try have nv0_wr_0 : wr.heap.size < v0.heap.size := by omega); (try have nv0_wr_1 : wr.heap.size + 1 < v0.heap.size := by omega); (try have nv0_wr_2 : wr.heap.size + 1 + 1 < v0.heap.size := by omega); (try have nv0_wr_3 : wr.heap.size + 1 + 1 + 1 < v0.heap.size := by omega); (try have nv0_v1_0 : v1.heap.size < v0.heap.size := by omega); (try have nv0_v1_1 : v1.heap.size + 1 < v0.heap.size := by omega); (try have nv0_v1_2 : v1.heap.size + 1 + 1 < v0.heap.size := by omega)) | (go_at_call_of 181 (Value.int .i64 (R i)); refine (left_any _ _ (by omega) (by omega)).mono ?_; rintro e v1 ⟨rfl, bv1⟩; obtain ⟨sv1, zv1, cv1, fv1⟩ := bcell bv1; (try simp only [World.size_alloc, World.size_setCell, World.size_drew] at sv1); (try have nv1_wr_0 : wr.heap.size < v1.heap.size := by omega); (try have nv1_wr_1 : wr.heap.size + 1 < v1.heap.size := by omega); (try have nv1_wr_2 : wr.heap.size + 1 + 1 < v1.heap.size := by omega); (try have nv1_wr_3 : wr.heap.size + 1 + 1 + 1 < v1.heap.size := by omega); (try have nv1_v0_0 : v0.heap.size < v1.heap.size := by omega); (try have nv1_v0_1 : v0.heap.size + 1 < v1.heap.size := by omega); (try have nv1_v0_2 : v0.heap.size + 1 + 1 < v1.heap.size := by omega)))
        all_goals
          go_wp2_with fail
          go_meet
          refine ⟨_, _, rfl, rfl, ?_, ?_, ?_, ?_, ?_⟩
          · (try simp only [World.size_alloc, World.size_setCell, World.size_drew]); omega
          · (try simp only [World.size_alloc, World.size_setCell, World.size_drew]); omega
          · unfold lo0 lo1; (repeat (first | (with_reducible exact ColAt.new _ _ _ _) | (with_reducible exact ColAt.zero _ _) | ((with_reducible refine ColAt.newAt _ _ _ _ ?_); (simp; done)) | ((with_reducible refine ColAt.zeroAt _ _ ?_); (simp; done)) | (with_reducible assumption) | (with_reducible refine ColAt.set (A := 0) (B := 0) ?_ _ _) | (with_reducible refine ColAt.other ?_ (by simp; try omega) _) | (with_reducible refine ColAt.alloc ?_ _) | (with_reducible refine ColAt.drew ?_) | (with_reducible refine ColAt.below ?_ (by assumption))))
          · unfold lo0 lo1; (repeat (first | (with_reducible exact ColAt.new _ _ _ _) | (with_reducible exact ColAt.zero _ _) | ((with_reducible refine ColAt.newAt _ _ _ _ ?_); (simp; done)) | ((with_reducible refine ColAt.zeroAt _ _ ?_); (simp; done)) | (with_reducible assumption) | (with_reducible refine ColAt.set (A := 0) (B := 0) ?_ _ _) | (with_reducible refine ColAt.other ?_ (by simp; try omega) _) | (with_reducible refine ColAt.alloc ?_ _) | (with_reducible refine ColAt.drew ?_) | (with_reducible refine ColAt.below ?_ (by assumption))))
          · (repeat (first | (with_reducible exact Below.refl _ _) | (with_reducible refine Ext.drewN ?_ _) | (with_reducible refine Below.drew ?_) | (with_reducible refine Ext.alloc ?_ _) | (with_reducible refine Ext.setCell ?_ (by simp; try omega) _) | (with_reducible refine Ext.trans ?_ (by assumption)) | (with_reducible assumption) | exact Below.refl _ _))
      case rest =>
        obtain ⟨g, h, rfl, rfl, hg, hh, cg, ch, bx⟩ := hcut
        have hb2 : Below wr.heap.size wr wc := Below.trans ((Below.refl _ wr).alloc (Nat.le_refl _) _) (bx.mono (by simp))
        have hwc : Below w.heap.size w wc := Ext.trans hW hb2
        have CZ := HZ.out.below hb2
        have CX := HX.out.below hb2
        have hgl := cg.lt
        have hhl := ch.lt
        have n1 : w.heap.size + 1 < wc.heap.size := by omega
        have d1 : mk (lo0 (R i)) &&& (18446744073709551615 - mk (lo0 (P i))) = span (lo0 (P i)) (lo0 (R i)) := rfl
        have d2 : mk (lo1 (R i)) &&& (18446744073709551615 - mk (lo1 (P i))) = span (lo1 (P i)) (lo1 (R i)) := rfl
        have m1 : W64 (mk (lo0 (R i))) := mk_lt (lo0_le _)
        have m2 : W64 (mk (lo1 (R i))) := mk_lt (by have := lo1_le r3; omega)
        have m3 : W64 (mk (lo0 (P i))) := mk_lt (lo0_le _)
        have m4 : W64 (mk (lo1 (P i))) := mk_lt (by have := lo1_le (x := P i) (by omega); omega)
        have s1 : W64 (span (lo0 (P i)) (lo0 (R i))) := span_lt (lo0_le _)
        have s2 : W64 (span (lo1 (P i)) (lo1 (R i))) := span_lt (by have := lo1_le r3; omega)
        have a1 := cA_lt P R i
        have a2 : W64 (cB P R i) := by have := cB_lt P R i (fun k hk => by have := rvB_t (hv k (by omega)); omega); unfold W64; omega
        have ha : cA P R (i + 1) = cA P R i ||| span (lo0 (P i)) (lo0 (R i)) := rfl
        have hb : cB P R (i + 1) = cB P R i ||| span (lo1 (P i)) (lo1 (R i)) := rfl
        revert cg ch d1 d2 m1 m2 m3 m4 s1 s2 ha hb
        generalize span (lo0 (P i)) (lo0 (R i)) = sa
        generalize span (lo1 (P i)) (lo1 (R i)) = sb
        generalize mk (lo0 (P i)) = pa
        generalize mk (lo1 (P i)) = pb
        generalize mk (lo0 (R i)) = ra
        generalize mk (lo1 (R i)) = rb
        intro cg ch d1 d2 m1 m2 m3 m4 s1 s2 ha hb
        have HCX := Lib.hid CX
        have HCZ := Lib.hid CZ
        obtain ⟨g0, g1, g2, g3⟩ := cg
        obtain ⟨h0, h1, h2, h3⟩ := ch
        obtain ⟨x0, x1, x2, x3⟩ := CX
        obtain ⟨y0, y1, y2, y3⟩ := CZ
        clear bx hb2 HX HZ e0 e1 e2 e3 z0 z1 z2 z3 c0 c1 c2 c3
        have HD1 := Lib.hid d1
        have HD2 := Lib.hid d2
        clear d1 d2
        go_upto_region 6 with fail
        go_region_with (first | (go_at_call 182; refine (without_any _ _ _ _ _ m1 m2 m3 m4).mono ?_; rintro e v1 ⟨rfl, bv1⟩; rw [HD1.out, HD2.out]; have hv1 : Below wc.heap.size wc v1 := (by (repeat (first | (with_reducible exact Below.refl _ _) | (with_reducible refine Ext.drewN ?_ _) | (with_reducible refine Below.drew ?_) | (with_reducible refine Ext.alloc ?_ _) | (with_reducible refine Ext.setCell ?_ (by simp; try omega) _) | (with_reducible refine Ext.trans ?_ (by assumption)) | (with_reducible assumption) | exact Below.refl _ _))); have j0 := keepC hv1 x0; have j1 := keepC hv1 x1; have j2 := (hv1.frozen (p := ⟨w.heap.size + 1, 0, none⟩) n1).trans x2; have j3 := (hv1.frozen (p := ⟨w.heap.size + 1, 1, none⟩) n1).trans x3) | (go_at_call 169; refine (with_any _ _ _ _ _ a1 a2 s1 s2).mono ?_; rintro e v0 ⟨rfl, bv0⟩; have hv0 : Below wc.heap.size wc v0 := (by (repeat (first | (with_reducible exact Below.refl _ _) | (with_reducible refine Ext.drewN ?_ _) | (with_reducible refine Below.drew ?_) | (with_reducible refine Ext.alloc ?_ _) | (with_reducible refine Ext.setCell ?_ (by simp; try omega) _) | (with_reducible refine Ext.trans ?_ (by assumption)) | (with_reducible assumption) | exact Below.refl _ _))); have k0 := keepC hv0 x0; have k1 := keepC hv0 x1; have k2 := (hv0.frozen (p := ⟨w.heap.size + 1, 0, none⟩) n1).trans x2; have k3 := (hv0.frozen (p := ⟨w.heap.size + 1, 1, none⟩) n1).trans x3))
        all_goals
          go_wp2_with fail
          go_roundw
          case rel =>
            have hS : Below w.heap.size w v0 := Ext.trans hwc hv0
            have hcv := hv0
            have sv0 := hv0.size
            refine ⟨i + 1, by omega, by go_num, by simp; omega, (hS.setCell (by simp) _).setCell (by simp) _, ((HCZ.out.below hcv).other (by simp) _).other (by simp) _, ?_⟩
            rw [ha, hb]
            exact (HCX.out.below hcv).set _ _
          case measure => simp [intOf]; omega
    · have q1 : ¬ ((i : Nat) : Int) < (len : Int) := by omega
      obtain rfl : len = i := by omega
      go_wp2_with fail
      refine bodyPost_ret (v := colV (cA P R len) (cB P R len)) (by simp [*, results, Tryd.results168, go_sem]) rfl ⟨rfl, ?_⟩
      (repeat (first | (with_reducible exact Below.refl _ _) | (with_reducible refine Ext.drewN ?_ _) | (with_reducible refine Below.drew ?_) | (with_reducible refine Ext.alloc ?_ _) | (with_reducible refine Ext.setCell ?_ (by simp; try omega) _) | (with_reducible refine Ext.trans ?_ (by assumption)) | (with_reducible assumption) | exact Below.refl _ _))
end Go.Proofs.YtciodcknobccdaaDoor
