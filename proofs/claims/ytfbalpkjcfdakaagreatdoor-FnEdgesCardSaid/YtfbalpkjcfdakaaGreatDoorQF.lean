/- The columns that at least one rectangle of a list covers. Conditions: the elements' cells are in memory, the rectangles are valid. -/
import Derived.Test.YtfbalpkjcfdakaaGreatDoorQD
import Derived.Test.YtfbalpkjcfdakaaGreatDoorQE
import Derived.Deep.WholeRow
namespace Go.Proofs.YtfbalpkjcfdakaaGreatDoor
open Go.RowKit
set_option linter.unusedVariables false
set_option linter.unusedSimpArgs false
attribute [local go_sem ↓] Go.wp_at_zero Go.wp_at_succ

/-- A pair of words in memory. -/
def ColAt (w : World) (g : Nat) (A B : Nat) : Prop := w.cell? ⟨g, 0, none⟩ = some (.int .u64 (A : Int)) ∧ w.cell? ⟨g, 1, none⟩ = some (.int .u64 (B : Int)) ∧ w.frozen? ⟨g, 0, none⟩ = false ∧ w.frozen? ⟨g, 1, none⟩ = false
theorem ColAt.lt {w : World} {g A B : Nat} (h : ColAt w g A B) : g < w.heap.size := World.block_lt_of_cell? w ⟨g, 0, none⟩ h.1
theorem ColAt.kept {w w' : World} {g A B : Nat} (h : ColAt w g A B) {n : Nat} (hb : Below n w w') (hn : g < n) : ColAt w' g A B :=
  ⟨(hb.cell (p := ⟨g, 0, none⟩) hn).trans h.1, (hb.cell (p := ⟨g, 1, none⟩) hn).trans h.2.1, (hb.frozen (p := ⟨g, 0, none⟩) hn).trans h.2.2.1, (hb.frozen (p := ⟨g, 1, none⟩) hn).trans h.2.2.2⟩
theorem ColAt.below {w w' : World} {g A B : Nat} (h : ColAt w g A B) (hb : Below w.heap.size w w') : ColAt w' g A B := h.kept hb h.lt

theorem ColAt.other {w : World} {g A B : Nat} (h : ColAt w g A B) {p : Addr} (hp : p.block ≠ g) (u : Value) : ColAt (w.setCell p u) g A B := by
  obtain ⟨c0, c1, f0, f1⟩ := h
  exact ⟨keepS c0 hp u, keepS c1 hp u, by simpa [go_sem] using f0, by simpa [go_sem] using f1⟩
theorem ColAt.alloc {w : World} {g A B : Nat} (h : ColAt w g A B) (O : Obj) : ColAt (w.alloc O) g A B := h.below ((Below.refl _ _).alloc (Nat.le_refl _) O)
theorem ColAt.drew {w : World} {g A B : Nat} (h : ColAt w g A B) : ColAt w.drew g A B := h
theorem ColAt.new (w : World) (A B : Nat) (t : TypeId) : ColAt (w.alloc (.cells #[.int .u64 (A : Int), .int .u64 (B : Int)] t)) w.heap.size A B := by unfold ColAt; simp [go_sem]
theorem ColAt.zero (w : World) (t : TypeId) : ColAt (w.alloc (.cells #[.int .u64 0, .int .u64 0] t)) w.heap.size 0 0 := by unfold ColAt; simp [go_sem]
theorem ColAt.newAt (w : World) (A B : Nat) (t : TypeId) {g : Nat} (h : g = w.heap.size) : ColAt (w.alloc (.cells #[.int .u64 (A : Int), .int .u64 (B : Int)] t)) g A B := h ▸ ColAt.new w A B t
theorem ColAt.zeroAt (w : World) (t : TypeId) {g : Nat} (h : g = w.heap.size) : ColAt (w.alloc (.cells #[.int .u64 0, .int .u64 0] t)) g 0 0 := h ▸ ColAt.zero w t
theorem ColAt.new1 (w : World) (O : Obj) (A B : Nat) (t : TypeId) : ColAt ((w.alloc O).alloc (.cells #[.int .u64 (A : Int), .int .u64 (B : Int)] t)) (w.heap.size + 1) A B := by unfold ColAt; simp [go_sem]
theorem ColAt.zero1 (w : World) (O : Obj) (t : TypeId) : ColAt ((w.alloc O).alloc (.cells #[.int .u64 0, .int .u64 0] t)) (w.heap.size + 1) 0 0 := by unfold ColAt; simp [go_sem]
theorem ColAt.set {w : World} {g A B : Nat} (h : ColAt w g A B) (p q : Nat) : ColAt ((w.setCell ⟨g, 0, none⟩ (.int .u64 (p : Int))).setCell ⟨g, 1, none⟩ (.int .u64 (q : Int))) g p q := by
  obtain ⟨c0, c1, f0, f1⟩ := h
  refine ⟨?_, ?_, by simpa [go_sem] using f0, by simpa [go_sem] using f1⟩
  · rw [World.cell?_setCell_other _ _ _ _ (by simp)]; exact World.cell?_setCell_same _ _ _ c0
  · have h2 : (w.setCell ⟨g, 0, none⟩ (.int .u64 (p : Int))).cell? ⟨g, 1, none⟩ = some (.int .u64 (B : Int)) := by
      rw [World.cell?_setCell_other _ _ _ _ (by simp)]; exact c1
    exact World.cell?_setCell_same _ _ _ h2

/-- The column's number below and above the first word's end. -/
def lo0 (x : Int) : Nat := min (x + 40).toNat 64
def lo1 (x : Int) : Nat := (x + 40).toNat - 64
def cA (P R : Nat → Int) : Nat → Nat
  | 0 => 0
  | n + 1 => cA P R n ||| span (lo0 (P n)) (lo0 (R n))
def cB (P R : Nat → Int) : Nat → Nat
  | 0 => 0
  | n + 1 => cB P R n ||| span (lo1 (P n)) (lo1 (R n))
theorem lo0_le (x : Int) : lo0 x ≤ 64 := by unfold lo0; omega
theorem lo1_le {x : Int} (h : x ≤ 40) : lo1 x ≤ 16 := by unfold lo1; omega
theorem cA_lt (P R : Nat → Int) : ∀ n, W64 (cA P R n)
  | 0 => by unfold W64 cA; omega
  | n + 1 => by
    unfold W64 cA
    exact Nat.or_lt_two_pow (n := 64) (cA_lt P R n) (span_lt (lo0_le _))
theorem cB_lt (P R : Nat → Int) : ∀ n, (∀ i, i < n → R i ≤ 40) → cB P R n < 65536
  | 0, _ => by unfold cB; omega
  | n + 1, h => by
    unfold cB
    refine Nat.or_lt_two_pow (n := 16) (cB_lt P R n fun i hi => h i (by omega)) ?_
    unfold span
    refine Nat.lt_of_le_of_lt Nat.and_le_left ?_
    have := lo1_le (h n (by omega))
    have h2 : 2 ^ lo1 (R n) ≤ 2 ^ 16 := Nat.pow_le_pow_right (by decide) this
    have h3 : 0 < 2 ^ lo1 (R n) := Nat.two_pow_pos _
    unfold mk
    omega

set_option maxHeartbeats 4000000 in
theorem cols_any (m : Option Addr) (len cap : Nat) (P Q R S : Nat → Int) (w : World) (hlen : len ≤ 1048576) (hR : RectsIs w.heap.size w m len P Q R S) (hv : ∀ i, i < len → rvB (P i) (Q i) (R i) (S i) = true) :
    Calls Tryz.prog 166 #[.slice m len cap] w fun e w' => e = .returned (colV (cA P R len) (cB P R len)) ∧ Below w.heap.size w w' := by
  go_enter Tryz.func166, Tryz.ntmps166
  go_wp2_with fail
  go_loopw [10] (fun s5 wr => ∃ i : Nat, i ≤ len ∧ s5 = .int .i64 (i : Nat) ∧ w.heap.size + 1 < wr.heap.size ∧ Below w.heap.size w wr ∧ ColAt wr w.heap.size 0 0 ∧ ColAt wr (w.heap.size + 1) (cA P R i) (cB P R i)) (fun s5 _ => len - (intOf s5).toNat)
  case atStart => exact ⟨0, by omega, rfl, by simp, by (repeat (first | (with_reducible exact Below.refl _ _) | (with_reducible refine Ext.drewN ?_ _) | (with_reducible refine Below.drew ?_) | (with_reducible refine Ext.alloc ?_ _) | (with_reducible refine Ext.setCell ?_ (by simp; try omega) _) | (with_reducible refine Ext.trans ?_ (by assumption)) | (with_reducible assumption) | exact Below.refl _ _)), by unfold ColAt; simp [go_sem], by unfold ColAt; simp [go_sem, cA, cB]⟩
  case round =>
    obtain ⟨i, hi, rfl, hsz, hW, hZ, hX⟩ := hrel
    have HZ := Lib.hid hZ
    have HX := Lib.hid hX
    obtain ⟨z0, z1, z2, z3⟩ := hZ
    obtain ⟨e0, e1, e2, e3⟩ := hX
    by_cases hlt : i < len
    · obtain ⟨b1, o1, rfl, hb1, c0, c1, c2, c3⟩ := hR.below hW i hlt
      have q1 : ((i : Nat) : Int) < (len : Int) := by omega
      have q0 : (0 : Int) ≤ ((i : Nat) : Int) := by omega
      have hvi := hv i hlt
      obtain ⟨r1, r2, r3, r4, r5, r6⟩ : -40 ≤ P i ∧ P i < R i ∧ R i ≤ 40 ∧ -40 ≤ Q i ∧ Q i < S i ∧ S i ≤ 40 := rvB_t hvi
      go_upto_region 5 with fail
      go_cut [6, 7] (fun s6 s7 wx => ∃ g h : Nat, s6 = .pointer (some ⟨g, 0, none⟩) ∧ s7 = .pointer (some ⟨h, 0, none⟩) ∧ wr.heap.size < g ∧ wr.heap.size < h ∧ ColAt wx g (mk (lo0 (P i))) (mk (lo1 (P i))) ∧ ColAt wx h (mk (lo0 (R i))) (mk (lo1 (R i))) ∧ Below (wr.alloc (.cells #[.int .i64 (P i), .int .i64 (Q i), .int .i64 (R i), .int .i64 (S i)] 65)).heap.size (wr.alloc (.cells #[.int .i64 (P i), .int .i64 (Q i), .int .i64 (R i), .int .i64 (S i)] 65)) wx)
      case first =>
        have hc0 : Hid (∀ w', Below (wr.alloc (.cells #[.int .i64 (P i), .int .i64 (Q i), .int .i64 (R i), .int .i64 (S i)] 65)).heap.size (wr.alloc (.cells #[.int .i64 (P i), .int .i64 (Q i), .int .i64 (R i), .int .i64 (S i)] 65)) w' → w'.cell? ⟨wr.heap.size, 0, none⟩ = some (.int .i64 (P i))) := fun w' hb => keepC hb (by simp [go_sem])
        have hc2 : Hid (∀ w', Below (wr.alloc (.cells #[.int .i64 (P i), .int .i64 (Q i), .int .i64 (R i), .int .i64 (S i)] 65)).heap.size (wr.alloc (.cells #[.int .i64 (P i), .int .i64 (Q i), .int .i64 (R i), .int .i64 (S i)] 65)) w' → w'.cell? ⟨wr.heap.size, 2, none⟩ = some (.int .i64 (R i))) := fun w' hb => keepC hb (by simp [go_sem])
        go_region_held3 (fun w' => Below (wr.alloc (.cells #[.int .i64 (P i), .int .i64 (Q i), .int .i64 (R i), .int .i64 (S i)] 65)).heap.size (wr.alloc (.cells #[.int .i64 (P i), .int .i64 (Q i), .int .i64 (R i), .int .i64 (S i)] 65)) w' ∧ w'.cell? ⟨wr.heap.size, 0, none⟩ = some (.int .i64 (P i)) ∧ w'.cell? ⟨wr.heap.size, 2, none⟩ = some (.int .i64 (R i)))
          (first | (refine ⟨?_, ?_, ?_⟩ <;> first | ((repeat (first | (with_reducible exact Below.refl _ _) | (with_reducible refine Ext.drewN ?_ _) | (with_reducible refine Below.drew ?_) | (with_reducible refine Ext.alloc ?_ _) | (with_reducible refine Ext.setCell ?_ (by simp; try omega) _) | (with_reducible refine Ext.trans ?_ (by assumption)) | (with_reducible assumption) | exact Below.refl _ _)); done) | (refine hc0.out _ ?_; (repeat (first | (with_reducible exact Below.refl _ _) | (with_reducible refine Ext.drewN ?_ _) | (with_reducible refine Below.drew ?_) | (with_reducible refine Ext.alloc ?_ _) | (with_reducible refine Ext.setCell ?_ (by simp; try omega) _) | (with_reducible refine Ext.trans ?_ (by assumption)) | (with_reducible assumption) | exact Below.refl _ _)); done) | (refine hc2.out _ ?_; (repeat (first | (with_reducible exact Below.refl _ _) | (with_reducible refine Ext.drewN ?_ _) | (with_reducible refine Below.drew ?_) | (with_reducible refine Ext.alloc ?_ _) | (with_reducible refine Ext.setCell ?_ (by simp; try omega) _) | (with_reducible refine Ext.trans ?_ (by assumption)) | (with_reducible assumption) | exact Below.refl _ _)); done)))
          (first | (go_at_call_of 108 (Value.int .i64 (P i)); refine (left_any _ _ (by omega) (by omega)).mono ?_; rintro e v0 ⟨rfl, bv0⟩; obtain ⟨sv0, zv0, cv0, fv0⟩ := bcell bv0; (try simp only [World.size_alloc, World.size_setCell, World.size_drew] at sv0); (try have nv0_wr_0 : wr.heap.size < v0.heap.size := by omega); (try have nv0_wr_1 : wr.heap.size + 1 < v0.heap.size := by omega); (try have nv0_wr_2 : wr.heap.size + 1 + 1 < v0.heap.size := by omega); (try have nv0_wr_3 : wr.heap.size + 1 + 1 + 1 < v0.heap.size := by omega); (try have nv0_v1_0 : v1.heap.size < v0.heap.size := by omega); (try have nv0_v1_1 : v1.heap.size + 1 < v0.heap.size := by omega); (try have nv0_v1_2 : v1.heap.size + 1 + 1 < v0.heap.size := by omega)) | (go_at_call_of 108 (Value.int .i64 (R i)); refine (left_any _ _ (by omega) (by omega)).mono ?_; rintro e v1 ⟨rfl, bv1⟩; obtain ⟨sv1, zv1, cv1, fv1⟩ := bcell bv1; (try simp only [World.size_alloc, World.size_setCell, World.size_drew] at sv1); (try have nv1_wr_0 : wr.heap.size < v1.heap.size := by omega); (try have nv1_wr_1 : wr.heap.size + 1 < v1.heap.size := by omega); (try have nv1_wr_2 : wr.heap.size + 1 + 1 < v1.heap.size := by omega); (try have nv1_wr_3 : wr.heap.size + 1 + 1 + 1 < v1.heap.size := by omega); (try have nv1_v0_0 : v0.heap.size < v1.heap.size := by omega); (try have nv1_v0_1 : v0.heap.size + 1 < v1.heap.size := by omega); (try have nv1_v0_2 : v0.heap.size + 1 + 1 < v1.heap.size := by omega)))
        all_goals
          go_wp2_with fail
          go_meet
          refine ⟨_, _, rfl, rfl, ?_, ?_, ?_, ?_, ?_⟩
          · (try simp only [World.size_alloc, World.size_setCell, World.size_drew]); omega
          · (try simp only [World.size_alloc, World.size_setCell, World.size_drew]); omega
          · unfold lo0 lo1; (repeat (first | (with_reducible exact ColAt.new _ _ _ _) | (with_reducible exact ColAt.zero _ _) | ((with_reducible refine ColAt.newAt _ _ _ _ ?_); (simp; done)) | ((with_reducible refine ColAt.zeroAt _ _ ?_); (simp; done)) | (with_reducible assumption) | (with_reducible refine ColAt.set (A := 0) (B := 0) ?_ _ _) | (with_reducible refine ColAt.other ?_ (by simp; try omega) _) | (with_reducible refine ColAt.alloc ?_ _) | (with_reducible refine ColAt.drew ?_) | (with_reducible refine ColAt.below ?_ (by assumption))))
          · unfold lo0 lo1; (repeat (first | (with_reducible exact ColAt.new _ _ _ _) | (with_reducible exact ColAt.zero _ _) | ((with_reducible refine ColAt.newAt _ _ _ _ ?_); (simp; done)) | ((with_reducible refine ColAt.zeroAt _ _ ?_); (simp; done)) | (with_reducible assumption) | (with_reducible refine ColAt.set (A := 0) (B := 0) ?_ _ _) | (with_reducible refine ColAt.other ?_ (by simp; try omega) _) | (with_reducible refine ColAt.alloc ?_ _) | (with_reducible refine ColAt.drew ?_) | (with_reducible refine ColAt.below ?_ (by assumption))))
          · (repeat (first | (with_reducible exact Below.refl _ _) | (with_reducible refine Ext.drewN ?_ _) | (with_reducible refine Below.drew ?_) | (with_reducible refine Ext.alloc ?_ _) | (with_reducible refine Ext.setCell ?_ (by simp; try omega) _) | (with_reducible refine Ext.trans ?_ (by assumption)) | (with_reducible assumption) | exact Below.refl _ _))
      case rest =>
        obtain ⟨g, h, rfl, rfl, hg, hh, cg, ch, bx⟩ := hcut
        have hb2 : Below wr.heap.size wr wc := Below.trans ((Below.refl _ wr).alloc (Nat.le_refl _) _) (bx.mono (by simp))
        have hwc : Below w.heap.size w wc := Ext.trans hW hb2
        have CZ := HZ.out.below hb2
        have CX := HX.out.below hb2
        have hgl := cg.lt
        have hhl := ch.lt
        have n1 : w.heap.size + 1 < wc.heap.size := by omega
        have d1 : mk (lo0 (R i)) &&& (18446744073709551615 - mk (lo0 (P i))) = span (lo0 (P i)) (lo0 (R i)) := rfl
        have d2 : mk (lo1 (R i)) &&& (18446744073709551615 - mk (lo1 (P i))) = span (lo1 (P i)) (lo1 (R i)) := rfl
        have m1 : W64 (mk (lo0 (R i))) := mk_lt (lo0_le _)
        have m2 : W64 (mk (lo1 (R i))) := mk_lt (by have := lo1_le r3; omega)
        have m3 : W64 (mk (lo0 (P i))) := mk_lt (lo0_le _)
        have m4 : W64 (mk (lo1 (P i))) := mk_lt (by have := lo1_le (x := P i) (by omega); omega)
        have s1 : W64 (span (lo0 (P i)) (lo0 (R i))) := span_lt (lo0_le _)
        have s2 : W64 (span (lo1 (P i)) (lo1 (R i))) := span_lt (by have := lo1_le r3; omega)
        have a1 := cA_lt P R i
        have a2 : W64 (cB P R i) := by have := cB_lt P R i (fun k hk => by have := rvB_t (hv k (by omega)); omega); unfold W64; omega
        have ha : cA P R (i + 1) = cA P R i ||| span (lo0 (P i)) (lo0 (R i)) := rfl
        have hb : cB P R (i + 1) = cB P R i ||| span (lo1 (P i)) (lo1 (R i)) := rfl
        revert cg ch d1 d2 m1 m2 m3 m4 s1 s2 ha hb
        generalize span (lo0 (P i)) (lo0 (R i)) = sa
        generalize span (lo1 (P i)) (lo1 (R i)) = sb
        generalize mk (lo0 (P i)) = pa
        generalize mk (lo1 (P i)) = pb
        generalize mk (lo0 (R i)) = ra
        generalize mk (lo1 (R i)) = rb
        intro cg ch d1 d2 m1 m2 m3 m4 s1 s2 ha hb
        have HCX := Lib.hid CX
        have HCZ := Lib.hid CZ
        obtain ⟨g0, g1, g2, g3⟩ := cg
        obtain ⟨h0, h1, h2, h3⟩ := ch
        obtain ⟨x0, x1, x2, x3⟩ := CX
        obtain ⟨y0, y1, y2, y3⟩ := CZ
        clear bx hb2 HX HZ e0 e1 e2 e3 z0 z1 z2 z3 c0 c1 c2 c3
        have HD1 := Lib.hid d1
        have HD2 := Lib.hid d2
        clear d1 d2
        go_upto_region 6 with fail
        go_region_with (first | (go_at_call 179; refine (without_any _ _ _ _ _ m1 m2 m3 m4).mono ?_; rintro e v1 ⟨rfl, bv1⟩; rw [HD1.out, HD2.out]; have hv1 : Below wc.heap.size wc v1 := (by (repeat (first | (with_reducible exact Below.refl _ _) | (with_reducible refine Ext.drewN ?_ _) | (with_reducible refine Below.drew ?_) | (with_reducible refine Ext.alloc ?_ _) | (with_reducible refine Ext.setCell ?_ (by simp; try omega) _) | (with_reducible refine Ext.trans ?_ (by assumption)) | (with_reducible assumption) | exact Below.refl _ _))); have j0 := keepC hv1 x0; have j1 := keepC hv1 x1; have j2 := (hv1.frozen (p := ⟨w.heap.size + 1, 0, none⟩) n1).trans x2; have j3 := (hv1.frozen (p := ⟨w.heap.size + 1, 1, none⟩) n1).trans x3) | (go_at_call 177; refine (with_any _ _ _ _ _ a1 a2 s1 s2).mono ?_; rintro e v0 ⟨rfl, bv0⟩; have hv0 : Below wc.heap.size wc v0 := (by (repeat (first | (with_reducible exact Below.refl _ _) | (with_reducible refine Ext.drewN ?_ _) | (with_reducible refine Below.drew ?_) | (with_reducible refine Ext.alloc ?_ _) | (with_reducible refine Ext.setCell ?_ (by simp; try omega) _) | (with_reducible refine Ext.trans ?_ (by assumption)) | (with_reducible assumption) | exact Below.refl _ _))); have k0 := keepC hv0 x0; have k1 := keepC hv0 x1; have k2 := (hv0.frozen (p := ⟨w.heap.size + 1, 0, none⟩) n1).trans x2; have k3 := (hv0.frozen (p := ⟨w.heap.size + 1, 1, none⟩) n1).trans x3))
        all_goals
          go_wp2_with fail
          go_roundw
          case rel =>
            have hS : Below w.heap.size w v0 := Ext.trans hwc hv0
            have hcv := hv0
            have sv0 := hv0.size
            refine ⟨i + 1, by omega, by go_num, by simp; omega, (hS.setCell (by simp) _).setCell (by simp) _, ((HCZ.out.below hcv).other (by simp) _).other (by simp) _, ?_⟩
            rw [ha, hb]
            exact (HCX.out.below hcv).set _ _
          case measure => simp [intOf]; omega
    · have q1 : ¬ ((i : Nat) : Int) < (len : Int) := by omega
      obtain rfl : len = i := by omega
      go_wp2_with fail
      refine bodyPost_ret (v := colV (cA P R len) (cB P R len)) (by simp [*, results, Tryz.results166, go_sem]) rfl ⟨rfl, ?_⟩
      (repeat (first | (with_reducible exact Below.refl _ _) | (with_reducible refine Ext.drewN ?_ _) | (with_reducible refine Below.drew ?_) | (with_reducible refine Ext.alloc ?_ _) | (with_reducible refine Ext.setCell ?_ (by simp; try omega) _) | (with_reducible refine Ext.trans ?_ (by assumption)) | (with_reducible assumption) | exact Below.refl _ _))
end Go.Proofs.YtfbalpkjcfdakaaGreatDoor

namespace Go.Proofs.YtfbalpkjcfdakaaGreatDoor
open Go.RowKit
set_option linter.unusedVariables false
set_option linter.unusedSimpArgs false
attribute [local go_sem ↓] Go.wp_at_zero Go.wp_at_succ

/-- Bit c of a pair of words. -/
def colB (A B : Nat) (c : Nat) : Bool := if c < 64 then A.testBit c else B.testBit (c - 64)
/-- Where a set of columns changes. -/
def chA (A : Nat) : Nat := A ^^^ (A * 2 % 18446744073709551616)
def chB (A B : Nat) : Nat := B ^^^ ((B * 2 % 18446744073709551616) ||| (A / 9223372036854775808))
theorem chA_lt {A : Nat} (h : W64 A) : W64 (chA A) := Nat.xor_lt_two_pow (n := 64) h (by omega)
theorem chB_lt {A B : Nat} (hA : W64 A) (h : W64 B) : W64 (chB A B) := by
  unfold W64 at *
  exact Nat.xor_lt_two_pow (n := 64) h (Nat.or_lt_two_pow (by omega) (by omega))
theorem ch_bit {A B : Nat} (hA : W64 A) (hB : B < 65536) (c : Nat) (hc : c ≤ 80) : colB (chA A) (chB A B) c = (colB A B c != (decide (0 < c) && colB A B (c - 1))) := by
  have h64 : B < 18446744073709551616 := by omega
  unfold colB chA chB
  by_cases h : c < 64
  · rw [if_pos h, if_pos h, Nat.testBit_xor]
    have := up_bit A c hA h 0 (by omega)
    rw [Nat.or_zero] at this
    rw [this]
    by_cases h0 : c = 0
    · subst h0; simp
    · rw [if_neg h0, if_pos (by omega)]
      simp [show 0 < c by omega]
  · rw [if_neg h, if_neg h, Nat.testBit_xor]
    obtain ⟨t1, t2⟩ := top_bit A hA
    rw [up_bit B (c - 64) h64 (by omega) _ t1]
    by_cases h0 : c = 64
    · subst h0
      simp only [Nat.sub_self, if_true, Nat.reduceLT, decide_true, Bool.true_and, Nat.reduceSub]
      rw [Bool.eq_iff_iff]
      simp [t2]
    · rw [if_neg (by omega), if_neg (by omega)]
      simp [show 0 < c by omega, show c - 64 - 1 = c - 1 - 64 by omega]

/-- The set bits of a word from below, as far as they have come: l, then the word that is left. -/
def LowOf (X : Nat) (l : List Nat) (x : Nat) : Prop := (∀ c, X.testBit c = true ↔ c ∈ l ∨ x.testBit c = true) ∧ (∀ c d, c ∈ l → x.testBit d = true → c < d) ∧ l.Pairwise (· < ·) ∧ ∀ c, c ∈ l → c < 64
theorem LowOf.start (X : Nat) : LowOf X [] X := ⟨fun c => by simp, fun c d h => by simp at h, .nil, fun c h => by simp at h⟩
theorem LowOf.next {X x : Nat} {l : List Nat} (h : LowOf X l x) (h0 : x ≠ 0) (hx : W64 x) : LowOf X (l ++ [Go.Lib.ctz 64 x]) (x &&& (x - 1)) := by
  obtain ⟨h1, h2, h3, h4⟩ := h
  obtain ⟨k1, k2, k3, k4, k5⟩ := drop_low x h0 hx
  refine ⟨fun c => ?_, fun c d hc hd => ?_, ?_, fun c hc => ?_⟩
  · rw [h1, k4]
    simp only [List.mem_append, List.mem_singleton, Bool.and_eq_true, decide_eq_true_eq]
    constructor
    · rintro (h | h)
      · exact .inl (.inl h)
      · by_cases hk : c = Go.Lib.ctz 64 x
        · exact .inl (.inr hk)
        · exact .inr ⟨h, hk⟩
    · rintro ((h | h) | h)
      · exact .inl h
      · exact .inr (h ▸ k2)
      · exact .inr h.1
  · rw [k4] at hd
    simp only [Bool.and_eq_true, decide_eq_true_eq] at hd
    simp only [List.mem_append, List.mem_singleton] at hc
    rcases hc with hc | hc
    · exact h2 c d hc hd.1
    · rw [hc]
      have : ¬ d < Go.Lib.ctz 64 x := fun hlt => by rw [k3 d hlt] at hd; simp at hd
      omega
  · rw [List.pairwise_append]
    refine ⟨h3, by simp, fun a ha b hb => ?_⟩
    simp only [List.mem_singleton] at hb
    rw [hb]
    exact h2 a _ ha k2
  · simp only [List.mem_append, List.mem_singleton] at hc
    rcases hc with hc | hc
    · exact h4 c hc
    · omega
theorem LowOf.len {X x : Nat} {l : List Nat} (h : LowOf X l x) : l.length ≤ 64 := by
  obtain ⟨h1, h2, h3, h4⟩ := h
  have key : ∀ (l : List Nat) (a n : Nat), l.Pairwise (· < ·) → (∀ c, c ∈ l → a ≤ c ∧ c < n) → a + l.length ≤ max n a := by
    intro l
    induction l with
    | nil => intro a n _ _; simp; omega
    | cons x t ih =>
      intro a n hp hb
      rw [List.pairwise_cons] at hp
      have := hb x (by simp)
      have := ih (x + 1) n hp.2 (fun c hc => ⟨hp.1 c hc, (hb c (by simp [hc])).2⟩)
      simp
      omega
  have := key l 0 64 h3 fun c hc => ⟨by omega, h4 c hc⟩
  omega
theorem LowOf.done {X : Nat} {l : List Nat} (h : LowOf X l 0) : (∀ c, X.testBit c = true ↔ c ∈ l) ∧ l.Pairwise (· < ·) ∧ ∀ c, c ∈ l → c < 64 :=
  ⟨fun c => by rw [h.1]; simp, h.2.2.1, h.2.2.2⟩
theorem incL_of_pairwise : ∀ l : List Int, l.Pairwise (· < ·) → incL l
  | [], _ => trivial
  | a :: l, h => by
    rw [List.pairwise_cons] at h
    exact ⟨h.1, incL_of_pairwise l h.2⟩

/-- The changes of a set of columns, word by word, are the runs of its row. -/
theorem runs_of_bits {A B : Nat} (hA : W64 A) (hB : B < 65536) {f : Nat → Bool} {y : Int} (hf : ∀ c : Nat, c < 80 → colB A B c = hasB f ((c : Int) - 40) y) {l0 l1 : List Nat}
    (h0 : LowOf (chA A) l0 0) (h1 : LowOf (chB A B) l1 0) : runsL f y = l0.map (fun c : Nat => (c : Int) - 40) ++ l1.map (fun c : Nat => (c : Int) + 24) := by
  obtain ⟨m0, p0, b0⟩ := h0.done
  obtain ⟨m1, p1, _⟩ := h1.done
  have b1 : ∀ c, c ∈ l1 → c < 17 := fun c hc => by
    have ht := (m1 c).2 hc
    have hlt : chB A B < 2 ^ 17 := by
      unfold chB
      have : W64 A := hA
      unfold W64 at this
      exact Nat.xor_lt_two_pow (n := 17) (by omega) (Nat.or_lt_two_pow (by omega) (by omega))
    refine Nat.lt_of_not_le fun hle => ?_
    rw [Nat.testBit_lt_two_pow (Nat.lt_of_lt_of_le hlt (Nat.pow_le_pow_right (by decide) hle))] at ht
    cases ht
  obtain ⟨L, hL⟩ : ∃ L, L = l0.map (fun c : Nat => (c : Int) - 40) ++ l1.map (fun c : Nat => (c : Int) + 24) := ⟨_, rfl⟩
  rw [← hL]
  have hmem : ∀ v, v ∈ L ↔ (∃ c, c ∈ l0 ∧ (c : Int) - 40 = v) ∨ ∃ c, c ∈ l1 ∧ (c : Int) + 24 = v := fun v => by rw [hL, List.mem_append, List.mem_map, List.mem_map]
  have hbd : ∀ u, u ∈ L → -40 ≤ u ∧ u ≤ 40 := fun u hu => by
    rcases (hmem u).1 hu with ⟨c, hc, rfl⟩ | ⟨c, hc, rfl⟩
    · have := b0 c hc; omega
    · have := b1 c hc; omega
  have hinc : incL L := incL_of_pairwise L (by
    rw [hL, List.pairwise_append, List.pairwise_map, List.pairwise_map]
    refine ⟨p0.imp fun h => by omega, p1.imp fun h => by omega, fun a ha b hb => ?_⟩
    obtain ⟨c, hc, rfl⟩ := List.mem_map.1 ha
    obtain ⟨d, hd, rfl⟩ := List.mem_map.1 hb
    have := b0 c hc
    omega)
  have hch : ∀ v, -40 ≤ v → v ≤ 40 → (chg f v y = true ↔ v ∈ L) := fun v v1 v2 => by
    obtain ⟨c, hc⟩ : ∃ c : Nat, c = (v + 40).toNat := ⟨_, rfl⟩
    have hv : v = (c : Int) - 40 := by omega
    have e1 : hasB f v y = colB A B c := by
      by_cases h : c < 80
      · rw [hf c h, hv]
      · obtain rfl : c = 80 := by omega
        rw [hasB_out (by omega)]
        unfold colB
        rw [if_neg (by omega), Nat.testBit_lt_two_pow (by omega)]
    have e2 : hasB f (v - 1) y = (decide (0 < c) && colB A B (c - 1)) := by
      by_cases h : 0 < c
      · rw [hf (c - 1) (by omega), show ((c - 1 : Nat) : Int) - 40 = v - 1 by omega]
        simp [h]
      · rw [hasB_out (by omega)]
        simp [h]
    unfold chg
    rw [e1, e2, ← ch_bit hA hB c (by omega), hmem]
    unfold colB
    by_cases h : c < 64
    · rw [if_pos h, m0]
      constructor
      · exact fun hc => .inl ⟨c, hc, hv.symm⟩
      · rintro (⟨d, hd, e⟩ | ⟨d, hd, e⟩)
        · obtain rfl : d = c := by omega
          exact hd
        · omega
    · rw [if_neg h, m1]
      constructor
      · exact fun hc => .inr ⟨c - 64, hc, by omega⟩
      · rintro (⟨d, hd, e⟩ | ⟨d, hd, e⟩)
        · have := b0 d hd; omega
        · obtain rfl : d = c - 64 := by omega
          exact hd
  have := runsTo_filt f y L hinc hbd hch 81 (by omega)
  rw [filt_all _ L fun u hu => by have := hbd u hu; omega] at this
  exact this
end Go.Proofs.YtfbalpkjcfdakaaGreatDoor

namespace Go.Proofs.YtfbalpkjcfdakaaGreatDoor
open Go.RowKit
set_option linter.unusedVariables false
set_option linter.unusedSimpArgs false
attribute [local go_sem ↓] Go.wp_at_zero Go.wp_at_succ

/-- As IntsRes, and the length is within the capacity. -/
def IntsResC (B : Nat) (l : List Int) (e : Ending) (w : World) : Prop := ∃ h c, e = .returned (.slice (some ⟨h, 0, none⟩) l.length c) ∧ IntsIs B w h l ∧ l.length ≤ c
def mapA (l : List Nat) : List Int := l.map fun c : Nat => (c : Int) - 40
def mapB (l : List Nat) : List Int := l.map fun c : Nat => 64 + (c : Int) - 40
/-- What has come behind i words. -/
def PartL (X Y i : Nat) (L : List Int) : Prop :=
  (i = 0 ∧ L = []) ∨ (i = 1 ∧ ∃ l0, LowOf X l0 0 ∧ L = mapA l0) ∨ (i = 2 ∧ ∃ l0 l1, LowOf X l0 0 ∧ LowOf Y l1 0 ∧ L = mapA l0 ++ mapB l1)
theorem ixW0 (X Y : Int) (w : World) : (Instr.index 84 (Value.agg #[Value.int .u64 X, Value.int .u64 Y]) (Value.int .i64 0)).run Tryz.prog w = .ok (.int .u64 X) w := by
  simp [Instr.index, part, go_sem]
theorem ixW1 (X Y : Int) (w : World) : (Instr.index 84 (Value.agg #[Value.int .u64 X, Value.int .u64 Y]) (Value.int .i64 1)).run Tryz.prog w = .ok (.int .u64 Y) w := by
  simp [Instr.index, part, go_sem]
theorem xA_is {A : Nat} (h : W64 A) : bits .xor .u64 (A : Int) (IntKind.u64.wrap ((A : Int) * 2)) = ((chA A : Nat) : Int) := by
  have e : IntKind.u64.wrap ((A : Int) * 2) = ((A * 2 % 18446744073709551616 : Nat) : Int) := by rw [IntKind.wrap_u64]; omega
  rw [e, bits_xor_u64_nat A _ h (by omega)]
  rfl
theorem xB_is {A B : Nat} (hA : W64 A) (h : W64 B) : bits .xor .u64 (B : Int) (bits .or .u64 (IntKind.u64.wrap ((B : Int) * 2)) ((A : Int) / 9223372036854775808)) = ((chB A B : Nat) : Int) := by
  have e : IntKind.u64.wrap ((B : Int) * 2) = ((B * 2 % 18446744073709551616 : Nat) : Int) := by rw [IntKind.wrap_u64]; omega
  have e2 : (A : Int) / 9223372036854775808 = ((A / 9223372036854775808 : Nat) : Int) := by omega
  have h1 : A / 9223372036854775808 < 18446744073709551616 := by unfold W64 at hA; omega
  rw [e, e2, bits_or_u64_nat _ _ (by omega) h1, bits_xor_u64_nat B _ h (Nat.or_lt_two_pow (n := 64) (by omega) h1)]
  rfl
def zRow (n : Nat) : Array Value := madeCells (Value.int .i64 0).cells (n * 1)
theorem make_is (n : Nat) (w : World) (hn : n ≤ 254) : (Instr.makeSlice 148 (.int .i64 0) (.int .i64 (n : Int))).run Tryz.prog w = .ok (.slice (some ⟨w.heap.size, 0, none⟩) 0 n) (w.alloc (.cells (zRow n) 2)) := by
  obtain ⟨i0, hi, hz0, hz1, hz2⟩ := info_parts infoI
  have := run_make (P := Tryz.prog) w 148 2 i0 (.int .i64 0) Tryz.underlying148 hi hz0 .i64 .i64 0 (n : Int) (by omega) (by omega) (by rw [hz2]; omega) (by omega)
  rw [this, hz1, Int.toNat_natCast, Int.toNat_zero]
  rfl
theorem zRow_own (w : World) (B n : Nat) (hB : B ≤ w.heap.size) (hn : n ≤ 254) : (w.alloc (.cells (zRow n) 2)).ownsRow B 2 1 (.slice (some ⟨w.heap.size, 0, none⟩) 0 n) 0 [] :=
  World.ownsRow_made w (zRow n) n hB (by unfold maxLen; omega) (by unfold zRow; rw [size_madeCells])

theorem nxA_is {A : Nat} : IntKind.u64.wrap ((A : Int) * 2) = ((A * 2 % 18446744073709551616 : Nat) : Int) := by rw [IntKind.wrap_u64]; omega
theorem nxB_is {A B : Nat} (hA : W64 A) : bits .or .u64 (IntKind.u64.wrap ((B : Int) * 2)) ((A : Int) / 9223372036854775808) = (((B * 2 % 18446744073709551616) ||| (A / 9223372036854775808) : Nat) : Int) := by
  have e2 : (A : Int) / 9223372036854775808 = ((A / 9223372036854775808 : Nat) : Int) := by omega
  have h1 : A / 9223372036854775808 < 18446744073709551616 := by unfold W64 at hA; omega
  rw [nxA_is, e2, bits_or_u64_nat _ _ (by omega) h1]
set_option maxHeartbeats 2000000 in
theorem next_any (A B : Nat) (w : World) (hA : W64 A) (hB : W64 B) :
    Calls Tryz.prog 141 #[colV A B] w fun e w' => e = .returned (colV (A * 2 % 18446744073709551616) ((B * 2 % 18446744073709551616) ||| (A / 9223372036854775808))) ∧ Below w.heap.size w w' := by
  have h1 := nxA_is (A := A)
  have h2 := nxB_is (B := B) hA
  go_enter Tryz.func141, Tryz.ntmps141
  go_wp2_with fail
  refine bodyPost_ret (v := colV (A * 2 % 18446744073709551616) ((B * 2 % 18446744073709551616) ||| (A / 9223372036854775808))) (by simp [*, results, Tryz.results141, go_sem]) rfl ⟨rfl, ?_⟩
  (repeat (first | (with_reducible exact Below.refl _ _) | (with_reducible refine Ext.drewN ?_ _) | (with_reducible refine Below.drew ?_) | (with_reducible refine Ext.alloc ?_ _) | (with_reducible refine Ext.setCell ?_ (by simp; try omega) _) | (with_reducible refine Ext.trans ?_ (by assumption)) | (with_reducible assumption) | exact Below.refl _ _))
set_option maxHeartbeats 2000000 in
theorem count_any (X Y : Int) (w : World) :
    Calls Tryz.prog 142 #[.agg #[.int .u64 X, .int .u64 Y]] w fun e w' => (∃ n : Nat, n ≤ 254 ∧ e = .returned (.int .i64 (n : Int))) ∧ Below w.heap.size w w' := by
  go_enter Tryz.func142, Tryz.ntmps142
  go_upto_region 1 with fail
  go_cut [2] (fun s2 wx => ∃ n : Nat, n ≤ 254 ∧ s2 = .int .i64 (n : Int) ∧ Below w.heap.size w wx)
  case first =>
    go_region_held3 (fun w' => Below (w.alloc (.cells #[.int .u64 X, .int .u64 Y] 84)).heap.size (w.alloc (.cells #[.int .u64 X, .int .u64 Y] 84)) w' ∧ w'.cell? ⟨w.heap.size, 0, none⟩ = some (.int .u64 X) ∧ w'.cell? ⟨w.heap.size, 1, none⟩ = some (.int .u64 Y))
      (first | ((try dsimp only); go_split_ands; (repeat' (with_reducible refine And.intro ?_ ?_)) <;> first | ((repeat (first | (with_reducible refine keepC (by assumption) ?_) | (with_reducible refine keepS ?_ (by simp; try omega) _) | (with_reducible refine cellA ?_ (by simp; try omega) _))); (first | (with_reducible assumption) | (simp [go_sem]; done))) | ((repeat (first | (with_reducible refine keepS ?_ (by simp; try omega) _) | (with_reducible refine cellA ?_ (by simp; try omega) _))); (first | (with_reducible assumption) | (with_reducible exact keepC (by assumption) (by assumption)) | (with_reducible exact keepA (by assumption) _) | (with_reducible exact keepR (by assumption) (by omega) _))) | ((try simp only [World.size_alloc, World.size_setCell, World.size_drew]); omega) | (refine Mats.below hM ?_ hM.size; (repeat (first | (with_reducible exact Below.refl _ _) | (with_reducible refine Ext.drewN ?_ _) | (with_reducible refine Below.drew ?_) | (with_reducible refine Ext.alloc ?_ _) | (with_reducible refine Ext.setCell ?_ (by simp; try omega) _) | (with_reducible refine Ext.trans ?_ (by assumption)) | (with_reducible assumption) | exact Below.refl _ _)); done) | ((repeat (first | (with_reducible exact Below.refl _ _) | (with_reducible refine Ext.drewN ?_ _) | (with_reducible refine Below.drew ?_) | (with_reducible refine Ext.alloc ?_ _) | (with_reducible refine Ext.setCell ?_ (by simp; try omega) _) | (with_reducible refine Ext.trans ?_ (by assumption)) | (with_reducible assumption) | exact Below.refl _ _)); done) | (go_keep; done)))
      (first | (go_at_call_of 176 (Value.int .u64 X); refine (ones_any _ _).mono ?_; rintro e v0 ⟨⟨n0, hn0, rfl⟩, rfl⟩) | (go_at_call_of 176 (Value.int .u64 Y); refine (ones_any _ _).mono ?_; rintro e v1 ⟨⟨n1, hn1, rfl⟩, rfl⟩))
    all_goals
      go_wp2_with fail
      go_meet
      refine ⟨n0 + n1, by omega, by rw [show IntKind.i64.wrap ((n0 : Int) + (n1 : Int)) = ((n0 + n1 : Nat) : Int) by rw [IntKind.wrap_i64]; omega], ?_⟩
      (repeat (first | (with_reducible exact Below.refl _ _) | (with_reducible refine Ext.drewN ?_ _) | (with_reducible refine Below.drew ?_) | (with_reducible refine Ext.alloc ?_ _) | (with_reducible refine Ext.setCell ?_ (by simp; try omega) _) | (with_reducible refine Ext.trans ?_ (by assumption)) | (with_reducible assumption) | exact Below.refl _ _))
  case rest =>
    obtain ⟨n, hn, rfl, hb⟩ := hcut
    go_wp2_with fail
    refine bodyPost_ret (results_tmp rfl _ _ _) rfl ⟨⟨n, hn, rfl⟩, hb⟩

set_option maxHeartbeats 8000000 in
set_option maxRecDepth 100000 in
theorem runs_any (A B : Nat) (w : World) (hA : W64 A) (hB : B < 65536) (hD : DebW w) (f : Nat → Bool) (y : Int) (hf : ∀ c : Nat, c < 80 → colB A B c = hasB f ((c : Int) - 40) y) :
    Calls Tryz.prog 113 #[colV A B] w fun e w' => IntsResC w.heap.size (runsL f y) e w' ∧ Below w.heap.size w w' := by
  obtain ⟨i0, hi, hz0, hz1, hz2⟩ := info_parts infoI
  have hB64 : W64 B := by unfold W64; omega
  have x0 := xA_is hA
  have x1 := xB_is hA hB64
  have k0 := chA_lt hA
  have k1 := chB_lt hA hB64
  obtain ⟨X, hX⟩ : ∃ X, X = chA A := ⟨_, rfl⟩
  obtain ⟨Y, hY⟩ : ∃ Y, Y = chB A B := ⟨_, rfl⟩
  rw [← hX] at x0 k0
  rw [← hY] at x1 k1
  obtain ⟨NA, hNA⟩ : ∃ NA, NA = A * 2 % 18446744073709551616 := ⟨_, rfl⟩
  obtain ⟨NB, hNB⟩ : ∃ NB, NB = (B * 2 % 18446744073709551616) ||| (A / 9223372036854775808) := ⟨_, rfl⟩
  have hnx := fun w => next_any A B w hA hB64
  rw [← hNA, ← hNB] at hnx
  have y0 : bits .xor .u64 (A : Int) (NA : Int) = (X : Int) := by rw [hNA, ← nxA_is]; exact x0
  have y1 : bits .xor .u64 (B : Int) (NB : Int) = (Y : Int) := by rw [hNB, ← nxB_is hA]; exact x1
  clear hNA hNB x0 x1
  have HD := Lib.hid hD
  have HF := Lib.hid hf
  have HA := Lib.hid hA
  have HB := Lib.hid hB
  have HX := Lib.hid hX
  have HY := Lib.hid hY
  clear hD hf hA hB hX hY
  have hmk := make_is
  have hiw0 := ixW0 (X : Int) (Y : Int)
  have hiw1 := ixW1 (X : Int) (Y : Int)
  go_enter Tryz.func113, Tryz.ntmps113
  go_wp2_with (go_at_call 141; refine (hnx _).mono ?_; rintro e w1 ⟨rfl, bw1⟩; have l1 : w.heap.size < w1.heap.size := (by have := bw1.size; simp at this; omega); have c0 : w1.cell? ⟨w.heap.size, 0, none⟩ = some (.int .u64 (A : Int)) := ((bw1.cell (p := ⟨w.heap.size, 0, none⟩) (by simp)).trans (by simp [go_sem])); have c1 : w1.cell? ⟨w.heap.size, 1, none⟩ = some (.int .u64 (B : Int)) := ((bw1.cell (p := ⟨w.heap.size, 1, none⟩) (by simp)).trans (by simp [go_sem])); have B1 : Below w.heap.size w w1 := Ext.trans (Ext.alloc (Below.refl _ _) _) bw1)
  go_wp2_with (go_at_call 142; refine (count_any _ _ _).mono ?_; rintro e w2 ⟨⟨n, hn, rfl⟩, bw2⟩; have l2 : w1.heap.size + 1 < w2.heap.size := (by have := bw2.size; simp at this; omega); have d0 : w2.cell? ⟨w1.heap.size + 1, 0, none⟩ = some (.int .u64 (X : Int)) := ((bw2.cell (p := ⟨w1.heap.size + 1, 0, none⟩) (by simp)).trans (by simp [go_sem])); have d1 : w2.cell? ⟨w1.heap.size + 1, 1, none⟩ = some (.int .u64 (Y : Int)) := ((bw2.cell (p := ⟨w1.heap.size + 1, 1, none⟩) (by simp)).trans (by simp [go_sem])); have B2 : Below w.heap.size w w2 := Ext.trans (Ext.alloc (Ext.alloc B1 _) _) bw2; have hmn := hmk n w2 hn)
  have hown0 := zRow_own w2 w.heap.size n B2.size hn
  have hb0 : Below w.heap.size w (w2.alloc (.cells (zRow n) 2)) := Ext.alloc B2 _
  obtain ⟨w3, hw3⟩ : ∃ w3, w3 = w2.alloc (.cells (zRow n) 2) := ⟨_, rfl⟩
  obtain ⟨h0, hh0⟩ : ∃ h0, h0 = w2.heap.size := ⟨_, rfl⟩
  rw [← hw3, ← hh0] at hown0
  rw [← hw3] at hb0
  simp only [← hw3, ← hh0]
  clear hw3 hh0 hmn d0 d1 l2 bw2 B2 bw1 c0 c1 l1 B1
  go_loopw [5, 25] (fun s5 s25 wr => ∃ (i : Nat) (L : List Int) (h c' : Nat), i ≤ 2 ∧ s25 = .int .i64 (i : Int) ∧ s5 = .slice (some ⟨h, 0, none⟩) L.length c' ∧ wr.ownsRow w.heap.size 2 1 (.slice (some ⟨h, 0, none⟩) L.length c') L.length (L.map (Value.int .i64)) ∧ Below w.heap.size w wr ∧ PartL X Y i L) (fun _ s25 _ => 2 - (intOf s25).toNat)
  case atStart => exact ⟨0, [], h0, n, by omega, rfl, rfl, hown0, hb0, .inl ⟨rfl, rfl⟩⟩
  case round =>
    obtain ⟨i, L, h, c', hi2, rfl, rfl, hown, hb, hp⟩ := hrel
    rcases hp with hp | hp | hp
    · obtain ⟨rfl, rfl⟩ := hp
      simp only [show ((0 : Nat) : Int) = 0 from rfl, show ((1 : Nat) : Int) = 1 from rfl]
      go_wp2_with fail
      go_loopw [5, 7] (fun s5 s7 wr => ∃ (l : List Nat) (x h c' : Nat), s7 = .int .u64 (x : Int) ∧ W64 x ∧ LowOf X l x ∧ s5 = .slice (some ⟨h, 0, none⟩) (mapA l).length c' ∧ wr.ownsRow w.heap.size 2 1 (.slice (some ⟨h, 0, none⟩) (mapA l).length c') (mapA l).length ((mapA l).map (Value.int .i64)) ∧ Below w.heap.size w wr) (fun _ s7 _ => (intOf s7).toNat)
      case atStart => exact ⟨[], X, h, c', rfl, k0, LowOf.start _, by simp [mapA, mapB], by simpa [mapA, mapB] using hown, hb⟩
      case round =>
        obtain ⟨l, x, h1, c1, rfl, hx, hl, rfl, hown1, hb1⟩ := hrel
        have HL := Lib.hid hl
        have hlen := hl.len
        by_cases hx0 : x = 0
        · subst hx0
          have HL2 := HL
          go_wp2_with fail
          go_roundw
          case rel => exact ⟨1, _, h1, c1, by omega, by go_num, rfl, hown1, hb1, .inr (.inl ⟨rfl, l, HL.out, rfl⟩)⟩
          case measure => simp [intOf]
        · have hn0 : ¬ (x : Int) = 0 := by omega
          have hnx := hl.next hx0 hx
          obtain ⟨k1, k2, k3, k4, k5⟩ := drop_low x hx0 hx
          have tz := fun w' (hw : DebW w') => tz_any x w' hx hx0 hw
          obtain ⟨k, hk⟩ : ∃ k, k = Lib.ctz 64 x := ⟨_, rfl⟩
          rw [← hk] at hnx k1 tz
          obtain ⟨x', hx'⟩ : ∃ x', x' = x &&& (x - 1) := ⟨_, rfl⟩
          rw [← hx'] at hnx k5
          have w1 : IntKind.u64.wrap ((x : Int) - 1) = ((x - 1 : Nat) : Int) := by rw [IntKind.wrap_u64]; unfold W64 at hx; omega
          have w2 := bits_and_u64_nat x (x - 1) hx (by unfold W64 at hx; omega)
          rw [← hx'] at w2
          have hx64 : W64 x' := by unfold W64 at hx ⊢; omega
          obtain ⟨xm, hxm⟩ : ∃ xm, xm = x - 1 := ⟨_, rfl⟩
          rw [← hxm] at w1 w2
          have HN := Lib.hid hnx
          clear hnx k2 k3 k4 hk hx' hl hxm
          have HD1 := Lib.hid (HD.out.ext hb1)
          obtain ⟨M, hM⟩ : ∃ M, M = mapA l := ⟨_, rfl⟩
          have hMl : M.length ≤ 128 := by rw [hM]; have e1 : (mapA l).length = l.length := (by simp [mapA]); omega
          rw [← hM] at hown1 ⊢
          have HM := Lib.hid hM
          clear hM
          go_wp2_with (first | (go_at_call 143; refine (tz _ HD1.out).mono ?_; rintro e w1 ⟨rfl, hw1⟩; obtain rfl := hw1.symm) | (at_builtin; refine wpList_append_own _ rfl _ _ 148 rfl w.heap.size 2 i0 (.int .i64 0) 1 8 Tryz.underlying148 hi hz0 hz1 hz2 rfl (by decide) _ _ _ rfl (hown1.alloc _) ⟨wr.heap.size, 0, none⟩ 1 1 [.int .i64 ((k : Int) - 40)] rfl rfl ?c1 ?c2 ?c3 ?c4 ?c5 ?_))
          case c1 =>
            intro j u hj
            match j, hj with
            | 0, hj => simp at hj; subst hj; rw [addG]; simp [go_sem]
          case c2 => intro u hu; simp at hu; subst hu; rfl
          case c3 => unfold maxLen; omega
          case c4 => omega
          case c5 => have := hb1.size; (try simp only [World.size_alloc]); omega
          intro v' wn hown' hgrow _
          have hb2 : Below w.heap.size w wn := (hb1.alloc hb1.size _).grown hgrow (by have := hb1.size; simp; omega) (fun j hj => (hown1.lt j hj).1)
          obtain ⟨h', c2, rfl, hown2⟩ := ints_next rfl hown'
          clear hown' hgrow hown1
          go_wp2_with fail
          go_roundw
          case rel =>
            have hL2 : M ++ [(k : Int) - 40] = mapA (l ++ [k]) := by rw [HM.out]; simp [mapA, mapB]
            rw [hL2] at hown2
            refine ⟨l ++ [k], x', h', c2, rfl, hx64, HN.out, by rw [hL2], hown2, hb2⟩
          case measure => simp [intOf]; omega
    · obtain ⟨rfl, l0, hl0, rfl⟩ := hp
      simp only [show ((0 : Nat) : Int) = 0 from rfl, show ((1 : Nat) : Int) = 1 from rfl]
      have HL0 := Lib.hid hl0
      clear hl0
      go_wp2_with fail
      go_loopw [5, 7] (fun s5 s7 wr => ∃ (l : List Nat) (x h c' : Nat), s7 = .int .u64 (x : Int) ∧ W64 x ∧ LowOf Y l x ∧ s5 = .slice (some ⟨h, 0, none⟩) (mapA l0 ++ mapB l).length c' ∧ wr.ownsRow w.heap.size 2 1 (.slice (some ⟨h, 0, none⟩) (mapA l0 ++ mapB l).length c') (mapA l0 ++ mapB l).length ((mapA l0 ++ mapB l).map (Value.int .i64)) ∧ Below w.heap.size w wr) (fun _ s7 _ => (intOf s7).toNat)
      case atStart => exact ⟨[], Y, h, c', rfl, k1, LowOf.start _, by simp [mapA, mapB], by simpa [mapA, mapB] using hown, hb⟩
      case round =>
        obtain ⟨l, x, h1, c1, rfl, hx, hl, rfl, hown1, hb1⟩ := hrel
        have HL := Lib.hid hl
        have hlen := hl.len
        by_cases hx0 : x = 0
        · subst hx0
          have HL2 := HL
          go_wp2_with fail
          go_roundw
          case rel => exact ⟨2, _, h1, c1, by omega, by go_num, rfl, hown1, hb1, .inr (.inr ⟨rfl, l0, l, HL0.out, HL.out, rfl⟩)⟩
          case measure => simp [intOf]
        · have hn0 : ¬ (x : Int) = 0 := by omega
          have hnx := hl.next hx0 hx
          obtain ⟨k1, k2, k3, k4, k5⟩ := drop_low x hx0 hx
          have tz := fun w' (hw : DebW w') => tz_any x w' hx hx0 hw
          obtain ⟨k, hk⟩ : ∃ k, k = Lib.ctz 64 x := ⟨_, rfl⟩
          rw [← hk] at hnx k1 tz
          obtain ⟨x', hx'⟩ : ∃ x', x' = x &&& (x - 1) := ⟨_, rfl⟩
          rw [← hx'] at hnx k5
          have w1 : IntKind.u64.wrap ((x : Int) - 1) = ((x - 1 : Nat) : Int) := by rw [IntKind.wrap_u64]; unfold W64 at hx; omega
          have w2 := bits_and_u64_nat x (x - 1) hx (by unfold W64 at hx; omega)
          rw [← hx'] at w2
          have hx64 : W64 x' := by unfold W64 at hx ⊢; omega
          obtain ⟨xm, hxm⟩ : ∃ xm, xm = x - 1 := ⟨_, rfl⟩
          rw [← hxm] at w1 w2
          have HN := Lib.hid hnx
          clear hnx k2 k3 k4 hk hx' hl hxm
          have HD1 := Lib.hid (HD.out.ext hb1)
          obtain ⟨M, hM⟩ : ∃ M, M = mapA l0 ++ mapB l := ⟨_, rfl⟩
          have hMl : M.length ≤ 128 := by rw [hM]; have e1 : (mapA l0 ++ mapB l).length = l0.length + l.length := (by simp [mapA, mapB]); have e2 := HL0.out.len; omega
          rw [← hM] at hown1 ⊢
          have HM := Lib.hid hM
          clear hM
          go_wp2_with (first | (go_at_call 143; refine (tz _ HD1.out).mono ?_; rintro e w1 ⟨rfl, hw1⟩; obtain rfl := hw1.symm) | (at_builtin; refine wpList_append_own _ rfl _ _ 148 rfl w.heap.size 2 i0 (.int .i64 0) 1 8 Tryz.underlying148 hi hz0 hz1 hz2 rfl (by decide) _ _ _ rfl (hown1.alloc _) ⟨wr.heap.size, 0, none⟩ 1 1 [.int .i64 (64 + (k : Int) - 40)] rfl rfl ?c1 ?c2 ?c3 ?c4 ?c5 ?_))
          case c1 =>
            intro j u hj
            match j, hj with
            | 0, hj => simp at hj; subst hj; rw [addG]; simp [go_sem]
          case c2 => intro u hu; simp at hu; subst hu; rfl
          case c3 => unfold maxLen; omega
          case c4 => omega
          case c5 => have := hb1.size; (try simp only [World.size_alloc]); omega
          intro v' wn hown' hgrow _
          have hb2 : Below w.heap.size w wn := (hb1.alloc hb1.size _).grown hgrow (by have := hb1.size; simp; omega) (fun j hj => (hown1.lt j hj).1)
          obtain ⟨h', c2, rfl, hown2⟩ := ints_next rfl hown'
          clear hown' hgrow hown1
          go_wp2_with fail
          go_roundw
          case rel =>
            have hL2 : M ++ [64 + (k : Int) - 40] = mapA l0 ++ mapB (l ++ [k]) := by rw [HM.out]; simp [mapA, mapB]
            rw [hL2] at hown2
            refine ⟨l ++ [k], x', h', c2, rfl, hx64, HN.out, by rw [hL2], hown2, hb2⟩
          case measure => simp [intOf]; omega
    · obtain ⟨rfl, l0, l1, hl0, hl1, rfl⟩ := hp
      have HL0 := Lib.hid hl0
      have HL1 := Lib.hid hl1
      clear hl0 hl1
      go_wp2_with fail
      refine bodyPost_ret (results_tmp rfl _ _ _) rfl ?_
      have hr := runs_of_bits HA.out HB.out HF.out (HX.out ▸ HL0.out) (HY.out ▸ HL1.out)
      have hm : mapA l0 ++ mapB l1 = runsL f y := by
        rw [hr]
        unfold mapA mapB
        congr 1
        exact List.map_congr_left fun c _ => by omega
      have hown0 := hown
      rw [hm] at hown
      have hcap : (mapA l0 ++ mapB l1).length ≤ c' := by
        rcases hown0.2 with ⟨e0, _⟩ | ⟨g0, cap0, cur0, e0, _, _, e1, _⟩
        · cases e0
        · cases e0; exact e1
      exact ⟨⟨h, c', by rw [← hm]; rfl, ints_own hown, by rw [← hm]; exact hcap⟩, hb⟩
end Go.Proofs.YtfbalpkjcfdakaaGreatDoor

namespace Go.Proofs.YtfbalpkjcfdakaaGreatDoor
open Go.RowKit
set_option linter.unusedVariables false
set_option linter.unusedSimpArgs false
attribute [local go_sem ↓] Go.wp_at_zero Go.wp_at_succ

/-- The words of a set of unit cells, two a row. -/
def wArr (G : Nat → Nat) : Array Value := (Array.range 160).map fun j => Value.int .u64 (G j : Int)
theorem wArr_size (G : Nat → Nat) : (wArr G).size = 160 := by simp [wArr]
theorem wArr_get (G : Nat → Nat) {j : Nat} (h : j < 160) : (wArr G)[j]? = some (.int .u64 (G j : Int)) := by simp [wArr, h]
theorem wArr_congr {G H : Nat → Nat} (h : ∀ j, j < 160 → G j = H j) : wArr G = wArr H := by
  apply Array.ext_getElem?
  intro i
  by_cases hi : i < 160
  · rw [wArr_get G hi, wArr_get H hi, h i hi]
  · rw [Array.getElem?_eq_none (by rw [wArr_size]; omega), Array.getElem?_eq_none (by rw [wArr_size]; omega)]
def upd (G : Nat → Nat) (j v : Nat) : Nat → Nat := fun k => if k = j then v else G k
theorem wArr_set (G : Nat → Nat) (j v : Nat) (hj : j < 160) : (wArr G).setIfInBounds j (.int .u64 (v : Int)) = wArr (upd G j v) := by
  apply Array.ext_getElem?
  intro i
  rw [Array.getElem?_setIfInBounds]
  by_cases h : j = i
  · subst h
    rw [if_pos rfl, if_pos (by rw [wArr_size]; exact hj), wArr_get _ hj]
    simp [upd]
  · rw [if_neg h]
    by_cases hi : i < 160
    · rw [wArr_get _ hi, wArr_get _ hi]
      simp [upd, Ne.symm h]
    · rw [Array.getElem?_eq_none (by rw [wArr_size]; omega), Array.getElem?_eq_none (by rw [wArr_size]; omega)]

/-- They lie in block b. -/
def RowsAt (W : World) (b : Nat) (G : Nat → Nat) : Prop := W.heap[b]? = some (.cells (wArr G) 86 (0, 0))
theorem RowsAt.lt {W : World} {b : Nat} {G : Nat → Nat} (h : RowsAt W b G) : b < W.heap.size := (Array.getElem?_eq_some_iff.1 h).1
theorem RowsAt.cell {W : World} {b : Nat} {G : Nat → Nat} (h : RowsAt W b G) {j : Nat} (hj : j < 160) : W.cell? ⟨b, j, none⟩ = some (.int .u64 (G j : Int)) :=
  (cell_of_row W b j _ _ _ h).trans (wArr_get G hj)
theorem RowsAt.frozen {W : World} {b : Nat} {G : Nat → Nat} (h : RowsAt W b G) (j : Nat) : W.frozen? ⟨b, j, none⟩ = false := by
  have h' : W.heap[b]? = some (.cells (wArr G) 86 (0, 0)) := h
  simp [World.frozen?, h']
theorem RowsAt.set {W : World} {b : Nat} {G : Nat → Nat} (h : RowsAt W b G) {j : Nat} (hj : j < 160) (v : Nat) : RowsAt (W.setCell ⟨b, j, none⟩ (.int .u64 (v : Int))) b (upd G j v) := by
  have h' : W.heap[b]? = some (.cells (wArr G) 86 (0, 0)) := h
  unfold RowsAt
  simp only [World.setCell, Array.getElem?_modify, if_true, h', Option.map_some]
  simp [wArr_set G j v hj]
theorem RowsAt.below {W W' : World} {b : Nat} {G : Nat → Nat} (h : RowsAt W b G) {n : Nat} (hb : Below n W W') (hn : b < n) : RowsAt W' b G := (hb.block b hn).trans h
theorem RowsAt.ext {W W' : World} {b : Nat} {G : Nat → Nat} (h : RowsAt W b G) (hb : Below W.heap.size W W') : RowsAt W' b G := h.below hb h.lt
theorem RowsAt.kept {W W' : World} {X : Nat → Prop} {b : Nat} {G : Nat → Nat} (h : RowsAt W b G) (hb : Kept X W W') (hX : ¬ X b) : RowsAt W' b G := (hb.block b h.lt hX).trans h
theorem RowsAt.new (W : World) (G : Nat → Nat) : RowsAt (W.alloc (.cells (wArr G) 86)) W.heap.size G := heap_alloc_last W _
theorem RowsAt.congr {W : World} {b : Nat} {G H : Nat → Nat} (h : RowsAt W b G) (e : ∀ j, j < 160 → G j = H j) : RowsAt W b H := by
  unfold RowsAt at *
  rw [← wArr_congr e]; exact h

/-- The set with the columns A, B joined to its row i. -/
def addR (G : Nat → Nat) (i A B : Nat) : Nat → Nat := upd (upd G (i * 2) (G (i * 2) ||| A)) (i * 2 + 1) (G (i * 2 + 1) ||| B)

set_option maxHeartbeats 4000000 in
theorem add_any (b : Nat) (G : Nat → Nat) (y : Int) (A B : Nat) (W : World) (h1 : -40 ≤ y) (h2 : y ≤ 39) (hA : W64 A) (hB : W64 B) (hG : ∀ j, W64 (G j)) (hW : RowsAt W b G) :
    Calls Tryz.prog 181 #[.pointer (some ⟨b, 0, none⟩), .int .i64 y, colV A B] W fun e w' => e = .returned (.tuple #[]) ∧ RowsAt w' b (addR G (y + 40).toNat A B) ∧ Kept (fun k => k = b) W w' := by
  obtain ⟨i, hyi⟩ : ∃ i : Nat, y + 40 = (i : Int) := ⟨(y + 40).toNat, by omega⟩
  have hit : (y + 40).toNat = i := by omega
  rw [hit]
  have hj : i < 80 := by omega
  have c0 := hW.cell (j := i * 2) (by omega)
  have c1 := hW.cell (j := i * 2 + 1) (by omega)
  have f0 := hW.frozen (i * 2)
  have f1 := hW.frozen (i * 2 + 1)
  have g0 := hG (i * 2)
  have g1 := hG (i * 2 + 1)
  have q0 : (0 : Int) ≤ (i : Int) := by omega
  have q1 : (i : Int) < 80 := by omega
  clear hit
  have hwr : IntKind.i64.wrap (i : Int) = (i : Int) := by rw [IntKind.wrap_i64]; omega
  have hb := hW.lt
  have hne : b ≠ W.heap.size := by omega
  have HW := Lib.hid hW
  clear hW
  go_enter Tryz.func181, Tryz.ntmps181
  go_wp2_with fail
  go_region_with (first | (go_at_call 177; refine (with_any _ _ _ _ _ g0 g1 hA hB).mono ?_; rintro e v0 ⟨rfl, bv0⟩; obtain ⟨sv0, zv0, cv0, fv0⟩ := bcell bv0; (try simp only [World.size_alloc, World.size_setCell, World.size_drew] at sv0); (try have nv0_w_0 : W.heap.size < v0.heap.size := by omega); (try have nv0_b : b < v0.heap.size := by omega); (try have nv0_b2 : b < W.heap.size + 1 := by omega)))
  all_goals
    go_wp2_with fail
    go_end0
    have hb0 : Below W.heap.size W v0 := by (repeat (first | (with_reducible exact Below.refl _ _) | (with_reducible refine Ext.drewN ?_ _) | (with_reducible refine Below.drew ?_) | (with_reducible refine Ext.alloc ?_ _) | (with_reducible refine Ext.setCell ?_ (by simp; try omega) _) | (with_reducible refine Ext.trans ?_ (by assumption)) | (with_reducible assumption) | exact Below.refl _ _))
    have hR := HW.out.ext hb0
    exact ⟨rfl, (hR.set (j := i * 2) (by omega) _).set (j := i * 2 + 1) (by omega) _, ((Kept.of_below hb0).setCell (X := fun k => k = b) (p := ⟨b, i * 2, none⟩) rfl _).setCell (p := ⟨b, i * 2 + 1, none⟩) rfl _⟩

set_option maxHeartbeats 4000000 in
/-- The rectangles at the beginning that cover the same rows as the first one. -/
def bandN (Q S : Nat → Int) (len : Nat) : Nat → Nat → Nat
  | 0, k => k
  | n + 1, k => if k < len ∧ Q k = Q 0 ∧ S k = S 0 then bandN Q S len n (k + 1) else k
theorem bandN_stop (Q S : Nat → Int) (len : Nat) {n k : Nat} (h : ¬ (k < len ∧ Q k = Q 0 ∧ S k = S 0)) : bandN Q S len n k = k := by
  cases n with
  | zero => rfl
  | succ n => rw [bandN, if_neg h]
theorem bandN_step (Q S : Nat → Int) (len : Nat) {n k : Nat} (hn : len - k ≤ n) (h : k < len ∧ Q k = Q 0 ∧ S k = S 0) : ∃ m, len - (k + 1) ≤ m ∧ bandN Q S len n k = bandN Q S len m (k + 1) := by
  cases n with
  | zero => omega
  | succ n => exact ⟨n, by omega, by rw [bandN, if_pos h]⟩
theorem bandN_spec (Q S : Nat → Int) (len : Nat) : ∀ n k, k ≤ len → k ≤ bandN Q S len n k ∧ bandN Q S len n k ≤ len ∧ ∀ i, k ≤ i → i < bandN Q S len n k → Q i = Q 0 ∧ S i = S 0
  | 0, k, hk => ⟨Nat.le_refl _, hk, fun i h1 h2 => by unfold bandN at h2; omega⟩
  | n + 1, k, hk => by
    rw [bandN]
    by_cases h : k < len ∧ Q k = Q 0 ∧ S k = S 0
    · rw [if_pos h]
      obtain ⟨h1, h2, h3⟩ := bandN_spec Q S len n (k + 1) h.1
      refine ⟨by omega, h2, fun i i1 i2 => ?_⟩
      by_cases e : i = k
      · rw [e]; exact h.2
      · exact h3 i (by omega) i2
    · rw [if_neg h]
      exact ⟨Nat.le_refl _, hk, fun i i1 i2 => by omega⟩

set_option maxHeartbeats 4000000 in
theorem firstBand_any (b o len cap : Nat) (P Q R S : Nat → Int) (w : World) (hlen : len ≤ 1048576) (h0 : 0 < len) (hcap : len ≤ cap) (hR : RectsIs w.heap.size w (some ⟨b, o, none⟩) len P Q R S) :
    Calls Tryz.prog 165 #[.slice (some ⟨b, o, none⟩) len cap] w fun e w' => e = .returned (.slice (some ⟨b, o, none⟩) (bandN Q S len len 1) cap) ∧ Below w.heap.size w w' := by
  obtain ⟨b0, o0, hbo, hb0, t0, t1, t2, t3⟩ := hR 0 h0
  obtain ⟨rfl, rfl⟩ : b = b0 ∧ o = o0 := by simpa using hbo
  simp only [Nat.zero_mul, Nat.add_zero] at t0 t1 t2 t3
  have HR := Lib.hid hR
  obtain ⟨N, hN⟩ : ∃ N, N = bandN Q S len len 1 := ⟨_, rfl⟩
  rw [← hN]
  have HN := Lib.hid hN
  clear hR hN hbo
  go_enter Tryz.func165, Tryz.ntmps165
  go_wp2_with fail
  go_loopw [3] (fun s3 wr => ∃ k n : Nat, 1 ≤ k ∧ k ≤ len ∧ s3 = .int .i64 (k : Int) ∧ len - k ≤ n ∧ N = bandN Q S len n k ∧ Below w.heap.size w wr) (fun s3 _ => len - (intOf s3).toNat)
  case atStart => exact ⟨1, len, by omega, by omega, rfl, by omega, HN.out, by (repeat (first | (with_reducible exact Below.refl _ _) | (with_reducible refine Ext.drewN ?_ _) | (with_reducible refine Below.drew ?_) | (with_reducible refine Ext.alloc ?_ _) | (with_reducible refine Ext.setCell ?_ (by simp; try omega) _) | (with_reducible refine Ext.trans ?_ (by assumption)) | (with_reducible assumption) | exact Below.refl _ _))⟩
  case round =>
    obtain ⟨k, n, hk1, hk, rfl, hn, hNk, hb⟩ := hrel
    have HNk := Lib.hid hNk
    clear hNk
    obtain ⟨b1, o1, hbo, -, u0, u1, u2, u3⟩ := HR.out.below hb 0 h0
    obtain ⟨rfl, rfl⟩ : b = b1 ∧ o = o1 := by simpa using hbo
    simp only [Nat.zero_mul, Nat.add_zero] at u0 u1 u2 u3
    have p0 : (0 : Int) ≤ (k : Int) := by omega
    have p1 : (0 : Int) < (len : Int) := by omega
    have hNE : ¬ (k < len ∧ Q k = Q 0 ∧ S k = S 0) → N = k := fun h => by rw [HNk.out, bandN_stop Q S len h]
    have hNS := fun h => bandN_step Q S len (k := k) hn h
    have HNE := Lib.hid hNE
    have HNS := Lib.hid hNS
    clear hNE hNS
    by_cases hlt : k < len
    · have q1 : (k : Int) < (len : Int) := by omega
      obtain ⟨b1, o1, hbo, -, c0, c1, c2, c3⟩ := HR.out.below hb k hlt
      obtain ⟨rfl, rfl⟩ : b = b1 ∧ o = o1 := by simpa using hbo
      clear hbo
      by_cases e1 : Q k = Q 0
      · rw [e1] at c1
        by_cases e2 : S k = S 0
        · rw [e2] at c3
          have E := Lib.hid (And.intro e1 e2)
          clear e1 e2
          go_wp2_with fail
          go_region
          all_goals go_wp2_with fail
          go_roundw
          case rel =>
            obtain ⟨m, m1, m2⟩ := HNS.out ⟨hlt, E.out.1, E.out.2⟩
            exact ⟨k + 1, m, by omega, by omega, by go_num, m1, by rw [HNk.out, m2], hb.drew⟩
          case measure => simp [intOf]; omega
        · have e3 : (S k == S 0) = false := by simp [e2]
          obtain rfl := HNE.out (fun h => e2 h.2.2)
          have p2 : (N : Int) ≤ (cap : Int) := by omega
          go_wp2_with fail
          go_region
          all_goals go_wp2_with fail
          go_ret
          exact ⟨rfl, hb.drew⟩
      · have e3 : (Q k == Q 0) = false := by simp [e1]
        obtain rfl := HNE.out (fun h => e1 h.2.1)
        have p2 : (N : Int) ≤ (cap : Int) := by omega
        go_wp2_with fail
        go_region
        all_goals go_wp2_with fail
        go_ret
        exact ⟨rfl, hb.drew⟩
    · have q1 : ¬ (k : Int) < (len : Int) := by omega
      obtain rfl := HNE.out (fun h => hlt h.1)
      have p2 : (N : Int) ≤ (cap : Int) := by omega
      go_wp2_with fail
      go_region
      all_goals go_wp2_with fail
      go_ret
      exact ⟨rfl, hb.drew⟩
end Go.Proofs.YtfbalpkjcfdakaaGreatDoor
