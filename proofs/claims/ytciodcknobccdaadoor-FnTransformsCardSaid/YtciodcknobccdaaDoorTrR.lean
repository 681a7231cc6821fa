/- A drawn transform. Conditions as in TrQ. -/
import Derived.Test.YtciodcknobccdaaDoorTrQ
namespace Go.Proofs.YtciodcknobccdaaDoor
open Go.RowKit
set_option linter.unusedVariables false
set_option linter.unusedSimpArgs false

theorem Only.trans {g : Nat} {a b c : World} (h : Only g a b) (k : Only g b c) : Only g a c :=
  ⟨k.os.trans h.os, k.tape.trans h.tape, k.output.trans h.output, Nat.le_trans h.size k.size, fun i hi hne => (k.block i (Nat.lt_of_lt_of_le hi h.size) hne).trans (h.block i hi hne)⟩
theorem Only.alloc {g : Nat} {a w : World} (h : Only g a w) (o : Obj) : Only g a (w.alloc o) := h.trans (World.grownBy_alloc w o _)
theorem Only.setNew {g b i : Nat} {a w : World} (h : Only g a w) (hb : a.heap.size ≤ b) (v : Value) : Only g a (w.setCell ⟨b, i, none⟩ v) :=
  ⟨h.os, h.tape, h.output, by simpa using h.size, fun k hk hne => by rw [Below.heap_setCell _ _ _ _ (by intro e; simp at e; omega)]; exact h.block k hk hne⟩
theorem Only.frz {g b o : Nat} {w w' : World} (h : Only g w w') (hf : w.frozen? ⟨b, o, none⟩ = false) (hlt : b < w.heap.size) (hne : b ≠ g) : w'.frozen? ⟨b, o, none⟩ = false :=
  (World.frozen?_of_block (h.block b hlt (by simpa using hne))).trans hf
theorem CodeIs.only {B g : Nat} {w w' : World} {a : Option Addr} {len : Nat} (h : CodeIs B w a len) (k : Only g w w') (hB : B ≤ w.heap.size) (hg : B ≤ g) : CodeIs B w' a len :=
  h.below (Only.below (Below.refl _ _) k hB hg)
theorem CodeIs.alloc {B : Nat} {w : World} {a : Option Addr} {len : Nat} (h : CodeIs B w a len) (hB : B ≤ w.heap.size) (o : Obj) : CodeIs B (w.alloc o) a len := h.below ((Below.refl _ _).alloc hB o)
theorem SrcIs.alloc {g : Nat} {w : World} {a : Option Addr} {len cap : Nat} (h : SrcIs g w a len cap) (o : Obj) : SrcIs g (w.alloc o) a len cap := by
  obtain ⟨k, s, h1, h2, h3, c0, c1, c2, f1, f2⟩ := h
  have hg : g < w.heap.size := World.block_lt_of_cell? w ⟨g, 0, none⟩ c0
  exact ⟨k, s, h1, h2, h3, keepA c0 o, keepA c1 o, keepA c2 o, by rw [World.frozen?_alloc_old _ _ _ (by simp; omega)]; exact f1, by rw [World.frozen?_alloc_old _ _ _ (by simp; omega)]; exact f2⟩
theorem SrcIs.set {g b i : Nat} {w : World} {a : Option Addr} {len cap : Nat} (h : SrcIs g w a len cap) (hne : b ≠ g) (v : Value) : SrcIs g (w.setCell ⟨b, i, none⟩ v) a len cap := by
  obtain ⟨k, s, h1, h2, h3, c0, c1, c2, f1, f2⟩ := h
  exact ⟨k, s, h1, h2, h3, keepS c0 hne v, keepS c1 hne v, keepS c2 hne v, by simpa using f1, by simpa using f2⟩
theorem SrcIs.drew {g : Nat} {w : World} {a : Option Addr} {len cap : Nat} (h : SrcIs g w a len cap) : SrcIs g w.drew a len cap := h
theorem CodeIs.drew {B : Nat} {w : World} {a : Option Addr} {len : Nat} (h : CodeIs B w a len) : CodeIs B w.drew a len := h
theorem SrcIs.lt {g : Nat} {w : World} {a : Option Addr} {len cap : Nat} (h : SrcIs g w a len cap) : g < w.heap.size := by
  obtain ⟨k, s, h1, h2, h3, c0, c1, c2, f1, f2⟩ := h
  exact World.block_lt_of_cell? w ⟨g, 0, none⟩ c0

/-- What a drawn transform is. -/
def DrawnT (g : Nat) (w : World) (a : Option Addr) (len cap : Nat) (e : Ending) (w' : World) : Prop :=
  ∃ o x y : Int, (0 ≤ o ∧ o ≤ 7) ∧ (-100 ≤ x ∧ x ≤ 100) ∧ (-100 ≤ y ∧ y ≤ 100) ∧ e = .returned (.agg #[.int .i64 o, .int .i64 x, .int .i64 y]) ∧ Only g w w' ∧ SrcIs g w' a len cap

set_option maxHeartbeats 4000000 in
theorem drawT_any (B g : Nat) (a : Option Addr) (len cap : Nat) (w : World) (hlen : len ≤ 8192) (hB : B ≤ w.heap.size) (hg : B ≤ g) (hC : CodeIs B w a len) (hS : SrcIs g w a len cap) :
    Calls Tryd.prog 51 #[.pointer (some ⟨g, 0, none⟩)] w (DrawnT g w a len cap) := by
  have hgl := hS.lt
  go_enter Tryd.func51, Tryd.ntmps51
  go_wp2_with fail
  refine (l01Next_any B g a len cap 8 _ hlen (by omega) (by omega) (hC.alloc hB _) (hS.alloc _)).mono ?_
  rintro e w1 ⟨r1, p1, p1', rfl, on1, hS1⟩
  have s1 := on1.size
  simp only [World.size_alloc] at s1
  have hC1 := (hC.alloc hB (.cells #[.int .i64 0, .int .i64 0, .int .i64 0] 33)).only on1 (by simp; omega) hg
  have z0 : w1.cell? ⟨w.heap.size, 0, none⟩ = some (.int .i64 0) := on1.cell (by simp) (by omega)
  have z1 : w1.cell? ⟨w.heap.size, 1, none⟩ = some (.int .i64 0) := on1.cell (by simp) (by omega)
  have z2 : w1.cell? ⟨w.heap.size, 2, none⟩ = some (.int .i64 0) := on1.cell (by simp) (by omega)
  have f0 : w1.frozen? ⟨w.heap.size, 0, none⟩ = false := on1.frz (by simp) (by simp) (by omega)
  have f1 : w1.frozen? ⟨w.heap.size, 1, none⟩ = false := on1.frz (by simp) (by simp) (by omega)
  have f2 : w1.frozen? ⟨w.heap.size, 2, none⟩ = false := on1.frz (by simp) (by simp) (by omega)
  have O1 : Only g w w1 := ((Only.refl g w).alloc _).trans on1
  clear on1
  go_wp2_with fail
  refine (l01Next_any B g a len cap 25 _ hlen (by omega) (by omega) hC1 hS1).mono ?_
  rintro e w2 ⟨r2, p2, p2', rfl, on2, hS2⟩
  have s2 := on2.size
  have hC2 := hC1.only on2 (by omega) hg
  have z0 := on2.cell z0 (by omega)
  have z1 := on2.cell z1 (by omega)
  have z2 := on2.cell z2 (by omega)
  have f0 := on2.frz f0 (by omega) (by omega)
  have f1 := on2.frz f1 (by omega) (by omega)
  have f2 := on2.frz f2 (by omega) (by omega)
  have O2 := O1.trans on2
  clear on2
  go_wp2_with fail
  refine (l01Next_any B g a len cap 25 _ hlen (by omega) (by omega) hC2 hS2).mono ?_
  rintro e w3 ⟨r3, p3, p3', rfl, on3, hS3⟩
  have s3 := on3.size
  have hC3 := hC2.only on3 (by omega) hg
  have z0 := on3.cell z0 (by omega)
  have z1 := on3.cell z1 (by omega)
  have z2 := on3.cell z2 (by omega)
  have f0 := on3.frz f0 (by omega) (by omega)
  have f1 := on3.frz f1 (by omega) (by omega)
  have f2 := on3.frz f2 (by omega) (by omega)
  have O3 := O2.trans on3
  clear on3
  go_wp2_with fail
  refine (l01Next_any B g a len cap 12 _ hlen (by omega) (by omega) (hC3.alloc (by omega) _) (hS3.alloc _)).mono ?_
  rintro e w4 ⟨r4, p4, p4', rfl, on4, hS4⟩
  have s4 := on4.size
  simp only [World.size_alloc] at s4
  have g3 := hS3.lt
  have hC4 := (hC3.alloc (by omega) (.cells #[.int .i64 r1, .int .i64 (r2 - 12), .int .i64 (r3 - 12)] 33)).only on4 (by simp; omega) hg
  have z0 : w4.cell? ⟨w.heap.size, 0, none⟩ = some (.int .i64 0) := on4.cell (keepA z0 _) (by omega)
  have z1 : w4.cell? ⟨w.heap.size, 1, none⟩ = some (.int .i64 0) := on4.cell (keepA z1 _) (by omega)
  have z2 : w4.cell? ⟨w.heap.size, 2, none⟩ = some (.int .i64 0) := on4.cell (keepA z2 _) (by omega)
  have f0 : w4.frozen? ⟨w.heap.size, 0, none⟩ = false := on4.frz (by rw [World.frozen?_alloc_old _ _ _ (by simp; omega)]; exact f0) (by simp; omega) (by omega)
  have f1 : w4.frozen? ⟨w.heap.size, 1, none⟩ = false := on4.frz (by rw [World.frozen?_alloc_old _ _ _ (by simp; omega)]; exact f1) (by simp; omega) (by omega)
  have f2 : w4.frozen? ⟨w.heap.size, 2, none⟩ = false := on4.frz (by rw [World.frozen?_alloc_old _ _ _ (by simp; omega)]; exact f2) (by simp; omega) (by omega)
  have t0 : w4.cell? ⟨w3.heap.size, 0, none⟩ = some (.int .i64 r1) := on4.cell (by simp) (by omega)
  have t1 : w4.cell? ⟨w3.heap.size, 1, none⟩ = some (.int .i64 (r2 - 12)) := on4.cell (by simp) (by omega)
  have t2 : w4.cell? ⟨w3.heap.size, 2, none⟩ = some (.int .i64 (r3 - 12)) := on4.cell (by simp) (by omega)
  have e1 : w4.frozen? ⟨w3.heap.size, 1, none⟩ = false := on4.frz (by simp) (by simp) (by omega)
  have O4 := (O3.alloc (.cells #[.int .i64 r1, .int .i64 (r2 - 12), .int .i64 (r3 - 12)] 33)).trans on4
  clear on4
  by_cases h0 : r4 = 0
  · subst h0
    go_wp2_with fail
    refine (l01Next_any B g a len cap 163 _ hlen (by omega) (by omega) hC4 hS4).mono ?_
    rintro e w5 ⟨r5, p5, p5', rfl, on5, hS5⟩
    have s5 := on5.size
    have z0 := on5.cell z0 (by omega)
    have z1 := on5.cell z1 (by omega)
    have z2 := on5.cell z2 (by omega)
    have f0 := on5.frz f0 (by omega) (by omega)
    have f1 := on5.frz f1 (by omega) (by omega)
    have f2 := on5.frz f2 (by omega) (by omega)
    have t0 := on5.cell t0 (by omega)
    have t1 := on5.cell t1 (by omega)
    have t2 := on5.cell t2 (by omega)
    have e1 := on5.frz e1 (by omega) (by omega)
    have hne : w.heap.size ≠ w3.heap.size := by omega
    have hne' : w3.heap.size ≠ w.heap.size := by omega
    have O5 := O4.trans on5
    clear on5
    go_wp2_with fail
    refine bodyPost_ret (v := .agg #[.int .i64 r1, .int .i64 (r5 - 80 - 1), .int .i64 (r3 - 12)]) (by simp [*, results, Tryd.results51, go_sem]) rfl ⟨r1, r5 - 80 - 1, r3 - 12, by omega, by omega, by omega, rfl, ?_, ?_⟩
    · exact (((O5.setNew (by omega) _).setNew (by omega) _).setNew (by omega) _).setNew (by omega) _
    · exact (((hS5.set (by omega) _).set (by omega) _).set (by omega) _).set (by omega) _
  · have hb4 : (r4 == 0) = false := by simpa using h0
    have hne : w.heap.size ≠ w3.heap.size := by omega
    have hne' : w3.heap.size ≠ w.heap.size := by omega
    go_wp2_with fail
    refine bodyPost_ret (v := .agg #[.int .i64 r1, .int .i64 (r2 - 12), .int .i64 (r3 - 12)]) (by simp [*, results, Tryd.results51, go_sem]) rfl ⟨r1, r2 - 12, r3 - 12, by omega, by omega, by omega, rfl, ?_, ?_⟩
    · exact ((O4.setNew (by omega) _).setNew (by omega) _).setNew (by omega) _
    · exact ((hS4.set (by omega) _).set (by omega) _).set (by omega) _

/-- Two drawn transforms. -/
def DrawnTT (w : World) (e : Ending) (w' : World) : Prop :=
  ∃ o x y p q r : Int, ((0 ≤ o ∧ o ≤ 7) ∧ (-100 ≤ x ∧ x ≤ 100) ∧ (-100 ≤ y ∧ y ≤ 100)) ∧ ((0 ≤ p ∧ p ≤ 7) ∧ (-100 ≤ q ∧ q ≤ 100) ∧ (-100 ≤ r ∧ r ≤ 100)) ∧ e = .returned (.tuple #[.agg #[.int .i64 o, .int .i64 x, .int .i64 y], .agg #[.int .i64 p, .int .i64 q, .int .i64 r]]) ∧ Below w.heap.size w w'

set_option maxHeartbeats 4000000 in
theorem drawCT_any (a : Option Addr) (len cap : Nat) (w : World) (hlen : len ≤ 8192) (hC : CodeIs w.heap.size w a len) :
    Calls Tryd.prog 16 #[.slice a len cap] w (DrawnTT w) := by
  go_enter Tryd.func16, Tryd.ntmps16
  go_wp2_with fail
  refine (l01From_any w.heap.size a len cap _ hlen (by simp) ((hC.alloc (Nat.le_refl _) _).alloc (by simp) _)).mono ?_
  rintro e w1 ⟨g, hg0, hg1, rfl, bw1, hS1⟩
  simp only [World.size_alloc] at hg0
  have hC1 : CodeIs w.heap.size w1 a len := hC.below ((((Below.refl _ _).alloc (Nat.le_refl _) _).alloc (by simp) _).trans (bw1.mono (by simp)))
  have s1 := bw1.size
  simp only [World.size_alloc] at s1
  have z0 : w1.cell? ⟨w.heap.size, 0, none⟩ = some (.int .i64 0) := keepC bw1 (by simp)
  have z1 : w1.cell? ⟨w.heap.size, 1, none⟩ = some (.int .i64 0) := keepC bw1 (by simp)
  have z2 : w1.cell? ⟨w.heap.size, 2, none⟩ = some (.int .i64 0) := keepC bw1 (by simp)
  have y0 : w1.cell? ⟨w.heap.size + 1, 0, none⟩ = some (.int .i64 0) := keepC bw1 (by simp [go_sem])
  have y1 : w1.cell? ⟨w.heap.size + 1, 1, none⟩ = some (.int .i64 0) := keepC bw1 (by simp [go_sem])
  have y2 : w1.cell? ⟨w.heap.size + 1, 2, none⟩ = some (.int .i64 0) := keepC bw1 (by simp [go_sem])
  have f0 : w1.frozen? ⟨w.heap.size, 0, none⟩ = false := by rw [bw1.frozen (by simp <;> omega)]; simp [go_sem]
  have f1 : w1.frozen? ⟨w.heap.size, 1, none⟩ = false := by rw [bw1.frozen (by simp <;> omega)]; simp [go_sem]
  have f2 : w1.frozen? ⟨w.heap.size, 2, none⟩ = false := by rw [bw1.frozen (by simp <;> omega)]; simp [go_sem]
  have e0 : w1.frozen? ⟨w.heap.size + 1, 0, none⟩ = false := by rw [bw1.frozen (by simp <;> omega)]; simp [go_sem]
  have e1 : w1.frozen? ⟨w.heap.size + 1, 1, none⟩ = false := by rw [bw1.frozen (by simp <;> omega)]; simp [go_sem]
  have e2 : w1.frozen? ⟨w.heap.size + 1, 2, none⟩ = false := by rw [bw1.frozen (by simp <;> omega)]; simp [go_sem]
  have B1 : Below w.heap.size w w1 := by (repeat (first | (with_reducible exact Below.refl _ _) | (with_reducible refine Ext.drewN ?_ _) | (with_reducible refine Below.drew ?_) | (with_reducible refine Ext.alloc ?_ _) | (with_reducible refine Ext.setCell ?_ (by simp; try omega) _) | (with_reducible refine Ext.trans ?_ (by assumption)) | (with_reducible assumption) | exact Below.refl _ _))
  clear bw1
  go_wp2_with fail
  refine (drawT_any w.heap.size g a len cap _ hlen (by omega) (by omega) hC1 hS1).mono ?_
  rintro e w2 ⟨o, x, y, ho, hx, hy, rfl, on2, hS2⟩
  have s2 := on2.size
  have hC2 := hC1.only on2 (by omega) (by omega)
  have z0 := on2.cell z0 (by omega)
  have z1 := on2.cell z1 (by omega)
  have z2 := on2.cell z2 (by omega)
  have y0 := on2.cell y0 (by omega)
  have y1 := on2.cell y1 (by omega)
  have y2 := on2.cell y2 (by omega)
  have f0 := on2.frz f0 (by omega) (by omega)
  have f1 := on2.frz f1 (by omega) (by omega)
  have f2 := on2.frz f2 (by omega) (by omega)
  have e0 := on2.frz e0 (by omega) (by omega)
  have e1 := on2.frz e1 (by omega) (by omega)
  have e2 := on2.frz e2 (by omega) (by omega)
  have B2 : Below w.heap.size w w2 := Only.below B1 on2 (by omega) (by omega)
  clear on2
  go_wp2_with fail
  have g2 := hS2.lt
  go_region_held3 (fun w' => w'.cell? ⟨w2.heap.size, 0, none⟩ = some (.int .i64 o) ∧ w'.cell? ⟨w2.heap.size, 1, none⟩ = some (.int .i64 x) ∧ w'.cell? ⟨w2.heap.size, 2, none⟩ = some (.int .i64 y))
    (first | ((try dsimp only); go_split_ands; (repeat' (with_reducible refine And.intro ?_ ?_)) <;> first | ((repeat (with_reducible refine keepS ?_ (by simp; try omega) _)); (first | (with_reducible assumption) | exact Only.cell (by assumption) (by assumption) (by omega))) | (go_keep; done)))
    (first | (go_at_call 51; refine (drawT_any w.heap.size g a len cap (w2.alloc (.cells #[.int .i64 o, .int .i64 x, .int .i64 y] 33)).drew hlen (by simp; omega) (by omega) (hC2.alloc (by omega) _).drew (hS2.alloc _).drew).mono ?_; rintro e w3 ⟨p, q, r, hp, hq, hr, rfl, on3, hS3⟩; have s3 := on3.size; (try simp only [World.size_alloc, World.size_drew] at s3); have T0 : w3.cell? ⟨w2.heap.size, 0, none⟩ = some (.int .i64 o) := on3.cell (show (w2.alloc (.cells #[.int .i64 o, .int .i64 x, .int .i64 y] 33)).cell? ⟨w2.heap.size, 0, none⟩ = _ by simp) (by omega); have T1 : w3.cell? ⟨w2.heap.size, 1, none⟩ = some (.int .i64 x) := on3.cell (show (w2.alloc (.cells #[.int .i64 o, .int .i64 x, .int .i64 y] 33)).cell? ⟨w2.heap.size, 1, none⟩ = _ by simp) (by omega); have T2 : w3.cell? ⟨w2.heap.size, 2, none⟩ = some (.int .i64 y) := on3.cell (show (w2.alloc (.cells #[.int .i64 o, .int .i64 x, .int .i64 y] 33)).cell? ⟨w2.heap.size, 2, none⟩ = _ by simp) (by omega); have Zz0 : w3.cell? ⟨w.heap.size, 0, none⟩ = some (.int .i64 0) := on3.cell (show (w2.alloc (.cells #[.int .i64 o, .int .i64 x, .int .i64 y] 33)).cell? ⟨w.heap.size, 0, none⟩ = _ from keepA z0 _) (by omega); have Ff0 : w3.frozen? ⟨w.heap.size, 0, none⟩ = false := on3.frz (show (w2.alloc (.cells #[.int .i64 o, .int .i64 x, .int .i64 y] 33)).frozen? ⟨w.heap.size, 0, none⟩ = false by rw [World.frozen?_alloc_old _ _ _ (by simp; omega)]; exact f0) (by simp; omega) (by omega); have Zz1 : w3.cell? ⟨w.heap.size, 1, none⟩ = some (.int .i64 0) := on3.cell (show (w2.alloc (.cells #[.int .i64 o, .int .i64 x, .int .i64 y] 33)).cell? ⟨w.heap.size, 1, none⟩ = _ from keepA z1 _) (by omega); have Ff1 : w3.frozen? ⟨w.heap.size, 1, none⟩ = false := on3.frz (show (w2.alloc (.cells #[.int .i64 o, .int .i64 x, .int .i64 y] 33)).frozen? ⟨w.heap.size, 1, none⟩ = false by rw [World.frozen?_alloc_old _ _ _ (by simp; omega)]; exact f1) (by simp; omega) (by omega); have Zz2 : w3.cell? ⟨w.heap.size, 2, none⟩ = some (.int .i64 0) := on3.cell (show (w2.alloc (.cells #[.int .i64 o, .int .i64 x, .int .i64 y] 33)).cell? ⟨w.heap.size, 2, none⟩ = _ from keepA z2 _) (by omega); have Ff2 : w3.frozen? ⟨w.heap.size, 2, none⟩ = false := on3.frz (show (w2.alloc (.cells #[.int .i64 o, .int .i64 x, .int .i64 y] 33)).frozen? ⟨w.heap.size, 2, none⟩ = false by rw [World.frozen?_alloc_old _ _ _ (by simp; omega)]; exact f2) (by simp; omega) (by omega); have Zy0 : w3.cell? ⟨w.heap.size + 1, 0, none⟩ = some (.int .i64 0) := on3.cell (show (w2.alloc (.cells #[.int .i64 o, .int .i64 x, .int .i64 y] 33)).cell? ⟨w.heap.size + 1, 0, none⟩ = _ from keepA y0 _) (by omega); have Fe0 : w3.frozen? ⟨w.heap.size + 1, 0, none⟩ = false := on3.frz (show (w2.alloc (.cells #[.int .i64 o, .int .i64 x, .int .i64 y] 33)).frozen? ⟨w.heap.size + 1, 0, none⟩ = false by rw [World.frozen?_alloc_old _ _ _ (by simp; omega)]; exact e0) (by simp; omega) (by omega); have Zy1 : w3.cell? ⟨w.heap.size + 1, 1, none⟩ = some (.int .i64 0) := on3.cell (show (w2.alloc (.cells #[.int .i64 o, .int .i64 x, .int .i64 y] 33)).cell? ⟨w.heap.size + 1, 1, none⟩ = _ from keepA y1 _) (by omega); have Fe1 : w3.frozen? ⟨w.heap.size + 1, 1, none⟩ = false := on3.frz (show (w2.alloc (.cells #[.int .i64 o, .int .i64 x, .int .i64 y] 33)).frozen? ⟨w.heap.size + 1, 1, none⟩ = false by rw [World.frozen?_alloc_old _ _ _ (by simp; omega)]; exact e1) (by simp; omega) (by omega); have Zy2 : w3.cell? ⟨w.heap.size + 1, 2, none⟩ = some (.int .i64 0) := on3.cell (show (w2.alloc (.cells #[.int .i64 o, .int .i64 x, .int .i64 y] 33)).cell? ⟨w.heap.size + 1, 2, none⟩ = _ from keepA y2 _) (by omega); have Fe2 : w3.frozen? ⟨w.heap.size + 1, 2, none⟩ = false := on3.frz (show (w2.alloc (.cells #[.int .i64 o, .int .i64 x, .int .i64 y] 33)).frozen? ⟨w.heap.size + 1, 2, none⟩ = false by rw [World.frozen?_alloc_old _ _ _ (by simp; omega)]; exact e2) (by simp; omega) (by omega)))
  all_goals
    go_wp2_with fail
    refine bodyPost_ret (v := .tuple #[.agg #[.int .i64 o, .int .i64 x, .int .i64 y], .agg #[.int .i64 p, .int .i64 q, .int .i64 r]]) (by simp [*, results, Tryd.results16, go_sem]) rfl ⟨o, x, y, p, q, r, ⟨ho, hx, hy⟩, ⟨hp, hq, hr⟩, rfl, ?_⟩
    have B3 : Below w.heap.size w w3 := Only.below ((B2.alloc (by omega) _).drew) on3 (by simp; omega) (by omega)
    (repeat (first | (with_reducible exact Below.refl _ _) | (with_reducible refine Ext.drewN ?_ _) | (with_reducible refine Below.drew ?_) | (with_reducible refine Ext.alloc ?_ _) | (with_reducible refine Ext.setCell ?_ (by simp; try omega) _) | (with_reducible refine Ext.trans ?_ (by assumption)) | (with_reducible assumption) | exact Below.refl _ _))
end Go.Proofs.YtciodcknobccdaaDoor
