/- The model's drawn rectangles. Conditions as in TrQ. -/
import Derived.Test.YtfbalpkjcfdakaaGreatDoorQR
import Derived.Test.YtfbalpkjcfdakaaGreatDoorQA
import Derived.Test.YtfbalpkjcfdakaaGreatDoorQD
import Derived.Test.YtfbalpkjcfdakaaGreatDoorQJ
import Derived.Test.YtfbalpkjcfdakaaGreatDoorQE
import Derived.Test.YtfbalpkjcfdakaaGreatDoorQC
import Derived.Test.YtfbalpkjcfdakaaGreatDoorQI
import Derived.Test.YtfbalpkjcfdakaaGreatDoorQH
import Derived.Test.YtfbalpkjcfdakaaGreatDoorQP
namespace Go.Proofs.YtfbalpkjcfdakaaGreatDoor
open Go.RowKit
set_option linter.unusedVariables false
set_option linter.unusedSimpArgs false

/-- What a drawn rectangle is. -/
def DrawnR (g : Nat) (w : World) (a : Option Addr) (len cap : Nat) (e : Ending) (w' : World) : Prop :=
  ∃ p q r s : Int, rvB p q r s = true ∧ e = .returned (.agg #[.int .i64 p, .int .i64 q, .int .i64 r, .int .i64 s]) ∧ Only g w w' ∧ SrcIs g w' a len cap
/-- Where the source stands. -/
def SrcAt (B g : Nat) (w w' : World) (a : Option Addr) (len cap : Nat) : Prop := Only g w w' ∧ SrcIs g w' a len cap ∧ CodeIs B w' a len ∧ B ≤ w'.heap.size
theorem SrcAt.next {B g : Nat} {w w' : World} {a : Option Addr} {len cap : Nat} (h : SrcAt B g w w' a len cap) (n : Int) (hlen : len ≤ 8192) (hg : B ≤ g) (h1 : 1 < n) (h2 : n ≤ 1000000) :
    Calls Tryz.prog 103 #[.pointer (some ⟨g, 0, none⟩), .int .i64 n] w' fun e w'' => (∃ r : Int, 0 ≤ r ∧ r < n ∧ e = .returned (.int .i64 r)) ∧ SrcAt B g w w'' a len cap := by
  obtain ⟨h3, h4, h5, h6⟩ := h
  refine (l01Next_any B g a len cap n w' hlen h1 h2 h5 h4).mono ?_
  rintro e w'' ⟨r, r0, r1, rfl, on, hS⟩
  exact ⟨⟨r, r0, r1, rfl⟩, h3.trans on, hS, h5.only on h6 hg, Nat.le_trans h6 on.size⟩

set_option maxHeartbeats 4000000 in
theorem drawRect_any (B g : Nat) (a : Option Addr) (len cap : Nat) (w : World) (hlen : len ≤ 8192) (hB : B ≤ w.heap.size) (hg : B ≤ g) (hC : CodeIs B w a len) (hS : SrcIs g w a len cap) :
    Calls Tryz.prog 119 #[.pointer (some ⟨g, 0, none⟩)] w (DrawnR g w a len cap) := by
  have hgl := hS.lt
  obtain ⟨w0, hw0⟩ : ∃ w0, w0 = w.alloc (.cells #[.int .i64 0, .int .i64 0, .int .i64 0, .int .i64 0] 65) := ⟨_, rfl⟩
  have A0 := Lib.hid (show SrcAt B g w0 w0 a len cap by rw [hw0]; exact ⟨Only.refl _ _, hS.alloc _, hC.alloc hB _, by simp; omega⟩)
  have HW0 := Lib.hid (show Only g w w0 by rw [hw0]; exact (Only.refl g w).alloc _)
  have s0 : w0.heap.size = w.heap.size + 1 := by rw [hw0]; simp
  have y0 : w0.cell? ⟨w.heap.size, 0, none⟩ = some (.int .i64 0) := by rw [hw0]; simp [go_sem]
  have y1 : w0.cell? ⟨w.heap.size, 1, none⟩ = some (.int .i64 0) := by rw [hw0]; simp [go_sem]
  have y2 : w0.cell? ⟨w.heap.size, 2, none⟩ = some (.int .i64 0) := by rw [hw0]; simp [go_sem]
  have y3 : w0.cell? ⟨w.heap.size, 3, none⟩ = some (.int .i64 0) := by rw [hw0]; simp [go_sem]
  have x0 : w0.frozen? ⟨w.heap.size, 0, none⟩ = false := by rw [hw0]; simp [go_sem]
  have x1 : w0.frozen? ⟨w.heap.size, 1, none⟩ = false := by rw [hw0]; simp [go_sem]
  have x2 : w0.frozen? ⟨w.heap.size, 2, none⟩ = false := by rw [hw0]; simp [go_sem]
  have x3 : w0.frozen? ⟨w.heap.size, 3, none⟩ = false := by rw [hw0]; simp [go_sem]
  have HY := Lib.hid (And.intro (And.intro y0 y1) (And.intro y2 y3))
  have HX := Lib.hid (And.intro (And.intro x0 x1) (And.intro x2 x3))
  clear hS hC y0 y1 y2 y3 x0 x1 x2 x3
  go_enter Tryz.func119, Tryz.ntmps119
  go_wp2_with fail
  rw [← hw0]
  clear hw0
  refine (A0.out.next 22 hlen hg (by omega) (by omega)).mono ?_
  rintro e w1 ⟨⟨r1, p1, q1, rfl⟩, hA1⟩
  have A1 := Lib.hid hA1
  clear hA1 A0
  go_wp2_with fail
  refine (A1.out.next 22 hlen hg (by omega) (by omega)).mono ?_
  rintro e w2 ⟨⟨r2, p2, q2, rfl⟩, hA2⟩
  have A2 := Lib.hid hA2
  clear hA2 A1
  go_wp2_with fail
  refine (A2.out.next 16 hlen hg (by omega) (by omega)).mono ?_
  rintro e w3 ⟨⟨r3, p3, q3, rfl⟩, hA3⟩
  have A3 := Lib.hid hA3
  clear hA3 A2
  by_cases hx : r3 = 0
  · subst hx
    go_wp2_with fail
    refine (A3.out.next 3 hlen hg (by omega) (by omega)).mono ?_
    rintro e w4 ⟨⟨r4, p4, q4, rfl⟩, hA4⟩
    have A4 := Lib.hid hA4
    clear hA4 A3
    go_wp2_with fail
    refine (A4.out.next 16 hlen hg (by omega) (by omega)).mono ?_
    rintro e w5 ⟨⟨r5, p5, q5, rfl⟩, hA5⟩
    have A5 := Lib.hid hA5
    clear hA5 A4
    by_cases hy : r5 = 0
    · subst hy
      go_wp2_with fail
      refine (A5.out.next 7 hlen hg (by omega) (by omega)).mono ?_
      rintro e w6 ⟨⟨r6, p6, q6, rfl⟩, hA6⟩
      have A6 := Lib.hid hA6
      clear hA6 A5
      go_wp2_with fail
      refine (A6.out.next 7 hlen hg (by omega) (by omega)).mono ?_
      rintro e w7 ⟨⟨r7, p7, q7, rfl⟩, hA7⟩
      have A7 := Lib.hid hA7
      clear hA7 A6
      have on := A7.out.1
      have z0 := on.cell HY.out.1.1 (by omega)
      have z1 := on.cell HY.out.1.2 (by omega)
      have z2 := on.cell HY.out.2.1 (by omega)
      have z3 := on.cell HY.out.2.2 (by omega)
      have f0 := on.frz HX.out.1.1 (by omega) (by omega)
      have f1 := on.frz HX.out.1.2 (by omega) (by omega)
      have f2 := on.frz HX.out.2.1 (by omega) (by omega)
      have f3 := on.frz HX.out.2.2 (by omega) (by omega)
      have HO := Lib.hid (HW0.out.trans on)
      clear on
      go_wp2_with fail
      have HS9 := Lib.hid A7.out.2.1
      refine bodyPost_ret (v := .agg #[.int .i64 (39 - r4), .int .i64 (-40), .int .i64 (min 40 (39 - r4 + (r6 + 1))), .int .i64 (min 40 (-40 + (r7 + 1)))]) (by simp [z0, z1, z2, z3, results, Tryz.results119, go_sem]) rfl ⟨_, _, _, _, rvB_mk (by omega), rfl, ?_, ?_⟩
      · exact (((HO.out.setNew (Nat.le_refl _) _).setNew (Nat.le_refl _) _).setNew (Nat.le_refl _) _).setNew (Nat.le_refl _) _
      · exact (((HS9.out.set (by omega) _).set (by omega) _).set (by omega) _).set (by omega) _
    · have hyb : (r5 == 0) = false := by simp [hy]
      go_wp2_with fail
      refine (A5.out.next 7 hlen hg (by omega) (by omega)).mono ?_
      rintro e w6 ⟨⟨r6, p6, q6, rfl⟩, hA6⟩
      have A6 := Lib.hid hA6
      clear hA6 A5
      go_wp2_with fail
      refine (A6.out.next 7 hlen hg (by omega) (by omega)).mono ?_
      rintro e w7 ⟨⟨r7, p7, q7, rfl⟩, hA7⟩
      have A7 := Lib.hid hA7
      clear hA7 A6
      have on := A7.out.1
      have z0 := on.cell HY.out.1.1 (by omega)
      have z1 := on.cell HY.out.1.2 (by omega)
      have z2 := on.cell HY.out.2.1 (by omega)
      have z3 := on.cell HY.out.2.2 (by omega)
      have f0 := on.frz HX.out.1.1 (by omega) (by omega)
      have f1 := on.frz HX.out.1.2 (by omega) (by omega)
      have f2 := on.frz HX.out.2.1 (by omega) (by omega)
      have f3 := on.frz HX.out.2.2 (by omega) (by omega)
      have HO := Lib.hid (HW0.out.trans on)
      clear on
      go_wp2_with fail
      have HS9 := Lib.hid A7.out.2.1
      refine bodyPost_ret (v := .agg #[.int .i64 (39 - r4), .int .i64 (r2 - 12), .int .i64 (min 40 (39 - r4 + (r6 + 1))), .int .i64 (min 40 (r2 - 12 + (r7 + 1)))]) (by simp [z0, z1, z2, z3, results, Tryz.results119, go_sem]) rfl ⟨_, _, _, _, rvB_mk (by omega), rfl, ?_, ?_⟩
      · exact (((HO.out.setNew (Nat.le_refl _) _).setNew (Nat.le_refl _) _).setNew (Nat.le_refl _) _).setNew (Nat.le_refl _) _
      · exact (((HS9.out.set (by omega) _).set (by omega) _).set (by omega) _).set (by omega) _
  · have hxb : (r3 == 0) = false := by simp [hx]
    go_wp2_with fail
    refine (A3.out.next 16 hlen hg (by omega) (by omega)).mono ?_
    rintro e w4 ⟨⟨r4, p4, q4, rfl⟩, hA4⟩
    have A4 := Lib.hid hA4
    clear hA4 A3
    by_cases hy : r4 = 0
    · subst hy
      go_wp2_with fail
      refine (A4.out.next 7 hlen hg (by omega) (by omega)).mono ?_
      rintro e w5 ⟨⟨r5, p5, q5, rfl⟩, hA5⟩
      have A5 := Lib.hid hA5
      clear hA5 A4
      go_wp2_with fail
      refine (A5.out.next 7 hlen hg (by omega) (by omega)).mono ?_
      rintro e w6 ⟨⟨r6, p6, q6, rfl⟩, hA6⟩
      have A6 := Lib.hid hA6
      clear hA6 A5
      have on := A6.out.1
      have z0 := on.cell HY.out.1.1 (by omega)
      have z1 := on.cell HY.out.1.2 (by omega)
      have z2 := on.cell HY.out.2.1 (by omega)
      have z3 := on.cell HY.out.2.2 (by omega)
      have f0 := on.frz HX.out.1.1 (by omega) (by omega)
      have f1 := on.frz HX.out.1.2 (by omega) (by omega)
      have f2 := on.frz HX.out.2.1 (by omega) (by omega)
      have f3 := on.frz HX.out.2.2 (by omega) (by omega)
      have HO := Lib.hid (HW0.out.trans on)
      clear on
      go_wp2_with fail
      have HS9 := Lib.hid A6.out.2.1
      refine bodyPost_ret (v := .agg #[.int .i64 (r1 - 12), .int .i64 (-40), .int .i64 (min 40 (r1 - 12 + (r5 + 1))), .int .i64 (min 40 (-40 + (r6 + 1)))]) (by simp [z0, z1, z2, z3, results, Tryz.results119, go_sem]) rfl ⟨_, _, _, _, rvB_mk (by omega), rfl, ?_, ?_⟩
      · exact (((HO.out.setNew (Nat.le_refl _) _).setNew (Nat.le_refl _) _).setNew (Nat.le_refl _) _).setNew (Nat.le_refl _) _
      · exact (((HS9.out.set (by omega) _).set (by omega) _).set (by omega) _).set (by omega) _
    · have hyb : (r4 == 0) = false := by simp [hy]
      go_wp2_with fail
      refine (A4.out.next 7 hlen hg (by omega) (by omega)).mono ?_
      rintro e w5 ⟨⟨r5, p5, q5, rfl⟩, hA5⟩
      have A5 := Lib.hid hA5
      clear hA5 A4
      go_wp2_with fail
      refine (A5.out.next 7 hlen hg (by omega) (by omega)).mono ?_
      rintro e w6 ⟨⟨r6, p6, q6, rfl⟩, hA6⟩
      have A6 := Lib.hid hA6
      clear hA6 A5
      have on := A6.out.1
      have z0 := on.cell HY.out.1.1 (by omega)
      have z1 := on.cell HY.out.1.2 (by omega)
      have z2 := on.cell HY.out.2.1 (by omega)
      have z3 := on.cell HY.out.2.2 (by omega)
      have f0 := on.frz HX.out.1.1 (by omega) (by omega)
      have f1 := on.frz HX.out.1.2 (by omega) (by omega)
      have f2 := on.frz HX.out.2.1 (by omega) (by omega)
      have f3 := on.frz HX.out.2.2 (by omega) (by omega)
      have HO := Lib.hid (HW0.out.trans on)
      clear on
      go_wp2_with fail
      have HS9 := Lib.hid A6.out.2.1
      refine bodyPost_ret (v := .agg #[.int .i64 (r1 - 12), .int .i64 (r2 - 12), .int .i64 (min 40 (r1 - 12 + (r5 + 1))), .int .i64 (min 40 (r2 - 12 + (r6 + 1)))]) (by simp [z0, z1, z2, z3, results, Tryz.results119, go_sem]) rfl ⟨_, _, _, _, rvB_mk (by omega), rfl, ?_, ?_⟩
      · exact (((HO.out.setNew (Nat.le_refl _) _).setNew (Nat.le_refl _) _).setNew (Nat.le_refl _) _).setNew (Nat.le_refl _) _
      · exact (((HS9.out.set (by omega) _).set (by omega) _).set (by omega) _).set (by omega) _
end Go.Proofs.YtfbalpkjcfdakaaGreatDoor

/- The model's drawn regions. Conditions as in TrQ. -/
namespace Go.Proofs.YtfbalpkjcfdakaaGreatDoor
open Go.RowKit
set_option linter.unusedVariables false
set_option linter.unusedSimpArgs false

theorem Only.grown {g : Nat} {a w w' : World} {row : Option Nat} (h : Only g a w) (k : w.grownBy w' row) (hrow : ∀ j, row = some j → a.heap.size ≤ j) : Only g a w' :=
  ⟨k.os.trans h.os, k.tape.trans h.tape, k.output.trans h.output, Nat.le_trans h.size k.size, fun i hi hne => (k.block i (Nat.lt_of_lt_of_le hi h.size) (fun e => by have := hrow i e.symm; omega)).trans (h.block i hi hne)⟩
theorem Only.of_below {g : Nat} {a w : World} (h : Below a.heap.size a w) : Only g a w := ⟨h.os, h.tape, h.output, h.size, fun i hi _ => h.block i hi⟩
theorem SrcIs.grown {g : Nat} {w w' : World} {a : Option Addr} {len cap : Nat} {row : Option Nat} (h : SrcIs g w a len cap) (k : w.grownBy w' row) (hne : some g ≠ row) : SrcIs g w' a len cap := by
  have hl := h.lt
  obtain ⟨j, s, h1, h2, h3, c0, c1, c2, f1, f2⟩ := h
  have e := k.block g hl hne
  exact ⟨j, s, h1, h2, h3, (World.cell?_of_block (w := w) (a := ⟨g, 0, none⟩) e).trans c0, (World.cell?_of_block (w := w) (a := ⟨g, 1, none⟩) e).trans c1, (World.cell?_of_block (w := w) (a := ⟨g, 2, none⟩) e).trans c2, (World.frozen?_of_block (w := w) (a := ⟨g, 1, none⟩) e).trans f1, (World.frozen?_of_block (w := w) (a := ⟨g, 2, none⟩) e).trans f2⟩
theorem SrcIs.ext {g : Nat} {w w' : World} {a : Option Addr} {len cap : Nat} (h : SrcIs g w a len cap) (k : Below w.heap.size w w') : SrcIs g w' a len cap := by
  have hl := h.lt
  obtain ⟨j, s, h1, h2, h3, c0, c1, c2, f1, f2⟩ := h
  have e := k.block g hl
  exact ⟨j, s, h1, h2, h3, (World.cell?_of_block (w := w) (a := ⟨g, 0, none⟩) e).trans c0, (World.cell?_of_block (w := w) (a := ⟨g, 1, none⟩) e).trans c1, (World.cell?_of_block (w := w) (a := ⟨g, 2, none⟩) e).trans c2, (World.frozen?_of_block (w := w) (a := ⟨g, 1, none⟩) e).trans f1, (World.frozen?_of_block (w := w) (a := ⟨g, 2, none⟩) e).trans f2⟩
theorem SrcAt.grown {B g : Nat} {w w1 w2 : World} {a : Option Addr} {len cap : Nat} {row : Option Nat} (h : SrcAt B g w w1 a len cap) (k : w1.grownBy w2 row) (hne : some g ≠ row) (hrow : ∀ j, row = some j → w.heap.size ≤ j) (hB : B ≤ w.heap.size) : SrcAt B g w w2 a len cap :=
  ⟨h.1.grown k hrow, h.2.1.grown k hne, h.2.2.1.below ((Below.refl _ _).grown k h.2.2.2 (fun j hj => Nat.le_trans hB (hrow j hj))), Nat.le_trans h.2.2.2 k.size⟩
theorem SrcAt.ext {B g : Nat} {w w1 w2 : World} {a : Option Addr} {len cap : Nat} (h : SrcAt B g w w1 a len cap) (k : Below w1.heap.size w1 w2) : SrcAt B g w w2 a len cap :=
  ⟨h.1.trans (Only.of_below k), h.2.1.ext k, h.2.2.1.below (k.mono h.2.2.2), Nat.le_trans h.2.2.2 k.size⟩
theorem SrcAt.next2 {B g : Nat} {w w' : World} {a : Option Addr} {len cap : Nat} (h : SrcAt B g w w' a len cap) (n : Int) (hlen : len ≤ 8192) (hg : B ≤ g) (h1 : 1 < n) (h2 : n ≤ 1000000) :
    Calls Tryz.prog 103 #[.pointer (some ⟨g, 0, none⟩), .int .i64 n] w' fun e w'' => (∃ r : Int, 0 ≤ r ∧ r < n ∧ e = .returned (.int .i64 r)) ∧ Only g w' w'' ∧ SrcAt B g w w'' a len cap := by
  obtain ⟨h3, h4, h5, h6⟩ := h
  refine (l01Next_any B g a len cap n w' hlen h1 h2 h5 h4).mono ?_
  rintro e w'' ⟨r, r0, r1, rfl, on, hS⟩
  exact ⟨⟨r, r0, r1, rfl⟩, on, h3.trans on, hS, h5.only on h6 hg, Nat.le_trans h6 on.size⟩
theorem own_only {w w' : World} {B e sz n g : Nat} {v : Value} {xs : List Value} (h : w.ownsRow B e sz v n xs) (hk : Only g w w') (hg : g < B) : w'.ownsRow B e sz v n xs :=
  h.kept hk (by
    cases hv : v.ownBlock with
    | none => exact .inl rfl
    | some k => exact .inr (fun e' => by have h1 := Option.some.inj e'; have := (h.lt k hv).1; omega))
theorem SrcAt.rect {B g : Nat} {w w' : World} {a : Option Addr} {len cap : Nat} (h : SrcAt B g w w' a len cap) (hlen : len ≤ 8192) (hg : B ≤ g) :
    Calls Tryz.prog 119 #[.pointer (some ⟨g, 0, none⟩)] w' fun e w'' => (∃ p q r s : Int, rvB p q r s = true ∧ e = .returned (.agg #[.int .i64 p, .int .i64 q, .int .i64 r, .int .i64 s])) ∧ Only g w' w'' ∧ SrcAt B g w w'' a len cap := by
  obtain ⟨h3, h4, h5, h6⟩ := h
  refine (drawRect_any B g a len cap w' hlen h6 hg h5 h4).mono ?_
  rintro e w'' ⟨p, q, r, s, hv, rfl, on, hS⟩
  exact ⟨⟨p, q, r, s, hv, rfl⟩, on, h3.trans on, hS, h5.only on h6 hg, Nat.le_trans h6 on.size⟩

/-- What a drawn region is. -/
def DrawnL (B g : Nat) (w0 w : World) (a : Option Addr) (len cap : Nat) (e : Ending) (w' : World) : Prop :=
  ∃ (h c : Nat) (f : Nat → Bool), e = .returned (.slice (some ⟨h, 0, none⟩) (canonL f).length c) ∧ RecIs w.heap.size w' h (canonL f) ∧ SrcAt B g w0 w' a len cap

set_option maxHeartbeats 4000000 in
theorem drawRegion_any (B g : Nat) (a : Option Addr) (len cap : Nat) (w0 w : World) (hlen : len ≤ 8192) (hB : B ≤ w0.heap.size) (hg : B ≤ g) (hA : SrcAt B g w0 w a len cap) :
    Calls Tryz.prog 72 #[.pointer (some ⟨g, 0, none⟩)] w (DrawnL B g w0 w a len cap) := by
  obtain ⟨i0, hi, hz0, hz1, hz2⟩ := info_parts Tryz.infoR
  have hgl := hA.2.1.lt
  have hl0 := hA.1.size
  obtain ⟨wz, hwz⟩ : ∃ wz, wz = w.alloc (.cells #[] 65) := ⟨_, rfl⟩
  have sz : wz.heap.size = w.heap.size + 1 := by rw [hwz]; simp
  have A0 := Lib.hid (show SrcAt B g w0 wz a len cap by rw [hwz]; exact hA.ext ((Below.refl _ _).alloc (Nat.le_refl _) _))
  have OZ : Hid (wz.ownsRow w.heap.size 65 4 (.slice (some ⟨w.heap.size, 0, none⟩) 0 0) 0 []) := Lib.hid (by
    have hm := World.ownsRow_made (base := w.heap.size) (size := 4) (e := 65) w #[] 0 (Nat.le_refl _) (by unfold maxLen; decide) rfl
    rw [hwz]
    exact hm)
  have hwB := hA.2.2.2
  clear hA
  go_enter Tryz.func72, Tryz.ntmps72
  go_wp2_with fail
  rw [← hwz]
  clear hwz
  refine (A0.out.next2 6 hlen hg (by omega) (by omega)).mono ?_
  rintro e w1 ⟨⟨r1, p1, q1, rfl⟩, on1, hA1⟩
  have A1 := Lib.hid hA1
  have O1 := Lib.hid (own_only OZ.out on1 hgl)
  have l1 := on1.size
  clear on1 hA1 OZ A0
  go_wp2_with fail
  refine (A1.out.next2 3 hlen hg (by omega) (by omega)).mono ?_
  rintro e w2 ⟨⟨r2, p2, q2, rfl⟩, on2, hA2⟩
  have A2 := Lib.hid hA2
  have O2 := Lib.hid (own_only O1.out on2 hgl)
  have l2 := on2.size
  clear on2 hA2 O1 A1
  obtain ⟨N, hN⟩ : ∃ N : Nat, r1 + r2 = (N : Int) := ⟨(r1 + r2).toNat, by omega⟩
  have hN7 : N ≤ 7 := by omega
  have HN := Lib.hid hN
  go_wp2_with fail
  clear hN
  go_loopw [3, 4] (fun s3 s4 wr => ∃ (n h c : Nat) (l : List R4), n + l.length = N ∧ s3 = .slice (some ⟨h, 0, none⟩) l.length c ∧ s4 = .int .i64 (n : Nat) ∧ Hid (wr.ownsRow w.heap.size 65 4 (.slice (some ⟨h, 0, none⟩) l.length c) l.length (recCells l)) ∧ Hid (∀ r, r ∈ l → rvB r.a r.b r.c r.d = true) ∧ Hid (SrcAt B g w0 wr a len cap) ∧ w.heap.size ≤ wr.heap.size) (fun _ s4 _ => (intOf s4).toNat)
  case atStart => exact ⟨N, w.heap.size, 0, [], by simp, rfl, rfl, O2, Lib.hid (by simp), A2, by omega⟩
  case round =>
    obtain ⟨n, h, c, l, hnl, rfl, rfl, HO, HV, HA, hsz⟩ := hrel
    by_cases hlt : 0 < n
    · have q1 : (0 : Int) < ((n : Nat) : Int) := by omega
      have hll : l.length ≤ 7 := by omega
      go_wp2_with fail
      refine (HA.out.rect hlen hg).mono ?_
      rintro e w3 ⟨⟨v0, v1, v2, v3, hrv, rfl⟩, on3, hA3⟩
      have A3 := Lib.hid hA3
      have O3 := Lib.hid (own_only HO.out on3 hgl)
      have HV3 : Hid (∀ r, r ∈ l ++ [R4.mk v0 v1 v2 v3] → rvB r.a r.b r.c r.d = true) := Lib.hid fun r hr => by
        rcases List.mem_append.1 hr with hr | hr
        · exact HV.out r hr
        · rw [List.mem_singleton.1 hr]; exact hrv
      have l3 := on3.size
      have hl3 := hA3.1.size
      clear hA3 on3 HO HA hrv
      go_wp2_with (at_builtin; refine wpList_append_own _ rfl _ _ 26 rfl w.heap.size 65 i0 (.agg #[.int .i64 0, .int .i64 0, .int .i64 0, .int .i64 0]) 4 32 Tryz.underlying26 hi hz0 hz1 hz2 rfl (by decide) _ _ _ rfl (O3.out.alloc _) ⟨w3.heap.size, 0, none⟩ 1 1 [.int .i64 v0, .int .i64 v1, .int .i64 v2, .int .i64 v3] rfl rfl (World.news_of_block (cs := #[.int .i64 v0, .int .i64 v1, .int .i64 v2, .int .i64 v3]) (t := 65) (fr := (0, 0)) (heap_alloc_new w3 _)) (by simp [Value.oneCell']) (by unfold maxLen; omega) (by omega) (by simp; omega) ?_; intro v' w4 hown4 hgrow hnil)
      have hrow : ∀ j, (Value.slice (some ⟨h, 0, none⟩) l.length c).ownBlock = some j → w.heap.size ≤ j := fun j hj => (O3.out.lt j hj).1
      have A4 := Lib.hid ((A3.out.ext ((Below.refl _ _).alloc (Nat.le_refl _) (.cells #[.int .i64 v0, .int .i64 v1, .int .i64 v2, .int .i64 v3] 65))).grown hgrow (fun e' => by have := hrow g e'.symm; omega) (fun j hj => Nat.le_trans hl0 (hrow j hj)) hB)
      have sx := hgrow.size
      obtain ⟨h4, c4, rfl, hown5⟩ := rec_next (l := l) (r := R4.mk v0 v1 v2 v3) rfl hown4
      have O5 := Lib.hid hown5
      clear hown4 hgrow hnil hown5 hrow
      go_wp2_with fail
      go_roundw
      case rel => exact ⟨n - 1, h4, c4, l ++ [R4.mk v0 v1 v2 v3], by simp; omega, rfl, by go_num, O5, HV3, A4, by simp at sx; omega⟩
      case measure => simp [intOf]; omega
    · have q1 : ¬ (0 : Int) < ((n : Nat) : Int) := by omega
      have hI := rec_own HO.out
      have HI := Lib.hid hI
      clear hI
      have hll : l.length ≤ 1048576 := by omega
      have HVA : Hid (∀ i, i < l.length → rvB (pA l i) (pB l i) (pC l i) (pD l i) = true) := Lib.hid fun i hi => HV.out _ (List.mem_of_getElem? (getD_get hi))
      go_wp2_with fail
      refine (l03Bits_any (some ⟨h, 0, none⟩) l.length c (pA l) (pB l) (pC l) (pD l) _ hll HI.out.rects HVA.out).mono ?_
      rintro e w5 ⟨⟨g5, rfl, hg5, hb5⟩, bw5⟩
      have HB5 := Lib.hid hb5
      clear hb5
      go_wp2_with fail
      refine (l03Canon_any g5 6400 (covF (pA l) (pB l) (pC l) (pD l) l.length) _ HB5.out).mono ?_
      rintro e w6 ⟨⟨h6, c6, rfl, hI6⟩, bw6⟩
      have HI6 := Lib.hid hI6
      clear hI6
      have A6 := Lib.hid ((HA.out.ext bw5).ext bw6)
      go_wp2_with fail
      go_ret
      exact ⟨h6, c6, _, rfl, ⟨by have := HI6.out.1; have := bw5.size; omega, HI6.out.2⟩, A6.out⟩
end Go.Proofs.YtfbalpkjcfdakaaGreatDoor

/- Areas of combined sets. No run. -/
namespace Go.Proofs.YtfbalpkjcfdakaaGreatDoor
open Go.RowKit
set_option linter.unusedVariables false
set_option linter.unusedSimpArgs false

/-- The area of a list. -/
def areaL (l : List R4) : Int := areaR (pA l) (pB l) (pC l) (pD l) l.length
theorem cntF_congr {f g : Nat → Bool} : ∀ n, (∀ k, k < n → f k = g k) → cntF f n = cntF g n
  | 0, _ => rfl
  | n + 1, h => by rw [cntF, cntF, cntF_congr n (fun k hk => h k (by omega)), h n (by omega)]
theorem area_canon (f : Nat → Bool) : areaL (canonL f) = cntF f 6400 := by
  unfold areaL areaR
  rw [if_pos (okR_canonL f)]
  exact cntF_congr 6400 fun k hk => cov_canonL_all f hk
theorem cntF_add (f g : Nat → Bool) : ∀ n, cntF (fun i => tt 14 (f i) (g i)) n + cntF (fun i => tt 8 (f i) (g i)) n = cntF f n + cntF g n
  | 0 => rfl
  | n + 1 => by
    have ih := cntF_add f g n
    rw [cntF, cntF, cntF, cntF]
    have e : (if tt 14 (f n) (g n) = true then (1 : Int) else 0) + (if tt 8 (f n) (g n) = true then 1 else 0) = (if f n = true then 1 else 0) + (if g n = true then 1 else 0) := by
      cases f n <;> cases g n <;> rfl
    omega
/-- Areas add up. -/
theorem areas_add {P Q R S : Nat → Int} {n : Nat} {A B C D : Nat → Int} {k : Nat} (h1 : okR P Q R S n = true) (h2 : okR A B C D k = true) :
    areaL (opL 14 P Q R S n A B C D k) + areaL (opL 8 P Q R S n A B C D k) = areaR P Q R S n + areaR A B C D k := by
  have e : ∀ op, opL op P Q R S n A B C D k = canonL (opF op P Q R S n A B C D k) := fun op => by unfold opL; rw [h1, h2]; rfl
  rw [e, e, area_canon, area_canon]
  unfold areaR
  rw [if_pos h1, if_pos h2]
  exact cntF_add _ _ 6400

/-- An operation on two canonical lists. -/
theorem opL_canon (op : Nat) (f g : Nat → Bool) : opL op (pA (canonL f)) (pB (canonL f)) (pC (canonL f)) (pD (canonL f)) (canonL f).length (pA (canonL g)) (pB (canonL g)) (pC (canonL g)) (pD (canonL g)) (canonL g).length = canonL (fun k => tt op (f k) (g k)) := by
  unfold opL
  rw [okR_canonL, okR_canonL, if_pos (by rfl)]
  refine canonL_congr fun k hk => ?_
  unfold opF
  rw [cov_canonL_all f hk, cov_canonL_all g hk]
theorem cmL_canon (f : Nat → Bool) : cmL (pA (canonL f)) (pB (canonL f)) (pC (canonL f)) (pD (canonL f)) (canonL f).length = canonL (fun k => !(f k)) := by
  unfold cmL
  rw [okR_canonL, if_pos rfl]
  refine canonL_congr fun k hk => ?_
  unfold opF
  rw [cov_canonL_all f hk]
  cases f k <;> rfl
/-- A region's list is the canonical one of its cells. -/
theorem okR_list {P Q R S : Nat → Int} {n : Nat} (h : okR P Q R S n = true) : listR P Q R S n = canonL (covF P Q R S n) := ((okR_iff P Q R S n).1 h).2.symm
theorem canonL_none_iff (F : Nat → Bool) : (canonL F).length = 0 ↔ ∀ k, k < 6400 → F k = false := by
  constructor
  · intro h k hk
    have hc := cov_canonL_all F hk
    rw [h] at hc
    rw [← hc]
    rfl
  · intro h
    have e : canonL F = canonL (fun _ => false) := canonL_congr h
    have hr : ∀ y k, runsTo (fun _ => false) y k = [] := fun y k => by
      have hh : ∀ x, hasB (fun _ => false) x y = false := fun x => by unfold hasB; rw [Bool.and_false]
      induction k with
      | zero => rfl
      | succ k ih => rw [runsTo, if_neg (by unfold chg; rw [hh, hh]; simp), ih]
    have hc : ∀ n y, canonF (fun _ => false) n y = [] := fun n => by
      induction n with
      | zero => intro y; rfl
      | succ n ih =>
        intro y
        rw [canonF]
        split
        · rw [show runsL (fun _ => false) y = [] from hr y 81, ih]; rfl
        · rfl
    rw [e, show canonL (fun _ => false) = [] from hc 80 (-40)]
    rfl
end Go.Proofs.YtfbalpkjcfdakaaGreatDoor

/- The model's spoiled regions; the laws' copies of lists. Conditions as in TrQ. -/
namespace Go.Proofs.YtfbalpkjcfdakaaGreatDoor
open Go.RowKit
set_option linter.unusedVariables false
set_option linter.unusedSimpArgs false

theorem rec_cells {B h : Nat} {w : World} {l : List R4} (hR : RecIs B w h l) : ∀ j u, (recCells l)[j]? = some u → w.cell? ((⟨h, 0, none⟩ : Addr).add j) = some u := fun j u hj => by
  have hlt : j < (recCells l).length := by
    rcases Nat.lt_or_ge j (recCells l).length with k | k
    · exact k
    · rw [List.getElem?_eq_none k] at hj; cases hj
  rw [recCells_len] at hlt
  have hi : j / 4 < l.length := by omega
  have hg := getD_get hi
  obtain ⟨r0, r1, r2, r3⟩ := recCells_at l (j / 4) _ hg
  obtain ⟨c0, c1, c2, c3⟩ := hR.2.2 (j / 4) _ hg
  rw [addG]
  have h4 : j % 4 < 4 := Nat.mod_lt _ (by omega)
  have e : j = j / 4 * 4 + j % 4 := by omega
  generalize j / 4 = q at *
  generalize j % 4 = t at *
  subst e
  match t, h4 with
  | 0, _ => rw [Nat.add_zero] at hj ⊢; rw [r0] at hj; cases hj; exact c0
  | 1, _ => rw [r1] at hj; cases hj; exact c1
  | 2, _ => rw [r2] at hj; cases hj; exact c2
  | 3, _ => rw [r3] at hj; cases hj; exact c3
theorem rec_one (l : List R4) : ∀ u ∈ recCells l, u.oneCell' = true := fun u hu => by
  unfold recCells at hu
  obtain ⟨r, hr, hu⟩ := List.mem_flatMap.1 hu
  unfold r4cells at hu
  simp at hu
  rcases hu with rfl | rfl | rfl | rfl <;> rfl
theorem RecIs.ext {B h : Nat} {w w' : World} {l : List R4} (hR : RecIs B w h l) (hb : Below w.heap.size w w') : RecIs B w' h l :=
  ⟨hR.1, Nat.lt_of_lt_of_le hR.2.1 hb.size, fun i r hr => by
    obtain ⟨c0, c1, c2, c3⟩ := hR.2.2 i r hr
    exact ⟨(hb.cell (p := ⟨h, i * 4, none⟩) hR.2.1).trans c0, (hb.cell (p := ⟨h, i * 4 + 1, none⟩) hR.2.1).trans c1, (hb.cell (p := ⟨h, i * 4 + 2, none⟩) hR.2.1).trans c2, (hb.cell (p := ⟨h, i * 4 + 3, none⟩) hR.2.1).trans c3⟩⟩
theorem RecIs.only {B g h : Nat} {w w' : World} {l : List R4} (hR : RecIs B w h l) (on : Only g w w') (hg : g < B) : RecIs B w' h l :=
  ⟨hR.1, Nat.lt_of_lt_of_le hR.2.1 on.size, fun i r hr => by
    obtain ⟨c0, c1, c2, c3⟩ := hR.2.2 i r hr
    have hne : h ≠ g := by have := hR.1; omega
    exact ⟨on.cell c0 hne, on.cell c1 hne, on.cell c2 hne, on.cell c3 hne⟩⟩
theorem RecIs.lower {B C h : Nat} {w : World} {l : List R4} (hR : RecIs B w h l) (hC : C ≤ B) : RecIs C w h l := ⟨Nat.le_trans hC hR.1, hR.2⟩
/-- A copy in a row of its own. -/
def CopyL (w : World) (l : List R4) (e : Ending) (w' : World) : Prop := ∃ (h c : Nat), e = .returned (.slice (some ⟨h, 0, none⟩) l.length c) ∧ l.length ≤ c ∧ RecIs w.heap.size w' h l ∧ Below w.heap.size w w'
theorem own_some {w : World} {B n : Nat} {v : Value} {l : List R4} (hn : n = l.length) (h : w.ownsRow B 65 4 v n (recCells l)) (hv : v ≠ .slice none 0 0) : ∃ h' c, v = .slice (some ⟨h', 0, none⟩) l.length c ∧ l.length ≤ c ∧ w.ownsRow B 65 4 (.slice (some ⟨h', 0, none⟩) l.length c) l.length (recCells l) := by
  subst hn
  rcases h.2 with ⟨rfl, _⟩ | ⟨g, cap, cur, rfl, _, _, h3, _⟩
  · exact absurd rfl hv
  · exact ⟨g, cap, rfl, h3, h⟩
set_option maxHeartbeats 4000000 in
theorem copyRects_any (B h c : Nat) (l : List R4) (w : World) (hl : l.length ≤ 1048576) (hR : RecIs B w h l) :
    Calls Tryz.prog 20 #[.slice (some ⟨h, 0, none⟩) l.length c] w (CopyL w l) := by
  obtain ⟨i0, hi, hz0, hz1, hz2⟩ := info_parts Tryz.infoR
  obtain ⟨wz, hwz⟩ : ∃ wz, wz = w.alloc (.cells #[] 65) := ⟨_, rfl⟩
  have sz : wz.heap.size = w.heap.size + 1 := by rw [hwz]; simp
  have bz : Below w.heap.size w wz := by rw [hwz]; (repeat (first | (with_reducible exact Below.refl _ _) | (with_reducible refine Ext.drewN ?_ _) | (with_reducible refine Below.drew ?_) | (with_reducible refine Ext.alloc ?_ _) | (with_reducible refine Ext.setCell ?_ (by simp; try omega) _) | (with_reducible refine Ext.trans ?_ (by assumption)) | (with_reducible assumption) | exact Below.refl _ _))
  have OZ : Hid (wz.ownsRow w.heap.size 65 4 (.slice (some ⟨w.heap.size, 0, none⟩) 0 0) 0 []) := Lib.hid (by
    have hm := World.ownsRow_made (base := w.heap.size) (size := 4) (e := 65) w #[] 0 (Nat.le_refl _) (by unfold maxLen; decide) rfl
    rw [hwz]
    exact hm)
  have HR := Lib.hid (hR.ext bz)
  clear hR
  go_enter Tryz.func20, Tryz.ntmps20
  go_upto_region 1 with fail
  refine wp_region_lit ?_
  go_wp2_with (at_builtin; rw [← hwz]; refine wpList_append_own _ rfl _ _ 26 rfl w.heap.size 65 i0 (.agg #[.int .i64 0, .int .i64 0, .int .i64 0, .int .i64 0]) 4 32 Tryz.underlying26 hi hz0 hz1 hz2 rfl (by decide) _ _ _ rfl OZ.out ⟨h, 0, none⟩ l.length c (recCells l) rfl (recCells_len l) (rec_cells HR.out) (rec_one l) (by unfold maxLen; omega) (by omega) (by omega) ?_; intro v' w4 hown4 hgrow hnil)
  have hnn : v' ≠ .slice none 0 0 := fun e => by have := (hnil.1 e).1; cases this
  obtain ⟨h4, c4, rfl, hc4, hown5⟩ := own_some (l := l) (by omega) hown4 hnn
  have b4 : Below w.heap.size w w4 := bz.grown hgrow bz.size (fun j hj => (OZ.out.lt j hj).1)
  have HI := Lib.hid (rec_own hown5)
  clear hown4 hown5 hgrow hnil hnn
  go_wp2_with fail
  go_ret
  exact ⟨h4, c4, rfl, hc4, HI.out, b4⟩
end Go.Proofs.YtfbalpkjcfdakaaGreatDoor

/- The model's spoiled regions. Conditions as in TrQ. -/
namespace Go.Proofs.YtfbalpkjcfdakaaGreatDoor
open Go.RowKit
set_option linter.unusedVariables false
set_option linter.unusedSimpArgs false

set_option maxHeartbeats 4000000 in
theorem next1_any (g : Nat) (n : Int) (w : World) (hn : n ≤ 1) :
    Calls Tryz.prog 103 #[.pointer (some ⟨g, 0, none⟩), .int .i64 n] w fun e w' => e = .returned (.int .i64 0) ∧ w = w' := by
  go_enter Tryz.func103, Tryz.ntmps103
  go_wp2_with fail
  go_ret
  exact ⟨rfl, rfl⟩
/-- A number below a length. -/
theorem SrcAt.len {B g : Nat} {w w' : World} {a : Option Addr} {len cap : Nat} (h : SrcAt B g w w' a len cap) (m : Nat) (hlen : len ≤ 8192) (hg : B ≤ g) (h1 : 0 < m) (h2 : m ≤ 1000000) :
    Calls Tryz.prog 103 #[.pointer (some ⟨g, 0, none⟩), .int .i64 (m : Int)] w' fun e w'' => (∃ i : Nat, i < m ∧ e = .returned (.int .i64 (i : Int))) ∧ Only g w' w'' ∧ SrcAt B g w w'' a len cap := by
  by_cases hm : m = 1
  · subst hm
    refine (next1_any g _ w' (by omega)).mono ?_
    rintro e w'' ⟨rfl, rfl⟩
    exact ⟨⟨0, by omega, rfl⟩, Only.refl _ _, h⟩
  · refine (h.next2 (m : Int) hlen hg (by omega) (by omega)).mono ?_
    rintro e w'' ⟨⟨r, r0, r1, rfl⟩, on, hA⟩
    obtain ⟨i, rfl⟩ := Int.eq_ofNat_of_zero_le r0
    exact ⟨⟨i, by omega, rfl⟩, on, hA⟩
theorem SrcAt.setNew {B g b i : Nat} {w0 w : World} {a : Option Addr} {len cap : Nat} (h : SrcAt B g w0 w a len cap) (hb : w0.heap.size ≤ b) (hne : b ≠ g) (hB : B ≤ w0.heap.size) (v : Value) : SrcAt B g w0 (w.setCell ⟨b, i, none⟩ v) a len cap :=
  ⟨h.1.setNew hb v, h.2.1.set hne v, h.2.2.1.below ((Below.refl _ _).setCell (p := ⟨b, i, none⟩) (show B ≤ b by omega) v), by simpa using h.2.2.2⟩
set_option maxHeartbeats 4000000 in
theorem spoil1_any (B g : Nat) (p q r s : Int) (a : Option Addr) (len cap : Nat) (w0 w : World) (hlen : len ≤ 8192) (hg : B ≤ g) (hB : B ≤ w0.heap.size) (hA : SrcAt B g w0 w a len cap) :
    Calls Tryz.prog 104 #[.pointer (some ⟨g, 0, none⟩), .agg #[.int .i64 p, .int .i64 q, .int .i64 r, .int .i64 s], .int .i64 1] w fun e w' => (∃ p' q' r' s' : Int, e = .returned (.agg #[.int .i64 p', .int .i64 q', .int .i64 r', .int .i64 s'])) ∧ Only g w w' ∧ SrcAt B g w0 w' a len cap := by
  have hgl := hA.2.1.lt
  have hl00 := hA.1.size
  obtain ⟨wz, hwz⟩ : ∃ wz, wz = (w.alloc (.cells #[.int .i64 p, .int .i64 q, .int .i64 r, .int .i64 s] 65)).alloc (.cells #[.int .i64 0, .int .i64 0, .int .i64 0, .int .i64 0] 65) := ⟨_, rfl⟩
  have sz : wz.heap.size = w.heap.size + 2 := by rw [hwz]; simp
  have bz : Below w.heap.size w wz := by rw [hwz]; (repeat (first | (with_reducible exact Below.refl _ _) | (with_reducible refine Ext.drewN ?_ _) | (with_reducible refine Below.drew ?_) | (with_reducible refine Ext.alloc ?_ _) | (with_reducible refine Ext.setCell ?_ (by simp; try omega) _) | (with_reducible refine Ext.trans ?_ (by assumption)) | (with_reducible assumption) | exact Below.refl _ _))
  have HC : Hid ((wz.cell? ⟨w.heap.size, 0, none⟩ = some (.int .i64 p) ∧ wz.cell? ⟨w.heap.size, 1, none⟩ = some (.int .i64 q) ∧ wz.cell? ⟨w.heap.size, 2, none⟩ = some (.int .i64 r) ∧ wz.cell? ⟨w.heap.size, 3, none⟩ = some (.int .i64 s)) ∧ wz.cell? ⟨w.heap.size + 1, 0, none⟩ = some (.int .i64 0) ∧ wz.cell? ⟨w.heap.size + 1, 1, none⟩ = some (.int .i64 0) ∧ wz.cell? ⟨w.heap.size + 1, 2, none⟩ = some (.int .i64 0) ∧ wz.cell? ⟨w.heap.size + 1, 3, none⟩ = some (.int .i64 0)) := Lib.hid (by rw [hwz]; simp [go_sem])
  have HF : Hid (∀ b i, b = w.heap.size ∨ b = w.heap.size + 1 → i < 4 → wz.frozen? ⟨b, i, none⟩ = false) := Lib.hid fun b i hb hi => by
    rw [hwz]
    rcases hb with rfl | rfl <;> simp [go_sem]
  have A0 := Lib.hid (hA.ext bz)
  have HW := Lib.hid (Only.of_below (g := g) bz)
  clear hA
  go_enter Tryz.func104, Tryz.ntmps104
  go_wp2_with fail
  rw [← hwz]
  clear hwz bz
  refine (next1_any g 1 _ (by omega)).mono ?_
  rintro e w1 ⟨rfl, rfl⟩
  go_wp2_with fail
  refine (A0.out.next2 4 hlen hg (by omega) (by omega)).mono ?_
  rintro e w1 ⟨⟨r4, p4, q4, rfl⟩, on, hA1⟩
  obtain ⟨⟨c0, c1, c2, c3⟩, d0, d1, d2, d3⟩ := HC.out
  have c0 := on.cell c0 (by omega)
  have c1 := on.cell c1 (by omega)
  have c2 := on.cell c2 (by omega)
  have c3 := on.cell c3 (by omega)
  have d0 := on.cell d0 (by omega)
  have d1 := on.cell d1 (by omega)
  have d2 := on.cell d2 (by omega)
  have d3 := on.cell d3 (by omega)
  have f0 := on.frz (HF.out (w.heap.size) 0 (.inl rfl) (by omega)) (by omega) (by omega)
  have f1 := on.frz (HF.out (w.heap.size) 1 (.inl rfl) (by omega)) (by omega) (by omega)
  have f2 := on.frz (HF.out (w.heap.size) 2 (.inl rfl) (by omega)) (by omega) (by omega)
  have f3 := on.frz (HF.out (w.heap.size) 3 (.inl rfl) (by omega)) (by omega) (by omega)
  have e0 := on.frz (HF.out (w.heap.size + 1) 0 (.inr rfl) (by omega)) (by omega) (by omega)
  have e1 := on.frz (HF.out (w.heap.size + 1) 1 (.inr rfl) (by omega)) (by omega) (by omega)
  have e2 := on.frz (HF.out (w.heap.size + 1) 2 (.inr rfl) (by omega)) (by omega) (by omega)
  have e3 := on.frz (HF.out (w.heap.size + 1) 3 (.inr rfl) (by omega)) (by omega) (by omega)
  have HON := Lib.hid (HW.out.trans on)
  have HA1 := Lib.hid hA1
  have hs1 := on.size
  clear on hA1 HC HF A0 HW
  have h4 : r4 = 0 ∨ r4 = 1 ∨ r4 = 2 ∨ r4 = 3 := by omega
  have hl0 := HA1.out.1.size
  have hw0 : w0.heap.size ≤ w.heap.size := hl00
  rcases h4 with rfl | rfl | rfl | rfl
  · go_wp2_with fail
    refine bodyPost_ret (v := .agg #[.int .i64 p, .int .i64 q, .int .i64 p, .int .i64 s]) (by simp [d0, d1, d2, d3, e0, e1, e2, e3, results, Tryz.results104, go_sem]) rfl ⟨⟨_, _, _, _, rfl⟩, ?_, ?_⟩
    · exact ((((HON.out.setNew (Nat.le_refl _) _).setNew (Nat.le_succ _) _).setNew (Nat.le_succ _) _).setNew (Nat.le_succ _) _).setNew (Nat.le_succ _) _
    · exact ((((HA1.out.setNew hw0 (by omega) hB _).setNew (by omega) (by omega) hB _).setNew (by omega) (by omega) hB _).setNew (by omega) (by omega) hB _).setNew (by omega) (by omega) hB _
  · go_wp2_with fail
    refine bodyPost_ret (v := .agg #[.int .i64 p, .int .i64 q, .int .i64 r, .int .i64 (wrap64 (q - 1))]) (by simp [d0, d1, d2, d3, e0, e1, e2, e3, results, Tryz.results104, go_sem]) rfl ⟨⟨_, _, _, _, rfl⟩, ?_, ?_⟩
    · exact ((((HON.out.setNew (Nat.le_refl _) _).setNew (Nat.le_succ _) _).setNew (Nat.le_succ _) _).setNew (Nat.le_succ _) _).setNew (Nat.le_succ _) _
    · exact ((((HA1.out.setNew hw0 (by omega) hB _).setNew (by omega) (by omega) hB _).setNew (by omega) (by omega) hB _).setNew (by omega) (by omega) hB _).setNew (by omega) (by omega) hB _
  · go_wp2_with fail
    refine bodyPost_ret (v := .agg #[.int .i64 (-41), .int .i64 q, .int .i64 r, .int .i64 s]) (by simp [d0, d1, d2, d3, e0, e1, e2, e3, results, Tryz.results104, go_sem]) rfl ⟨⟨_, _, _, _, rfl⟩, ?_, ?_⟩
    · exact ((((HON.out.setNew (Nat.le_refl _) _).setNew (Nat.le_succ _) _).setNew (Nat.le_succ _) _).setNew (Nat.le_succ _) _).setNew (Nat.le_succ _) _
    · exact ((((HA1.out.setNew hw0 (by omega) hB _).setNew (by omega) (by omega) hB _).setNew (by omega) (by omega) hB _).setNew (by omega) (by omega) hB _).setNew (by omega) (by omega) hB _
  · go_wp2_with fail
    refine bodyPost_ret (v := .agg #[.int .i64 p, .int .i64 q, .int .i64 r, .int .i64 41]) (by simp [d0, d1, d2, d3, e0, e1, e2, e3, results, Tryz.results104, go_sem]) rfl ⟨⟨_, _, _, _, rfl⟩, ?_, ?_⟩
    · exact ((((HON.out.setNew (Nat.le_refl _) _).setNew (Nat.le_succ _) _).setNew (Nat.le_succ _) _).setNew (Nat.le_succ _) _).setNew (Nat.le_succ _) _
    · exact ((((HA1.out.setNew hw0 (by omega) hB _).setNew (by omega) (by omega) hB _).setNew (by omega) (by omega) hB _).setNew (by omega) (by omega) hB _).setNew (by omega) (by omega) hB _

theorem RecIs.ofOwn {w : World} {B h c : Nat} {l : List R4} (h' : w.ownsRow B 65 4 (.slice (some ⟨h, 0, none⟩) l.length c) l.length (recCells l)) : RecIs B w h l ∧ ∀ j, w.frozen? ⟨h, j, none⟩ = false := ⟨rec_own h', fun j => by
  obtain ⟨cur, hc⟩ := own_row h'
  exact frozen_of_row _ _ _ _ _ hc⟩
theorem RecIs.set2 {B h i : Nat} {w : World} {l : List R4} (hR : RecIs B w h l) (hi : i < l.length) (v : Int) : RecIs B (w.setCell ⟨h, i * 4 + 2, none⟩ (.int .i64 v)) h (l.set i { l.getD i default with c := v }) := by
  refine ⟨hR.1, by simpa using hR.2.1, fun k r hk => ?_⟩
  have hkl : k < l.length := by
    rcases Nat.lt_or_ge k l.length with h' | h'
    · exact h'
    · rw [List.getElem?_eq_none (by simpa using h')] at hk; cases hk
  by_cases e : k = i
  · subst e
    rw [List.getElem?_set_self hkl] at hk
    cases hk
    obtain ⟨c0, c1, c2, c3⟩ := hR.2.2 k _ (getD_get hkl)
    exact ⟨by rw [World.cell?_setCell_other _ _ _ _ (by simp <;> omega)]; exact c0, by rw [World.cell?_setCell_other _ _ _ _ (by simp <;> omega)]; exact c1, World.cell?_setCell_same _ _ _ c2, by rw [World.cell?_setCell_other _ _ _ _ (by simp <;> omega)]; exact c3⟩
  · rw [List.getElem?_set_ne (Ne.symm e)] at hk
    obtain ⟨c0, c1, c2, c3⟩ := hR.2.2 k _ hk
    exact ⟨by rw [World.cell?_setCell_other _ _ _ _ (by simp <;> omega)]; exact c0, by rw [World.cell?_setCell_other _ _ _ _ (by simp <;> omega)]; exact c1, by rw [World.cell?_setCell_other _ _ _ _ (by simp <;> omega)]; exact c2, by rw [World.cell?_setCell_other _ _ _ _ (by simp <;> omega)]; exact c3⟩
theorem RecIs.set4 {B h i : Nat} {w : World} {l : List R4} (hR : RecIs B w h l) (hi : i < l.length) (p q r s : Int) :
    RecIs B ((((w.setCell ⟨h, i * 4, none⟩ (.int .i64 p)).setCell ⟨h, i * 4 + 1, none⟩ (.int .i64 q)).setCell ⟨h, i * 4 + 2, none⟩ (.int .i64 r)).setCell ⟨h, i * 4 + 3, none⟩ (.int .i64 s)) h (l.set i ⟨p, q, r, s⟩) := by
  refine ⟨hR.1, by simpa using hR.2.1, fun k x hk => ?_⟩
  have hkl : k < l.length := by
    rcases Nat.lt_or_ge k l.length with h' | h'
    · exact h'
    · rw [List.getElem?_eq_none (by simpa using h')] at hk; cases hk
  by_cases e : k = i
  · subst e
    rw [List.getElem?_set_self hkl] at hk
    cases hk
    obtain ⟨c0, c1, c2, c3⟩ := hR.2.2 k _ (getD_get hkl)
    simp [go_sem, c0, c1, c2, c3]
  · rw [List.getElem?_set_ne (Ne.symm e)] at hk
    obtain ⟨c0, c1, c2, c3⟩ := hR.2.2 k _ hk
    have o : ∀ (w' : World) (j t : Nat) (v : Value), (j = k * 4 ∨ j = k * 4 + 1 ∨ j = k * 4 + 2 ∨ j = k * 4 + 3) → (t = i * 4 ∨ t = i * 4 + 1 ∨ t = i * 4 + 2 ∨ t = i * 4 + 3) → (w'.setCell ⟨h, t, none⟩ v).cell? ⟨h, j, none⟩ = w'.cell? ⟨h, j, none⟩ := fun w' j t v hj ht => World.cell?_setCell_other _ _ _ _ (by simp <;> omega)
    refine ⟨?_, ?_, ?_, ?_⟩
    · rw [o _ _ _ _ (by omega) (by omega), o _ _ _ _ (by omega) (by omega), o _ _ _ _ (by omega) (by omega), o _ _ _ _ (by omega) (by omega)]; exact c0
    · rw [o _ _ _ _ (by omega) (by omega), o _ _ _ _ (by omega) (by omega), o _ _ _ _ (by omega) (by omega), o _ _ _ _ (by omega) (by omega)]; exact c1
    · rw [o _ _ _ _ (by omega) (by omega), o _ _ _ _ (by omega) (by omega), o _ _ _ _ (by omega) (by omega), o _ _ _ _ (by omega) (by omega)]; exact c2
    · rw [o _ _ _ _ (by omega) (by omega), o _ _ _ _ (by omega) (by omega), o _ _ _ _ (by omega) (by omega), o _ _ _ _ (by omega) (by omega)]; exact c3
end Go.Proofs.YtfbalpkjcfdakaaGreatDoor

/- The model's spoiled regions. Conditions as in TrQ. -/
namespace Go.Proofs.YtfbalpkjcfdakaaGreatDoor
open Go.RowKit
set_option linter.unusedVariables false
set_option linter.unusedSimpArgs false

/-- What a drawn list of rectangles is. -/
def Spoilt (Bs B g : Nat) (w0 : World) (a : Option Addr) (len cap : Nat) (e : Ending) (w' : World) : Prop :=
  ∃ (h c : Nat) (l : List R4), e = .returned (.slice (some ⟨h, 0, none⟩) l.length c) ∧ l.length ≤ 3281 ∧ RecIs Bs w' h l ∧ SrcAt B g w0 w' a len cap

set_option maxRecDepth 100000 in
set_option maxHeartbeats 4000000 in
theorem spoil_any (Bs B g h c : Nat) (l : List R4) (n : Int) (a : Option Addr) (len cap : Nat) (w0 w : World) (hlen : len ≤ 8192) (hg : B ≤ g) (hB : B ≤ w0.heap.size) (hA : SrcAt B g w0 w a len cap) (hgB : g < Bs) (hBs : Bs ≤ w.heap.size) (hl : l.length ≤ 3280) (hR : RecIs Bs w h l) (h1n : 1 < n) (hn : n ≤ 1000) :
    Calls Tryz.prog 56 #[.pointer (some ⟨g, 0, none⟩), .slice (some ⟨h, 0, none⟩) l.length c, .int .i64 n] w fun e w' => Spoilt Bs B g w0 a len cap e w' := by
  obtain ⟨i0, hi0, hz0, hz1, hz2⟩ := info_parts Tryz.infoR
  have A0 := Lib.hid hA
  have HR := Lib.hid hR
  have hw0 := hA.1.size
  clear hA hR
  go_enter Tryz.func56, Tryz.ntmps56
  go_wp2_with fail
  refine (A0.out.next2 n hlen hg h1n (by omega)).mono ?_
  rintro e w1 ⟨⟨r, p1, q1, rfl⟩, on1, hA1⟩
  have A1 := Lib.hid hA1
  have HR1 := Lib.hid (HR.out.only on1 hgB)
  have l1 := on1.size
  clear on1 hA1 HR A0
  by_cases hr : r = 0
  · subst hr
    obtain ⟨wz, hwz⟩ : ∃ wz, wz = w1.alloc (.cells #[] 65) := ⟨_, rfl⟩
    have sz : wz.heap.size = w1.heap.size + 1 := by rw [hwz]; simp
    have bz : Below w1.heap.size w1 wz := by rw [hwz]; (repeat (first | (with_reducible exact Below.refl _ _) | (with_reducible refine Ext.drewN ?_ _) | (with_reducible refine Below.drew ?_) | (with_reducible refine Ext.alloc ?_ _) | (with_reducible refine Ext.setCell ?_ (by simp; try omega) _) | (with_reducible refine Ext.trans ?_ (by assumption)) | (with_reducible assumption) | exact Below.refl _ _))
    have OZ : Hid (wz.ownsRow w1.heap.size 65 4 (.slice (some ⟨w1.heap.size, 0, none⟩) 0 0) 0 []) := Lib.hid (by
      have hm := World.ownsRow_made (base := w1.heap.size) (size := 4) (e := 65) w1 #[] 0 (Nat.le_refl _) (by unfold maxLen; decide) rfl
      rw [hwz]
      exact hm)
    have HRz := Lib.hid (HR1.out.ext bz)
    have AZ := Lib.hid (A1.out.ext bz)
    go_upto_region 3 with fail
    refine wp_region_lit ?_
    go_wp2_with (at_builtin; rw [← hwz]; refine wpList_append_own _ rfl _ _ 26 rfl w1.heap.size 65 i0 (.agg #[.int .i64 0, .int .i64 0, .int .i64 0, .int .i64 0]) 4 32 Tryz.underlying26 hi0 hz0 hz1 hz2 rfl (by decide) _ _ _ rfl OZ.out ⟨h, 0, none⟩ l.length c (recCells l) rfl (recCells_len l) (rec_cells HRz.out) (rec_one l) (by unfold maxLen; omega) (by omega) (by omega) ?_; intro v' w4 hown4 hgrow hnil)
    have hnn : v' ≠ .slice none 0 0 := fun e => by have := (hnil.1 e).1; cases this
    have hrow : ∀ j, (Value.slice (some ⟨w1.heap.size, 0, none⟩) 0 0).ownBlock = some j → w1.heap.size ≤ j := fun j hj => (OZ.out.lt j hj).1
    have A4 := Lib.hid (AZ.out.grown hgrow (fun e' => by have := hrow g e'.symm; omega) (fun j hj => by have := hrow j hj; omega) hB)
    have l4 := hgrow.size
    obtain ⟨h4, c4, rfl, hc4, hown5⟩ := own_some (l := l) (by omega) hown4 hnn
    have O4 := Lib.hid hown5
    clear hown4 hown5 hgrow hnil hnn hrow OZ AZ HRz HR1 A1 hwz bz
    go_upto_region 4 with fail
    by_cases hl0 : l.length = 0
    · have hle : l = [] := List.eq_nil_of_length_eq_zero hl0
      subst hle
      have O4 : Hid (w4.ownsRow w1.heap.size 65 4 (.slice (some ⟨h4, 0, none⟩) 0 c4) 0 []) := O4
      clear hl0
      go_wp2_with fail
      rw [run_len_slice _ _ _ _ _ _ Tryz.underlying26]
      go_wp2_with (at_builtin; refine wpList_append_own _ rfl _ _ 26 rfl w1.heap.size 65 i0 (.agg #[.int .i64 0, .int .i64 0, .int .i64 0, .int .i64 0]) 4 32 Tryz.underlying26 hi0 hz0 hz1 hz2 rfl (by decide) _ _ _ rfl (O4.out.alloc _) ⟨w4.heap.size, 0, none⟩ 1 1 [.int .i64 0, .int .i64 0, .int .i64 0, .int .i64 0] rfl rfl (World.news_of_block (cs := #[.int .i64 0, .int .i64 0, .int .i64 0, .int .i64 0]) (t := 65) (fr := (0, 0)) (heap_alloc_new w4 _)) (by simp [Value.oneCell']) (by unfold maxLen; omega) (by omega) (by simp; omega) ?_; intro v' w9 hown9 hgrow9 hnil9)
      have hrow9 : ∀ j, (Value.slice (some ⟨h4, 0, none⟩) 0 c4).ownBlock = some j → w1.heap.size ≤ j := fun j hj => (O4.out.lt j hj).1
      have A9 := Lib.hid ((A4.out.ext ((Below.refl _ _).alloc (Nat.le_refl _) (.cells #[.int .i64 0, .int .i64 0, .int .i64 0, .int .i64 0] 65))).grown hgrow9 (fun e' => by have := hrow9 g e'.symm; omega) (fun j hj => by have := hrow9 j hj; omega) hB)
      obtain ⟨h9, c9, rfl, hown10⟩ := rec_next (l := []) (r := R4.mk 0 0 0 0) rfl hown9
      have HI := Lib.hid (rec_own hown10)
      clear hown9 hown10 hgrow9 hnil9 hrow9
      go_wp2_with fail
      go_ret
      exact ⟨h9, c9, [R4.mk 0 0 0 0], rfl, by simp, HI.out.lower (by omega), A9.out⟩
    · have hl0b : ((l.length : Int) == 0) = false := by rw [beq_eq_false_iff_ne]; omega
      go_wp2_with fail
      rw [run_len_slice _ _ _ _ _ _ Tryz.underlying26]
      go_wp2_with fail
      refine (A4.out.len l.length hlen hg (by omega) (by omega)).mono ?_
      rintro e w5 ⟨⟨i, hi, rfl⟩, on5, hA5⟩
      have O5 := Lib.hid (own_only O4.out on5 (by omega))
      have A5 := Lib.hid hA5
      have l5 := on5.size
      clear on5 hA5 A4 O4
      go_wp2_with fail
      refine (A5.out.next2 3 hlen hg (by omega) (by omega)).mono ?_
      rintro e w6 ⟨⟨r6, p6, q6, rfl⟩, on6, hA6⟩
      have O6 := Lib.hid (own_only O5.out on6 (by omega))
      have A6 := Lib.hid hA6
      have l6 := on6.size
      clear on6 hA6 A5 O5
      have qi : (i : Int) < (l.length : Int) := by omega
      have qi0 : (0 : Int) ≤ (i : Int) := by omega
      obtain ⟨hI6, hfz⟩ := RecIs.ofOwn O6.out
      obtain ⟨c0, c1, c2, c3⟩ := hI6.2.2 i _ (getD_get hi)
      have HI6 := Lib.hid hI6
      have HFZ := Lib.hid hfz
      have h46 : w1.heap.size ≤ h4 := hI6.1
      have h46' := hI6.2.1
      clear hI6 hfz
      obtain ⟨x, hx⟩ : ∃ x, x = l.getD i default := ⟨_, rfl⟩
      rw [← hx] at c0 c1 c2 c3
      have HX := Lib.hid hx
      clear hx
      have h3 : r6 = 0 ∨ r6 = 1 ∨ r6 = 2 := by omega
      rcases h3 with rfl | rfl | rfl
      · go_wp2_with fail
        refine (spoil1_any B g x.a x.b x.c x.d a len cap w0 _ hlen hg hB A6.out).mono ?_
        rintro e w7 ⟨⟨p', q', r', s', rfl⟩, on7, hA7⟩
        have HI7 := Lib.hid (HI6.out.only on7 (by omega))
        have A7 := Lib.hid hA7
        have f0 := on7.frz (HFZ.out (i * 4)) h46' (by omega)
        have f1 := on7.frz (HFZ.out (i * 4 + 1)) h46' (by omega)
        have f2 := on7.frz (HFZ.out (i * 4 + 2)) h46' (by omega)
        have f3 := on7.frz (HFZ.out (i * 4 + 3)) h46' (by omega)
        have d0 := on7.cell c0 (by omega)
        have d1 := on7.cell c1 (by omega)
        have d2 := on7.cell c2 (by omega)
        have d3 := on7.cell c3 (by omega)
        clear on7 hA7 c0 c1 c2 c3
        go_wp2_with fail
        go_ret
        exact ⟨h4, c4, l.set i ⟨p', q', r', s'⟩, by simp, by simp; omega, (HI7.out.set4 hi p' q' r' s').lower (by omega), (((A7.out.setNew (by omega) (by omega) hB _).setNew (by omega) (by omega) hB _).setNew (by omega) (by omega) hB _).setNew (by omega) (by omega) hB _⟩
      · go_wp2_with (at_builtin; refine wpList_append_own _ rfl _ _ 26 rfl w1.heap.size 65 i0 (.agg #[.int .i64 0, .int .i64 0, .int .i64 0, .int .i64 0]) 4 32 Tryz.underlying26 hi0 hz0 hz1 hz2 rfl (by decide) _ _ _ rfl (O6.out.alloc _) ⟨w6.heap.size, 0, none⟩ 1 1 [.int .i64 x.a, .int .i64 x.b, .int .i64 x.c, .int .i64 x.d] rfl rfl (World.news_of_block (cs := #[.int .i64 x.a, .int .i64 x.b, .int .i64 x.c, .int .i64 x.d]) (t := 65) (fr := (0, 0)) (heap_alloc_new w6 _)) (by simp [Value.oneCell']) (by unfold maxLen; omega) (by omega) (by simp; omega) ?_; intro v' w9 hown9 hgrow9 hnil9)
        have hrow9 : ∀ j, (Value.slice (some ⟨h4, 0, none⟩) l.length c4).ownBlock = some j → w1.heap.size ≤ j := fun j hj => (O6.out.lt j hj).1
        have A9 := Lib.hid ((A6.out.ext ((Below.refl _ _).alloc (Nat.le_refl _) (.cells #[.int .i64 x.a, .int .i64 x.b, .int .i64 x.c, .int .i64 x.d] 65))).grown hgrow9 (fun e' => by have := hrow9 g e'.symm; omega) (fun j hj => by have := hrow9 j hj; omega) hB)
        obtain ⟨h9, c9, rfl, hown10⟩ := rec_next (l := l) (r := x) rfl hown9
        have HI := Lib.hid (rec_own hown10)
        clear hown9 hown10 hgrow9 hnil9 hrow9
        go_wp2_with fail
        go_ret
        exact ⟨h9, c9, l ++ [x], rfl, by simp; omega, HI.out.lower (by omega), A9.out⟩
      · have f2 := HFZ.out (i * 4 + 2)
        go_wp2_with fail
        trace_state
        go_ret
        exact ⟨h4, c4, l.set i { x with c := wrap64 (x.c + 1) }, by simp, by simp; omega, (by have := HI6.out.set2 hi (wrap64 (x.c + 1)); rw [← HX.out] at this; exact this.lower (by omega)), A6.out.setNew (by omega) (by omega) hB _⟩
  · have hrb : (r == 0) = false := by simp [hr]
    go_wp2_with fail
    go_ret
    exact ⟨h, c, l, rfl, by omega, HR1.out, A1.out⟩
end Go.Proofs.YtfbalpkjcfdakaaGreatDoor

/- Two drawn lists of rectangles. Condition: the code's bytes lie in memory. -/
namespace Go.Proofs.YtfbalpkjcfdakaaGreatDoor
open Go.RowKit
set_option linter.unusedVariables false
set_option linter.unusedSimpArgs false

/-- A drawn list. -/
def DrawnOne (B : Nat) (w : World) (v : Value) (l : List R4) : Prop := ∃ h c : Nat, v = .slice (some ⟨h, 0, none⟩) l.length c ∧ l.length ≤ 3281 ∧ RecIs B w h l
def DrawnTwo (w : World) (e : Ending) (w' : World) : Prop := ∃ (u v : Value) (l m : List R4), e = .returned (.tuple #[u, v]) ∧ DrawnOne w.heap.size w' u l ∧ DrawnOne w.heap.size w' v m ∧ Below w.heap.size w w'
theorem SrcAt.rebase {B g : Nat} {w0 w : World} {a : Option Addr} {len cap : Nat} (h : SrcAt B g w0 w a len cap) : SrcAt B g w w a len cap := ⟨Only.refl _ _, h.2.1, h.2.2.1, h.2.2.2⟩


end Go.Proofs.YtfbalpkjcfdakaaGreatDoor

namespace Go.Proofs.YtfbalpkjcfdakaaGreatDoor
open Go.RowKit
set_option linter.unusedVariables false
set_option linter.unusedSimpArgs false
attribute [local go_sem ↓] Go.wp_at_zero Go.wp_at_succ

set_option maxHeartbeats 8000000 in
set_option maxRecDepth 100000 in
theorem sameRects_any (m' : Option Addr) (n cap' : Nat) (A B C D : Nat → Int) (m : Option Addr) (len cap : Nat) (P Q R S : Nat → Int) (w : World) (hlen : len ≤ 1048576) (hl : n ≤ 1048576) (hA : RectsIs w.heap.size w m' n A B C D) (hR : RectsIs w.heap.size w m len P Q R S) :
    Calls Tryz.prog 24 #[.slice m' n cap', .slice m len cap] w fun e w' => e = .returned (.bool (decide (listR A B C D n = listR P Q R S len))) ∧ Below w.heap.size w w' := by
  have HA := Lib.hid hA
  have HR := Lib.hid hR
  clear hA hR
  by_cases hne : n = len
  · subst hne
    have e0 : ((n : Int) != (n : Int)) = false := by simp
    go_enter Tryz.func24, Tryz.ntmps24
    go_wp2_with fail
    go_loopw [5] (fun s wr => ∃ k : Nat, k ≤ n ∧ s = .int .i64 k ∧ Below w.heap.size w wr ∧ ∀ j, j < k → R4.mk (A j) (B j) (C j) (D j) = R4.mk (P j) (Q j) (R j) (S j)) (fun s _ => n - (intOf s).toNat)
    case atStart => exact ⟨0, by omega, rfl, Below.refl _ _, fun j hj => by omega⟩
    case round =>
      obtain ⟨k, hk, rfl, hW, heq⟩ := hrel
      have HQ := Lib.hid heq
      clear heq
      by_cases hlt : k < n
      · obtain ⟨b1, o1, rfl, hb1, c0, c1, c2, c3⟩ := HR.out k hlt
        obtain ⟨b2, o2, rfl, hb2, a0, a1, a2, a3⟩ := HA.out k hlt
        have q1 : (k : Int) < (n : Int) := by omega
        have q0 : (0 : Int) ≤ (k : Int) := by omega
        have x0 := keepC hW a0
        have x1 := keepC hW a1
        have x2 := keepC hW a2
        have x3 := keepC hW a3
        have y0 := keepC hW c0
        have y1 := keepC hW c1
        have y2 := keepC hW c2
        have y3 := keepC hW c3
        clear a0 a1 a2 a3 c0 c1 c2 c3
        have hcmp := fun W : World => eqRc (A k) (B k) (C k) (D k) (P k) (Q k) (R k) (S k) W
        cases hv : eqRB (A k) (B k) (C k) (D k) (P k) (Q k) (R k) (S k) with
        | true =>
          rw [hv] at hcmp
          have HV := Lib.hid hv
          clear hv
          go_wp2_with fail
          go_region_held3 (fun w' => Below wr.heap.size wr w' ∧ w'.cell? ⟨b2, o2 + k * 4, none⟩ = some (.int .i64 (A k)) ∧ w'.cell? ⟨b2, o2 + k * 4 + 1, none⟩ = some (.int .i64 (B k)) ∧ w'.cell? ⟨b2, o2 + k * 4 + 2, none⟩ = some (.int .i64 (C k)) ∧ w'.cell? ⟨b2, o2 + k * 4 + 3, none⟩ = some (.int .i64 (D k)) ∧ w'.cell? ⟨b1, o1 + k * 4, none⟩ = some (.int .i64 (P k)) ∧ w'.cell? ⟨b1, o1 + k * 4 + 1, none⟩ = some (.int .i64 (Q k)) ∧ w'.cell? ⟨b1, o1 + k * 4 + 2, none⟩ = some (.int .i64 (R k)) ∧ w'.cell? ⟨b1, o1 + k * 4 + 3, none⟩ = some (.int .i64 (S k)))
            (first | ((try dsimp only); go_split_ands; (repeat' (with_reducible refine And.intro ?_ ?_)) <;> first | ((repeat (with_reducible refine keepS ?_ (by simp; try omega) _)); (first | (with_reducible assumption) | (with_reducible exact keepC (by assumption) (by assumption)) | (with_reducible exact keepA (by assumption) _) | (with_reducible exact keepR (by assumption) (by omega) _))) | ((try simp only [World.size_alloc, World.size_setCell, World.size_drew]); omega) | (refine Mats.below hM ?_ hM.size; (repeat (first | (with_reducible exact Below.refl _ _) | (with_reducible refine Ext.drewN ?_ _) | (with_reducible refine Below.drew ?_) | (with_reducible refine Ext.alloc ?_ _) | (with_reducible refine Ext.setCell ?_ (by simp; try omega) _) | (with_reducible refine Ext.trans ?_ (by assumption)) | (with_reducible assumption) | exact Below.refl _ _)); done) | ((repeat (first | (with_reducible exact Below.refl _ _) | (with_reducible refine Ext.drewN ?_ _) | (with_reducible refine Below.drew ?_) | (with_reducible refine Ext.alloc ?_ _) | (with_reducible refine Ext.setCell ?_ (by simp; try omega) _) | (with_reducible refine Ext.trans ?_ (by assumption)) | (with_reducible assumption) | exact Below.refl _ _)); done) | (go_keep; done)))
            (fail)
          go_wp2_with fail
          go_roundw
          case rel => exact ⟨k + 1, by omega, by go_num, by (repeat (first | (with_reducible exact Below.refl _ _) | (with_reducible refine Ext.drewN ?_ _) | (with_reducible refine Below.drew ?_) | (with_reducible refine Ext.alloc ?_ _) | (with_reducible refine Ext.setCell ?_ (by simp; try omega) _) | (with_reducible refine Ext.trans ?_ (by assumption)) | (with_reducible assumption) | exact Below.refl _ _)), fun j hj => by
            by_cases e : j = k
            · subst e
              have hv := HV.out
              unfold eqRB at hv
              simp only [Bool.and_eq_true, beq_iff_eq] at hv
              exact R4.ext' hv.1 hv.2.1 hv.2.2.1 hv.2.2.2
            · exact HQ.out j (by omega)⟩
          case measure => simp [intOf]; omega
        | false =>
          rw [hv] at hcmp
          have hres : decide (listR A B C D n = listR P Q R S n) = false := decide_eq_false (fun e => by
            have h1 := listR_getD A B C D n k hlt
            rw [e, listR_getD P Q R S n k hlt] at h1
            injection h1 with e1 e2 e3 e4
            rw [e1, e2, e3, e4] at hv
            simp [eqRB] at hv)
          have HRES := Lib.hid hres
          clear hres hv
          go_wp2_with fail
          go_region_held3 (fun w' => Below wr.heap.size wr w' ∧ w'.cell? ⟨b2, o2 + k * 4, none⟩ = some (.int .i64 (A k)) ∧ w'.cell? ⟨b2, o2 + k * 4 + 1, none⟩ = some (.int .i64 (B k)) ∧ w'.cell? ⟨b2, o2 + k * 4 + 2, none⟩ = some (.int .i64 (C k)) ∧ w'.cell? ⟨b2, o2 + k * 4 + 3, none⟩ = some (.int .i64 (D k)) ∧ w'.cell? ⟨b1, o1 + k * 4, none⟩ = some (.int .i64 (P k)) ∧ w'.cell? ⟨b1, o1 + k * 4 + 1, none⟩ = some (.int .i64 (Q k)) ∧ w'.cell? ⟨b1, o1 + k * 4 + 2, none⟩ = some (.int .i64 (R k)) ∧ w'.cell? ⟨b1, o1 + k * 4 + 3, none⟩ = some (.int .i64 (S k)))
            (first | ((try dsimp only); go_split_ands; (repeat' (with_reducible refine And.intro ?_ ?_)) <;> first | ((repeat (with_reducible refine keepS ?_ (by simp; try omega) _)); (first | (with_reducible assumption) | (with_reducible exact keepC (by assumption) (by assumption)) | (with_reducible exact keepA (by assumption) _) | (with_reducible exact keepR (by assumption) (by omega) _))) | ((try simp only [World.size_alloc, World.size_setCell, World.size_drew]); omega) | (refine Mats.below hM ?_ hM.size; (repeat (first | (with_reducible exact Below.refl _ _) | (with_reducible refine Ext.drewN ?_ _) | (with_reducible refine Below.drew ?_) | (with_reducible refine Ext.alloc ?_ _) | (with_reducible refine Ext.setCell ?_ (by simp; try omega) _) | (with_reducible refine Ext.trans ?_ (by assumption)) | (with_reducible assumption) | exact Below.refl _ _)); done) | ((repeat (first | (with_reducible exact Below.refl _ _) | (with_reducible refine Ext.drewN ?_ _) | (with_reducible refine Below.drew ?_) | (with_reducible refine Ext.alloc ?_ _) | (with_reducible refine Ext.setCell ?_ (by simp; try omega) _) | (with_reducible refine Ext.trans ?_ (by assumption)) | (with_reducible assumption) | exact Below.refl _ _)); done) | (go_keep; done)))
            (fail)
          go_wp2_with fail
          go_ret
          exact ⟨ret_bool HRES.out.symm, by (repeat (first | (with_reducible exact Below.refl _ _) | (with_reducible refine Ext.drewN ?_ _) | (with_reducible refine Below.drew ?_) | (with_reducible refine Ext.alloc ?_ _) | (with_reducible refine Ext.setCell ?_ (by simp; try omega) _) | (with_reducible refine Ext.trans ?_ (by assumption)) | (with_reducible assumption) | exact Below.refl _ _))⟩
      · have q1 : ¬ (k : Int) < (n : Int) := by omega
        obtain rfl : k = n := by omega
        have hres : decide (listR A B C D k = listR P Q R S k) = true := decide_eq_true (ext_R4 (by rw [listR_len, listR_len]) (fun j hj => by
          rw [listR_len] at hj
          rw [listR_getD A B C D k j hj, listR_getD P Q R S k j hj]
          exact HQ.out j hj))
        have HRES := Lib.hid hres
        clear hres
        go_wp2_with fail
        go_ret
        exact ⟨ret_bool HRES.out.symm, hW⟩
  · have e0 : ((n : Int) != (len : Int)) = true := by simp; omega
    have hres : decide (listR A B C D n = listR P Q R S len) = false := decide_eq_false (fun e => hne (by
      have := congrArg List.length e
      rwa [listR_len, listR_len] at this))
    have HRES := Lib.hid hres
    clear hres
    go_enter Tryz.func24, Tryz.ntmps24
    go_wp2_with fail
    go_ret
    exact ⟨ret_bool HRES.out.symm, Below.refl _ _⟩
theorem lawBigB_any (a : Option Addr) (len cap : Nat) (w : World) : Calls Tryz.prog 17 #[.slice a len cap] w fun e w' => e = .returned (.bool (decide (4096 < len))) ∧ w = w' := by
  by_cases h : 4096 < len
  all_goals
    go_enter Tryz.func17, Tryz.ntmps17
    go_wp2
    go_ret
    exact ⟨ret_bool (by simp [h]; try omega), rfl⟩
/-- Two lists with the same cells. -/
theorem same_yes {l m : List R4} {f g : Nat → Bool} (hl : l = canonL f) (hm : m = canonL g) (h : ∀ k, f k = g k) : decide (listR (pA l) (pB l) (pC l) (pD l) l.length = listR (pA m) (pB m) (pC m) (pD m) m.length) = true := by
  rw [show f = g from funext h] at hl
  rw [hl, hm]
  exact decide_eq_true rfl
end Go.Proofs.YtfbalpkjcfdakaaGreatDoor

namespace Go.Proofs.YtfbalpkjcfdakaaGreatDoor
open Go.RowKit
set_option linter.unusedVariables false
set_option linter.unusedSimpArgs false

set_option maxHeartbeats 4000000 in
theorem spoil60_any (B g : Nat) (p q r s : Int) (a : Option Addr) (len cap : Nat) (w0 w : World) (hlen : len ≤ 8192) (hg : B ≤ g) (hB : B ≤ w0.heap.size) (hA : SrcAt B g w0 w a len cap) :
    Calls Tryz.prog 104 #[.pointer (some ⟨g, 0, none⟩), .agg #[.int .i64 p, .int .i64 q, .int .i64 r, .int .i64 s], .int .i64 60] w fun e w' => (∃ p' q' r' s' : Int, e = .returned (.agg #[.int .i64 p', .int .i64 q', .int .i64 r', .int .i64 s'])) ∧ Only g w w' ∧ SrcAt B g w0 w' a len cap := by
  have hgl := hA.2.1.lt
  have hl00 := hA.1.size
  obtain ⟨wz, hwz⟩ : ∃ wz, wz = (w.alloc (.cells #[.int .i64 p, .int .i64 q, .int .i64 r, .int .i64 s] 65)).alloc (.cells #[.int .i64 0, .int .i64 0, .int .i64 0, .int .i64 0] 65) := ⟨_, rfl⟩
  have sz : wz.heap.size = w.heap.size + 2 := by rw [hwz]; simp
  have bz : Below w.heap.size w wz := by rw [hwz]; (repeat (first | (with_reducible exact Below.refl _ _) | (with_reducible refine Ext.drewN ?_ _) | (with_reducible refine Below.drew ?_) | (with_reducible refine Ext.alloc ?_ _) | (with_reducible refine Ext.setCell ?_ (by simp; try omega) _) | (with_reducible refine Ext.trans ?_ (by assumption)) | (with_reducible assumption) | exact Below.refl _ _))
  have HC : Hid ((wz.cell? ⟨w.heap.size, 0, none⟩ = some (.int .i64 p) ∧ wz.cell? ⟨w.heap.size, 1, none⟩ = some (.int .i64 q) ∧ wz.cell? ⟨w.heap.size, 2, none⟩ = some (.int .i64 r) ∧ wz.cell? ⟨w.heap.size, 3, none⟩ = some (.int .i64 s)) ∧ wz.cell? ⟨w.heap.size + 1, 0, none⟩ = some (.int .i64 0) ∧ wz.cell? ⟨w.heap.size + 1, 1, none⟩ = some (.int .i64 0) ∧ wz.cell? ⟨w.heap.size + 1, 2, none⟩ = some (.int .i64 0) ∧ wz.cell? ⟨w.heap.size + 1, 3, none⟩ = some (.int .i64 0)) := Lib.hid (by rw [hwz]; simp [go_sem])
  have HF : Hid (∀ b i, b = w.heap.size ∨ b = w.heap.size + 1 → i < 4 → wz.frozen? ⟨b, i, none⟩ = false) := Lib.hid fun b i hb hi => by
    rw [hwz]
    rcases hb with rfl | rfl <;> simp [go_sem]
  have A0 := Lib.hid (hA.ext bz)
  have HW := Lib.hid (Only.of_below (g := g) bz)
  clear hA
  go_enter Tryz.func104, Tryz.ntmps104
  go_wp2_with fail
  rw [← hwz]
  clear hwz bz
  refine (A0.out.next2 60 hlen hg (by omega) (by omega)).mono ?_
  rintro e wx ⟨⟨rx, px, qx, rfl⟩, on0, hA0⟩
  obtain ⟨⟨z0, z1, z2, z3⟩, y0, y1, y2, y3⟩ := HC.out
  have z0 := on0.cell z0 (by omega)
  have z1 := on0.cell z1 (by omega)
  have z2 := on0.cell z2 (by omega)
  have z3 := on0.cell z3 (by omega)
  have y0 := on0.cell y0 (by omega)
  have y1 := on0.cell y1 (by omega)
  have y2 := on0.cell y2 (by omega)
  have y3 := on0.cell y3 (by omega)
  have HF := Lib.hid (fun b i (hb : b = w.heap.size ∨ b = w.heap.size + 1) (hi : i < 4) => on0.frz (HF.out b i hb hi) (by omega) (by omega))
  have HW := Lib.hid (HW.out.trans on0)
  have sx := on0.size
  have A0 := Lib.hid hA0
  clear hA0 on0
  by_cases hx : rx = 0
  case neg =>
    have qz : (rx != 0) = true := by simpa using hx
    have e0 := HF.out (w.heap.size + 1) 0 (.inr rfl) (by omega)
    have e1 := HF.out (w.heap.size + 1) 1 (.inr rfl) (by omega)
    have e2 := HF.out (w.heap.size + 1) 2 (.inr rfl) (by omega)
    have e3 := HF.out (w.heap.size + 1) 3 (.inr rfl) (by omega)
    have hw0 : w0.heap.size ≤ w.heap.size := hl00
    clear HC
    go_wp2_with fail
    refine bodyPost_ret (v := .agg #[.int .i64 p, .int .i64 q, .int .i64 r, .int .i64 s]) (by simp [y0, y1, y2, y3, e0, e1, e2, e3, results, Tryz.results104, go_sem]) rfl ⟨⟨_, _, _, _, rfl⟩, ?_, ?_⟩
    · exact (((HW.out.setNew (Nat.le_succ _) _).setNew (Nat.le_succ _) _).setNew (Nat.le_succ _) _).setNew (Nat.le_succ _) _
    · exact (((A0.out.setNew (by omega) (by omega) hB _).setNew (by omega) (by omega) hB _).setNew (by omega) (by omega) hB _).setNew (by omega) (by omega) hB _
  subst hx
  have HC := Lib.hid (And.intro (And.intro z0 (And.intro z1 (And.intro z2 z3))) (And.intro y0 (And.intro y1 (And.intro y2 y3))))
  clear z0 z1 z2 z3 y0 y1 y2 y3
  go_wp2_with fail
  refine (A0.out.next2 4 hlen hg (by omega) (by omega)).mono ?_
  rintro e w1 ⟨⟨r4, p4, q4, rfl⟩, on, hA1⟩
  obtain ⟨⟨c0, c1, c2, c3⟩, d0, d1, d2, d3⟩ := HC.out
  have c0 := on.cell c0 (by omega)
  have c1 := on.cell c1 (by omega)
  have c2 := on.cell c2 (by omega)
  have c3 := on.cell c3 (by omega)
  have d0 := on.cell d0 (by omega)
  have d1 := on.cell d1 (by omega)
  have d2 := on.cell d2 (by omega)
  have d3 := on.cell d3 (by omega)
  have f0 := on.frz (HF.out (w.heap.size) 0 (.inl rfl) (by omega)) (by omega) (by omega)
  have f1 := on.frz (HF.out (w.heap.size) 1 (.inl rfl) (by omega)) (by omega) (by omega)
  have f2 := on.frz (HF.out (w.heap.size) 2 (.inl rfl) (by omega)) (by omega) (by omega)
  have f3 := on.frz (HF.out (w.heap.size) 3 (.inl rfl) (by omega)) (by omega) (by omega)
  have e0 := on.frz (HF.out (w.heap.size + 1) 0 (.inr rfl) (by omega)) (by omega) (by omega)
  have e1 := on.frz (HF.out (w.heap.size + 1) 1 (.inr rfl) (by omega)) (by omega) (by omega)
  have e2 := on.frz (HF.out (w.heap.size + 1) 2 (.inr rfl) (by omega)) (by omega) (by omega)
  have e3 := on.frz (HF.out (w.heap.size + 1) 3 (.inr rfl) (by omega)) (by omega) (by omega)
  have HON := Lib.hid (HW.out.trans on)
  have HA1 := Lib.hid hA1
  have hs1 := on.size
  clear on hA1 HC HF A0 HW
  have h4 : r4 = 0 ∨ r4 = 1 ∨ r4 = 2 ∨ r4 = 3 := by omega
  have hl0 := HA1.out.1.size
  have hw0 : w0.heap.size ≤ w.heap.size := hl00
  rcases h4 with rfl | rfl | rfl | rfl
  · go_wp2_with fail
    refine bodyPost_ret (v := .agg #[.int .i64 p, .int .i64 q, .int .i64 p, .int .i64 s]) (by simp [d0, d1, d2, d3, e0, e1, e2, e3, results, Tryz.results104, go_sem]) rfl ⟨⟨_, _, _, _, rfl⟩, ?_, ?_⟩
    · exact ((((HON.out.setNew (Nat.le_refl _) _).setNew (Nat.le_succ _) _).setNew (Nat.le_succ _) _).setNew (Nat.le_succ _) _).setNew (Nat.le_succ _) _
    · exact ((((HA1.out.setNew hw0 (by omega) hB _).setNew (by omega) (by omega) hB _).setNew (by omega) (by omega) hB _).setNew (by omega) (by omega) hB _).setNew (by omega) (by omega) hB _
  · go_wp2_with fail
    refine bodyPost_ret (v := .agg #[.int .i64 p, .int .i64 q, .int .i64 r, .int .i64 (wrap64 (q - 1))]) (by simp [d0, d1, d2, d3, e0, e1, e2, e3, results, Tryz.results104, go_sem]) rfl ⟨⟨_, _, _, _, rfl⟩, ?_, ?_⟩
    · exact ((((HON.out.setNew (Nat.le_refl _) _).setNew (Nat.le_succ _) _).setNew (Nat.le_succ _) _).setNew (Nat.le_succ _) _).setNew (Nat.le_succ _) _
    · exact ((((HA1.out.setNew hw0 (by omega) hB _).setNew (by omega) (by omega) hB _).setNew (by omega) (by omega) hB _).setNew (by omega) (by omega) hB _).setNew (by omega) (by omega) hB _
  · go_wp2_with fail
    refine bodyPost_ret (v := .agg #[.int .i64 (-41), .int .i64 q, .int .i64 r, .int .i64 s]) (by simp [d0, d1, d2, d3, e0, e1, e2, e3, results, Tryz.results104, go_sem]) rfl ⟨⟨_, _, _, _, rfl⟩, ?_, ?_⟩
    · exact ((((HON.out.setNew (Nat.le_refl _) _).setNew (Nat.le_succ _) _).setNew (Nat.le_succ _) _).setNew (Nat.le_succ _) _).setNew (Nat.le_succ _) _
    · exact ((((HA1.out.setNew hw0 (by omega) hB _).setNew (by omega) (by omega) hB _).setNew (by omega) (by omega) hB _).setNew (by omega) (by omega) hB _).setNew (by omega) (by omega) hB _
  · go_wp2_with fail
    refine bodyPost_ret (v := .agg #[.int .i64 p, .int .i64 q, .int .i64 r, .int .i64 41]) (by simp [d0, d1, d2, d3, e0, e1, e2, e3, results, Tryz.results104, go_sem]) rfl ⟨⟨_, _, _, _, rfl⟩, ?_, ?_⟩
    · exact ((((HON.out.setNew (Nat.le_refl _) _).setNew (Nat.le_succ _) _).setNew (Nat.le_succ _) _).setNew (Nat.le_succ _) _).setNew (Nat.le_succ _) _
    · exact ((((HA1.out.setNew hw0 (by omega) hB _).setNew (by omega) (by omega) hB _).setNew (by omega) (by omega) hB _).setNew (by omega) (by omega) hB _).setNew (by omega) (by omega) hB _


end Go.Proofs.YtfbalpkjcfdakaaGreatDoor

namespace Go.Proofs.YtfbalpkjcfdakaaGreatDoor
open Go.RowKit
set_option linter.unusedVariables false
set_option linter.unusedSimpArgs false

theorem one_runs_in {p q r s : Int} (h : rvB p q r s = true) (y : Int) (h1 : q ≤ y) (h2 : y < s) : runsL (covF (fun _ => p) (fun _ => q) (fun _ => r) (fun _ => s) 1) y = [p, r] := by
  obtain ⟨v1, v2, v3, v4, v5, v6⟩ := rvB_t h
  refine runsL_of _ y [p, r] ?_ ?_ (by simp) ?_
  · simp [incL]; omega
  · intro u hu
    simp only [List.mem_cons, List.not_mem_nil, or_false] at hu
    rcases hu with rfl | rfl <;> omega
  · intro x x1 x2
    rw [hasB_in ⟨⟨x1, x2⟩, by omega, by omega⟩, covF_at _ _ _ _ _ x1 x2 (by omega) (by omega)]
    simp [covB, inP, h1, h2]
theorem one_runs_out {p q r s : Int} (h : rvB p q r s = true) (y : Int) (h1 : y < q ∨ s ≤ y) : runsL (covF (fun _ => p) (fun _ => q) (fun _ => r) (fun _ => s) 1) y = [] := by
  refine runsL_of _ y [] ?_ ?_ (by simp) ?_
  · trivial
  · intro u hu; cases hu
  · intro x x1 x2
    by_cases hy : -40 ≤ y ∧ y ≤ 39
    · rw [hasB_in ⟨⟨x1, x2⟩, hy⟩, covF_at _ _ _ _ _ x1 x2 hy.1 hy.2]
      have : (decide (q ≤ y) && decide (y < s)) = false := by
        rcases h1 with h1 | h1
        · rw [decide_eq_false (by omega)]; rfl
        · rw [decide_eq_false (p := y < s) (by omega), Bool.and_false]
      simp only [covB, inP, Bool.false_or]
      rw [Bool.and_assoc, this, Bool.and_false]
    · rw [hasB_out (fun hh => hy hh.2)]; rfl
/-- One valid rectangle is the region of its cells. -/
theorem one_canon {p q r s : Int} (h : rvB p q r s = true) : canonL (covF (fun _ => p) (fun _ => q) (fun _ => r) (fun _ => s) 1) = [⟨p, q, r, s⟩] := by
  obtain ⟨v1, v2, v3, v4, v5, v6⟩ := rvB_t h
  rw [canonL_bands _ [⟨q, s, [p, r]⟩] ?_]
  · rfl
  · refine ⟨by show -40 ≤ q; omega, by show q < s; omega, by show s ≤ 40; omega, by simp, fun y y1 y2 => one_runs_out h y (.inl y2), fun y y1 y2 => one_runs_in h y y1 y2, fun _ => ?_, fun y y1 y2 => one_runs_out h y (.inr y1)⟩
    rw [one_runs_out h s (.inr (Int.le_refl _))]
    simp
theorem one_ok {p q r s : Int} (h : rvB p q r s = true) : okR (fun _ => p) (fun _ => q) (fun _ => r) (fun _ => s) 1 = true :=
  (okR_iff _ _ _ _ _).2 ⟨fun _ _ => h, by rw [one_canon h]; rfl⟩
end Go.Proofs.YtfbalpkjcfdakaaGreatDoor

namespace Go.Proofs.YtfbalpkjcfdakaaGreatDoor
open Go.RowKit Go.Shelf
set_option linter.unusedVariables false
set_option linter.unusedSimpArgs false
attribute [local go_sem] Oper.semAt_some

/-- .. in memory of its own, with room. -/
def LOwn2C (B : Nat) (l : List R4) (b : Bool) (e : Ending) (w : World) : Prop := ∃ a c, e = .returned (.tuple #[.slice a l.length c, .bool b]) ∧ l.length ≤ c ∧ OwnsL B w a l
theorem ownsL_ownC {w : World} {B : Nat} {v : Value} {l : List R4} (h : w.ownsRow B 65 4 v l.length (recCells l)) : ∃ a c, v = .slice a l.length c ∧ l.length ≤ c ∧ OwnsL B w a l := by
  have hh := h
  rcases h.2 with ⟨rfl, h0⟩ | ⟨g, cap, cur, rfl, h1, h2, h3, h9⟩
  · have hl : l = [] := List.eq_nil_of_length_eq_zero h0
    subst hl
    exact ⟨none, 0, rfl, Nat.le_refl _, .inl rfl⟩
  · have hr := rec_own hh
    refine ⟨_, cap, rfl, h3, .inr ⟨g, rfl, h1, hr.2.1, fun k hk => ?_⟩⟩
    obtain ⟨c0, c1, c2, c3⟩ := hr.2.2 k _ (getD_get hk)
    exact ⟨⟨c0, c1, c2, c3⟩, frozen_of_row _ _ _ _ _ h2, frozen_of_row _ _ _ _ _ h2, frozen_of_row _ _ _ _ _ h2, frozen_of_row _ _ _ _ _ h2⟩
set_option maxRecDepth 100000 in
set_option maxHeartbeats 4000000 in
theorem regionOfC_any (m : Option Addr) (n cap : Nat) (P Q R S : Nat → Int) (w : World) (hn : n ≤ 1048576) (hcap : n ≤ cap) (hD : EnvW w) (hR : RectsIs w.heap.size w m n P Q R S) :
    Calls Tryz.prog 150 #[.slice m n cap] w fun e w' => LOwn2C w.heap.size (roL P Q R S n) (okV P Q R S n) e w' ∧ Below w.heap.size w w' := by
  have hz := zero59
  unfold roL
  rw [okV_N]
  cases hok : okN P Q R S n with
  | false =>
    rw [if_neg (by simp)]
    go_enter Tryz.func150, Tryz.ntmps150
    go_wp2_with (first | (go_at_call 147; refine (cells_any m n cap P Q R S _ (hD.chip.ext (by (repeat (first | (with_reducible exact Below.refl _ _) | (with_reducible refine Ext.drewN ?_ _) | (with_reducible refine Below.drew ?_) | (with_reducible refine Ext.alloc ?_ _) | (with_reducible refine Ext.setCell ?_ (by simp; try omega) _) | (with_reducible refine Ext.trans ?_ (by assumption)) | (with_reducible assumption) | exact Below.refl _ _)))) hn hcap (hR.ext (by (repeat (first | (with_reducible exact Below.refl _ _) | (with_reducible refine Ext.drewN ?_ _) | (with_reducible refine Below.drew ?_) | (with_reducible refine Ext.alloc ?_ _) | (with_reducible refine Ext.setCell ?_ (by simp; try omega) _) | (with_reducible refine Ext.trans ?_ (by assumption)) | (with_reducible assumption) | exact Below.refl _ _))))).mono ?_; rintro e w1 ⟨rfl, bw1⟩; rw [hok]; have r3 := RowsAt.new w1 (fun _ => 0); have st3 := store59 (cellsG P Q R S n) r3; have st4 := storeAt59 (cellsG P Q R S n) r3; have sz3 := wArr_size (cellsG P Q R S n); have hb3 : Below w1.heap.size w1 ((w1.alloc (.cells (wArr fun _ => 0) 86)).setRow w1.heap.size (wArr (cellsG P Q R S n))) := ((Below.refl _ _).alloc (Nat.le_refl _) _).trans (below_setRow _ _ (Nat.le_refl _))))
    have bw : Below w.heap.size w w1 := by (repeat (first | (with_reducible exact Below.refl _ _) | (with_reducible refine Ext.drewN ?_ _) | (with_reducible refine Below.drew ?_) | (with_reducible refine Ext.alloc ?_ _) | (with_reducible refine Ext.setCell ?_ (by simp; try omega) _) | (with_reducible refine Ext.trans ?_ (by assumption)) | (with_reducible assumption) | exact Below.refl _ _))
    exact bodyPost_ret (v := .tuple #[.slice none 0 0, .bool false]) (by simp [results, Tryz.results150, go_sem]) rfl ⟨⟨none, 0, rfl, Nat.le_refl _, .inl rfl⟩, Ext.trans bw hb3⟩
  | true =>
    rw [if_pos rfl]
    have hcg : cellsG P Q R S n = rowsG (rowsQ n P Q R S n) := by unfold cellsG; rw [hok]; rfl
    have hv : ∀ i, i < n → rvB (P i) (Q i) (R i) (S i) = true := fun i hi => by
      unfold okN at hok
      simp only [Bool.and_eq_true] at hok
      exact allV_at hok.2 hi
    have HCG := Lib.hid hcg
    have HV := Lib.hid hv
    clear hcg hv
    go_enter Tryz.func150, Tryz.ntmps150
    go_wp2_with (first | (go_at_call 147; refine (cells_any m n cap P Q R S _ (hD.chip.ext (by (repeat (first | (with_reducible exact Below.refl _ _) | (with_reducible refine Ext.drewN ?_ _) | (with_reducible refine Below.drew ?_) | (with_reducible refine Ext.alloc ?_ _) | (with_reducible refine Ext.setCell ?_ (by simp; try omega) _) | (with_reducible refine Ext.trans ?_ (by assumption)) | (with_reducible assumption) | exact Below.refl _ _)))) hn hcap (hR.ext (by (repeat (first | (with_reducible exact Below.refl _ _) | (with_reducible refine Ext.drewN ?_ _) | (with_reducible refine Below.drew ?_) | (with_reducible refine Ext.alloc ?_ _) | (with_reducible refine Ext.setCell ?_ (by simp; try omega) _) | (with_reducible refine Ext.trans ?_ (by assumption)) | (with_reducible assumption) | exact Below.refl _ _))))).mono ?_; rintro e w1 ⟨rfl, bw1⟩; rw [hok]; have r3 := RowsAt.new w1 (fun _ => 0); have st3 := store59 (cellsG P Q R S n) r3; have st4 := storeAt59 (cellsG P Q R S n) r3; have sz3 := wArr_size (cellsG P Q R S n); have hb3 : Below w1.heap.size w1 ((w1.alloc (.cells (wArr fun _ => 0) 86)).setRow w1.heap.size (wArr (cellsG P Q R S n))) := ((Below.refl _ _).alloc (Nat.le_refl _) _).trans (below_setRow _ _ (Nat.le_refl _))) | (go_at_call 62; refine (region_any _ _).mono ?_; rintro e w4 ⟨rfl, hw4⟩; subst hw4))
    have bw : Below w.heap.size w w1 := by (repeat (first | (with_reducible exact Below.refl _ _) | (with_reducible refine Ext.drewN ?_ _) | (with_reducible refine Below.drew ?_) | (with_reducible refine Ext.alloc ?_ _) | (with_reducible refine Ext.setCell ?_ (by simp; try omega) _) | (with_reducible refine Ext.trans ?_ (by assumption)) | (with_reducible assumption) | exact Below.refl _ _))
    have r4 := r3.setRow (cellsG P Q R S n)
    obtain ⟨w3, hw3⟩ : ∃ w3, w3 = (w1.alloc (.cells (wArr fun _ => 0) 86)).setRow w1.heap.size (wArr (cellsG P Q R S n)) := ⟨_, rfl⟩
    rw [← hw3] at hb3 r4 ⊢
    have s3 : w3.heap.size = w1.heap.size + 1 := by rw [hw3, setRow_size]; simp
    have B3 := Ext.trans bw hb3
    obtain ⟨wS, hwS⟩ : ∃ wS, wS = w3.alloc (.cells #[.pointer (some ⟨w1.heap.size, 0, none⟩)] 143) := ⟨_, rfl⟩
    have bS : Below w3.heap.size w3 wS := by rw [hwS]; (repeat (first | (with_reducible exact Below.refl _ _) | (with_reducible refine Ext.drewN ?_ _) | (with_reducible refine Below.drew ?_) | (with_reducible refine Ext.alloc ?_ _) | (with_reducible refine Ext.setCell ?_ (by simp; try omega) _) | (with_reducible refine Ext.trans ?_ (by assumption)) | (with_reducible assumption) | exact Below.refl _ _))
    have cS : wS.cell? ⟨w3.heap.size, 0, none⟩ = some (.pointer (some ⟨w1.heap.size, 0, none⟩)) := by rw [hwS]; simp [go_sem]
    have BS := Ext.trans B3 bS
    rw [s3] at cS
    have r5 := r4.ext bS
    rw [← hwS]
    clear hwS hw3 st3 st4 sz3 r3 r4 bw1
    refine (collect_any (w1.heap.size + 1) w1.heap.size (covF P Q R S n) (cellsG P Q R S n) wS cS r5 (by rw [HCG.out]; exact rows_of_list (Nat.le_refl _) HV.out) (hD.deb.ext BS)).mono ?_
    rintro e w5 ⟨⟨v, rfl, hv⟩, bw5⟩
    obtain ⟨a, c, rfl, hkc, ho⟩ := ownsL_ownC hv
    have HO := Lib.hid ho
    clear ho hv
    go_wp2_with fail
    exact bodyPost_ret (v := .tuple #[.slice a (canonL (covF P Q R S n)).length c, .bool true]) (by simp [results, Tryz.results150, go_sem]) rfl ⟨⟨a, c, rfl, hkc, HO.out.mono BS.size⟩, Ext.trans BS bw5⟩
end Go.Proofs.YtfbalpkjcfdakaaGreatDoor

namespace Go.Proofs.YtfbalpkjcfdakaaGreatDoor
open Go.RowKit
set_option linter.unusedVariables false
set_option linter.unusedSimpArgs false
theorem CodeIs.up {B C : Nat} {w : World} {a : Option Addr} {len : Nat} (h : CodeIs B w a len) (hBC : B ≤ C) : CodeIs C w a len := fun k hk => by
  obtain ⟨b, off, v, h1, h2, h3⟩ := h k hk
  exact ⟨b, off, v, h1, Nat.lt_of_lt_of_le h2 hBC, h3⟩
theorem infoU8 : (Tryz.prog.info? 5).map (fun i => (i.zero, i.size, i.bytes)) = some (some (.int .u8 0), 1, 1) := by kernel_rfl
theorem adN (b o k : Nat) : (⟨b, o, none⟩ : Addr).add k = ⟨b, o + k, none⟩ := by
  by_cases h : k = 0
  · subst h; simp [Addr.add]
  · simp [Addr.add, h]
def byteV (v : Value) : Prop := ∃ x : Int, v = .int .u8 x ∧ 0 ≤ x ∧ x ≤ 255
theorem code_news {B : Nat} {w : World} {ad : Addr} {len : Nat} (h : CodeIs B w (some ad) len) : ∃ news : List Value, news.length = len ∧ (∀ j u, news[j]? = some u → w.cell? (ad.add j) = some u) ∧ ∀ u ∈ news, byteV u := by
  have H : ∀ k, k < len → ∃ v : Int, w.cell? (ad.add k) = some (.int .u8 v) ∧ 0 ≤ v ∧ v ≤ 255 := fun k hk => by
    obtain ⟨b, off, v, h1, h2, h3, h4⟩ := h k hk
    injection h1 with e
    subst e
    exact ⟨v, by rw [adN]; exact h3, h4⟩
  refine ⟨(List.range len).map fun k => .int .u8 (if hk : k < len then Classical.choose (H k hk) else 0), by simp, fun j u hj => ?_, fun u hu => ?_⟩
  · have hjl : j < len := by
      have := (List.getElem?_eq_some_iff.1 hj).1
      simpa using this
    rw [List.getElem?_map, List.getElem?_range hjl] at hj
    simp only [Option.map_some, Option.some.injEq, dif_pos hjl] at hj
    subst hj
    exact (Classical.choose_spec (H j hjl)).1
  · obtain ⟨k, hk, rfl⟩ := List.mem_map.1 hu
    have hkl := List.mem_range.1 hk
    refine ⟨_, rfl, ?_⟩
    simp only [dif_pos hkl]
    exact (Classical.choose_spec (H k hkl)).2
theorem own_code {w : World} {B n : Nat} {v : Value} {xs : List Value} (h : w.ownsRow B 5 1 v n xs) (hv : v ≠ .slice none 0 0) (hx : ∀ u ∈ xs, byteV u) : ∃ h c, v = .slice (some ⟨h, 0, none⟩) n c ∧ CodeIs w.heap.size w (some ⟨h, 0, none⟩) n := by
  have hl := h.1
  rcases h.2 with ⟨rfl, _⟩ | ⟨g, cap, cur, rfl, _, hg, _, _⟩
  · exact absurd rfl hv
  · refine ⟨g, cap, rfl, fun k hk => ?_⟩
    obtain ⟨u, hu⟩ : ∃ u, xs[k]? = some u := ⟨xs[k]'(by omega), List.getElem?_eq_getElem (by omega)⟩
    obtain ⟨x, rfl, h0, h1⟩ := hx u (List.mem_of_getElem? hu)
    exact ⟨g, 0, x, rfl, (Array.getElem?_eq_some_iff.1 hg).1, by have := h.cells (g := g) rfl k _ hu; rwa [adN] at this, h0, h1⟩
end Go.Proofs.YtfbalpkjcfdakaaGreatDoor

namespace Go.Proofs.YtfbalpkjcfdakaaGreatDoor
open Go.RowKit Go.Shelf
set_option linter.unusedVariables false
set_option linter.unusedSimpArgs false
attribute [local go_sem ↓] Go.wp_at_zero Go.wp_at_succ

/-- What UnionAll answers. -/
def uaB (n : Nat → Nat) (P Q R S : Nat → Nat → Int) (k : Nat) : Bool := decide (k ≤ 64) && okA n P Q R S k
def uaL (n : Nat → Nat) (P Q R S : Nat → Nat → Int) (k : Nat) : List R4 := if uaB n P Q R S k = true then canonL (mgA 14 (fun _ => false) n P Q R S k) else []
theorem uaL_len (n : Nat → Nat) (P Q R S : Nat → Nat → Int) (k : Nat) : (uaL n P Q R S k).length ≤ 3280 := by
  unfold uaL; split
  · exact canonL_len _
  · simp
theorem uaL_no {n : Nat → Nat} {P Q R S : Nat → Nat → Int} {k : Nat} (h : uaB n P Q R S k = false) : uaL n P Q R S k = [] := by unfold uaL; rw [if_neg (by simp [h])]
theorem uaL_yes {n : Nat → Nat} {P Q R S : Nat → Nat → Int} {k : Nat} (h : uaB n P Q R S k = true) : uaL n P Q R S k = canonL (mgA 14 (fun _ => false) n P Q R S k) := by unfold uaL; rw [if_pos h]
theorem none_ok (P Q R S : Nat → Int) : okR P Q R S 0 = true := by
  rw [okR_iff]
  refine ⟨fun i hi => by omega, ?_⟩
  have e : covF P Q R S 0 = fun _ => false := rfl
  rw [e, canonL_none]
  rfl
theorem mr_ua (P0 Q0 R0 S0 : Nat → Int) (n : Nat → Nat) (P Q R S : Nat → Nat → Int) (k : Nat) (hk : k ≤ 64) : mrL 14 P0 Q0 R0 S0 0 n P Q R S k = uaL n P Q R S k := by
  unfold mrL uaL uaB
  have e : covF P0 Q0 R0 S0 0 = fun _ => false := rfl
  rw [none_ok, decide_eq_true hk, e]
end Go.Proofs.YtfbalpkjcfdakaaGreatDoor

namespace Go.Proofs.YtfbalpkjcfdakaaGreatDoor
open Go.RowKit
set_option linter.unusedVariables false
set_option linter.unusedSimpArgs false

end Go.Proofs.YtfbalpkjcfdakaaGreatDoor
