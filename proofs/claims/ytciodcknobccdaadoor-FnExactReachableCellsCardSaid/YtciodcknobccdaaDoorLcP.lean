/- The laws' marks of rows of shapes, labels, instances and cells. Condition: the rows may be written. -/
import Derived.Test.YtciodcknobccdaaDoorLcO
import Derived.Test.YtciodcknobccdaaDoorLbX
namespace Go.Proofs.YtciodcknobccdaaDoor
open Go.RowKit
set_option linter.unusedVariables false
set_option linter.unusedSimpArgs false
attribute [local go_sem ↓] Go.wp_at_zero Go.wp_at_succ

theorem St.put {lo hi : Nat} {w w1 : World} {p : Addr} {v : Value} (h : St lo hi w w1) (hn : NsAt w p) (h1 : lo ≤ p.block) (h2 : p.block < hi) (hv : notSl v) : St lo hi w (w1.setCell p v) := h.trans (St.set (h.ns p hn) h1 h2 hv)
theorem St.then {lo hi : Nat} {w w1 w2 : World} (h : St lo hi w w1) (k : Below w1.heap.size w1 w2) : St lo hi w w2 := h.trans (St.grown k)
set_option maxRecDepth 100000 in
set_option maxHeartbeats 8000000 in
theorem markShapeS_any (a : Option Addr) (n c : Nat) (k : Int) (lo hi : Nat) (w : World) (hn : n ≤ 1048576) (k0 : 0 ≤ k) (k1 : k + 5 * (n : Int) ≤ 50000000) (hr : n = 0 ∨ ∃ g, a = some ⟨g, 0, none⟩ ∧ lo ≤ g ∧ g < hi ∧ ∀ o, o < n * 5 → NsAt w ⟨g, o, none⟩) :
    Calls Tryd.prog 98 #[.slice a n c, .int .i64 k] w fun e w' => e = .returned (.int .i64 (k + 5 * (n : Int))) ∧ St lo hi w w' := by
  have HRR := Lib.hid hr
  clear hr
  go_enter Tryd.func98, Tryd.ntmps98
  go_wp2_with fail
  go_loopw [1, 5] (fun s t wr => ∃ (i : Nat) (u : Int), i ≤ n ∧ t = .int .i64 (i : Nat) ∧ s = .int .i64 u ∧ Hid (u = k + 5 * (i : Int)) ∧ Hid (St lo hi w wr)) (fun _ t _ => n - (intOf t).toNat)
  case atStart => exact ⟨0, k, by omega, rfl, rfl, Lib.hid (by omega), Lib.hid (St.refl _ _ _)⟩
  case round =>
    obtain ⟨i, u, hi2, rfl, rfl, HU, HS⟩ := hrel
    by_cases hlt : i < n
    · obtain ⟨g, rfl, hlo, hhi, hr⟩ := HRR.out.resolve_left (by omega)
      have HR := Lib.hid hr
      clear hr
      have q1 : (i : Int) < (n : Int) := by omega
      have q0 : (0 : Int) ≤ (i : Int) := by omega
      have v0 : 0 ≤ u := by have := HU.out; omega
      have v1 : u ≤ 50000000 := by have := HU.out; omega
      have e0 := HS.out.ns _ (HR.out (i * 5) (by omega))
      obtain ⟨⟨_, c0, -⟩, f0⟩ := e0
      have e1 := HS.out.ns _ (HR.out (i * 5 + 1) (by omega))
      obtain ⟨⟨_, c1, -⟩, f1⟩ := e1
      have e2 := HS.out.ns _ (HR.out (i * 5 + 2) (by omega))
      obtain ⟨⟨_, c2, -⟩, f2⟩ := e2
      have e3 := HS.out.ns _ (HR.out (i * 5 + 3) (by omega))
      obtain ⟨⟨_, c3, -⟩, f3⟩ := e3
      have e4 := HS.out.ns _ (HR.out (i * 5 + 4) (by omega))
      obtain ⟨⟨_, c4, -⟩, f4⟩ := e4
      go_wp2_with fail
      go_roundw
      case rel => exact ⟨i + 1, u + 5, by omega, by go_num, by first | rfl | (simp; omega), Lib.hid (by have := HU.out; omega), Lib.hid (((((HS.out.put (HR.out (i * 5) (by omega)) hlo hhi (nsI _)).put (HR.out (i * 5 + 1) (by omega)) hlo hhi (nsI _)).put (HR.out (i * 5 + 2) (by omega)) hlo hhi (nsI _)).put (HR.out (i * 5 + 3) (by omega)) hlo hhi (nsI _)).put (HR.out (i * 5 + 4) (by omega)) hlo hhi (nsI _))⟩
      case measure => simp [intOf]; omega
    · have q1 : ¬ (i : Int) < (n : Int) := by omega
      have HE : Hid (u = k + 5 * (n : Int)) := Lib.hid (by have := HU.out; rw [this, show i = n by omega])
      go_wp2_with fail
      go_ret
      exact ⟨by rw [← HE.out]; rfl, HS.out⟩
set_option maxRecDepth 100000 in
set_option maxHeartbeats 8000000 in
theorem markInstanceS_any (a : Option Addr) (n c : Nat) (k : Int) (lo hi : Nat) (w : World) (hn : n ≤ 1048576) (k0 : 0 ≤ k) (k1 : k + 8 * (n : Int) ≤ 50000000) (hr : n = 0 ∨ ∃ g, a = some ⟨g, 0, none⟩ ∧ lo ≤ g ∧ g < hi ∧ ∀ o, o < n * 8 → NsAt w ⟨g, o, none⟩) :
    Calls Tryd.prog 100 #[.slice a n c, .int .i64 k] w fun e w' => e = .returned (.int .i64 (k + 8 * (n : Int))) ∧ St lo hi w w' := by
  have HRR := Lib.hid hr
  clear hr
  go_enter Tryd.func100, Tryd.ntmps100
  go_wp2_with fail
  go_loopw [1, 5] (fun s t wr => ∃ (i : Nat) (u : Int), i ≤ n ∧ t = .int .i64 (i : Nat) ∧ s = .int .i64 u ∧ Hid (u = k + 8 * (i : Int)) ∧ Hid (St lo hi w wr)) (fun _ t _ => n - (intOf t).toNat)
  case atStart => exact ⟨0, k, by omega, rfl, rfl, Lib.hid (by omega), Lib.hid (St.refl _ _ _)⟩
  case round =>
    obtain ⟨i, u, hi2, rfl, rfl, HU, HS⟩ := hrel
    by_cases hlt : i < n
    · obtain ⟨g, rfl, hlo, hhi, hr⟩ := HRR.out.resolve_left (by omega)
      have HR := Lib.hid hr
      clear hr
      have q1 : (i : Int) < (n : Int) := by omega
      have q0 : (0 : Int) ≤ (i : Int) := by omega
      have v0 : 0 ≤ u := by have := HU.out; omega
      have v1 : u ≤ 50000000 := by have := HU.out; omega
      have e0 := HS.out.ns _ (HR.out (i * 8) (by omega))
      obtain ⟨⟨_, c0, -⟩, f0⟩ := e0
      have e1 := HS.out.ns _ (HR.out (i * 8 + 1) (by omega))
      obtain ⟨⟨_, c1, -⟩, f1⟩ := e1
      have e2 := HS.out.ns _ (HR.out (i * 8 + 2) (by omega))
      obtain ⟨⟨_, c2, -⟩, f2⟩ := e2
      have e3 := HS.out.ns _ (HR.out (i * 8 + 3) (by omega))
      obtain ⟨⟨_, c3, -⟩, f3⟩ := e3
      have e4 := HS.out.ns _ (HR.out (i * 8 + 4) (by omega))
      obtain ⟨⟨_, c4, -⟩, f4⟩ := e4
      have e5 := HS.out.ns _ (HR.out (i * 8 + 5) (by omega))
      obtain ⟨⟨_, c5, -⟩, f5⟩ := e5
      have e6 := HS.out.ns _ (HR.out (i * 8 + 6) (by omega))
      obtain ⟨⟨_, c6, -⟩, f6⟩ := e6
      have e7 := HS.out.ns _ (HR.out (i * 8 + 7) (by omega))
      obtain ⟨⟨_, c7, -⟩, f7⟩ := e7
      go_wp2_with fail
      go_roundw
      case rel => exact ⟨i + 1, u + 8, by omega, by go_num, by first | rfl | (simp; omega), Lib.hid (by have := HU.out; omega), Lib.hid ((((((((HS.out.put (HR.out (i * 8) (by omega)) hlo hhi (nsI _)).put (HR.out (i * 8 + 1) (by omega)) hlo hhi (nsI _)).put (HR.out (i * 8 + 2) (by omega)) hlo hhi (nsI _)).put (HR.out (i * 8 + 3) (by omega)) hlo hhi (nsI _)).put (HR.out (i * 8 + 4) (by omega)) hlo hhi (nsI _)).put (HR.out (i * 8 + 5) (by omega)) hlo hhi (nsI _)).put (HR.out (i * 8 + 6) (by omega)) hlo hhi (nsI _)).put (HR.out (i * 8 + 7) (by omega)) hlo hhi (nsI _))⟩
      case measure => simp [intOf]; omega
    · have q1 : ¬ (i : Int) < (n : Int) := by omega
      have HE : Hid (u = k + 8 * (n : Int)) := Lib.hid (by have := HU.out; rw [this, show i = n by omega])
      go_wp2_with fail
      go_ret
      exact ⟨by rw [← HE.out]; rfl, HS.out⟩
end Go.Proofs.YtciodcknobccdaaDoor
