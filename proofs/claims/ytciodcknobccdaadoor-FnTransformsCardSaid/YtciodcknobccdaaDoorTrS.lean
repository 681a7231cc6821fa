/- The laws' dice. Conditions: the code's bytes lie below block B, the dice's struct at block g, not below B. -/
import Derived.Test.YtciodcknobccdaaDoorTrR
namespace Go.Proofs.YtciodcknobccdaaDoor
open Go.RowKit
set_option linter.unusedVariables false
set_option linter.unusedSimpArgs false

/-- The dice's struct at block g. -/
def DiceIs (g : Nat) (w : World) (a : Option Addr) (len cap : Nat) : Prop :=
  ∃ (k : Nat) (h : Int), k ≤ len ∧ w.cell? ⟨g, 0, none⟩ = some (.slice a len cap) ∧ w.cell? ⟨g, 1, none⟩ = some (.int .i64 k) ∧ w.cell? ⟨g, 2, none⟩ = some (.int .u64 h) ∧ w.frozen? ⟨g, 1, none⟩ = false ∧ w.frozen? ⟨g, 2, none⟩ = false
def Rolled (w : World) (a : Option Addr) (len cap : Nat) (e : Ending) (w' : World) : Prop :=
  ∃ g : Nat, w.heap.size ≤ g ∧ g < w'.heap.size ∧ e = .returned (.pointer (some ⟨g, 0, none⟩)) ∧ Below w.heap.size w w' ∧ DiceIs g w' a len cap
def Thrown (n : Int) (g : Nat) (w : World) (a : Option Addr) (len cap : Nat) (e : Ending) (w' : World) : Prop :=
  ∃ r : Int, -n < r ∧ r < n ∧ e = .returned (.int .i64 r) ∧ Only g w w' ∧ DiceIs g w' a len cap
theorem tmodB (x n : Int) (h : 0 < n) : -n < x.tmod n ∧ x.tmod n < n := by
  refine ⟨?_, Int.tmod_lt_of_pos x h⟩
  have h1 := Int.tmod_lt_of_pos (-x) h
  rw [Int.neg_tmod] at h1
  omega
theorem DiceIs.alloc {g : Nat} {w : World} {a : Option Addr} {len cap : Nat} (h : DiceIs g w a len cap) (o : Obj) : DiceIs g (w.alloc o) a len cap := by
  obtain ⟨k, s, h1, c0, c1, c2, f1, f2⟩ := h
  have hg : g < w.heap.size := World.block_lt_of_cell? w ⟨g, 0, none⟩ c0
  exact ⟨k, s, h1, keepA c0 o, keepA c1 o, keepA c2 o, by rw [World.frozen?_alloc_old _ _ _ (by simp; omega)]; exact f1, by rw [World.frozen?_alloc_old _ _ _ (by simp; omega)]; exact f2⟩
theorem DiceIs.lt {g : Nat} {w : World} {a : Option Addr} {len cap : Nat} (h : DiceIs g w a len cap) : g < w.heap.size := by
  obtain ⟨k, s, h1, c0, c1, c2, f1, f2⟩ := h
  exact World.block_lt_of_cell? w ⟨g, 0, none⟩ c0

set_option maxHeartbeats 4000000 in
theorem roll_any (B : Nat) (a : Option Addr) (len cap : Nat) (sd : Int) (w : World) (hlen : len ≤ 4096) (hB : B ≤ w.heap.size) (hC : CodeIs B w a len) :
    Calls Tryd.prog 20 #[.slice a len cap, .int .u64 sd] w (Rolled w a len cap) := by
  go_enter Tryd.func20, Tryd.ntmps20
  go_wp2_with fail
  go_loopw [6] (fun s4 wr => ∃ (i : Nat) (s : Int), i ≤ len ∧ s4 = .int .i64 i ∧ w.heap.size < wr.heap.size ∧ Below w.heap.size w wr ∧ wr.cell? ⟨w.heap.size, 0, none⟩ = some (.slice a len cap) ∧ wr.cell? ⟨w.heap.size, 1, none⟩ = some (.int .i64 0) ∧ wr.cell? ⟨w.heap.size, 2, none⟩ = some (.int .u64 s) ∧ wr.frozen? ⟨w.heap.size, 1, none⟩ = false ∧ wr.frozen? ⟨w.heap.size, 2, none⟩ = false) (fun s4 _ => len - (intOf s4).toNat)
  case atStart => exact ⟨0, _, by omega, rfl, by simp, by (repeat (first | (with_reducible exact Below.refl _ _) | (with_reducible refine Ext.drewN ?_ _) | (with_reducible refine Below.drew ?_) | (with_reducible refine Ext.alloc ?_ _) | (with_reducible refine Ext.setCell ?_ (by simp; try omega) _) | (with_reducible refine Ext.trans ?_ (by assumption)) | (with_reducible assumption) | exact Below.refl _ _)), by simp, by simp, by simp; rfl, by simp, by simp⟩
  case round =>
    obtain ⟨i, s, hi, rfl, hsz, hW, c0, c1, c2, f1, f2⟩ := hrel
    by_cases hlt : i < len
    · obtain ⟨b, off, v, rfl, hb, cv0, hv0, hv1⟩ := hC i hlt
      have cv : wr.cell? ⟨b, off + i, none⟩ = some (.int .u8 v) := (hW.cell (p := ⟨b, off + i, none⟩) (by simp; omega)).trans cv0
      have q1 : (i : Int) < (len : Int) := by omega
      have q0 : (0 : Int) ≤ (i : Int) := by omega
      have q3 : b ≠ w.heap.size := by omega
      go_wp2_with fail
      go_region
      go_wp2_with fail
      go_roundw
      case rel =>
        refine ⟨i + 1, IntKind.u64.wrap (IntKind.u64.wrap (IntKind.u64.wrap (s * 1099511628211) + v) + 3), by omega, by go_num, ?_, ?_, ?_, ?_, ?_, ?_, ?_⟩
        · simp; omega
        · (repeat (first | (with_reducible exact Below.refl _ _) | (with_reducible refine Ext.drewN ?_ _) | (with_reducible refine Below.drew ?_) | (with_reducible refine Ext.alloc ?_ _) | (with_reducible refine Ext.setCell ?_ (by simp; try omega) _) | (with_reducible refine Ext.trans ?_ (by assumption)) | (with_reducible assumption) | exact Below.refl _ _))
        · simp [c0, go_sem]
        · simp [c1, go_sem]
        · simp [c2, go_sem]
        · simp [f1, go_sem]
        · simp [f2, go_sem]
      case measure => simp [intOf]; omega
    · have q1 : ¬ (i : Int) < (len : Int) := by omega
      go_wp2_with fail
      go_ret
      exact ⟨w.heap.size, Nat.le_refl _, hsz, rfl, hW, ⟨0, s, by omega, c0, c1, c2, f1, f2⟩⟩

set_option maxHeartbeats 4000000 in
theorem below_any (B g : Nat) (a : Option Addr) (len cap : Nat) (n : Int) (w : World) (hlen : len ≤ 4096) (h1n : 0 < n) (hn : n ≤ 1000) (hC : CodeIs B w a len) (hB : B ≤ g) (hS : DiceIs g w a len cap) :
    Calls Tryd.prog 21 #[.pointer (some ⟨g, 0, none⟩), .int .i64 n] w (Thrown n g w a len cap) := by
  obtain ⟨k, s, hk, c0, c1, c2, f1, f2⟩ := hS
  have hn0 : (n == 0) = false := by simp; omega
  have hn0' : ¬ n = 0 := by omega
  by_cases hlt : k < len
  · obtain ⟨b, off, v, rfl, hb, cv, hv0, hv1⟩ := hC k hlt
    have q1 : (k : Int) < (len : Int) := by omega
    have q0 : (0 : Int) ≤ (k : Int) := by omega
    have q3 : b ≠ g := by omega
    have q4 : g ≠ b := by omega
    go_enter Tryd.func21, Tryd.ntmps21
    go_wp2_with fail
    go_quiet (fail)
    go_wp2_with fail
    go_quiet (fail)
    go_wp2_with fail
    go_ret
    refine ⟨_, (tmodB _ n h1n).1, (tmodB _ n h1n).2, rfl, ?_, ?_⟩
    · (repeat (first | (with_reducible exact Only.refl _ _) | (with_reducible refine Only.set ?_ _) | (with_reducible refine Only.drewN ?_ _) | (with_reducible refine Only.drew ?_)))
    · exact ⟨k + 1, IntKind.u64.wrap (IntKind.u64.wrap (s * 6364136223846793005) + 1442695040888963407), by omega, by simp [c0, c1, c2, go_sem], by simp [c0, c1, c2, go_sem], by simp [c0, c1, c2, go_sem], by simp [f1, go_sem], by simp [f2, go_sem]⟩
  · have q1 : ¬ (k : Int) < (len : Int) := by omega
    go_enter Tryd.func21, Tryd.ntmps21
    go_wp2_with fail
    go_quiet (fail)
    go_wp2_with fail
    go_ret
    refine ⟨_, (tmodB _ n h1n).1, (tmodB _ n h1n).2, rfl, ?_, ?_⟩
    · (repeat (first | (with_reducible exact Only.refl _ _) | (with_reducible refine Only.set ?_ _) | (with_reducible refine Only.drewN ?_ _) | (with_reducible refine Only.drew ?_)))
    · exact ⟨k, IntKind.u64.wrap (IntKind.u64.wrap (s * 6364136223846793005) + 1442695040888963407), by omega, by simp [c0, c1, c2, go_sem], by simp [c0, c1, c2, go_sem], by simp [c0, c1, c2, go_sem], by simp [f1, go_sem], by simp [f2, go_sem]⟩
end Go.Proofs.YtciodcknobccdaaDoor
