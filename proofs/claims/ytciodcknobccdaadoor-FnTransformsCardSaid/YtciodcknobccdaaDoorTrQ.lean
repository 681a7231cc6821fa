/- The model's source of drawn numbers: its pointer, one number, one drawn transform. Conditions: the code's bytes lie below block B, the source's struct at block g, not below B. -/
import Derived.Test.YtciodcknobccdaaDoorTrK
import Derived.Laws.AppendOwn
import Derived.OwnWalk
import Derived.Deep.RegionHeld3
import Derived.StillTailTactics
import Derived.IntWalk
namespace Go.Proofs.YtciodcknobccdaaDoor
open Go.RowKit
set_option linter.unusedVariables false
set_option linter.unusedSimpArgs false

/-- Only block g, and what is new, has changed. -/
abbrev Only (g : Nat) (w w' : World) : Prop := w.grownBy w' (some g)
theorem Only.refl (g : Nat) (w : World) : Only g w w := World.grownBy.refl w (some g)
theorem Only.set {g i : Nat} {a w : World} (h : Only g a w) (v : Value) : Only g a (w.setCell ⟨g, i, none⟩ v) :=
  ⟨h.os, h.tape, h.output, by simpa using h.size, fun k hk hne => by rw [Below.heap_setCell _ _ _ _ (fun e => hne (by rw [e]))]; exact h.block k hk hne⟩
theorem Only.drew {g : Nat} {a w : World} (h : Only g a w) : Only g a w.drew := ⟨h.os, h.tape, h.output, h.size, h.block⟩
theorem Only.drewN {g : Nat} {a w : World} (h : Only g a w) (n : Nat) : Only g a (w.drewN n) := ⟨h.os, h.tape, h.output, h.size, h.block⟩
theorem Only.cell {g b o : Nat} {w w' : World} {v : Value} (h : Only g w w') (hc : w.cell? ⟨b, o, none⟩ = some v) (hne : b ≠ g) : w'.cell? ⟨b, o, none⟩ = some v :=
  World.grownBy.cell h hc (by simpa using hne)
theorem Only.below {B g : Nat} {a w w' : World} (h : Below B a w) (k : Only g w w') (hB : B ≤ w.heap.size) (hg : B ≤ g) : Below B a w' :=
  h.grown k hB (fun j hj => by cases hj; exact hg)

/-- The bytes of the code: each lies below block B. -/
def CodeIs (B : Nat) (w : World) (a : Option Addr) (len : Nat) : Prop :=
  ∀ k, k < len → ∃ (b off : Nat) (v : Int), a = some ⟨b, off, none⟩ ∧ b < B ∧ w.cell? ⟨b, off + k, none⟩ = some (.int .u8 v) ∧ 0 ≤ v ∧ v ≤ 255
theorem CodeIs.below {B : Nat} {w w' : World} {a : Option Addr} {len : Nat} (h : CodeIs B w a len) (hb : Below B w w') : CodeIs B w' a len := fun k hk => by
  obtain ⟨b, off, v, h1, h2, h3, h4, h5⟩ := h k hk
  exact ⟨b, off, v, h1, h2, (hb.cell (p := ⟨b, off + k, none⟩) h2).trans h3, h4, h5⟩

/-- The source's struct at block g. -/
def SrcIs (g : Nat) (w : World) (a : Option Addr) (len cap : Nat) : Prop :=
  ∃ (k : Nat) (s : Int), k ≤ len ∧ 0 ≤ s ∧ s < 2147483647 ∧ w.cell? ⟨g, 0, none⟩ = some (.slice a len cap) ∧ w.cell? ⟨g, 1, none⟩ = some (.int .i64 k) ∧ w.cell? ⟨g, 2, none⟩ = some (.int .i64 s) ∧ w.frozen? ⟨g, 1, none⟩ = false ∧ w.frozen? ⟨g, 2, none⟩ = false

/-- What a drawn number is: r in 0..n-1; only the source has changed. -/
def Drawn (n : Int) (g : Nat) (w : World) (a : Option Addr) (len cap : Nat) (e : Ending) (w' : World) : Prop :=
  ∃ r : Int, 0 ≤ r ∧ r < n ∧ e = .returned (.int .i64 r) ∧ Only g w w' ∧ SrcIs g w' a len cap

theorem srcSet {g : Nat} {w : World} {a : Option Addr} {len cap k : Nat} {s s' : Int} (h0 : w.cell? ⟨g, 0, none⟩ = some (.slice a len cap)) (h1 : w.cell? ⟨g, 1, none⟩ = some (.int .i64 k)) (h2 : w.cell? ⟨g, 2, none⟩ = some (.int .i64 s)) (f1 : w.frozen? ⟨g, 1, none⟩ = false) (f2 : w.frozen? ⟨g, 2, none⟩ = false)
    (hk : k ≤ len) (p0 : 0 ≤ s') (p1 : s' < 2147483647) : SrcIs g (w.setCell ⟨g, 2, none⟩ (.int .i64 s')) a len cap :=
  ⟨k, s', hk, p0, p1, by rw [World.cell?_setCell_other _ _ _ _ (by simp)]; exact h0, by rw [World.cell?_setCell_other _ _ _ _ (by simp)]; exact h1, World.cell?_setCell_same _ _ _ h2, by simpa using f1, by simpa using f2⟩
theorem modP (x : Int) (h : 0 ≤ x) : 0 ≤ x % 2147483647 ∧ x % 2147483647 < 2147483647 := ⟨by omega, by omega⟩
theorem modN (x n : Int) (h : 1 < n) : 0 ≤ x % n ∧ x % n < n := ⟨Int.emod_nonneg _ (by omega), Int.emod_lt_of_pos _ (by omega)⟩

set_option maxHeartbeats 4000000 in
theorem l01Next_any (B g : Nat) (a : Option Addr) (len cap : Nat) (n : Int) (w : World) (hlen : len ≤ 8192) (h1n : 1 < n) (hn : n ≤ 1000000) (hC : CodeIs B w a len) (hS : SrcIs g w a len cap) :
    Calls Tryd.prog 83 #[.pointer (some ⟨g, 0, none⟩), .int .i64 n] w (Drawn n g w a len cap) := by
  obtain ⟨k, s, hk, hs0, hs1, c0, c1, c2, f1, f2⟩ := hS
  by_cases hlt : k < len
  · obtain ⟨b, off, v, rfl, hb, cv, hv0, hv1⟩ := hC k hlt
    have q1 : (k : Int) < (len : Int) := by omega
    have q0 : (0 : Int) ≤ (k : Int) := by omega
    by_cases h256 : 256 < n
    · go_enter Tryd.func83, Tryd.ntmps83
      go_wp2_with fail
      go_quiet (fail)
      go_wp2_with fail
      go_quiet (fail)
      go_wp2_with fail
      go_ret
      refine ⟨(s * 48271 + v + 1) % 2147483647 % n, (modN _ _ h1n).1, (modN _ _ h1n).2, rfl, ?_, ?_⟩
      · (repeat (first | (with_reducible exact Only.refl _ _) | (with_reducible refine Only.set ?_ _) | (with_reducible refine Only.drewN ?_ _) | (with_reducible refine Only.drew ?_)))
      · exact ⟨k + 1, (s * 48271 + v + 1) % 2147483647, by omega, (modP _ (by omega)).1, (modP _ (by omega)).2, by simp [*, go_sem], by simp [*, go_sem], by simp [*, go_sem], by simp [*, go_sem], by simp [*, go_sem]⟩
    · have h256' : n ≤ 256 := by omega
      go_enter Tryd.func83, Tryd.ntmps83
      go_wp2_with fail
      go_quiet (fail)
      go_wp2_with fail
      go_quiet (fail)
      go_wp2_with fail
      go_ret
      refine ⟨v % n, (modN _ _ h1n).1, (modN _ _ h1n).2, rfl, ?_, ?_⟩
      · (repeat (first | (with_reducible exact Only.refl _ _) | (with_reducible refine Only.set ?_ _) | (with_reducible refine Only.drewN ?_ _) | (with_reducible refine Only.drew ?_)))
      · exact ⟨k + 1, s, by omega, hs0, hs1, by simp [*, go_sem], by simp [*, go_sem], by simp [*, go_sem], by simp [*, go_sem], by simp [*, go_sem]⟩
  · have q1 : ¬ (k : Int) < (len : Int) := by omega
    have q2 : (len : Int) ≤ (k : Int) := by omega
    have m1 := modP (s * 48271 + 11) (by omega)
    go_enter Tryd.func83, Tryd.ntmps83
    go_wp2_with fail
    go_quiet (fail)
    go_wp2_with fail
    go_ret
    refine ⟨(s * 48271 + 11) % 2147483647 / 7 % n, (modN _ _ h1n).1, (modN _ _ h1n).2, rfl, ?_, ?_⟩
    · (repeat (first | (with_reducible exact Only.refl _ _) | (with_reducible refine Only.set ?_ _) | (with_reducible refine Only.drewN ?_ _) | (with_reducible refine Only.drew ?_)))
    · exact ⟨k, (s * 48271 + 11) % 2147483647, hk, m1.1, m1.2, by simp [*, go_sem], by simp [*, go_sem], by simp [*, go_sem], by simp [*, go_sem], by simp [*, go_sem]⟩

/-- What the source's start is: a new struct, with the code in it. -/
def Begun (w : World) (a : Option Addr) (len cap : Nat) (e : Ending) (w' : World) : Prop :=
  ∃ g : Nat, w.heap.size ≤ g ∧ g < w'.heap.size ∧ e = .returned (.pointer (some ⟨g, 0, none⟩)) ∧ Below w.heap.size w w' ∧ SrcIs g w' a len cap

set_option maxHeartbeats 4000000 in
theorem l01From_any (B : Nat) (a : Option Addr) (len cap : Nat) (w : World) (hlen : len ≤ 8192) (hB : B ≤ w.heap.size) (hC : CodeIs B w a len) :
    Calls Tryd.prog 50 #[.slice a len cap] w (Begun w a len cap) := by
  go_enter Tryd.func50, Tryd.ntmps50
  go_wp2_with fail
  go_loopw [4] (fun s4 wr => ∃ (i : Nat) (s : Int), i ≤ len ∧ s4 = .int .i64 i ∧ w.heap.size < wr.heap.size ∧ Below w.heap.size w wr ∧ 0 ≤ s ∧ s < 2147483647 ∧ wr.cell? ⟨w.heap.size, 0, none⟩ = some (.slice a len cap) ∧ wr.cell? ⟨w.heap.size, 1, none⟩ = some (.int .i64 0) ∧ wr.cell? ⟨w.heap.size, 2, none⟩ = some (.int .i64 s) ∧ wr.frozen? ⟨w.heap.size, 1, none⟩ = false ∧ wr.frozen? ⟨w.heap.size, 2, none⟩ = false) (fun s4 _ => len - (intOf s4).toNat)
  case atStart => exact ⟨0, 12345, by omega, rfl, by simp, by (repeat (first | (with_reducible exact Below.refl _ _) | (with_reducible refine Ext.drewN ?_ _) | (with_reducible refine Below.drew ?_) | (with_reducible refine Ext.alloc ?_ _) | (with_reducible refine Ext.setCell ?_ (by simp; try omega) _) | (with_reducible refine Ext.trans ?_ (by assumption)) | (with_reducible assumption) | exact Below.refl _ _)), by omega, by omega, by simp, by simp, by simp, by simp, by simp⟩
  case round =>
    obtain ⟨i, s, hi, rfl, hsz, hW, s0, s1, c0, c1, c2, f1, f2⟩ := hrel
    by_cases hlt : i < len
    · by_cases h64 : i < 64
      · obtain ⟨b, off, v, rfl, hb, cv0, hv0, hv1⟩ := hC i hlt
        have cv : wr.cell? ⟨b, off + i, none⟩ = some (.int .u8 v) := (hW.cell (p := ⟨b, off + i, none⟩) (by simp; omega)).trans cv0
        have q1 : (i : Int) < (len : Int) := by omega
        have q0 : (0 : Int) ≤ (i : Int) := by omega
        have q2 : (i : Int) < 64 := by omega
        go_wp2_with fail
        have q3 : b ≠ w.heap.size := by omega
        have hwrap : IntKind.i64.wrap (s * 31) = s * 31 := IntWalk.i64_in _ (by omega)
        have hwrap2 : IntKind.i64.wrap v = v := IntWalk.i64_in _ (by omega)
        have hwrap3 : IntKind.i64.wrap (s * 31 + v) = s * 31 + v := IntWalk.i64_in _ (by omega)
        go_region
        go_wp2_with fail
        go_roundw
        case rel =>
          have m1 := modP (s * 31 + v) (by omega)
          refine ⟨i + 1, (s * 31 + v) % 2147483647, by omega, by go_num, ?_, ?_, m1.1, m1.2, ?_, ?_, ?_, ?_, ?_⟩
          · simp; omega
          · (repeat (first | (with_reducible exact Below.refl _ _) | (with_reducible refine Ext.drewN ?_ _) | (with_reducible refine Below.drew ?_) | (with_reducible refine Ext.alloc ?_ _) | (with_reducible refine Ext.setCell ?_ (by simp; try omega) _) | (with_reducible refine Ext.trans ?_ (by assumption)) | (with_reducible assumption) | exact Below.refl _ _))
          · simp [*, go_sem]
          · simp [*, go_sem]
          · simp [*, go_sem]
          · simp [*, go_sem]
          · simp [*, go_sem]
        case measure => simp [intOf]; omega
      · have q1 : (i : Int) < (len : Int) := by omega
        have q2 : ¬ (i : Int) < 64 := by omega
        go_wp2_with fail
        go_ret
        exact ⟨w.heap.size, Nat.le_refl _, hsz, rfl, hW, ⟨0, s, by omega, s0, s1, c0, c1, c2, f1, f2⟩⟩
    · have q1 : ¬ (i : Int) < (len : Int) := by omega
      go_wp2_with fail
      go_ret
      exact ⟨w.heap.size, Nat.le_refl _, hsz, rfl, hW, ⟨0, s, by omega, s0, s1, c0, c1, c2, f1, f2⟩⟩
end Go.Proofs.YtciodcknobccdaaDoor
