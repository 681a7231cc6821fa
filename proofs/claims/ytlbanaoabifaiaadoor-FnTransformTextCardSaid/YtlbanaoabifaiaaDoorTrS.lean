/- The laws' dice. Conditions: the code's bytes lie below block B, the dice's struct at block g, not below B. -/
import Derived.Test.YtlbanaoabifaiaaDoorTrR
namespace Go.Proofs.YtlbanaoabifaiaaDoor
open Go.RowKit
set_option linter.unusedVariables false
set_option linter.unusedSimpArgs false

/-- The dice's struct at block g. -/
def DiceIs (g : Nat) (w : World) (a : Option Addr) (len cap : Nat) : Prop :=
  ∃ (k : Nat) (h : Int), k ≤ len ∧ w.cell? ⟨g, 0, none⟩ = some (.slice a len cap) ∧ w.cell? ⟨g, 1, none⟩ = some (.int .i64 k) ∧ w.cell? ⟨g, 2, none⟩ = some (.int .u64 h) ∧ w.frozen? ⟨g, 1, none⟩ = false ∧ w.frozen? ⟨g, 2, none⟩ = false
def Rolled (w : World) (a : Option Addr) (len cap : Nat) (e : Ending) (w' : World) : Prop :=
  ∃ g : Nat, w.heap.size ≤ g ∧ g < w'.heap.size ∧ e = .returned (.pointer (some ⟨g, 0, none⟩)) ∧ Below w.heap.size w w' ∧ DiceIs g w' a len cap
def Thrown (n : Int) (g : Nat) (w : World) (a : Option Addr) (len cap : Nat) (e : Ending) (w' : World) : Prop :=
  ∃ r : Int, -n < r ∧ r < n ∧ e = .returned (.int .i64 r) ∧ Only g w w' ∧ DiceIs g w' a len cap
theorem tmodB (x n : Int) (h : 0 < n) : -n < x.tmod n ∧ x.tmod n < n := by
  refine ⟨?_, Int.tmod_lt_of_pos x h⟩
  have h1 := Int.tmod_lt_of_pos (-x) h
  rw [Int.neg_tmod] at h1
  omega
theorem DiceIs.alloc {g : Nat} {w : World} {a : Option Addr} {len cap : Nat} (h : DiceIs g w a len cap) (o : Obj) : DiceIs g (w.alloc o) a len cap := by
  obtain ⟨k, s, h1, c0, c1, c2, f1, f2⟩ := h
  have hg : g < w.heap.size := World.block_lt_of_cell? w ⟨g, 0, none⟩ c0
  exact ⟨k, s, h1, keepA c0 o, keepA c1 o, keepA c2 o, by rw [World.frozen?_alloc_old _ _ _ (by simp; omega)]; exact f1, by rw [World.frozen?_alloc_old _ _ _ (by simp; omega)]; exact f2⟩
theorem DiceIs.lt {g : Nat} {w : World} {a : Option Addr} {len cap : Nat} (h : DiceIs g w a len cap) : g < w.heap.size := by
  obtain ⟨k, s, h1, c0, c1, c2, f1, f2⟩ := h
  exact World.block_lt_of_cell? w ⟨g, 0, none⟩ c0

end Go.Proofs.YtlbanaoabifaiaaDoor
