/- Libraries of cells as data, and what of them lies in memory. No condition. -/
import Derived.Test.YtciodcknobccdaaTrC
import Derived.Test.YtciodcknobccdaaReH
namespace Go.Proofs.Ytciodcknobccdaa
open Go.RowKit
set_option linter.unusedVariables false

structure Shp where
  l : Int
  x : Int
  y : Int
  u : Int
  v : Int
structure Lbl where
  l : Int
  x : Int
  y : Int
  s : ByteArray
structure Ins where
  c : Int
  o : Int
  x : Int
  y : Int
  m : Int
  n : Int
  p : Int
  q : Int
structure Cel where
  s : ByteArray
  a : List Shp
  b : List Lbl
  d : List Ins
def Shp.cs (s : Shp) : List Value := [.int .i64 s.l, .int .i64 s.x, .int .i64 s.y, .int .i64 s.u, .int .i64 s.v]
def Lbl.cs (s : Lbl) : List Value := [.int .i64 s.l, .int .i64 s.x, .int .i64 s.y, .string s.s]
def Ins.cs (s : Ins) : List Value := [.int .i64 s.c, .int .i64 s.o, .int .i64 s.x, .int .i64 s.y, .int .i64 s.m, .int .i64 s.n, .int .i64 s.p, .int .i64 s.q]

/-- A list of things of n cells each lies at an address. -/
def LiesAt {α : Type} (n : Nat) (cs : α → List Value) (B : Nat) (w : World) (a : Option Addr) (l : List α) : Prop :=
  ∀ i s, l[i]? = some s → ∃ b off : Nat, a = some ⟨b, off, none⟩ ∧ b < B ∧ ∀ j v, (cs s)[j]? = some v → w.cell? ⟨b, off + i * n + j, none⟩ = some v
theorem LiesAt.below {α : Type} {n : Nat} {cs : α → List Value} {B : Nat} {w w' : World} {a : Option Addr} {l : List α} (h : LiesAt n cs B w a l) (hb : Below B w w') : LiesAt n cs B w' a l := fun i s hi => by
  obtain ⟨b, off, h1, h2, h3⟩ := h i s hi
  exact ⟨b, off, h1, h2, fun j v hj => (hb.cell (p := ⟨b, off + i * n + j, none⟩) h2).trans (h3 j v hj)⟩
theorem LiesAt.mono {α : Type} {n : Nat} {cs : α → List Value} {B C : Nat} {w : World} {a : Option Addr} {l : List α} (h : LiesAt n cs B w a l) (hb : B ≤ C) : LiesAt n cs C w a l := fun i s hi => by
  obtain ⟨b, off, h1, h2, h3⟩ := h i s hi
  exact ⟨b, off, h1, Nat.lt_of_lt_of_le h2 hb, h3⟩
theorem LiesAt.nil {α : Type} {n : Nat} {cs : α → List Value} {B : Nat} {w : World} {a : Option Addr} : LiesAt n cs B w a [] := fun i s hi => by simp at hi
theorem LiesAt.ext {α : Type} {n : Nat} {cs : α → List Value} {w w' : World} {a : Option Addr} {l : List α} (h : LiesAt n cs w.heap.size w a l) (hb : Below w.heap.size w w') : LiesAt n cs w'.heap.size w' a l := (h.below hb).mono hb.size

theorem shp_at {B : Nat} {w : World} {a : Option Addr} {l : List Shp} {i : Nat} {s : Shp} (h : LiesAt 5 Shp.cs B w a l) (hi : l[i]? = some s) : ∃ b off : Nat, a = some ⟨b, off, none⟩ ∧ b < B ∧
    w.cell? ⟨b, off + i * 5, none⟩ = some (.int .i64 s.l) ∧ w.cell? ⟨b, off + i * 5 + 1, none⟩ = some (.int .i64 s.x) ∧ w.cell? ⟨b, off + i * 5 + 2, none⟩ = some (.int .i64 s.y) ∧ w.cell? ⟨b, off + i * 5 + 3, none⟩ = some (.int .i64 s.u) ∧ w.cell? ⟨b, off + i * 5 + 4, none⟩ = some (.int .i64 s.v) := by
  obtain ⟨b, off, h1, h2, h3⟩ := h i s hi
  exact ⟨b, off, h1, h2, h3 0 _ rfl, h3 1 _ rfl, h3 2 _ rfl, h3 3 _ rfl, h3 4 _ rfl⟩
theorem lbl_at {B : Nat} {w : World} {a : Option Addr} {l : List Lbl} {i : Nat} {s : Lbl} (h : LiesAt 4 Lbl.cs B w a l) (hi : l[i]? = some s) : ∃ b off : Nat, a = some ⟨b, off, none⟩ ∧ b < B ∧
    w.cell? ⟨b, off + i * 4, none⟩ = some (.int .i64 s.l) ∧ w.cell? ⟨b, off + i * 4 + 1, none⟩ = some (.int .i64 s.x) ∧ w.cell? ⟨b, off + i * 4 + 2, none⟩ = some (.int .i64 s.y) ∧ w.cell? ⟨b, off + i * 4 + 3, none⟩ = some (.string s.s) := by
  obtain ⟨b, off, h1, h2, h3⟩ := h i s hi
  exact ⟨b, off, h1, h2, h3 0 _ rfl, h3 1 _ rfl, h3 2 _ rfl, h3 3 _ rfl⟩
theorem ins_at {B : Nat} {w : World} {a : Option Addr} {l : List Ins} {i : Nat} {s : Ins} (h : LiesAt 8 Ins.cs B w a l) (hi : l[i]? = some s) : ∃ b off : Nat, a = some ⟨b, off, none⟩ ∧ b < B ∧
    w.cell? ⟨b, off + i * 8, none⟩ = some (.int .i64 s.c) ∧ w.cell? ⟨b, off + i * 8 + 1, none⟩ = some (.int .i64 s.o) ∧ w.cell? ⟨b, off + i * 8 + 2, none⟩ = some (.int .i64 s.x) ∧ w.cell? ⟨b, off + i * 8 + 3, none⟩ = some (.int .i64 s.y) ∧
    w.cell? ⟨b, off + i * 8 + 4, none⟩ = some (.int .i64 s.m) ∧ w.cell? ⟨b, off + i * 8 + 5, none⟩ = some (.int .i64 s.n) ∧ w.cell? ⟨b, off + i * 8 + 6, none⟩ = some (.int .i64 s.p) ∧ w.cell? ⟨b, off + i * 8 + 7, none⟩ = some (.int .i64 s.q) := by
  obtain ⟨b, off, h1, h2, h3⟩ := h i s hi
  exact ⟨b, off, h1, h2, h3 0 _ rfl, h3 1 _ rfl, h3 2 _ rfl, h3 3 _ rfl, h3 4 _ rfl, h3 5 _ rfl, h3 6 _ rfl, h3 7 _ rfl⟩

/-- The parts of a cell lie where its three slices point. -/
def CelAt (B : Nat) (w : World) (a1 a2 a3 : Option Addr) (c : Cel) : Prop := LiesAt 5 Shp.cs B w a1 c.a ∧ LiesAt 4 Lbl.cs B w a2 c.b ∧ LiesAt 8 Ins.cs B w a3 c.d
theorem CelAt.below {B : Nat} {w w' : World} {a1 a2 a3 : Option Addr} {c : Cel} (h : CelAt B w a1 a2 a3 c) (hb : Below B w w') : CelAt B w' a1 a2 a3 c := ⟨h.1.below hb, h.2.1.below hb, h.2.2.below hb⟩
theorem CelAt.mono {B C : Nat} {w : World} {a1 a2 a3 : Option Addr} {c : Cel} (h : CelAt B w a1 a2 a3 c) (hb : B ≤ C) : CelAt C w a1 a2 a3 c := ⟨h.1.mono hb, h.2.1.mono hb, h.2.2.mono hb⟩
theorem CelAt.ext {w w' : World} {a1 a2 a3 : Option Addr} {c : Cel} (h : CelAt w.heap.size w a1 a2 a3 c) (hb : Below w.heap.size w w') : CelAt w'.heap.size w' a1 a2 a3 c := (h.below hb).mono hb.size
/-- A list of cells lies at an address. -/
def CelsAt (B : Nat) (w : World) (a : Option Addr) (L : List Cel) : Prop :=
  ∀ i c, L[i]? = some c → ∃ b off : Nat, ∃ a1 a2 a3 : Option Addr, ∃ k1 k2 k3 : Nat, a = some ⟨b, off, none⟩ ∧ b < B ∧ w.cell? ⟨b, off + i * 4, none⟩ = some (.string c.s) ∧
    w.cell? ⟨b, off + i * 4 + 1, none⟩ = some (.slice a1 c.a.length k1) ∧ w.cell? ⟨b, off + i * 4 + 2, none⟩ = some (.slice a2 c.b.length k2) ∧ w.cell? ⟨b, off + i * 4 + 3, none⟩ = some (.slice a3 c.d.length k3) ∧ CelAt B w a1 a2 a3 c
theorem CelsAt.below {B : Nat} {w w' : World} {a : Option Addr} {L : List Cel} (h : CelsAt B w a L) (hb : Below B w w') : CelsAt B w' a L := fun i c hi => by
  obtain ⟨b, off, a1, a2, a3, k1, k2, k3, h1, h2, c0, c1, c2, c3, h3⟩ := h i c hi
  exact ⟨b, off, a1, a2, a3, k1, k2, k3, h1, h2, (hb.cell (p := ⟨b, off + i * 4, none⟩) h2).trans c0, (hb.cell (p := ⟨b, off + i * 4 + 1, none⟩) h2).trans c1, (hb.cell (p := ⟨b, off + i * 4 + 2, none⟩) h2).trans c2, (hb.cell (p := ⟨b, off + i * 4 + 3, none⟩) h2).trans c3, h3.below hb⟩
theorem CelsAt.mono {B C : Nat} {w : World} {a : Option Addr} {L : List Cel} (h : CelsAt B w a L) (hb : B ≤ C) : CelsAt C w a L := fun i c hi => by
  obtain ⟨b, off, a1, a2, a3, k1, k2, k3, h1, h2, c0, c1, c2, c3, h3⟩ := h i c hi
  exact ⟨b, off, a1, a2, a3, k1, k2, k3, h1, Nat.lt_of_lt_of_le h2 hb, c0, c1, c2, c3, h3.mono hb⟩
theorem CelsAt.ext {w w' : World} {a : Option Addr} {L : List Cel} (h : CelsAt w.heap.size w a L) (hb : Below w.heap.size w w') : CelsAt w'.heap.size w' a L := (h.below hb).mono hb.size
theorem CelsAt.nil {B : Nat} {w : World} {a : Option Addr} : CelsAt B w a [] := fun i c hi => by simp at hi

/-- The sum of a number over the first i things of a list. -/
def suF {α : Type} (f : α → Nat) (l : List α) (i : Nat) : Nat := ((l.take i).map f).sum
theorem suF_zero {α : Type} (f : α → Nat) (l : List α) : suF f l 0 = 0 := by simp [suF]
theorem suF_succ {α : Type} {f : α → Nat} {l : List α} {i : Nat} {s : α} (h : l[i]? = some s) : suF f l (i + 1) = suF f l i + f s := by
  unfold suF
  rw [List.take_add_one, h]
  simp
theorem suF_mono {α : Type} (f : α → Nat) (l : List α) {i j : Nat} (h : i ≤ j) : suF f l i ≤ suF f l j := by
  induction j with
  | zero => obtain rfl : i = 0 := by omega
            exact Nat.le_refl _
  | succ j ih =>
    by_cases e : i = j + 1
    · rw [e]; exact Nat.le_refl _
    · have h1 := ih (by omega)
      cases hj : l[j]? with
      | none =>
        have e2 : suF f l (j + 1) = suF f l j := by unfold suF; rw [List.take_add_one, hj]; simp
        omega
      | some s => rw [suF_succ hj]; omega
theorem suF_at {α : Type} {f : α → Nat} {l : List α} {i : Nat} {s : α} (h : l[i]? = some s) : f s ≤ suF f l l.length := by
  have hl := (List.getElem?_eq_some_iff.1 h).1
  have h1 := suF_succ (f := f) h
  have h2 := suF_mono f l (show i + 1 ≤ l.length by omega)
  omega
/-- How large a list of labels, a cell, a list of cells is. -/
def Lbl.sz (s : Lbl) : Nat := s.s.size
def szLs (l : List Lbl) : Nat := l.length + suF Lbl.sz l l.length
def Cel.sz (c : Cel) : Nat := c.s.size + c.a.length + szLs c.b + c.d.length
def szCs (L : List Cel) : Nat := L.length + suF Cel.sz L L.length
/-- All lengths are lengths of a machine. -/
def LensOK (L : List Cel) : Prop := L.length ≤ maxLen ∧ ∀ (i : Nat) (c : Cel), L[i]? = some c → c.s.size ≤ maxLen ∧ c.a.length ≤ maxLen ∧ c.b.length ≤ maxLen ∧ c.d.length ≤ maxLen ∧ ∀ (j : Nat) (s : Lbl), c.b[j]? = some s → s.s.size ≤ maxLen
theorem sz_len {L : List Cel} (h : szCs L ≤ 1048576) : L.length ≤ 1048576 := by unfold szCs at h; omega
theorem sz_at {L : List Cel} (h : szCs L ≤ 1048576) {i : Nat} {c : Cel} (hi : L[i]? = some c) : c.s.size ≤ 1048576 ∧ c.a.length ≤ 1048576 ∧ c.b.length ≤ 1048576 ∧ c.d.length ≤ 1048576 ∧ ∀ (j : Nat) (s : Lbl), c.b[j]? = some s → s.s.size ≤ 1048576 := by
  have h1 := suF_at (f := Cel.sz) hi
  have h0 : Cel.sz c = c.s.size + c.a.length + (c.b.length + suF Lbl.sz c.b c.b.length) + c.d.length := rfl
  rw [h0] at h1
  unfold szCs at h
  refine ⟨by omega, by omega, by omega, by omega, fun j s hj => ?_⟩
  have h2 := suF_at (f := Lbl.sz) hj
  have h3 : Lbl.sz s = s.s.size := rfl
  rw [h3] at h2
  omega
end Go.Proofs.Ytciodcknobccdaa
