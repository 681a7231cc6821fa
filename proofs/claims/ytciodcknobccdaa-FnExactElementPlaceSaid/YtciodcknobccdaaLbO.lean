/- What the reading of a library gives: its cells' parts in memory. No condition. -/
import Derived.Test.YtciodcknobccdaaLbM
import Derived.ProofKit
import Derived.OpenShut
import Derived.Deep.Slices
import Derived.Deep.Fields
import Derived.Deep.Strs
import Derived.Lib.SmallJoins
import Derived.Lib.LaidU8
namespace Go.Proofs.Ytciodcknobccdaa
open Go.ChangeShapes Go.WideShapes Go.RowKit Go.Deep Go.Joins
set_option linter.unusedVariables false

theorem addNkL (b o k : Nat) : (⟨b, o, none⟩ : Addr).add k = ⟨b, o + k, none⟩ := by
  unfold Addr.add
  split
  · rename_i h; subst h; rfl
  · rfl
theorem list2L {α : Type} {l : List α} (h : l.length = 2) : ∃ a b, l = [a, b] := by
  match l, h with
  | [a, b], _ => exact ⟨a, b, rfl⟩
theorem list3L {α : Type} {l : List α} (h : l.length = 3) : ∃ a b c, l = [a, b, c] := by
  match l, h with
  | [a, b, c], _ => exact ⟨a, b, c, rfl⟩
theorem list4L {α : Type} {l : List α} (h : l.length = 4) : ∃ a b c d, l = [a, b, c, d] := by
  match l, h with
  | [a, b, c, d], _ => exact ⟨a, b, c, d, rfl⟩
theorem list5L {α : Type} {l : List α} (h : l.length = 5) : ∃ a b c d e, l = [a, b, c, d, e] := by
  match l, h with
  | [a, b, c, d, e], _ => exact ⟨a, b, c, d, e, rfl⟩
theorem list8L {α : Type} {l : List α} (h : l.length = 8) : ∃ a b c d e f g i, l = [a, b, c, d, e, f, g, i] := by
  match l, h with
  | [a, b, c, d, e, f, g, i], _ => exact ⟨a, b, c, d, e, f, g, i, rfl⟩

section
variable {H : Type} {enc : TypeId × Value → H} {W : World}
/-- A list is read thing by thing. -/
theorem lies_open {α : Type} {n : Nat} {cs : α → List Value} {P : α → Prop} {T E : TypeId} {fuel : Nat} {a : Option Addr} {len cap : Nat} {x : DataW H × List MemPlace}
    (hT : Try.prog.underlying T = some (.slice E)) (hE : Try.prog.cellsOf E = n) (h0 : 0 < n) (hone : ∀ k cs' y, DataW.trod enc Try.prog W 0 (fun _ => true) true k E cs' = some y → ∃ s : α, P s ∧ cs' = cs s)
    (hf : DataW.trod enc Try.prog W 0 (fun _ => true) true fuel T [Value.slice a len cap] = some x) : len ≤ maxLen ∧ ∃ l : List α, l.length = len ∧ (∀ (i : Nat) (s : α), l[i]? = some s → P s) ∧ LiesAt n cs W.heap.size W a l := by
  rcases open_slice hT hf with ⟨hcs, _⟩ | ⟨ad, l, c, m, nn, D, Pl, hcs, hb, hl, hm, hmm, _, hi⟩
  · simp at hcs
    obtain ⟨rfl, rfl, rfl⟩ := hcs
    exact ⟨Nat.zero_le _, [], rfl, fun i s hi => by simp at hi, LiesAt.nil⟩
  · simp at hcs
    obtain ⟨rfl, rfl, rfl⟩ := hcs
    simp at hmm
    rw [hE] at hi
    by_cases hz : len = 0
    · subst hz
      exact ⟨Nat.zero_le _, [], rfl, fun i s hi => by simp at hi, LiesAt.nil⟩
    have hne : Nonempty α := by
      obtain ⟨cs0, _, ht0⟩ := hi 0 (by omega)
      obtain ⟨s, _, _⟩ := hone _ _ _ ht0
      exact ⟨s⟩
    have hV' : ∀ i, ∃ v : α, i < len → P v ∧ ∃ b off : Nat, some ad = some ⟨b, off, none⟩ ∧ b < W.heap.size ∧ ∀ j u, (cs v)[j]? = some u → W.cell? ⟨b, off + i * n + j, none⟩ = some u := fun i => by
      by_cases hil : i < len
      case neg => exact ⟨Classical.choice hne, fun h => absurd h hil⟩
      have hi0 := hi 0 (by omega)
      obtain ⟨cs0, hc0, _⟩ := hi0
      obtain ⟨cs', hc, ht⟩ := hi i (by omega)
      obtain ⟨_, hcl0, hat0⟩ := World.cells?_some hc0
      obtain ⟨_, hcl, hat⟩ := World.cells?_some hc
      have hz := hat0 0 (by omega)
      rw [List.getElem?_eq_getElem (by omega)] at hz
      simp [Addr.add] at hz
      have hsp : ad.spot = none := Go.Proofs.cell_spot hz
      obtain ⟨b, off, sp⟩ := ad
      obtain rfl : sp = none := hsp
      obtain ⟨s, hs, rfl⟩ := hone _ _ _ ht
      refine ⟨s, fun _ => ⟨hs, b, off, rfl, World.block_lt_of_cell? W _ hz, fun j u hj => ?_⟩⟩
      have hjl := (List.getElem?_eq_some_iff.1 hj).1
      have e := hat j (by omega)
      rw [Go.Deep.add_add, addNkL, hj, ← Nat.add_assoc] at e
      exact e
    obtain ⟨V, hV⟩ := Classical.axiomOfChoice hV'
    refine ⟨by omega, (List.range len).map V, by simp, fun i s hi => ?_, fun i s hi => ?_⟩
    · rw [List.getElem?_map] at hi
      by_cases hil : i < len
      · rw [List.getElem?_range hil] at hi
        cases hi
        exact (hV i hil).1
      · rw [List.getElem?_eq_none (by simpa using hil)] at hi
        cases hi
    · rw [List.getElem?_map] at hi
      by_cases hil : i < len
      · rw [List.getElem?_range hil] at hi
        cases hi
        exact (hV i hil).2
      · rw [List.getElem?_eq_none (by simpa using hil)] at hi
        cases hi
theorem trod_struct6 {t : TypeId} {f0 f1 f2 f3 f4 f5 : Field} {fuel : Nat} {cs : List Value} {x : DataW H × List MemPlace} (ht : Try.prog.underlying t = some (.struct #[f0, f1, f2, f3, f4, f5])) (h : DataW.trod enc Try.prog W 0 (fun _ => true) true fuel t cs = some x) :
    ∃ y0 y1 y2 y3 y4 y5 n, cs.length = Try.prog.cellsOf t ∧ DataW.trod enc Try.prog W 0 (fun _ => true) true n f0.type ((cs.drop f0.offset).take (Try.prog.cellsOf f0.type)) = some y0 ∧
      DataW.trod enc Try.prog W 0 (fun _ => true) true n f1.type ((cs.drop f1.offset).take (Try.prog.cellsOf f1.type)) = some y1 ∧ DataW.trod enc Try.prog W 0 (fun _ => true) true n f2.type ((cs.drop f2.offset).take (Try.prog.cellsOf f2.type)) = some y2 ∧
      DataW.trod enc Try.prog W 0 (fun _ => true) true n f3.type ((cs.drop f3.offset).take (Try.prog.cellsOf f3.type)) = some y3 ∧ DataW.trod enc Try.prog W 0 (fun _ => true) true n f4.type ((cs.drop f4.offset).take (Try.prog.cellsOf f4.type)) = some y4 ∧
      DataW.trod enc Try.prog W 0 (fun _ => true) true n f5.type ((cs.drop f5.offset).take (Try.prog.cellsOf f5.type)) = some y5 := by
  obtain ⟨xs, n, _, rfl, hl, hlen, hf⟩ := DataW.trod_struct ht h
  match xs, hlen with
  | [y0, y1, y2, y3, y4, y5], _ => exact ⟨y0, y1, y2, y3, y4, y5, n, hl, by simpa using hf 0 f0 rfl, by simpa using hf 1 f1 rfl, by simpa using hf 2 f2 rfl, by simpa using hf 3 f3 rfl, by simpa using hf 4 f4 rfl, by simpa using hf 5 f5 rfl⟩
theorem int_trod {k : Nat} {v : Value} {y : DataW H × List MemPlace} (h : DataW.trod enc Try.prog W 0 (fun _ => true) true k 2 [v] = some y) : ∃ z : Int, v = .int .i64 z := by
  obtain ⟨z, g, _, _⟩ := DataW.trod_int Try.underlying2 h
  exact ⟨z, by simpa using g⟩
theorem str_trod {k : Nat} {v : Value} {y : DataW H × List MemPlace} (h : DataW.trod enc Try.prog W 0 (fun _ => true) true k 9 [v] = some y) : ∃ s : ByteArray, v = .string s ∧ s.size ≤ maxLen := by
  obtain ⟨s, g, _, hs⟩ := DataW.trod_string Try.underlying9 h
  exact ⟨s, by simpa using g, hs⟩
theorem transform_trod {k : Nat} {v0 v1 v2 : Value} {y : DataW H × List MemPlace} (h : DataW.trod enc Try.prog W 0 (fun _ => true) true k 23 [v0, v1, v2] = some y) : ∃ a b c : Int, v0 = .int .i64 a ∧ v1 = .int .i64 b ∧ v2 = .int .i64 c := by
  have c1 : Try.prog.cellsOf 2 = 1 := by kernel_rfl
  obtain ⟨y0, y1, y2, n, _, _, h0, h1, h2⟩ := trod_struct3 Try.underlying23 h
  obtain ⟨a, rfl⟩ := int_trod (k := n) (v := v0) (y := y0) (by simpa [c1] using h0)
  obtain ⟨b, rfl⟩ := int_trod (k := n) (v := v1) (y := y1) (by simpa [c1] using h1)
  obtain ⟨c, rfl⟩ := int_trod (k := n) (v := v2) (y := y2) (by simpa [c1] using h2)
  exact ⟨a, b, c, rfl, rfl, rfl⟩
theorem ins_trod {k : Nat} {cs' : List Value} {y : DataW H × List MemPlace} (h : DataW.trod enc Try.prog W 0 (fun _ => true) true k 25 cs' = some y) : ∃ s : Ins, True ∧ cs' = s.cs := by
  have c1 : Try.prog.cellsOf 2 = 1 := by kernel_rfl
  have c3 : Try.prog.cellsOf 23 = 3 := by kernel_rfl
  have c8 : Try.prog.cellsOf 25 = 8 := by kernel_rfl
  obtain ⟨y0, y1, y2, y3, y4, y5, n, hl, h0, h1, h2, h3, h4, h5⟩ := trod_struct6 Try.underlying25 h
  obtain ⟨v0, v1, v2, v3, v4, v5, v6, v7, rfl⟩ := list8L (hl.trans c8)
  obtain ⟨c, rfl⟩ := int_trod (k := n) (v := v0) (y := y0) (by simpa [c1] using h0)
  obtain ⟨o, x, z, rfl, rfl, rfl⟩ := transform_trod (k := n) (v0 := v1) (v1 := v2) (v2 := v3) (y := y1) (by simpa [c3] using h1)
  obtain ⟨m, rfl⟩ := int_trod (k := n) (v := v4) (y := y2) (by simpa [c1] using h2)
  obtain ⟨q, rfl⟩ := int_trod (k := n) (v := v5) (y := y3) (by simpa [c1] using h3)
  obtain ⟨p, rfl⟩ := int_trod (k := n) (v := v6) (y := y4) (by simpa [c1] using h4)
  obtain ⟨r, rfl⟩ := int_trod (k := n) (v := v7) (y := y5) (by simpa [c1] using h5)
  exact ⟨⟨c, o, x, z, m, q, p, r⟩, trivial, rfl⟩
theorem ins_open {r : Reach} {b0 : Nat} {v : Value} {d : DataW H} {p : List MemPlace} (hv : Value.okWide Try.prog W r b0 25 v) (h : DataW.Trod enc Try.prog W 0 (fun _ => true) true 25 v d p) :
    ∃ s : Ins, v = .agg #[.int .i64 s.c, .int .i64 s.o, .int .i64 s.x, .int .i64 s.y, .int .i64 s.m, .int .i64 s.n, .int .i64 s.p, .int .i64 s.q] := by
  obtain ⟨cs, rfl, hsz⟩ := okWide_struct Try.underlying25 hv
  obtain ⟨fuel, hf⟩ := h
  obtain ⟨s, -, e⟩ := ins_trod (cs' := cs.toList) (by simpa [Value.cells] using hf)
  refine ⟨s, ?_⟩
  congr 1
  exact Array.ext' (by rw [e]; rfl)
end
/-- A cell with its three addresses. -/
structure MCel where
  c : Cel
  a1 : Option Addr
  a2 : Option Addr
  a3 : Option Addr
  k1 : Nat
  k2 : Nat
  k3 : Nat
def MCel.cs (m : MCel) : List Value := [.string m.c.s, .slice m.a1 m.c.a.length m.k1, .slice m.a2 m.c.b.length m.k2, .slice m.a3 m.c.d.length m.k3]
def LenOK (c : Cel) : Prop := c.s.size ≤ maxLen ∧ c.a.length ≤ maxLen ∧ c.b.length ≤ maxLen ∧ c.d.length ≤ maxLen ∧ ∀ (j : Nat) (s : Lbl), c.b[j]? = some s → s.s.size ≤ maxLen
section
variable {H : Type} {enc : TypeId × Value → H} {W : World}
end
end Go.Proofs.Ytciodcknobccdaa
