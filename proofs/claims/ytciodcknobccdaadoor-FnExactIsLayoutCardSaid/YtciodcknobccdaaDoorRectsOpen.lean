/- What the reading of a slice of rectangles gives: its elements' cells. -/
import Derived.Test.YtciodcknobccdaaDoorReA
import Derived.ProofKit
import Derived.OpenShut
import Derived.Deep.Slices
import Derived.Deep.Fields
import Derived.Lib.LaidU8
namespace Go.Proofs.YtciodcknobccdaaDoor
open Go.ChangeShapes Go.WideShapes Go.RowKit Go.Deep
set_option linter.unusedVariables false

theorem addNk' (b o k : Nat) : (⟨b, o, none⟩ : Addr).add k = ⟨b, o + k, none⟩ := by
  unfold Addr.add
  split
  · rename_i h; subst h; rfl
  · rfl

theorem rects_open {H : Type} {enc : TypeId × Value → H} {W : World} {fuel : Nat} {a : Option Addr} {len cap : Nat} {x : DataW H × List MemPlace}
    (hf : DataW.trod enc Tryd.prog W 0 (fun _ => true) true fuel 103 (Value.slice a len cap).cells.toList = some x) : len ≤ maxLen ∧ ∃ P Q R S : Nat → Int, RectsIs W.heap.size W a len P Q R S := by
  have c1 : Tryd.prog.cellsOf 2 = 1 := by kernel_rfl
  have c2 : Tryd.prog.cellsOf 146 = 4 := by kernel_rfl
  rcases open_slice Tryd.underlying103 hf with ⟨hcs, _⟩ | ⟨ad, l, c, m, nn, D, Pl, hcs, hb, hl, hm, hmm, _, hi⟩
  · simp [Value.cells] at hcs
    obtain ⟨rfl, rfl, rfl⟩ := hcs
    exact ⟨Nat.zero_le _, fun _ => 0, fun _ => 0, fun _ => 0, fun _ => 0, fun k hk => absurd hk (by omega)⟩
  · simp [Value.cells] at hcs
    obtain ⟨rfl, rfl, rfl⟩ := hcs
    simp at hmm
    rw [c2] at hi
    obtain ⟨V, hV⟩ := choose_lt (α := Int × Int × Int × Int) (n := len) (p := fun i v => ∃ b off : Nat, some ad = some ⟨b, off, none⟩ ∧ b < W.heap.size ∧ W.cell? ⟨b, off + i * 4, none⟩ = some (.int .i64 v.1) ∧ W.cell? ⟨b, off + i * 4 + 1, none⟩ = some (.int .i64 v.2.1) ∧ W.cell? ⟨b, off + i * 4 + 2, none⟩ = some (.int .i64 v.2.2.1) ∧ W.cell? ⟨b, off + i * 4 + 3, none⟩ = some (.int .i64 v.2.2.2)) (fun i hil => by
      have hi0 := hi 0 (by omega)
      obtain ⟨cs0, hc0, _⟩ := hi0
      obtain ⟨cs', hc, ht⟩ := hi i (by omega)
      obtain ⟨_, hcl0, hat0⟩ := World.cells?_some hc0
      obtain ⟨_, hcl, hat⟩ := World.cells?_some hc
      have hz := hat0 0 (by omega)
      rw [List.getElem?_eq_getElem (by omega)] at hz
      simp [Addr.add] at hz
      have hsp : ad.spot = none := Go.Proofs.cell_spot hz
      obtain ⟨b, off, sp⟩ := ad
      obtain rfl : sp = none := hsp
      match cs', hcl with
      | [v0, v1, v2, v3], _ =>
        obtain ⟨xs, n', _, _, _, hlen, hfl⟩ := DataW.trod_struct Tryd.underlying146 ht
        match xs, hlen with
        | [y0, y1, y2, y3], _ =>
        have h0 := hfl 0 _ rfl
        have h1 := hfl 1 _ rfl
        have h2 := hfl 2 _ rfl
        have h3 := hfl 3 _ rfl
        have e0 := hat 0 (by omega)
        have e1 := hat 1 (by omega)
        have e2 := hat 2 (by omega)
        have e3 := hat 3 (by omega)
        rw [Go.Deep.add_add, addNk'] at e0 e1 e2 e3
        simp at e0 e1 e2 e3
        have k0 : DataW.trod enc Tryd.prog W 0 (fun _ => true) true n' 2 [v0] = some y0 := by simpa [c1] using h0
        have k1 : DataW.trod enc Tryd.prog W 0 (fun _ => true) true n' 2 [v1] = some y1 := by simpa [c1] using h1
        have k2 : DataW.trod enc Tryd.prog W 0 (fun _ => true) true n' 2 [v2] = some y2 := by simpa [c1] using h2
        have k3 : DataW.trod enc Tryd.prog W 0 (fun _ => true) true n' 2 [v3] = some y3 := by simpa [c1] using h3
        obtain ⟨z0, g0, _, _⟩ := DataW.trod_int Tryd.underlying2 k0
        obtain ⟨z1, g1, _, _⟩ := DataW.trod_int Tryd.underlying2 k1
        obtain ⟨z2, g2, _, _⟩ := DataW.trod_int Tryd.underlying2 k2
        obtain ⟨z3, g3, _, _⟩ := DataW.trod_int Tryd.underlying2 k3
        simp at g0 g1 g2 g3
        subst g0 g1 g2 g3
        exact ⟨(z0, z1, z2, z3), b, off, rfl, World.block_lt_of_cell? W ⟨b, off + i * 4, none⟩ e0, e0, by simpa [Nat.add_assoc] using e1, by simpa [Nat.add_assoc] using e2, by simpa [Nat.add_assoc] using e3⟩)
    exact ⟨by omega, fun i => (V i).1, fun i => (V i).2.1, fun i => (V i).2.2.1, fun i => (V i).2.2.2, fun i hi => hV i hi⟩
end Go.Proofs.YtciodcknobccdaaDoor
