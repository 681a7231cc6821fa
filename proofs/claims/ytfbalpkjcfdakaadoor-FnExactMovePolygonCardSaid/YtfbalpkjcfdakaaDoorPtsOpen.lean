/- What the reading of a slice of points gives: its elements' cells. -/
import Derived.Test.YtfbalpkjcfdakaaDoorTrU
import Derived.ProofKit
import Derived.OpenShut
import Derived.Deep.Slices
import Derived.Deep.Fields
import Derived.Lib.LaidU8
namespace Go.Proofs.YtfbalpkjcfdakaaDoor
open Go.ChangeShapes Go.WideShapes Go.RowKit Go.Deep
set_option linter.unusedVariables false

theorem addNk' (b o k : Nat) : (⟨b, o, none⟩ : Addr).add k = ⟨b, o + k, none⟩ := by
  unfold Addr.add
  split
  · rename_i h; subst h; rfl
  · rfl

theorem pts_open {H : Type} {enc : TypeId × Value → H} {W : World} {fuel : Nat} {a : Option Addr} {len cap : Nat} {x : DataW H × List MemPlace}
    (hf : DataW.trod enc Tryd.prog W 0 (fun _ => true) true fuel 24 (Value.slice a len cap).cells.toList = some x) : len ≤ maxLen ∧ ∃ X Y : Nat → Int, PtsIs W.heap.size W a len X Y := by
  have c1 : Tryd.prog.cellsOf 2 = 1 := by kernel_rfl
  have c2 : Tryd.prog.cellsOf 70 = 2 := by kernel_rfl
  rcases open_slice Tryd.underlying24 hf with ⟨hcs, _⟩ | ⟨ad, l, c, m, nn, D, Pl, hcs, hb, hl, hm, hmm, _, hi⟩
  · simp [Value.cells] at hcs
    obtain ⟨rfl, rfl, rfl⟩ := hcs
    exact ⟨Nat.zero_le _, fun _ => 0, fun _ => 0, fun k hk => absurd hk (by omega)⟩
  · simp [Value.cells] at hcs
    obtain ⟨rfl, rfl, rfl⟩ := hcs
    simp at hmm
    rw [c2] at hi
    obtain ⟨V, hV⟩ := choose_lt (α := Int × Int) (n := len) (p := fun i v => ∃ b off : Nat, some ad = some ⟨b, off, none⟩ ∧ b < W.heap.size ∧ W.cell? ⟨b, off + i * 2, none⟩ = some (.int .i64 v.1) ∧ W.cell? ⟨b, off + i * 2 + 1, none⟩ = some (.int .i64 v.2)) (fun i hil => by
      have hi0 := hi 0 (by omega)
      obtain ⟨cs0, hc0, _⟩ := hi0
      obtain ⟨cs', hc, ht⟩ := hi i (by omega)
      obtain ⟨_, hcl0, hat0⟩ := World.cells?_some hc0
      obtain ⟨_, hcl, hat⟩ := World.cells?_some hc
      have hz := hat0 0 (by omega)
      rw [List.getElem?_eq_getElem (by omega)] at hz
      simp [Addr.add] at hz
      have hsp : ad.spot = none := Go.Proofs.cell_spot hz
      obtain ⟨b, off, sp⟩ := ad
      obtain rfl : sp = none := hsp
      match cs', hcl with
      | [v0, v1], _ =>
        obtain ⟨y0, y1, n', _, _, h0, h1⟩ := trod_struct2 Tryd.underlying70 ht
        have e0 := hat 0 (by omega)
        have e1 := hat 1 (by omega)
        rw [Go.Deep.add_add, addNk'] at e0 e1
        simp at e0 e1
        have k0 : DataW.trod enc Tryd.prog W 0 (fun _ => true) true n' 2 [v0] = some y0 := by simpa [c1] using h0
        have k1 : DataW.trod enc Tryd.prog W 0 (fun _ => true) true n' 2 [v1] = some y1 := by simpa [c1] using h1
        obtain ⟨z0, g0, _, _⟩ := DataW.trod_int Tryd.underlying2 k0
        obtain ⟨z1, g1, _, _⟩ := DataW.trod_int Tryd.underlying2 k1
        simp at g0 g1
        subst g0 g1
        exact ⟨(z0, z1), b, off, rfl, World.block_lt_of_cell? W ⟨b, off + i * 2, none⟩ e0, e0, by simpa [Nat.add_assoc] using e1⟩)
    exact ⟨by omega, fun i => (V i).1, fun i => (V i).2, fun i hi => hV i hi⟩
end Go.Proofs.YtfbalpkjcfdakaaDoor
