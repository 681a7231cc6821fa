/- The laws' marks of libraries. Condition: the library lies in rows of its own. -/
import Derived.Test.YtciodcknobccdaaDoorLbC
import Derived.Laws.BytesArg
import Derived.Laws.BytesString
import Derived.Laws.Strings
import Derived.Lib.Strings
namespace Go.Proofs.YtciodcknobccdaaDoor
open Go.RowKit
set_option linter.unusedVariables false
set_option linter.unusedSimpArgs false
attribute [local go_sem ↓] Go.wp_at_zero Go.wp_at_succ

def notSl (v : Value) : Prop := ∀ a n c, v ≠ .slice a n c
/-- A cell that may be written and holds no slice. -/
def NsAt (w : World) (p : Addr) : Prop := (∃ v, w.cell? p = some v ∧ notSl v) ∧ w.frozen? p = false
/-- What a mark keeps: all blocks but those from lo to hi; and, in these, what is a slice. -/
structure St (lo hi : Nat) (w w' : World) : Prop where
  os : w'.os = w.os
  tape : w'.tape = w.tape
  output : w'.output = w.output
  size : w.heap.size ≤ w'.heap.size
  out : ∀ k, k < w.heap.size → ¬ (lo ≤ k ∧ k < hi) → w'.heap[k]? = w.heap[k]?
  sl : ∀ p a n c, w.cell? p = some (.slice a n c) → w'.cell? p = some (.slice a n c)
  ns : ∀ p, NsAt w p → NsAt w' p
theorem St.refl (lo hi : Nat) (w : World) : St lo hi w w := ⟨rfl, rfl, rfl, Nat.le_refl _, fun _ _ _ => rfl, fun _ _ _ _ h => h, fun _ h => h⟩
theorem St.trans {lo hi : Nat} {w w1 w2 : World} (h : St lo hi w w1) (k : St lo hi w1 w2) : St lo hi w w2 :=
  ⟨k.os.trans h.os, k.tape.trans h.tape, k.output.trans h.output, Nat.le_trans h.size k.size, fun j hj hn => (k.out j (Nat.lt_of_lt_of_le hj h.size) hn).trans (h.out j hj hn), fun p a n c e => k.sl p a n c (h.sl p a n c e), fun p e => k.ns p (h.ns p e)⟩
theorem St.grown {lo hi : Nat} {w w1 : World} (h : Below w.heap.size w w1) : St lo hi w w1 :=
  ⟨h.os, h.tape, h.output, h.size, fun j hj _ => h.block j hj, fun p a n c e => (h.cell (World.block_lt_of_cell? w p e)).trans e, fun p e => by
    obtain ⟨⟨v, hv, hn⟩, hf⟩ := e
    have hl := World.block_lt_of_cell? w p hv
    exact ⟨⟨v, (h.cell hl).trans hv, hn⟩, (h.frozen hl).trans hf⟩⟩
theorem St.set {lo hi : Nat} {w : World} {p : Addr} (h : NsAt w p) (h1 : lo ≤ p.block) (h2 : p.block < hi) {v : Value} (hv : notSl v) : St lo hi w (w.setCell p v) := by
  obtain ⟨⟨u, hu, hn⟩, hf⟩ := h
  refine ⟨rfl, rfl, rfl, by simp, fun k hk hn => Below.heap_setCell _ _ _ _ (fun e => hn ⟨by omega, by omega⟩), fun q a n c e => ?_, fun q e => ?_⟩
  · by_cases hq : q = p
    · subst hq; rw [hu] at e; cases e; exact absurd rfl (hn _ _ _)
    · exact other_cellL hq e
  · obtain ⟨⟨x, hx, hm⟩, hg⟩ := e
    refine ⟨?_, (World.frozen?_setCell _ _ _ _).trans hg⟩
    by_cases hq : q = p
    · subst hq; exact ⟨v, World.cell?_setCell_same _ _ _ hu, hv⟩
    · exact ⟨x, other_cellL hq hx, hm⟩
theorem nsI (z : Int) : notSl (.int .i64 z) := fun _ _ _ h => by cases h
theorem nsS (s : ByteArray) : notSl (.string s) := fun _ _ _ h => by cases h
theorem conv1L (W : World) (b c : Nat) (x : Int) (h0 : W.cell? ⟨b, 0, none⟩ = some (.int .u8 x)) : (convert 22 9 (.slice (some ⟨b, 0, none⟩) 1 c)).run Tryd.prog W = .ok (.string (strOfNums [x])) W :=
  run_convert_bytes_arg (P := Tryd.prog) W 22 5 Tryd.underlying22 Tryd.underlying5 b 0 1 c [x] rfl (fun i hi => by
    obtain rfl : i = 0 := by omega
    exact h0) 9 Tryd.underlying9
set_option maxRecDepth 100000 in
set_option maxHeartbeats 4000000 in
theorem markText_any (k : Int) (w : World) (hk : 0 ≤ k) (hk2 : k ≤ 100000000) : Calls Tryd.prog 97 #[.int .i64 k] w fun e w' => (∃ s, e = .returned (.string s)) ∧ Below w.heap.size w w' := by
  by_cases h0 : k ≤ 0
  · go_enter Tryd.func97, Tryd.ntmps97
    go_wp2_with fail
    go_ret
    exact ⟨⟨_, rfl⟩, by (repeat (first | (with_reducible exact Below.refl _ _) | (with_reducible refine Ext.drewN ?_ _) | (with_reducible refine Below.drew ?_) | (with_reducible refine Ext.alloc ?_ _) | (with_reducible refine Ext.setCell ?_ (by simp; try omega) _) | (with_reducible refine Ext.trans ?_ (by assumption)) | (with_reducible assumption) | exact Below.refl _ _))⟩
  · go_enter Tryd.func97, Tryd.ntmps97
    go_wp2_with fail
    go_loopw [0, 3] (fun s0 s3 wr => ∃ (u : Int) (t : ByteArray), 0 ≤ u ∧ u ≤ k ∧ s0 = .int .i64 u ∧ s3 = .string t ∧ (t.size : Int) + u ≤ k ∧ Below w.heap.size w wr) (fun s0 _ _ => (intOf s0).toNat)
    case atStart => exact ⟨k, _, hk, Int.le_refl _, rfl, rfl, by simp [ByteArray.size], Below.refl _ _⟩
    case round =>
      obtain ⟨u, t, hu, huk, rfl, rfl, htu, hW⟩ := hrel
      have hsz : ∀ x : Int, (strOfNums [x]).size = 1 := fun x => by simp [strOfNums, ByteArray.size]
      have hp : ¬ 9223372036854775807 < 1 + t.size := by omega
      have hp2 : ∀ x : Int, ¬ 9223372036854775807 < (strOfNums [x]).size + t.size := fun x => by rw [hsz]; exact hp
      by_cases hlt : 0 < u
      · have hc : ∀ x T, (convert 22 9 (.slice (some ⟨wr.heap.size, 0, none⟩) 1 1)).run Tryd.prog (wr.alloc (.cells #[.int .u8 x] T)) = .ok (.string (strOfNums [x])) (wr.alloc (.cells #[.int .u8 x] T)) := fun x T => conv1L _ _ _ _ (by simp [go_sem])
        have e1 : u.tdiv 10 = u / 10 := Int.tdiv_eq_ediv_of_nonneg hu
        have e2 : u.tmod 10 = u % 10 := Int.tmod_eq_emod_of_nonneg hu
        have e3 : IntKind.i64.wrap (u / 10) = u / 10 := by rw [IntKind.wrap_i64]; omega
        go_wp2_with fail
        go_roundw
        case rel => exact ⟨u / 10, _, by omega, by omega, by first | rfl | simp [e1, e3], rfl, by rw [ByteArray.size_append, hsz]; omega, by (repeat (first | (with_reducible exact Below.refl _ _) | (with_reducible refine Ext.drewN ?_ _) | (with_reducible refine Below.drew ?_) | (with_reducible refine Ext.alloc ?_ _) | (with_reducible refine Ext.setCell ?_ (by simp; try omega) _) | (with_reducible refine Ext.trans ?_ (by assumption)) | (with_reducible assumption) | exact Below.refl _ _))⟩
        case measure => simp [intOf, e1, e3]; omega
      · go_wp2_with fail
        go_ret
        exact ⟨⟨_, rfl⟩, by (repeat (first | (with_reducible exact Below.refl _ _) | (with_reducible refine Ext.drewN ?_ _) | (with_reducible refine Below.drew ?_) | (with_reducible refine Ext.alloc ?_ _) | (with_reducible refine Ext.setCell ?_ (by simp; try omega) _) | (with_reducible refine Ext.trans ?_ (by assumption)) | (with_reducible assumption) | exact Below.refl _ _))⟩
end Go.Proofs.YtciodcknobccdaaDoor
