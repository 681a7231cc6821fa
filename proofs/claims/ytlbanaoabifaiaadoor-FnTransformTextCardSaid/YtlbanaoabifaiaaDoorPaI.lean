/- The program's ParseTransform. Conditions: the library's variables hold what the program's text lays. -/
import Derived.Test.YtlbanaoabifaiaaDoorTrTab
import Derived.Test.YtlbanaoabifaiaaDoorPaO
import Derived.Test.YtlbanaoabifaiaaDoorPaT
namespace Go.Proofs.YtlbanaoabifaiaaDoor
open Go.RowKit
set_option linter.unusedVariables false
set_option linter.unusedSimpArgs false

/-- What the library's variables hold, as far as the parse reads them. -/
structure ParW (w : World) : Prop where
  tab : TabW w
  len : ∃ m : Int, w.cell? ⟨4, 0, none⟩ = some (.int .i64 m)
  syn : ∃ t p, w.cell? ⟨1, 0, none⟩ = some (.iface t p)
  rng : ∃ t p, w.cell? ⟨2, 0, none⟩ = some (.iface t p)
theorem cell_ext {W W' : World} {b : Nat} {v : Value} (h : W.cell? ⟨b, 0, none⟩ = some v) (hb : Below W.heap.size W W') : W'.cell? ⟨b, 0, none⟩ = some v :=
  (hb.cell (show (⟨b, 0, none⟩ : Addr).block < W.heap.size from World.block_lt_of_cell? W ⟨b, 0, none⟩ h)).trans h
theorem ParW.below {W W' : World} (h : ParW W) (hb : Below W.heap.size W W') : ParW W' :=
  ⟨h.tab.below hb, h.len.imp fun _ k => cell_ext k hb, by obtain ⟨t, p, k⟩ := h.syn; exact ⟨t, p, cell_ext k hb⟩, by obtain ⟨t, p, k⟩ := h.rng; exact ⟨t, p, cell_ext k hb⟩⟩

/-- What strconv.ParseInt answers. -/
def NRes (s : ByteArray) (e : Ending) : Prop := ∃ v ev, e = .returned (.tuple #[.int .i64 v, ev]) ∧ (ev = .nilIface ∨ ∃ t p, ev = .iface t (.pointer p)) ∧ ∀ m, Lib.parseIntB 64 s.data.toList = .ok m → v = m ∧ ev = .nilIface
theorem parseInt_any (s : ByteArray) (w : World) (hs : s.size ≤ 1048576) (hP : ParW w) : Calls Tryd.prog 24 #[.string s, .int .i64 10, .int .i64 64] w fun e w' => NRes s e ∧ Below w.heap.size w w' := by
  cases h : Lib.parseIntB 64 s.data.toList with
  | ok v =>
    refine (Tryd.strconv_ParseInt_10_at64_ok s (by omega) v h w).mono ?_
    rintro e w' ⟨rfl, hw⟩
    refine ⟨⟨v, _, rfl, .inl rfl, fun m hm => ⟨by rw [h] at hm; cases hm; rfl, rfl⟩⟩, ?_⟩
    rcases hw with rfl | ⟨t, rfl⟩
    · exact Below.refl _ _
    · exact Lib.bytesWorld_below _ _ _
  | «syntax» =>
    obtain ⟨t, p, hv⟩ := hP.syn
    refine (Tryd.strconv_ParseInt_10_at64_syntax s (by omega) h _ w hv (.inr ⟨t, p, rfl⟩)).mono ?_
    rintro e w' ⟨N, rfl, _, _, hb⟩
    exact ⟨⟨_, _, rfl, .inr ⟨_, _, rfl⟩, fun m hm => by rw [h] at hm; cases hm⟩, hb⟩
  | range =>
    obtain ⟨t, p, hv⟩ := hP.rng
    refine (Tryd.strconv_ParseInt_10_at64_range s (by omega) h _ w hv (.inr ⟨t, p, rfl⟩)).mono ?_
    rintro e w' ⟨N, rfl, _, _, hb⟩
    exact ⟨⟨_, _, rfl, .inr ⟨_, _, rfl⟩, fun m hm => by rw [h] at hm; cases hm⟩, hb⟩

theorem split_any (s : ByteArray) (n : Nat) (w : World) (hs : s.size ≤ 1048576) (hP : ParW w) (hn : (wordsB s).length = n) : Calls Tryd.prog 23 #[.string s, .string ⟨#[32]⟩] w fun e w' => (∃ g, e = .returned (.slice (some ⟨g, 0, none⟩) n n) ∧ TextsIs w.heap.size w' g (wordsB s)) ∧ Below w.heap.size w w' := by
  obtain ⟨m, hm⟩ := hP.len
  have hl := words_length s
  refine (Tryd.strings_Split s blankB m w (by omega) hm (by decide)).mono ?_
  rintro e w' ⟨rfl, rfl⟩
  refine ⟨⟨w.heap.size, by rw [← hn, hl], Nat.le_refl _, by simp, fun k p hp => ?_⟩, by (repeat (first | (with_reducible exact Below.refl _ _) | (with_reducible refine Ext.drewN ?_ _) | (with_reducible refine Below.drew ?_) | (with_reducible refine Ext.alloc ?_ _) | (with_reducible refine Ext.setCell ?_ (by simp; try omega) _) | (with_reducible refine Ext.trans ?_ (by assumption)) | (with_reducible assumption) | exact Below.refl _ _))⟩
  have hk := (List.getElem?_eq_some_iff.1 hp).1
  rw [World.cell?_alloc_at _ _ _ _ (by simp)]
  show (((Lib.splitB blankB 0 (Lib.countB s blankB) s).map Value.string).toArray)[k]? = _
  rw [List.getElem?_toArray, List.getElem?_map]
  have hp' : (Lib.splitB blankB 0 (Lib.countB s blankB) s)[k]? = some p := hp
  rw [hp']; rfl
end Go.Proofs.YtlbanaoabifaiaaDoor
