/- Lists of rectangles that a call hands back in memory of its own, and the laws' marks in them. -/
import Derived.Test.YtciodcknobccdaaDoorRgI
import Derived.Test.YtciodcknobccdaaDoorRgK
namespace Go.Proofs.YtciodcknobccdaaDoor
open Go.RowKit
set_option linter.unusedVariables false
set_option linter.unusedSimpArgs false

/-- The rectangles of list l are read through slice a. -/
def RectsL (B : Nat) (w : World) (a : Option Addr) (l : List R4) : Prop := RectsIs B w a l.length (pA l) (pB l) (pC l) (pD l)
theorem RectsIs.mono {B C : Nat} {w : World} {a : Option Addr} {n : Nat} {P Q R S : Nat → Int} (h : RectsIs B w a n P Q R S) (hBC : B ≤ C) : RectsIs C w a n P Q R S := fun i hi => by
  obtain ⟨b, o, e, hb, r⟩ := h i hi
  exact ⟨b, o, e, Nat.lt_of_lt_of_le hb hBC, r⟩
theorem RecIs.rects {B : Nat} {w : World} {h : Nat} {l : List R4} (hR : RecIs B w h l) : RectsL w.heap.size w (some ⟨h, 0, none⟩) l := fun i hi => by
  obtain ⟨c0, c1, c2, c3⟩ := hR.2.2 i _ (getD_get hi)
  exact ⟨h, 0, rfl, hR.2.1, by simpa [pA] using c0, by simpa [pB] using c1, by simpa [pC] using c2, by simpa [pD] using c3⟩
theorem RectsL.nil (B : Nat) (w : World) (a : Option Addr) : RectsL B w a [] := fun i hi => absurd hi (Nat.not_lt_zero _)

/-- List l lies in a row of its own, from block B on, which may be written. -/
def OwnsL (B : Nat) (w : World) (a : Option Addr) (l : List R4) : Prop := l = [] ∨ ∃ h, a = some ⟨h, 0, none⟩ ∧ B ≤ h ∧ h < w.heap.size ∧ RowR w h l.length (pA l) (pB l) (pC l) (pD l)
theorem OwnsL.rects {B : Nat} {w : World} {a : Option Addr} {l : List R4} (h : OwnsL B w a l) : RectsL w.heap.size w a l := by
  rcases h with rfl | ⟨h, rfl, _, _, hr⟩
  · exact RectsL.nil _ _ _
  · exact hr.rects
theorem OwnsL.mono {B C : Nat} {w : World} {a : Option Addr} {l : List R4} (h : OwnsL B w a l) (hBC : C ≤ B) : OwnsL C w a l := by
  rcases h with rfl | ⟨h, rfl, h1, r⟩
  · exact .inl rfl
  · exact .inr ⟨h, rfl, Nat.le_trans hBC h1, r⟩
theorem OwnsL.below {B : Nat} {w w' : World} {a : Option Addr} {l : List R4} (h : OwnsL B w a l) (hb : Below w.heap.size w w') : OwnsL B w' a l := by
  rcases h with rfl | ⟨h, rfl, h1, h2, hr⟩
  · exact .inl rfl
  · exact .inr ⟨h, rfl, h1, Nat.lt_of_lt_of_le h2 hb.size, hr.below hb h2⟩
theorem OwnsL.wr {B g : Nat} {w w' : World} {a : Option Addr} {l : List R4} (h : OwnsL B w a l) (hw : Wr g w w') (hg : g < B) : OwnsL B w' a l := by
  rcases h with rfl | ⟨h, rfl, h1, h2, hr⟩
  · exact .inl rfl
  · exact .inr ⟨h, rfl, h1, Nat.lt_of_lt_of_le h2 hw.size, hw.rows hr (by omega) h2⟩
/-- The marks from k on lie there. -/
def HeldL (B : Nat) (w : World) (a : Option Addr) (n : Nat) (k : Int) : Prop := n = 0 ∨ ∃ h, a = some ⟨h, 0, none⟩ ∧ B ≤ h ∧ h < w.heap.size ∧ RowR w h n (mkV k 0) (mkV k 1) (mkV k 2) (mkV k 3)
theorem HeldL.below {B : Nat} {w w' : World} {a : Option Addr} {n : Nat} {k : Int} (h : HeldL B w a n k) (hb : Below w.heap.size w w') : HeldL B w' a n k := by
  rcases h with rfl | ⟨h, rfl, h1, h2, hr⟩
  · exact .inl rfl
  · exact .inr ⟨h, rfl, h1, Nat.lt_of_lt_of_le h2 hb.size, hr.below hb h2⟩

/-- A call that hands back list l (and a flag), read through a slice. -/
def LRes2 (l : List R4) (b : Bool) (e : Ending) (w : World) : Prop := ∃ a c, e = .returned (.tuple #[.slice a l.length c, .bool b]) ∧ RectsL w.heap.size w a l
def LRes (l : List R4) (e : Ending) (w : World) : Prop := ∃ a c, e = .returned (.slice a l.length c) ∧ RectsL w.heap.size w a l
/-- .. in memory of its own. -/
def LOwn2 (B : Nat) (l : List R4) (b : Bool) (e : Ending) (w : World) : Prop := ∃ a c, e = .returned (.tuple #[.slice a l.length c, .bool b]) ∧ OwnsL B w a l
def LOwn (B : Nat) (l : List R4) (e : Ending) (w : World) : Prop := ∃ a c, e = .returned (.slice a l.length c) ∧ OwnsL B w a l

/-- What RegionOf answers. -/
def roL (P Q R S : Nat → Int) (n : Nat) : List R4 := if okV P Q R S n = true then canonL (covF P Q R S n) else []
theorem roL_len (P Q R S : Nat → Int) (n : Nat) : (roL P Q R S n).length ≤ 3280 := by
  unfold roL; split
  · exact canonL_len _
  · simp
/-- What ClipRegion answers. -/
def clL (P Q R S : Nat → Int) (n : Nat) (a b c d : Int) : List R4 := if (okR P Q R S n && rvB a b c d) = true then canonL (clipF (covF P Q R S n) a b c d) else []
theorem clL_len (P Q R S : Nat → Int) (n : Nat) (a b c d : Int) : (clL P Q R S n a b c d).length ≤ 3280 := by
  unfold clL; split
  · exact canonL_len _
  · simp
end Go.Proofs.YtciodcknobccdaaDoor
