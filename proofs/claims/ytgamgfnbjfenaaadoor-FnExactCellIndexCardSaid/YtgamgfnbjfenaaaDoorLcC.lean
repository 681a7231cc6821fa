/- CellIndex, by the model and by the program. Conditions: the cells' parts are in memory; impl.chip holds its value. -/
import Derived.Test.YtgamgfnbjfenaaaDoorLcB
namespace Go.Proofs.YtgamgfnbjfenaaaDoor
open Go.RowKit
set_option linter.unusedVariables false
set_option linter.unusedSimpArgs false
attribute [local go_sem ↓] Go.wp_at_zero Go.wp_at_succ

/-- What CellIndex answers. -/
def CiR (L : List Cel) (s : ByteArray) (r : Int) : Prop := (libB L = true ∧ IsFst L s r) ∨ (libB L = false ∧ r = -1)
theorem CiR.unique {L : List Cel} {s : ByteArray} {r q : Int} (h : CiR L s r) (k : CiR L s q) : r = q := by
  rcases h with ⟨h1, h2⟩ | ⟨h1, h2⟩ <;> rcases k with ⟨k1, k2⟩ | ⟨k1, k2⟩
  · exact h2.unique k2
  · rw [h1] at k1; cases k1
  · rw [h1] at k1; cases k1
  · rw [h2, k2]
theorem implCellIndex_any (a : Option Addr) (L : List Cel) (cap : Nat) (s : ByteArray) (w : World) (hCh : ChipW w) (hs : szCs L ≤ 1048576) (hL : CelsAt w.heap.size w a L) :
    Calls Tryd.prog 26 #[.agg #[.slice a L.length cap], .string s] w fun e w' => (∃ r : Int, e = .returned (.int .i64 r) ∧ CiR L s r) ∧ Below w.heap.size w w' := by
  have HL := Lib.hid hL
  have HCh := Lib.hid hCh
  have hlen := sz_len hs
  clear hL hCh
  cases hp : libB L with
  | true =>
    go_enter Tryd.func26, Tryd.ntmps26
    go_wp2_with (first | (go_at_call 23; refine (implIsValidLibrary_any a L cap _ (HCh.out.ext (by (repeat (first | (with_reducible exact Below.refl _ _) | (with_reducible refine Ext.drewN ?_ _) | (with_reducible refine Below.drew ?_) | (with_reducible refine Ext.alloc ?_ _) | (with_reducible refine Ext.setCell ?_ (by simp; try omega) _) | (with_reducible refine Ext.trans ?_ (by assumption)) | (with_reducible assumption) | exact Below.refl _ _)))) hs (HL.out.ext (by (repeat (first | (with_reducible exact Below.refl _ _) | (with_reducible refine Ext.drewN ?_ _) | (with_reducible refine Below.drew ?_) | (with_reducible refine Ext.alloc ?_ _) | (with_reducible refine Ext.setCell ?_ (by simp; try omega) _) | (with_reducible refine Ext.trans ?_ (by assumption)) | (with_reducible assumption) | exact Below.refl _ _))))).mono ?_; rintro e v1 ⟨rfl, bv1⟩; obtain ⟨sv1, zv1, cv1, fv1⟩ := bcell bv1; (try simp only [World.size_alloc, World.size_setCell, World.size_drew] at sv1); rw [hp]) | (go_at_call 77; refine (firstNamed_any a L cap s _ hlen (HL.out.ext (by (repeat (first | (with_reducible exact Below.refl _ _) | (with_reducible refine Ext.drewN ?_ _) | (with_reducible refine Below.drew ?_) | (with_reducible refine Ext.alloc ?_ _) | (with_reducible refine Ext.setCell ?_ (by simp; try omega) _) | (with_reducible refine Ext.trans ?_ (by assumption)) | (with_reducible assumption) | exact Below.refl _ _))))).mono ?_; rintro e v2 ⟨⟨r, rfl, hr⟩, bv2⟩; have HR := Lib.hid hr; clear hr))
    go_ret
    exact ⟨⟨_, rfl, .inl ⟨hp, HR.out⟩⟩, by (repeat (first | (with_reducible exact Below.refl _ _) | (with_reducible refine Ext.drewN ?_ _) | (with_reducible refine Below.drew ?_) | (with_reducible refine Ext.alloc ?_ _) | (with_reducible refine Ext.setCell ?_ (by simp; try omega) _) | (with_reducible refine Ext.trans ?_ (by assumption)) | (with_reducible assumption) | exact Below.refl _ _))⟩
  | false =>
    go_enter Tryd.func26, Tryd.ntmps26
    go_wp2_with (first | (go_at_call 23; refine (implIsValidLibrary_any a L cap _ (HCh.out.ext (by (repeat (first | (with_reducible exact Below.refl _ _) | (with_reducible refine Ext.drewN ?_ _) | (with_reducible refine Below.drew ?_) | (with_reducible refine Ext.alloc ?_ _) | (with_reducible refine Ext.setCell ?_ (by simp; try omega) _) | (with_reducible refine Ext.trans ?_ (by assumption)) | (with_reducible assumption) | exact Below.refl _ _)))) hs (HL.out.ext (by (repeat (first | (with_reducible exact Below.refl _ _) | (with_reducible refine Ext.drewN ?_ _) | (with_reducible refine Below.drew ?_) | (with_reducible refine Ext.alloc ?_ _) | (with_reducible refine Ext.setCell ?_ (by simp; try omega) _) | (with_reducible refine Ext.trans ?_ (by assumption)) | (with_reducible assumption) | exact Below.refl _ _))))).mono ?_; rintro e v1 ⟨rfl, bv1⟩; obtain ⟨sv1, zv1, cv1, fv1⟩ := bcell bv1; (try simp only [World.size_alloc, World.size_setCell, World.size_drew] at sv1); rw [hp]))
    go_ret
    exact ⟨⟨_, rfl, .inr ⟨hp, rfl⟩⟩, by (repeat (first | (with_reducible exact Below.refl _ _) | (with_reducible refine Ext.drewN ?_ _) | (with_reducible refine Below.drew ?_) | (with_reducible refine Ext.alloc ?_ _) | (with_reducible refine Ext.setCell ?_ (by simp; try omega) _) | (with_reducible refine Ext.trans ?_ (by assumption)) | (with_reducible assumption) | exact Below.refl _ _))⟩
set_option maxRecDepth 100000 in
set_option maxHeartbeats 8000000 in
theorem specCellIndex_any (a : Option Addr) (L : List Cel) (cap : Nat) (s : ByteArray) (w : World) (hs : szCs L ≤ 1048576) (hL : CelsAt w.heap.size w a L) :
    Calls Tryd.prog 25 #[.agg #[.slice a L.length cap], .string s] w fun e w' => (∃ r : Int, e = .returned (.int .i64 r) ∧ CiR L s r) ∧ Below w.heap.size w w' := by
  have HL := Lib.hid hL
  have hlen := sz_len hs
  have HZ := Lib.hid hs
  clear hL hs
  go_enter Tryd.func25, Tryd.ntmps25
  go_wp2_with fail
  go_loopw [5] (fun s5 wr => ∃ i : Nat, i ≤ L.length ∧ s5 = .int .i64 (i : Nat) ∧ Hid (newB L i s = true) ∧ Below w.heap.size w wr ∧ Hid (BoxL w.heap.size wr a L.length cap)) (fun s5 _ => L.length - (intOf s5).toNat)
  case atStart => exact ⟨0, by omega, rfl, Lib.hid (alF_zero _ _), by (repeat (first | (with_reducible exact Below.refl _ _) | (with_reducible refine Ext.drewN ?_ _) | (with_reducible refine Below.drew ?_) | (with_reducible refine Ext.alloc ?_ _) | (with_reducible refine Ext.setCell ?_ (by simp; try omega) _) | (with_reducible refine Ext.trans ?_ (by assumption)) | (with_reducible assumption) | exact Below.refl _ _)), Lib.hid ⟨by simp, by simp [go_sem]⟩⟩
  case round =>
    obtain ⟨i, hik, rfl, HA, hW, HX⟩ := hrel
    obtain ⟨x0, y0⟩ := HX.out
    have HL2 := Lib.hid ((HL.out.below hW).mono hW.size)
    by_cases hlt : i < L.length
    · obtain ⟨c, hc⟩ := get_some hlt
      obtain ⟨b, off, a1, a2, a3, k1, k2, k3, rfl, hb, c0, c1, c2, c3, _⟩ := (HL.out.below hW) i c hc
      have q1 : ((i : Nat) : Int) < (L.length : Int) := by omega
      have q0 : (0 : Int) ≤ ((i : Nat) : Int) := by omega
      have q2 : IntKind.i64.wrap ((i : Nat) : Int) = ((i : Nat) : Int) := by rw [IntKind.wrap_i64]; omega
      have HI := Lib.hid hc
      have sW := hW.size
      clear hc
      cases hp : libB L with
      | false =>
        have HN : Hid (CiR L s (-1)) := Lib.hid (.inr ⟨hp, rfl⟩)
        go_wp2_with (first | (go_at_call 21; refine (specIsValidLibrary_any _ L cap _ HZ.out HL2.out).mono ?_; rintro e v1 ⟨rfl, bv1⟩; obtain ⟨sv1, zv1, cv1, fv1⟩ := bcell bv1; (try simp only [World.size_alloc, World.size_setCell, World.size_drew] at sv1); rw [hp]))
        go_ret
        exact ⟨⟨_, rfl, HN.out⟩, by (repeat (first | (with_reducible exact Below.refl _ _) | (with_reducible refine Ext.drewN ?_ _) | (with_reducible refine Below.drew ?_) | (with_reducible refine Ext.alloc ?_ _) | (with_reducible refine Ext.setCell ?_ (by simp; try omega) _) | (with_reducible refine Ext.trans ?_ (by assumption)) | (with_reducible assumption) | exact Below.refl _ _))⟩
      | true =>
        by_cases he : c.s = s
        · have hq : (c.s.toList == s.toList) = true := (Go.Lib.bytes_beq_iff _ _).2 he
          have HN : Hid (CiR L s (i : Int)) := Lib.hid (.inl ⟨hp, .inr ⟨i, c, rfl, HI.out, he, (newB_iff L s i).1 HA.out⟩⟩)
          clear he
          go_wp2_with (first | (go_at_call 21; refine (specIsValidLibrary_any _ L cap _ HZ.out HL2.out).mono ?_; rintro e v1 ⟨rfl, bv1⟩; have d0 := keepC bv1 c0; have dy := keepC bv1 y0; rw [hp]))
          go_ret
          exact ⟨⟨_, by first | rfl | rw [q2], HN.out⟩, by (repeat (first | (with_reducible exact Below.refl _ _) | (with_reducible refine Ext.drewN ?_ _) | (with_reducible refine Below.drew ?_) | (with_reducible refine Ext.alloc ?_ _) | (with_reducible refine Ext.setCell ?_ (by simp; try omega) _) | (with_reducible refine Ext.trans ?_ (by assumption)) | (with_reducible assumption) | exact Below.refl _ _))⟩
        · have hq : (c.s.toList == s.toList) = false := (Go.Lib.bytes_beq_false_iff _ _).2 he
          have HA1 : Hid (newB L (i + 1) s = true) := Lib.hid (by have h := HA.out; unfold newB at h ⊢; rw [alF_succ HI.out, h]; simp [he])
          clear he
          go_wp2_with (first | (go_at_call 21; refine (specIsValidLibrary_any _ L cap _ HZ.out HL2.out).mono ?_; rintro e v1 ⟨rfl, bv1⟩; have d0 := keepC bv1 c0; have dy := keepC bv1 y0; rw [hp]))
          go_roundw
          case rel => exact ⟨i + 1, by omega, by go_num, HA1, by (repeat (first | (with_reducible exact Below.refl _ _) | (with_reducible refine Ext.drewN ?_ _) | (with_reducible refine Below.drew ?_) | (with_reducible refine Ext.alloc ?_ _) | (with_reducible refine Ext.setCell ?_ (by simp; try omega) _) | (with_reducible refine Ext.trans ?_ (by assumption)) | (with_reducible assumption) | exact Below.refl _ _)), Lib.hid (HX.out.below bv1 (Nat.le_refl _))⟩
          case measure => simp [intOf]; omega
    · have q1 : ¬ ((i : Nat) : Int) < (L.length : Int) := by omega
      have HN : Hid (CiR L s (-1)) := Lib.hid (by
        cases hp : libB L with
        | false => exact .inr ⟨hp, rfl⟩
        | true => exact .inl ⟨hp, .inl ⟨rfl, fun j d hj => (newB_iff L s i).1 HA.out j d (by have := get_lt hj; omega) hj⟩⟩)
      go_wp2_with fail
      go_ret
      exact ⟨⟨_, rfl, HN.out⟩, by (repeat (first | (with_reducible exact Below.refl _ _) | (with_reducible refine Ext.drewN ?_ _) | (with_reducible refine Below.drew ?_) | (with_reducible refine Ext.alloc ?_ _) | (with_reducible refine Ext.setCell ?_ (by simp; try omega) _) | (with_reducible refine Ext.trans ?_ (by assumption)) | (with_reducible assumption) | exact Below.refl _ _))⟩
end Go.Proofs.YtgamgfnbjfenaaaDoor
