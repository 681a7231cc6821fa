/- The model's validity of a library; whether it has a cell. Condition: the cells' parts are in memory. -/
import Derived.Test.YtciodcknobccdaaDoorLbV
import Derived.StillTailTactics
import Derived.Lib.SlicesS
namespace Go.Proofs.YtciodcknobccdaaDoor
open Go.RowKit
set_option linter.unusedVariables false
set_option linter.unusedSimpArgs false
attribute [local go_sem ↓] Go.wp_at_zero Go.wp_at_succ

/-- A library that was laid in a block of its own, as a parameter is. -/
def BoxL (g : Nat) (w : World) (a : Option Addr) (n cap : Nat) : Prop := g < w.heap.size ∧ w.cell? ⟨g, 0, none⟩ = some (.slice a n cap)
theorem BoxL.below {g B : Nat} {w w' : World} {a : Option Addr} {n cap : Nat} (h : BoxL g w a n cap) (hb : Below B w w') (hB : w.heap.size ≤ B) : BoxL g w' a n cap :=
  ⟨Nat.lt_of_lt_of_le h.1 hb.size, (hb.cell (p := ⟨g, 0, none⟩) (by have := h.1; simp; omega)).trans h.2⟩
theorem lib_no {L : List Cel} (h : ¬ (1 ≤ L.length ∧ L.length ≤ 8)) : libB L = false := by unfold libB; rw [decide_eq_false h]; rfl
theorem lib_bad {L : List Cel} {i : Nat} {c : Cel} (hi : L[i]? = some c) (h : celB i c = false ∨ newB L i c.s = false) : libB L = false := by
  unfold libB
  rw [upB_f (get_lt hi) (by rw [atB_at hi]; rcases h with h | h <;> rw [h] <;> simp), Bool.and_false]
set_option maxRecDepth 100000 in
set_option maxHeartbeats 8000000 in
theorem specIsValidLibrary_any (a : Option Addr) (L : List Cel) (cap : Nat) (w : World) (hs : szCs L ≤ 1048576) (hL : CelsAt w.heap.size w a L) :
    Calls Tryd.prog 93 #[.agg #[.slice a L.length cap]] w fun e w' => e = .returned (.bool (libB L)) ∧ Below w.heap.size w w' := by
  have HL := Lib.hid hL
  have hlen := sz_len hs
  have HZ := Lib.hid hs
  clear hL hs
  by_cases h1 : 1 ≤ L.length
  case neg =>
    have HN := Lib.hid (lib_no (L := L) (by omega))
    have q1 : (L.length : Int) < 1 := by omega
    go_enter Tryd.func93, Tryd.ntmps93
    go_wp2_with fail
    go_ret
    exact ⟨ret_bool (by simp [HN.out]), by (repeat (first | (with_reducible exact Below.refl _ _) | (with_reducible refine Ext.drewN ?_ _) | (with_reducible refine Below.drew ?_) | (with_reducible refine Ext.alloc ?_ _) | (with_reducible refine Ext.setCell ?_ (by simp; try omega) _) | (with_reducible refine Ext.trans ?_ (by assumption)) | (with_reducible assumption) | exact Below.refl _ _))⟩
  have q1 : ¬ (L.length : Int) < 1 := by omega
  by_cases h2 : L.length ≤ 8
  case neg =>
    have HN := Lib.hid (lib_no (L := L) (by omega))
    have q2 : (8 : Int) < (L.length : Int) := by omega
    go_enter Tryd.func93, Tryd.ntmps93
    go_wp2_with fail
    go_ret
    exact ⟨ret_bool (by simp [HN.out]), by (repeat (first | (with_reducible exact Below.refl _ _) | (with_reducible refine Ext.drewN ?_ _) | (with_reducible refine Below.drew ?_) | (with_reducible refine Ext.alloc ?_ _) | (with_reducible refine Ext.setCell ?_ (by simp; try omega) _) | (with_reducible refine Ext.trans ?_ (by assumption)) | (with_reducible assumption) | exact Below.refl _ _))⟩
  have q2 : ¬ (8 : Int) < (L.length : Int) := by omega
  go_enter Tryd.func93, Tryd.ntmps93
  go_wp2_with fail
  go_loopw [3] (fun s3 wr => ∃ i : Nat, i ≤ L.length ∧ s3 = .int .i64 (i : Nat) ∧ Hid (upB L i = true) ∧ Below w.heap.size w wr ∧ Hid (BoxL w.heap.size wr a L.length cap)) (fun s3 _ => L.length - (intOf s3).toNat)
  case atStart => exact ⟨0, by omega, rfl, Lib.hid (upB_zero _), by (repeat (first | (with_reducible exact Below.refl _ _) | (with_reducible refine Ext.drewN ?_ _) | (with_reducible refine Below.drew ?_) | (with_reducible refine Ext.alloc ?_ _) | (with_reducible refine Ext.setCell ?_ (by simp; try omega) _) | (with_reducible refine Ext.trans ?_ (by assumption)) | (with_reducible assumption) | exact Below.refl _ _)), Lib.hid ⟨by simp, by simp [go_sem]⟩⟩
  case round =>
    obtain ⟨i, hik, rfl, HU, hW, HX⟩ := hrel
    obtain ⟨x0, y0⟩ := HX.out
    by_cases hlt : i < L.length
    · obtain ⟨c, hi⟩ := get_some hlt
      obtain ⟨b, off, a1, a2, a3, k1, k2, k3, rfl, hb, c0, c1, c2, c3, hC⟩ := (HL.out.below hW) i c hi
      obtain ⟨hs1, hs2, hs3, hs4, hs5⟩ := sz_at HZ.out hi
      have HC := Lib.hid (hC.mono hW.size)
      clear hC
      have r3 : ((i : Nat) : Int) < (L.length : Int) := by omega
      have r0 : (0 : Int) ≤ ((i : Nat) : Int) := by omega
      have HI := Lib.hid hi
      clear hi
      cases hp : celB i c with
      | false =>
        have HN := Lib.hid (lib_bad HI.out (.inl hp))
        go_wp2_with (first | (go_at_call 120; refine (l09Cell_any c _ _ _ _ _ _ _ _ (by omega) hs1 hs2 hs3 hs4 hs5 HC.out).mono ?_; rintro e v2 ⟨rfl, bv2⟩; rw [hp]))
        go_ret
        exact ⟨ret_bool (by simp [HN.out]), by (repeat (first | (with_reducible exact Below.refl _ _) | (with_reducible refine Ext.drewN ?_ _) | (with_reducible refine Below.drew ?_) | (with_reducible refine Ext.alloc ?_ _) | (with_reducible refine Ext.setCell ?_ (by simp; try omega) _) | (with_reducible refine Ext.trans ?_ (by assumption)) | (with_reducible assumption) | exact Below.refl _ _))⟩
      | true =>
        go_wp2_with (first | (go_at_call 120; refine (l09Cell_any c _ _ _ _ _ _ _ _ (by omega) hs1 hs2 hs3 hs4 hs5 HC.out).mono ?_; rintro e v2 ⟨rfl, bv2⟩; rw [hp]))
        have hW2 : Below w.heap.size w v2 := by (repeat (first | (with_reducible exact Below.refl _ _) | (with_reducible refine Ext.drewN ?_ _) | (with_reducible refine Below.drew ?_) | (with_reducible refine Ext.alloc ?_ _) | (with_reducible refine Ext.setCell ?_ (by simp; try omega) _) | (with_reducible refine Ext.trans ?_ (by assumption)) | (with_reducible assumption) | exact Below.refl _ _))
        have HX2 := Lib.hid (HX.out.below bv2 (Nat.le_refl _))
        clear c0 c1 c2 c3 x0 y0 HX hW bv2 HC
        go_loopw [4] (fun s4 wr2 => ∃ j : Nat, j ≤ i ∧ s4 = .int .i64 (j : Nat) ∧ Hid (newB L j c.s = true) ∧ Below w.heap.size w wr2 ∧ Hid (BoxL w.heap.size wr2 (some ⟨b, off, none⟩) L.length cap)) (fun s4 _ => i - (intOf s4).toNat)
        case atStart => exact ⟨0, by omega, rfl, Lib.hid (alF_zero _ _), hW2, HX2⟩
        case round =>
          clear hW2 HX2
          obtain ⟨j, hji, rfl, HA, hW2, HX2⟩ := hrel
          obtain ⟨x0, y0⟩ := HX2.out
          by_cases hlj : j < i
          · obtain ⟨d, hd⟩ := get_some (l := L) (i := j) (by omega)
            have hcc := (HL.out.below hW2) i c HI.out
            have hdd := (HL.out.below hW2) j d hd
            obtain ⟨b1, off1, a1, a2, a3, k1, k2, k3, hab, hb1, c0, _⟩ := hcc
            cases hab
            obtain ⟨b', off', a1', a2', a3', k1', k2', k3', hab', hb', d0, _⟩ := hdd
            cases hab'
            have r5 : ((j : Nat) : Int) < ((i : Nat) : Int) := by omega
            have r6 : ((j : Nat) : Int) < (L.length : Int) := by omega
            have r7 : (0 : Int) ≤ ((j : Nat) : Int) := by omega
            have HD := Lib.hid hd
            clear hd
            by_cases he : d.s = c.s
            · have HN := Lib.hid (lib_bad HI.out (.inr (alF_f HD.out hlj (by simp [he]))))
              rw [he] at d0
              go_upto_region 11 with fail
              go_still_tail 12, (by kernel_rfl)
              change wpList _ _ _ _ _ wr.drew
              have hW3 : Below w.heap.size w wr.drew := hW2.drew
              have HX3 := Lib.hid (HX2.out.below (Below.refl _ _).drew (Nat.le_refl _))
              go_wp2_with fail
              go_ret
              exact ⟨ret_bool (by simp [HN.out]), by (repeat (first | (with_reducible exact Below.refl _ _) | (with_reducible refine Ext.drewN ?_ _) | (with_reducible refine Below.drew ?_) | (with_reducible refine Ext.alloc ?_ _) | (with_reducible refine Ext.setCell ?_ (by simp; try omega) _) | (with_reducible refine Ext.trans ?_ (by assumption)) | (with_reducible assumption) | exact Below.refl _ _))⟩
            · have hq : (d.s.toList == c.s.toList) = false := (Go.Lib.bytes_beq_false_iff _ _).2 he
              have HA1 : Hid (newB L (j + 1) c.s = true) := Lib.hid (by unfold newB; rw [alF_succ HD.out]; have := HA.out; unfold newB at this; rw [this]; simp [he])
              go_upto_region 11 with fail
              go_still_tail 12, (by kernel_rfl)
              change wpList _ _ _ _ _ wr.drew
              have hW3 : Below w.heap.size w wr.drew := hW2.drew
              have HX3 := Lib.hid (HX2.out.below (Below.refl _ _).drew (Nat.le_refl _))
              go_wp2_with fail
              first | exact ⟨⟨j + 1, by omega, by go_num, HA1, hW3, HX3⟩, by simp [intOf]; omega⟩ | (go_roundw; case rel => exact ⟨j + 1, by omega, by go_num, HA1, hW3, HX3⟩; case measure => simp [intOf]; omega)
          · have r5 : ¬ ((j : Nat) : Int) < ((i : Nat) : Int) := by omega
            have HU1 : Hid (upB L (i + 1) = true) := Lib.hid (by rw [upB_succ, HU.out, atB_at HI.out, hp, show i = j by omega, HA.out]; rfl)
            go_wp2_with fail
            go_roundw
            case rel => exact ⟨i + 1, by omega, by go_num, HU1, hW2, HX2⟩
            case measure => simp [intOf]; omega
    · have r3 : ¬ ((i : Nat) : Int) < (L.length : Int) := by omega
      have HN : Hid (libB L = true) := Lib.hid (by unfold libB; rw [decide_eq_true ⟨h1, h2⟩, show L.length = i by omega, HU.out]; rfl)
      go_wp2_with fail
      go_ret
      exact ⟨ret_bool (by simp [HN.out]), by (repeat (first | (with_reducible exact Below.refl _ _) | (with_reducible refine Ext.drewN ?_ _) | (with_reducible refine Below.drew ?_) | (with_reducible refine Ext.alloc ?_ _) | (with_reducible refine Ext.setCell ?_ (by simp; try omega) _) | (with_reducible refine Ext.trans ?_ (by assumption)) | (with_reducible assumption) | exact Below.refl _ _))⟩
end Go.Proofs.YtciodcknobccdaaDoor
