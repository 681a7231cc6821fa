/- ReachableCells by the program. Conditions: impl.chip holds its value; the library lies in memory. -/
import Derived.Test.YtciodcknobccdaaDoorLcW
import Derived.Test.YtciodcknobccdaaDoorLcR
namespace Go.Proofs.YtciodcknobccdaaDoor
open Go.RowKit
set_option linter.unusedVariables false
set_option linter.unusedSimpArgs false
attribute [local go_sem ↓] Go.wp_at_zero Go.wp_at_succ

/-- A cell does not place i. -/
def noRe (L : List Cel) (i : Int) (z : Int) : Bool := !plF L z.toNat i
theorem any_noRe (L : List Cel) (i : Int) (xs : List Int) : (!xs.all (noRe L i)) = xs.any fun z => plF L z.toNat i := by
  rw [Bool.eq_iff_iff]
  simp [noRe]
set_option maxRecDepth 100000 in
set_option maxHeartbeats 8000000 in
theorem reach1_any (a : Option Addr) (L : List Cel) (cap u : Nat) (i : Int) (gl gi : Nat) (w : World) (hs : szCs L ≤ 1048576) (hu : u < L.length) (hL : CelsAt w.heap.size w a L) (h1 : w.cell? ⟨gl, 0, none⟩ = some (.slice a L.length cap)) (h2 : w.cell? ⟨gi, 0, none⟩ = some (.int .i64 i)) :
    Calls Tryd.prog 48 #[.int .i64 (u : Int), .pointer (some ⟨gl, 0, none⟩), .pointer (some ⟨gi, 0, none⟩)] w fun e w' => e = .returned (.bool (!noRe L i (u : Int))) ∧ Below w.heap.size w w' := by
  obtain ⟨c, hc⟩ := get_some hu
  obtain ⟨b, off, a1, a2, a3, k1, k2, k3, rfl, hb, c0, c1, c2, c3, hC⟩ := hL u c hc
  have hd := (sz_at hs hc).2.2.2.1
  have HC := Lib.hid hC
  have HE : Hid ((!noRe L i (u : Int)) = plB c i) := Lib.hid (by unfold noRe plF; rw [Bool.not_not, Int.toNat_natCast, hc])
  have q1 : (u : Int) < (L.length : Int) := by omega
  have q0 : (0 : Int) ≤ (u : Int) := by omega
  rw [HE.out]
  clear hC hc hL
  go_enter Tryd.func48, Tryd.ntmps48
  go_wp2_with fail
  go_region_with (first | (go_at_call 44; refine (places_any c _ _ _ _ _ _ i _ hd (HC.out.ext (by (repeat (first | (with_reducible exact Below.refl _ _) | (with_reducible refine Ext.drewN ?_ _) | (with_reducible refine Below.drew ?_) | (with_reducible refine Ext.alloc ?_ _) | (with_reducible refine Ext.setCell ?_ (by simp; try omega) _) | (with_reducible refine Ext.trans ?_ (by assumption)) | (with_reducible assumption) | exact Below.refl _ _))))).mono ?_; rintro e v1 ⟨rfl, bv1⟩))
  all_goals
    go_wp2_with fail
    go_ret
    exact ⟨rfl, by (repeat (first | (with_reducible exact Below.refl _ _) | (with_reducible refine Ext.drewN ?_ _) | (with_reducible refine Below.drew ?_) | (with_reducible refine Ext.alloc ?_ _) | (with_reducible refine Ext.setCell ?_ (by simp; try omega) _) | (with_reducible refine Ext.trans ?_ (by assumption)) | (with_reducible assumption) | exact Below.refl _ _))⟩
set_option maxRecDepth 100000 in
set_option maxHeartbeats 4000000 in
theorem indexReach_any (a ra : Option Addr) (L : List Cel) (xs : List Int) (cap rc : Nat) (i : Int) (gl gi : Nat) (w : World) (hs : szCs L ≤ 1048576) (hn : xs.length ≤ 1048576) (hx : ∀ (j : Nat) (z : Int), xs[j]? = some z → 0 ≤ z ∧ z < L.length) (hI : IntsIs w.heap.size w ra xs) (hL : CelsAt w.heap.size w a L) (h1 : w.cell? ⟨gl, 0, none⟩ = some (.slice a L.length cap)) (h2 : w.cell? ⟨gi, 0, none⟩ = some (.int .i64 i)) (l1 : gl < w.heap.size) (l2 : gi < w.heap.size) :
    Calls Tryd.prog 82 #[.slice ra xs.length rc, .func (.func 48) #[] #[.pointer (some ⟨gl, 0, none⟩), .pointer (some ⟨gi, 0, none⟩)]] w fun e w' => (∃ r : Int, e = .returned (.int .i64 r) ∧ decide (0 ≤ r) = !xs.all (noRe L i)) ∧ Below w.heap.size w w' := by
  have HI := Lib.hid hI
  have HL := Lib.hid hL
  have HX := Lib.hid hx
  have HS := Lib.hid hs
  clear hI hL hx hs
  go_enter Tryd.func82, Tryd.ntmps82
  go_wp2_with fail
  go_loopw [8] (fun s8 wr => ∃ t : Nat, t ≤ xs.length ∧ s8 = .int .i64 (t : Nat) ∧ Hid (alF (noRe L i) xs t = true) ∧ Below w.heap.size w wr) (fun s8 _ => xs.length - (intOf s8).toNat)
  case atStart => exact ⟨0, by omega, rfl, Lib.hid (alF_zero _ _), Below.refl _ _⟩
  case round =>
    obtain ⟨t, ht, rfl, HA, hW⟩ := hrel
    by_cases hlt : t < xs.length
    · obtain ⟨z, hz⟩ := get_some hlt
      obtain ⟨hz0, hz1⟩ := HX.out t z hz
      obtain ⟨u, rfl⟩ : ∃ u : Nat, z = (u : Int) := ⟨z.toNat, by omega⟩
      obtain ⟨g, off, rfl, hg, c0⟩ := HI.out t _ hz
      have c0' := (hW.cell (p := ⟨g, off + t, none⟩) hg).trans c0
      have x1 := (hW.cell (p := ⟨gl, 0, none⟩) l1).trans h1
      have x2 := (hW.cell (p := ⟨gi, 0, none⟩) l2).trans h2
      have sW := hW.size
      have hul : u < L.length := by omega
      have q1 : ((t : Nat) : Int) < (xs.length : Int) := by omega
      have q0 : (0 : Int) ≤ ((t : Nat) : Int) := by omega
      have HZ := Lib.hid hz
      have HL2 := Lib.hid (HL.out.ext hW)
      clear hz c0
      cases he : noRe L i (u : Int) with
      | false =>
        have HN : Hid (xs.all (noRe L i) = false) := Lib.hid (all_f HZ.out he)
        go_wp2_with (first | (go_at_call 48; refine (reach1_any a L cap u i gl gi _ HS.out hul HL2.out x1 x2).mono ?_; rintro e v0 ⟨rfl, bv0⟩; rw [he]))
        refine bodyPost_ret (v := .int .i64 (t : Nat)) (by simp [*, results, Tryd.results82, go_sem]) rfl ⟨⟨_, rfl, by rw [HN.out]; simp⟩, ?_⟩
        (repeat (first | (with_reducible exact Below.refl _ _) | (with_reducible refine Ext.drewN ?_ _) | (with_reducible refine Below.drew ?_) | (with_reducible refine Ext.alloc ?_ _) | (with_reducible refine Ext.setCell ?_ (by simp; try omega) _) | (with_reducible refine Ext.trans ?_ (by assumption)) | (with_reducible assumption) | exact Below.refl _ _))
      | true =>
        have HA1 : Hid (alF (noRe L i) xs (t + 1) = true) := Lib.hid (by rw [alF_succ HZ.out, HA.out, he]; rfl)
        go_wp2_with (first | (go_at_call 48; refine (reach1_any a L cap u i gl gi _ HS.out hul HL2.out x1 x2).mono ?_; rintro e v0 ⟨rfl, bv0⟩; rw [he]))
        go_roundw
        case rel => exact ⟨t + 1, by omega, by go_num, HA1, by (repeat (first | (with_reducible exact Below.refl _ _) | (with_reducible refine Ext.drewN ?_ _) | (with_reducible refine Below.drew ?_) | (with_reducible refine Ext.alloc ?_ _) | (with_reducible refine Ext.setCell ?_ (by simp; try omega) _) | (with_reducible refine Ext.trans ?_ (by assumption)) | (with_reducible assumption) | exact Below.refl _ _))⟩
        case measure => simp [intOf]; omega
    · have q1 : ¬ ((t : Nat) : Int) < (xs.length : Int) := by omega
      have HN : Hid (xs.all (noRe L i) = true) := Lib.hid (by rw [← alF_full, show xs.length = t by omega]; exact HA.out)
      go_wp2_with fail
      refine bodyPost_ret (v := .int .i64 (-1)) (by simp [*, results, Tryd.results82, go_sem]) rfl ⟨⟨_, rfl, by rw [HN.out]; decide⟩, ?_⟩
      exact hW
set_option maxRecDepth 100000 in
theorem containsReach_any (a ra : Option Addr) (L : List Cel) (xs : List Int) (cap rc : Nat) (i : Int) (gl gi : Nat) (w : World) (hs : szCs L ≤ 1048576) (hn : xs.length ≤ 1048576) (hx : ∀ (j : Nat) (z : Int), xs[j]? = some z → 0 ≤ z ∧ z < L.length) (hI : IntsIs w.heap.size w ra xs) (hL : CelsAt w.heap.size w a L) (h1 : w.cell? ⟨gl, 0, none⟩ = some (.slice a L.length cap)) (h2 : w.cell? ⟨gi, 0, none⟩ = some (.int .i64 i)) (l1 : gl < w.heap.size) (l2 : gi < w.heap.size) :
    Calls Tryd.prog 47 #[.slice ra xs.length rc, .func (.func 48) #[] #[.pointer (some ⟨gl, 0, none⟩), .pointer (some ⟨gi, 0, none⟩)]] w fun e w' => e = .returned (.bool (!xs.all (noRe L i))) ∧ Below w.heap.size w w' := by
  go_enter Tryd.func47, Tryd.ntmps47
  go_wp2_with fail
  refine (indexReach_any a ra L xs cap rc i gl gi _ hs hn hx hI hL h1 h2 l1 l2).mono ?_
  rintro e w1 ⟨⟨r, rfl, hr⟩, bw1⟩
  have HR1 := Lib.hid hr
  clear hr
  go_wp2_with fail
  refine bodyPost_ret (v := .bool (decide (0 ≤ r))) (by simp [*, results, Tryd.results47, go_sem]) rfl ⟨by rw [HR1.out], ?_⟩
  (repeat (first | (with_reducible exact Below.refl _ _) | (with_reducible refine Ext.drewN ?_ _) | (with_reducible refine Below.drew ?_) | (with_reducible refine Ext.alloc ?_ _) | (with_reducible refine Ext.setCell ?_ (by simp; try omega) _) | (with_reducible refine Ext.trans ?_ (by assumption)) | (with_reducible assumption) | exact Below.refl _ _))
end Go.Proofs.YtciodcknobccdaaDoor
