/- SameLibrary, by the program. Conditions: the cells' parts are in memory; impl.chip holds its value. -/
import Derived.Test.YtgamgfnbjfenaaaDoorLcJ
import Derived.Test.YtgamgfnbjfenaaaDoorLcB
namespace Go.Proofs.YtgamgfnbjfenaaaDoor
open Go.RowKit
set_option linter.unusedVariables false
set_option linter.unusedSimpArgs false
attribute [local go_sem ↓] Go.wp_at_zero Go.wp_at_succ

set_option maxRecDepth 100000 in
set_option maxHeartbeats 8000000 in
theorem celEq_any (c d : Cel) (a1 a2 a3 b1 b2 b3 : Option Addr) (k1 k2 k3 j1 j2 j3 : Nat) (w : World) (ha : c.a.length ≤ 1048576) (hb : c.b.length ≤ 1048576) (hd : c.d.length ≤ 1048576) (ha' : d.a.length ≤ 1048576) (hb' : d.b.length ≤ 1048576) (hd' : d.d.length ≤ 1048576) (hC : CelAt w.heap.size w a1 a2 a3 c) (hD : CelAt w.heap.size w b1 b2 b3 d) :
    Calls Tryd.prog 88 #[.agg #[.string c.s, .slice a1 c.a.length k1, .slice a2 c.b.length k2, .slice a3 c.d.length k3], .agg #[.string d.s, .slice b1 d.a.length j1, .slice b2 d.b.length j2, .slice b3 d.d.length j3]] w fun e w' => e = .returned (.bool (celE c d)) ∧ Below w.heap.size w w' := by
  have HC := Lib.hid hC
  have HD := Lib.hid hD
  have HE : Hid (celE c d = ((c.s.toList == d.s.toList) && lisE shpE c.a d.a && lisE lblE c.b d.b && lisE insE c.d d.d)) := Lib.hid rfl
  clear hC hD
  cases h1 : (c.s.toList == d.s.toList) with
  | false =>
    go_enter Tryd.func88, Tryd.ntmps88
    go_wp2_with fail
    go_ret
    exact ⟨ret_bool (by rw [HE.out, h1]; rfl), by (repeat (first | (with_reducible exact Below.refl _ _) | (with_reducible refine Ext.drewN ?_ _) | (with_reducible refine Below.drew ?_) | (with_reducible refine Ext.alloc ?_ _) | (with_reducible refine Ext.setCell ?_ (by simp; try omega) _) | (with_reducible refine Ext.trans ?_ (by assumption)) | (with_reducible assumption) | exact Below.refl _ _))⟩
  | true =>
  cases h2 : lisE shpE c.a d.a with
  | false =>
    go_enter Tryd.func88, Tryd.ntmps88
    go_wp2_with (first | (go_at_call 168; refine (equalShape_any _ _ c.a d.a _ _ _ ha ha' (HC.out.1.ext (by (repeat (first | (with_reducible exact Below.refl _ _) | (with_reducible refine Ext.drewN ?_ _) | (with_reducible refine Below.drew ?_) | (with_reducible refine Ext.alloc ?_ _) | (with_reducible refine Ext.setCell ?_ (by simp; try omega) _) | (with_reducible refine Ext.trans ?_ (by assumption)) | (with_reducible assumption) | exact Below.refl _ _)))) (HD.out.1.ext (by (repeat (first | (with_reducible exact Below.refl _ _) | (with_reducible refine Ext.drewN ?_ _) | (with_reducible refine Below.drew ?_) | (with_reducible refine Ext.alloc ?_ _) | (with_reducible refine Ext.setCell ?_ (by simp; try omega) _) | (with_reducible refine Ext.trans ?_ (by assumption)) | (with_reducible assumption) | exact Below.refl _ _))))).mono ?_; rintro e v1 ⟨rfl, bv1⟩; obtain ⟨sv1, zv1, cv1, fv1⟩ := bcell bv1; (try simp only [World.size_alloc, World.size_setCell, World.size_drew] at sv1); (try have n1a : w.heap.size < v1.heap.size := by omega); (try have n1b : w.heap.size + 1 < v1.heap.size := by omega); rw [h2]))
    go_ret
    exact ⟨ret_bool (by rw [HE.out, h1, h2]; rfl), by (repeat (first | (with_reducible exact Below.refl _ _) | (with_reducible refine Ext.drewN ?_ _) | (with_reducible refine Below.drew ?_) | (with_reducible refine Ext.alloc ?_ _) | (with_reducible refine Ext.setCell ?_ (by simp; try omega) _) | (with_reducible refine Ext.trans ?_ (by assumption)) | (with_reducible assumption) | exact Below.refl _ _))⟩
  | true =>
  cases h3 : lisE lblE c.b d.b with
  | false =>
    go_enter Tryd.func88, Tryd.ntmps88
    go_wp2_with (first | (go_at_call 168; refine (equalShape_any _ _ c.a d.a _ _ _ ha ha' (HC.out.1.ext (by (repeat (first | (with_reducible exact Below.refl _ _) | (with_reducible refine Ext.drewN ?_ _) | (with_reducible refine Below.drew ?_) | (with_reducible refine Ext.alloc ?_ _) | (with_reducible refine Ext.setCell ?_ (by simp; try omega) _) | (with_reducible refine Ext.trans ?_ (by assumption)) | (with_reducible assumption) | exact Below.refl _ _)))) (HD.out.1.ext (by (repeat (first | (with_reducible exact Below.refl _ _) | (with_reducible refine Ext.drewN ?_ _) | (with_reducible refine Below.drew ?_) | (with_reducible refine Ext.alloc ?_ _) | (with_reducible refine Ext.setCell ?_ (by simp; try omega) _) | (with_reducible refine Ext.trans ?_ (by assumption)) | (with_reducible assumption) | exact Below.refl _ _))))).mono ?_; rintro e v1 ⟨rfl, bv1⟩; obtain ⟨sv1, zv1, cv1, fv1⟩ := bcell bv1; (try simp only [World.size_alloc, World.size_setCell, World.size_drew] at sv1); (try have n1a : w.heap.size < v1.heap.size := by omega); (try have n1b : w.heap.size + 1 < v1.heap.size := by omega); rw [h2]) | (go_at_call 169; refine (equalLabel_any _ _ c.b d.b _ _ _ hb hb' (HC.out.2.1.ext (by (repeat (first | (with_reducible exact Below.refl _ _) | (with_reducible refine Ext.drewN ?_ _) | (with_reducible refine Below.drew ?_) | (with_reducible refine Ext.alloc ?_ _) | (with_reducible refine Ext.setCell ?_ (by simp; try omega) _) | (with_reducible refine Ext.trans ?_ (by assumption)) | (with_reducible assumption) | exact Below.refl _ _)))) (HD.out.2.1.ext (by (repeat (first | (with_reducible exact Below.refl _ _) | (with_reducible refine Ext.drewN ?_ _) | (with_reducible refine Below.drew ?_) | (with_reducible refine Ext.alloc ?_ _) | (with_reducible refine Ext.setCell ?_ (by simp; try omega) _) | (with_reducible refine Ext.trans ?_ (by assumption)) | (with_reducible assumption) | exact Below.refl _ _))))).mono ?_; rintro e v2 ⟨rfl, bv2⟩; obtain ⟨sv2, zv2, cv2, fv2⟩ := bcell bv2; (try simp only [World.size_alloc, World.size_setCell, World.size_drew] at sv2); (try have n2a : w.heap.size < v2.heap.size := by omega); (try have n2b : w.heap.size + 1 < v2.heap.size := by omega); rw [h3]))
    go_ret
    exact ⟨ret_bool (by rw [HE.out, h1, h2, h3]; rfl), by (repeat (first | (with_reducible exact Below.refl _ _) | (with_reducible refine Ext.drewN ?_ _) | (with_reducible refine Below.drew ?_) | (with_reducible refine Ext.alloc ?_ _) | (with_reducible refine Ext.setCell ?_ (by simp; try omega) _) | (with_reducible refine Ext.trans ?_ (by assumption)) | (with_reducible assumption) | exact Below.refl _ _))⟩
  | true =>
    go_enter Tryd.func88, Tryd.ntmps88
    go_wp2_with (first | (go_at_call 168; refine (equalShape_any _ _ c.a d.a _ _ _ ha ha' (HC.out.1.ext (by (repeat (first | (with_reducible exact Below.refl _ _) | (with_reducible refine Ext.drewN ?_ _) | (with_reducible refine Below.drew ?_) | (with_reducible refine Ext.alloc ?_ _) | (with_reducible refine Ext.setCell ?_ (by simp; try omega) _) | (with_reducible refine Ext.trans ?_ (by assumption)) | (with_reducible assumption) | exact Below.refl _ _)))) (HD.out.1.ext (by (repeat (first | (with_reducible exact Below.refl _ _) | (with_reducible refine Ext.drewN ?_ _) | (with_reducible refine Below.drew ?_) | (with_reducible refine Ext.alloc ?_ _) | (with_reducible refine Ext.setCell ?_ (by simp; try omega) _) | (with_reducible refine Ext.trans ?_ (by assumption)) | (with_reducible assumption) | exact Below.refl _ _))))).mono ?_; rintro e v1 ⟨rfl, bv1⟩; obtain ⟨sv1, zv1, cv1, fv1⟩ := bcell bv1; (try simp only [World.size_alloc, World.size_setCell, World.size_drew] at sv1); (try have n1a : w.heap.size < v1.heap.size := by omega); (try have n1b : w.heap.size + 1 < v1.heap.size := by omega); rw [h2]) | (go_at_call 169; refine (equalLabel_any _ _ c.b d.b _ _ _ hb hb' (HC.out.2.1.ext (by (repeat (first | (with_reducible exact Below.refl _ _) | (with_reducible refine Ext.drewN ?_ _) | (with_reducible refine Below.drew ?_) | (with_reducible refine Ext.alloc ?_ _) | (with_reducible refine Ext.setCell ?_ (by simp; try omega) _) | (with_reducible refine Ext.trans ?_ (by assumption)) | (with_reducible assumption) | exact Below.refl _ _)))) (HD.out.2.1.ext (by (repeat (first | (with_reducible exact Below.refl _ _) | (with_reducible refine Ext.drewN ?_ _) | (with_reducible refine Below.drew ?_) | (with_reducible refine Ext.alloc ?_ _) | (with_reducible refine Ext.setCell ?_ (by simp; try omega) _) | (with_reducible refine Ext.trans ?_ (by assumption)) | (with_reducible assumption) | exact Below.refl _ _))))).mono ?_; rintro e v2 ⟨rfl, bv2⟩; obtain ⟨sv2, zv2, cv2, fv2⟩ := bcell bv2; (try simp only [World.size_alloc, World.size_setCell, World.size_drew] at sv2); (try have n2a : w.heap.size < v2.heap.size := by omega); (try have n2b : w.heap.size + 1 < v2.heap.size := by omega); rw [h3]) | (go_at_call 170; refine (equalInstance_any _ _ c.d d.d _ _ _ hd hd' (HC.out.2.2.ext (by (repeat (first | (with_reducible exact Below.refl _ _) | (with_reducible refine Ext.drewN ?_ _) | (with_reducible refine Below.drew ?_) | (with_reducible refine Ext.alloc ?_ _) | (with_reducible refine Ext.setCell ?_ (by simp; try omega) _) | (with_reducible refine Ext.trans ?_ (by assumption)) | (with_reducible assumption) | exact Below.refl _ _)))) (HD.out.2.2.ext (by (repeat (first | (with_reducible exact Below.refl _ _) | (with_reducible refine Ext.drewN ?_ _) | (with_reducible refine Below.drew ?_) | (with_reducible refine Ext.alloc ?_ _) | (with_reducible refine Ext.setCell ?_ (by simp; try omega) _) | (with_reducible refine Ext.trans ?_ (by assumption)) | (with_reducible assumption) | exact Below.refl _ _))))).mono ?_; rintro e v3 ⟨rfl, bv3⟩))
    go_ret
    exact ⟨ret_bool (by rw [HE.out, h1, h2, h3]; rfl), by (repeat (first | (with_reducible exact Below.refl _ _) | (with_reducible refine Ext.drewN ?_ _) | (with_reducible refine Below.drew ?_) | (with_reducible refine Ext.alloc ?_ _) | (with_reducible refine Ext.setCell ?_ (by simp; try omega) _) | (with_reducible refine Ext.trans ?_ (by assumption)) | (with_reducible assumption) | exact Below.refl _ _))⟩
set_option maxRecDepth 100000 in
set_option maxHeartbeats 8000000 in
theorem equalCels_any (a b : Option Addr) (L M : List Cel) (k1 k2 : Nat) (w : World) (hs : szCs L ≤ 1048576) (hs' : szCs M ≤ 1048576) (hP : CelsAt w.heap.size w a L) (hQ : CelsAt w.heap.size w b M) :
    Calls Tryd.prog 87 #[.slice a L.length k1, .slice b M.length k2, .func (.func 88) #[] #[]] w fun e w' => e = .returned (.bool (lisE celE L M)) ∧ Below w.heap.size w w' := by
  have HP := Lib.hid hP
  have HQ := Lib.hid hQ
  have hl := sz_len hs
  have hm := sz_len hs'
  have HZ := Lib.hid hs
  have HZ' := Lib.hid hs'
  clear hP hQ hs hs'
  by_cases hlen : L.length = M.length
  case neg =>
    have HN := Lib.hid (lisE_no (e := celE) hlen)
    have q1 : ((L.length : Int) == (M.length : Int)) = false := beq_eq_false_iff_ne.2 (by omega)
    go_enter Tryd.func87, Tryd.ntmps87
    go_wp2_with fail
    go_ret
    exact ⟨ret_bool (by simp [HN.out]), by (repeat (first | (with_reducible exact Below.refl _ _) | (with_reducible refine Ext.drewN ?_ _) | (with_reducible refine Below.drew ?_) | (with_reducible refine Ext.alloc ?_ _) | (with_reducible refine Ext.setCell ?_ (by simp; try omega) _) | (with_reducible refine Ext.trans ?_ (by assumption)) | (with_reducible assumption) | exact Below.refl _ _))⟩
  have HLN := Lib.hid hlen
  have q1 : ((L.length : Int) == (M.length : Int)) = true := by rw [hlen]; exact beq_self_eq_true _
  have q2 : ((L.length : Int) != (M.length : Int)) = false := by unfold bne; rw [q1]; rfl
  clear hlen
  go_enter Tryd.func87, Tryd.ntmps87
  go_wp2_with fail
  go_loopw [17] (fun s wr => ∃ i : Nat, i ≤ L.length ∧ s = .int .i64 i ∧ Below w.heap.size w wr ∧ Hid (eqF celE L M i = true)) (fun s _ => L.length - (intOf s).toNat)
  case atStart => exact ⟨0, by omega, rfl, by (repeat (first | (with_reducible exact Below.refl _ _) | (with_reducible refine Ext.drewN ?_ _) | (with_reducible refine Below.drew ?_) | (with_reducible refine Ext.alloc ?_ _) | (with_reducible refine Ext.setCell ?_ (by simp; try omega) _) | (with_reducible refine Ext.trans ?_ (by assumption)) | (with_reducible assumption) | exact Below.refl _ _)), Lib.hid (eqF_zero _ _ _)⟩
  case round =>
    obtain ⟨i, hi, rfl, hW, HA⟩ := hrel
    by_cases hlt : i < L.length
    · obtain ⟨c, hc⟩ := get_some hlt
      obtain ⟨d, hd⟩ := get_some (l := M) (i := i) (by have := HLN.out; omega)
      obtain ⟨b1, o1, a1, a2, a3, j1, j2, j3, rfl, hb1, c0, c1, c2, c3, hC⟩ := (HP.out.below hW) i c hc
      obtain ⟨b2, o2, e1, e2, e3, i1, i2, i3, rfl, hb2, d0, d1, d2, d3, hD⟩ := (HQ.out.below hW) i d hd
      obtain ⟨hs1, hs2, hs3, hs4, hs5⟩ := sz_at HZ.out hc
      obtain ⟨ht1, ht2, ht3, ht4, ht5⟩ := sz_at HZ'.out hd
      have HC := Lib.hid (hC.mono hW.size)
      have HD := Lib.hid (hD.mono hW.size)
      have q3 : (i : Int) < (L.length : Int) := by omega
      have q4 : (i : Int) < (M.length : Int) := by have := HLN.out; omega
      have q0 : (0 : Int) ≤ (i : Int) := by omega
      have hwz := hW.size
      have l2 : b2 < wr.heap.size := by omega
      have HS := Lib.hid hc
      have HT := Lib.hid hd
      clear hc hd hC hD
      cases he : celE c d with
      | true =>
        have HA1 : Hid (eqF celE L M (i + 1) = true) := Lib.hid (by rw [eqF_succ HS.out HT.out, HA.out, he]; rfl)
        go_wp2_with (first | (go_at_call 88; refine (celEq_any c d _ _ _ _ _ _ _ _ _ _ _ _ _ hs2 hs3 hs4 ht2 ht3 ht4 (HC.out.ext (by (repeat (first | (with_reducible exact Below.refl _ _) | (with_reducible refine Ext.drewN ?_ _) | (with_reducible refine Below.drew ?_) | (with_reducible refine Ext.alloc ?_ _) | (with_reducible refine Ext.setCell ?_ (by simp; try omega) _) | (with_reducible refine Ext.trans ?_ (by assumption)) | (with_reducible assumption) | exact Below.refl _ _)))) (HD.out.ext (by (repeat (first | (with_reducible exact Below.refl _ _) | (with_reducible refine Ext.drewN ?_ _) | (with_reducible refine Below.drew ?_) | (with_reducible refine Ext.alloc ?_ _) | (with_reducible refine Ext.setCell ?_ (by simp; try omega) _) | (with_reducible refine Ext.trans ?_ (by assumption)) | (with_reducible assumption) | exact Below.refl _ _))))).mono ?_; rintro e v1 ⟨rfl, bv1⟩; rw [he]))
        go_roundw
        case rel => exact ⟨i + 1, by omega, by go_num, by (repeat (first | (with_reducible exact Below.refl _ _) | (with_reducible refine Ext.drewN ?_ _) | (with_reducible refine Below.drew ?_) | (with_reducible refine Ext.alloc ?_ _) | (with_reducible refine Ext.setCell ?_ (by simp; try omega) _) | (with_reducible refine Ext.trans ?_ (by assumption)) | (with_reducible assumption) | exact Below.refl _ _)), HA1⟩
        case measure => simp [intOf]; omega
      | false =>
        have HN : Hid (lisE celE L M = false) := Lib.hid (by unfold lisE; rw [eqF_f HS.out HT.out hlt he, Bool.and_false])
        go_wp2_with (first | (go_at_call 88; refine (celEq_any c d _ _ _ _ _ _ _ _ _ _ _ _ _ hs2 hs3 hs4 ht2 ht3 ht4 (HC.out.ext (by (repeat (first | (with_reducible exact Below.refl _ _) | (with_reducible refine Ext.drewN ?_ _) | (with_reducible refine Below.drew ?_) | (with_reducible refine Ext.alloc ?_ _) | (with_reducible refine Ext.setCell ?_ (by simp; try omega) _) | (with_reducible refine Ext.trans ?_ (by assumption)) | (with_reducible assumption) | exact Below.refl _ _)))) (HD.out.ext (by (repeat (first | (with_reducible exact Below.refl _ _) | (with_reducible refine Ext.drewN ?_ _) | (with_reducible refine Below.drew ?_) | (with_reducible refine Ext.alloc ?_ _) | (with_reducible refine Ext.setCell ?_ (by simp; try omega) _) | (with_reducible refine Ext.trans ?_ (by assumption)) | (with_reducible assumption) | exact Below.refl _ _))))).mono ?_; rintro e v1 ⟨rfl, bv1⟩; rw [he]))
        go_ret
        exact ⟨ret_bool HN.out.symm, by (repeat (first | (with_reducible exact Below.refl _ _) | (with_reducible refine Ext.drewN ?_ _) | (with_reducible refine Below.drew ?_) | (with_reducible refine Ext.alloc ?_ _) | (with_reducible refine Ext.setCell ?_ (by simp; try omega) _) | (with_reducible refine Ext.trans ?_ (by assumption)) | (with_reducible assumption) | exact Below.refl _ _))⟩
    · have q3 : ¬ (i : Int) < (L.length : Int) := by omega
      have HN : Hid (lisE celE L M = true) := Lib.hid (by unfold lisE; rw [decide_eq_true HLN.out, show L.length = i by omega, HA.out]; rfl)
      go_wp2_with fail
      go_ret
      exact ⟨ret_bool (by simp [HN.out]), hW⟩
theorem implSameLibrary_any (a b : Option Addr) (L M : List Cel) (k1 k2 : Nat) (w : World) (hCh : ChipW w) (hs : szCs L ≤ 1048576) (hs' : szCs M ≤ 1048576) (hP : CelsAt w.heap.size w a L) (hQ : CelsAt w.heap.size w b M) :
    Calls Tryd.prog 40 #[.agg #[.slice a L.length k1], .agg #[.slice b M.length k2]] w fun e w' => e = .returned (.bool (smB L M)) ∧ Below w.heap.size w w' := by
  have HP := Lib.hid hP
  have HQ := Lib.hid hQ
  have HCh := Lib.hid hCh
  clear hP hQ hCh
  cases hp : libB L with
  | false =>
    have HN := Lib.hid (smB_no1 (M := M) hp)
    go_enter Tryd.func40, Tryd.ntmps40
    go_wp2_with (first | (go_at_call 23; refine (implIsValidLibrary_any a L k1 _ (HCh.out.ext (by (repeat (first | (with_reducible exact Below.refl _ _) | (with_reducible refine Ext.drewN ?_ _) | (with_reducible refine Below.drew ?_) | (with_reducible refine Ext.alloc ?_ _) | (with_reducible refine Ext.setCell ?_ (by simp; try omega) _) | (with_reducible refine Ext.trans ?_ (by assumption)) | (with_reducible assumption) | exact Below.refl _ _)))) hs (HP.out.ext (by (repeat (first | (with_reducible exact Below.refl _ _) | (with_reducible refine Ext.drewN ?_ _) | (with_reducible refine Below.drew ?_) | (with_reducible refine Ext.alloc ?_ _) | (with_reducible refine Ext.setCell ?_ (by simp; try omega) _) | (with_reducible refine Ext.trans ?_ (by assumption)) | (with_reducible assumption) | exact Below.refl _ _))))).mono ?_; rintro e v1 ⟨rfl, bv1⟩; obtain ⟨sv1, zv1, cv1, fv1⟩ := bcell bv1; (try simp only [World.size_alloc, World.size_setCell, World.size_drew] at sv1); rw [hp]))
    go_ret
    exact ⟨ret_bool (by rw [HN.out]), by (repeat (first | (with_reducible exact Below.refl _ _) | (with_reducible refine Ext.drewN ?_ _) | (with_reducible refine Below.drew ?_) | (with_reducible refine Ext.alloc ?_ _) | (with_reducible refine Ext.setCell ?_ (by simp; try omega) _) | (with_reducible refine Ext.trans ?_ (by assumption)) | (with_reducible assumption) | exact Below.refl _ _))⟩
  | true =>
    have HN := Lib.hid (smB_yes (M := M) hp)
    go_enter Tryd.func40, Tryd.ntmps40
    go_wp2_with (first | (go_at_call 23; refine (implIsValidLibrary_any a L k1 _ (HCh.out.ext (by (repeat (first | (with_reducible exact Below.refl _ _) | (with_reducible refine Ext.drewN ?_ _) | (with_reducible refine Below.drew ?_) | (with_reducible refine Ext.alloc ?_ _) | (with_reducible refine Ext.setCell ?_ (by simp; try omega) _) | (with_reducible refine Ext.trans ?_ (by assumption)) | (with_reducible assumption) | exact Below.refl _ _)))) hs (HP.out.ext (by (repeat (first | (with_reducible exact Below.refl _ _) | (with_reducible refine Ext.drewN ?_ _) | (with_reducible refine Below.drew ?_) | (with_reducible refine Ext.alloc ?_ _) | (with_reducible refine Ext.setCell ?_ (by simp; try omega) _) | (with_reducible refine Ext.trans ?_ (by assumption)) | (with_reducible assumption) | exact Below.refl _ _))))).mono ?_; rintro e v1 ⟨rfl, bv1⟩; obtain ⟨sv1, zv1, cv1, fv1⟩ := bcell bv1; (try simp only [World.size_alloc, World.size_setCell, World.size_drew] at sv1); rw [hp]) | (go_at_call 87; refine (equalCels_any a b L M _ _ _ hs hs' (HP.out.ext (by (repeat (first | (with_reducible exact Below.refl _ _) | (with_reducible refine Ext.drewN ?_ _) | (with_reducible refine Below.drew ?_) | (with_reducible refine Ext.alloc ?_ _) | (with_reducible refine Ext.setCell ?_ (by simp; try omega) _) | (with_reducible refine Ext.trans ?_ (by assumption)) | (with_reducible assumption) | exact Below.refl _ _)))) (HQ.out.ext (by (repeat (first | (with_reducible exact Below.refl _ _) | (with_reducible refine Ext.drewN ?_ _) | (with_reducible refine Below.drew ?_) | (with_reducible refine Ext.alloc ?_ _) | (with_reducible refine Ext.setCell ?_ (by simp; try omega) _) | (with_reducible refine Ext.trans ?_ (by assumption)) | (with_reducible assumption) | exact Below.refl _ _))))).mono ?_; rintro e v2 ⟨rfl, bv2⟩))
    go_ret
    exact ⟨ret_bool (by rw [HN.out]), by (repeat (first | (with_reducible exact Below.refl _ _) | (with_reducible refine Ext.drewN ?_ _) | (with_reducible refine Below.drew ?_) | (with_reducible refine Ext.alloc ?_ _) | (with_reducible refine Ext.setCell ?_ (by simp; try omega) _) | (with_reducible refine Ext.trans ?_ (by assumption)) | (with_reducible assumption) | exact Below.refl _ _))⟩
end Go.Proofs.YtgamgfnbjfenaaaDoor
