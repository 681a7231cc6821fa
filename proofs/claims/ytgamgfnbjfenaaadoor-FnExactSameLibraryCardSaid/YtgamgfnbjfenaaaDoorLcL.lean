/- SameLibrary, by the model. Conditions: the cells' parts are in memory. -/
import Derived.Test.YtgamgfnbjfenaaaDoorLcJ
import Derived.Test.YtgamgfnbjfenaaaDoorLbX
namespace Go.Proofs.YtgamgfnbjfenaaaDoor
open Go.RowKit
set_option linter.unusedVariables false
set_option linter.unusedSimpArgs false
attribute [local go_sem ↓] Go.wp_at_zero Go.wp_at_succ

set_option maxRecDepth 100000 in
set_option maxHeartbeats 16000000 in
theorem l09SameCell_any (c d : Cel) (a1 a2 a3 b1 b2 b3 : Option Addr) (k1 k2 k3 j1 j2 j3 : Nat) (w : World) (ha : c.a.length ≤ 1048576) (hb : c.b.length ≤ 1048576) (hd : c.d.length ≤ 1048576) (ha' : d.a.length ≤ 1048576) (hb' : d.b.length ≤ 1048576) (hd' : d.d.length ≤ 1048576) (hC : CelAt w.heap.size w a1 a2 a3 c) (hD : CelAt w.heap.size w b1 b2 b3 d) :
    Calls Tryd.prog 86 #[.agg #[.string c.s, .slice a1 c.a.length k1, .slice a2 c.b.length k2, .slice a3 c.d.length k3], .agg #[.string d.s, .slice b1 d.a.length j1, .slice b2 d.b.length j2, .slice b3 d.d.length j3]] w fun e w' => e = .returned (.bool (celE c d)) ∧ Below w.heap.size w w' := by
  have HC := Lib.hid hC
  have HD := Lib.hid hD
  have HE : Hid (celE c d = ((c.s.toList == d.s.toList) && lisE shpE c.a d.a && lisE lblE c.b d.b && lisE insE c.d d.d)) := Lib.hid rfl
  clear hC hD
  cases h1 : (c.s.toList == d.s.toList) with
  | false =>
    go_enter Tryd.func86, Tryd.ntmps86
    go_wp2_with fail
    go_ret
    exact ⟨ret_bool (by rw [HE.out, h1]; rfl), by (repeat (first | (with_reducible exact Below.refl _ _) | (with_reducible refine Ext.drewN ?_ _) | (with_reducible refine Below.drew ?_) | (with_reducible refine Ext.alloc ?_ _) | (with_reducible refine Ext.setCell ?_ (by simp; try omega) _) | (with_reducible refine Ext.trans ?_ (by assumption)) | (with_reducible assumption) | exact Below.refl _ _))⟩
  | true =>
  by_cases h2 : c.a.length = d.a.length
  case neg =>
    have HN : Hid (celE c d = false) := Lib.hid (by rw [HE.out, lisE_no (e := shpE) h2]; simp)
    have pa : ((c.a.length : Int) == (d.a.length : Int)) = false := beq_eq_false_iff_ne.2 (by omega)
    have pa' : ((c.a.length : Int) != (d.a.length : Int)) = true := by unfold bne; rw [pa]; rfl
    clear h2
    go_enter Tryd.func86, Tryd.ntmps86
    go_wp2_with fail
    go_ret
    exact ⟨ret_bool (by simp [HN.out]), by (repeat (first | (with_reducible exact Below.refl _ _) | (with_reducible refine Ext.drewN ?_ _) | (with_reducible refine Below.drew ?_) | (with_reducible refine Ext.alloc ?_ _) | (with_reducible refine Ext.setCell ?_ (by simp; try omega) _) | (with_reducible refine Ext.trans ?_ (by assumption)) | (with_reducible assumption) | exact Below.refl _ _))⟩
  have HLA := Lib.hid h2
  have pa : ((c.a.length : Int) == (d.a.length : Int)) = true := by rw [h2]; exact beq_self_eq_true _
  have pa' : ((c.a.length : Int) != (d.a.length : Int)) = false := by unfold bne; rw [pa]; rfl
  clear h2
  by_cases h3 : c.b.length = d.b.length
  case neg =>
    have HN : Hid (celE c d = false) := Lib.hid (by rw [HE.out, lisE_no (e := lblE) h3]; simp)
    have pb : ((c.b.length : Int) == (d.b.length : Int)) = false := beq_eq_false_iff_ne.2 (by omega)
    have pb' : ((c.b.length : Int) != (d.b.length : Int)) = true := by unfold bne; rw [pb]; rfl
    clear h3
    go_enter Tryd.func86, Tryd.ntmps86
    go_wp2_with fail
    go_ret
    exact ⟨ret_bool (by simp [HN.out]), by (repeat (first | (with_reducible exact Below.refl _ _) | (with_reducible refine Ext.drewN ?_ _) | (with_reducible refine Below.drew ?_) | (with_reducible refine Ext.alloc ?_ _) | (with_reducible refine Ext.setCell ?_ (by simp; try omega) _) | (with_reducible refine Ext.trans ?_ (by assumption)) | (with_reducible assumption) | exact Below.refl _ _))⟩
  have HLB := Lib.hid h3
  have pb : ((c.b.length : Int) == (d.b.length : Int)) = true := by rw [h3]; exact beq_self_eq_true _
  have pb' : ((c.b.length : Int) != (d.b.length : Int)) = false := by unfold bne; rw [pb]; rfl
  clear h3
  by_cases h4 : c.d.length = d.d.length
  case neg =>
    have HN : Hid (celE c d = false) := Lib.hid (by rw [HE.out, lisE_no (e := insE) h4]; simp)
    have pd : ((c.d.length : Int) == (d.d.length : Int)) = false := beq_eq_false_iff_ne.2 (by omega)
    have pd' : ((c.d.length : Int) != (d.d.length : Int)) = true := by unfold bne; rw [pd]; rfl
    clear h4
    go_enter Tryd.func86, Tryd.ntmps86
    go_wp2_with fail
    go_ret
    exact ⟨ret_bool (by simp [HN.out]), by (repeat (first | (with_reducible exact Below.refl _ _) | (with_reducible refine Ext.drewN ?_ _) | (with_reducible refine Below.drew ?_) | (with_reducible refine Ext.alloc ?_ _) | (with_reducible refine Ext.setCell ?_ (by simp; try omega) _) | (with_reducible refine Ext.trans ?_ (by assumption)) | (with_reducible assumption) | exact Below.refl _ _))⟩
  have HLD := Lib.hid h4
  have pd : ((c.d.length : Int) == (d.d.length : Int)) = true := by rw [h4]; exact beq_self_eq_true _
  have pd' : ((c.d.length : Int) != (d.d.length : Int)) = false := by unfold bne; rw [pd]; rfl
  clear h4
  go_enter Tryd.func86, Tryd.ntmps86
  go_wp2_with fail
  go_loopw [5] (fun s4 wr => ∃ i : Nat, i ≤ c.a.length ∧ s4 = .int .i64 (i : Nat) ∧ Hid (eqF shpE c.a d.a i = true) ∧ Below w.heap.size w wr ∧ Hid (BoxC w.heap.size wr c a1 a2 a3 k1 k2 k3) ∧ Hid (BoxC (w.heap.size + 1) wr d b1 b2 b3 j1 j2 j3)) (fun s4 _ => c.a.length - (intOf s4).toNat)
  case atStart => exact ⟨0, by omega, rfl, Lib.hid (eqF_zero _ _ _), by (repeat (first | (with_reducible exact Below.refl _ _) | (with_reducible refine Ext.drewN ?_ _) | (with_reducible refine Below.drew ?_) | (with_reducible refine Ext.alloc ?_ _) | (with_reducible refine Ext.setCell ?_ (by simp; try omega) _) | (with_reducible refine Ext.trans ?_ (by assumption)) | (with_reducible assumption) | exact Below.refl _ _)), Lib.hid ⟨by simp <;> omega, by simp [go_sem], by simp [go_sem], by simp [go_sem], by simp [go_sem]⟩, Lib.hid ⟨by simp <;> omega, by simp [go_sem], by simp [go_sem], by simp [go_sem], by simp [go_sem]⟩⟩
  case round =>
    obtain ⟨i, hik, rfl, HA, hW, HX, HY⟩ := hrel
    obtain ⟨x0, y0, y1, y2, y3⟩ := HX.out
    obtain ⟨z0, z1, z2, z3, z4⟩ := HY.out
    by_cases hlt : i < c.a.length
    · obtain ⟨s, hs⟩ := get_some hlt
      obtain ⟨t, ht⟩ := get_some (l := d.a) (i := i) (by have := HLA.out; omega)
      obtain ⟨g1, o1, rfl, hg1, c0, c1, c2, c3, c4⟩ := shp_at (HC.out.1.below hW) hs
      obtain ⟨g2, o2, rfl, hg2, d0, d1, d2, d3, d4⟩ := shp_at (HD.out.1.below hW) ht
      have r5 : ((i : Nat) : Int) < (c.a.length : Int) := by omega
      have r6 : ((i : Nat) : Int) < (d.a.length : Int) := by have := HLA.out; omega
      have r0 : (0 : Int) ≤ ((i : Nat) : Int) := by omega
      have HS := Lib.hid hs
      have HT := Lib.hid ht
      clear hs ht
      cases he : shpE s t with
      | false =>
        have hE : ∀ w, (Op.equalIn 10000 177 (.agg #[.int .i64 s.l, .int .i64 s.x, .int .i64 s.y, .int .i64 s.u, .int .i64 s.v]) (.agg #[.int .i64 t.l, .int .i64 t.x, .int .i64 t.y, .int .i64 t.u, .int .i64 t.v])).run Tryd.prog w = .ok false w := fun w => by rw [eqShpQ]; exact congrArg (fun b => Result.ok b w) (show shpE s t = false from he)
        have HN : Hid (celE c d = false) := Lib.hid (by rw [HE.out, show lisE shpE c.a d.a = false by unfold lisE; rw [eqF_f HS.out HT.out hlt he, Bool.and_false]]; simp)
        clear he
        go_upto_region 6 with fail
        go_still_tail 10, (by kernel_rfl)
        change wpList _ _ _ _ _ wr.drew
        go_wp2_with fail
        go_ret
        exact ⟨ret_bool (by simp [HN.out]), by (repeat (first | (with_reducible exact Below.refl _ _) | (with_reducible refine Ext.drewN ?_ _) | (with_reducible refine Below.drew ?_) | (with_reducible refine Ext.alloc ?_ _) | (with_reducible refine Ext.setCell ?_ (by simp; try omega) _) | (with_reducible refine Ext.trans ?_ (by assumption)) | (with_reducible assumption) | exact Below.refl _ _))⟩
      | true =>
        have hE : ∀ w, (Op.equalIn 10000 177 (.agg #[.int .i64 s.l, .int .i64 s.x, .int .i64 s.y, .int .i64 s.u, .int .i64 s.v]) (.agg #[.int .i64 t.l, .int .i64 t.x, .int .i64 t.y, .int .i64 t.u, .int .i64 t.v])).run Tryd.prog w = .ok true w := fun w => by rw [eqShpQ]; exact congrArg (fun b => Result.ok b w) (show shpE s t = true from he)
        have HA1 : Hid (eqF shpE c.a d.a (i + 1) = true) := Lib.hid (by rw [eqF_succ HS.out HT.out, HA.out, he]; rfl)
        clear he
        go_upto_region 6 with fail
        go_still_tail 10, (by kernel_rfl)
        change wpList _ _ _ _ _ wr.drew
        have hW2 : Below w.heap.size w wr.drew := hW.drew
        have HX2 := Lib.hid (HX.out.below (Below.refl _ _).drew (Nat.le_refl _))
        have HY2 := Lib.hid (HY.out.below (Below.refl _ _).drew (Nat.le_refl _))
        go_wp2_with fail
        first | exact ⟨⟨i + 1, by omega, by go_num, HA1, hW2, HX2, HY2⟩, by simp [intOf]; omega⟩ | (go_roundw; case rel => exact ⟨i + 1, by omega, by go_num, HA1, hW2, HX2, HY2⟩; case measure => simp [intOf]; omega)
    · have r5 : ¬ ((i : Nat) : Int) < (c.a.length : Int) := by omega
      have HXA : Hid (lisE shpE c.a d.a = true) := Lib.hid (by unfold lisE; rw [decide_eq_true HLA.out, show c.a.length = i by omega, HA.out]; rfl)
      clear HA
      go_wp2_with fail
      go_loopw [6] (fun s4 wr => ∃ i : Nat, i ≤ c.b.length ∧ s4 = .int .i64 (i : Nat) ∧ Hid (eqF lblE c.b d.b i = true) ∧ Below w.heap.size w wr ∧ Hid (BoxC w.heap.size wr c a1 a2 a3 k1 k2 k3) ∧ Hid (BoxC (w.heap.size + 1) wr d b1 b2 b3 j1 j2 j3)) (fun s4 _ => c.b.length - (intOf s4).toNat)
      case atStart => exact ⟨0, by omega, rfl, Lib.hid (eqF_zero _ _ _), by (repeat (first | (with_reducible exact Below.refl _ _) | (with_reducible refine Ext.drewN ?_ _) | (with_reducible refine Below.drew ?_) | (with_reducible refine Ext.alloc ?_ _) | (with_reducible refine Ext.setCell ?_ (by simp; try omega) _) | (with_reducible refine Ext.trans ?_ (by assumption)) | (with_reducible assumption) | exact Below.refl _ _)), HX, HY⟩
      case round =>
        clear hW HX HY x0 y0 y1 y2 y3 z0 z1 z2 z3 z4
        obtain ⟨j, hik, rfl, HA, hW, HX, HY⟩ := hrel
        obtain ⟨x0, y0, y1, y2, y3⟩ := HX.out
        obtain ⟨z0, z1, z2, z3, z4⟩ := HY.out
        by_cases hlt : j < c.b.length
        · obtain ⟨s, hs⟩ := get_some hlt
          obtain ⟨t, ht⟩ := get_some (l := d.b) (i := j) (by have := HLB.out; omega)
          obtain ⟨g1, o1, rfl, hg1, c0, c1, c2, c3⟩ := lbl_at (HC.out.2.1.below hW) hs
          obtain ⟨g2, o2, rfl, hg2, d0, d1, d2, d3⟩ := lbl_at (HD.out.2.1.below hW) ht
          have r5 : ((j : Nat) : Int) < (c.b.length : Int) := by omega
          have r6 : ((j : Nat) : Int) < (d.b.length : Int) := by have := HLB.out; omega
          have r0 : (0 : Int) ≤ ((j : Nat) : Int) := by omega
          have HS := Lib.hid hs
          have HT := Lib.hid ht
          clear hs ht
          cases he : lblE s t with
          | false =>
            have hE : ∀ w, (Op.equalIn 10000 180 (.agg #[.int .i64 s.l, .int .i64 s.x, .int .i64 s.y, .string s.s]) (.agg #[.int .i64 t.l, .int .i64 t.x, .int .i64 t.y, .string t.s])).run Tryd.prog w = .ok false w := fun w => by rw [eqLblQ]; exact congrArg (fun b => Result.ok b w) (show lblE s t = false from he)
            have HN : Hid (celE c d = false) := Lib.hid (by rw [HE.out, show lisE lblE c.b d.b = false by unfold lisE; rw [eqF_f HS.out HT.out hlt he, Bool.and_false]]; simp)
            clear he
            go_upto_region 11 with fail
            go_still_tail 10, (by kernel_rfl)
            change wpList _ _ _ _ _ wr.drew
            go_wp2_with fail
            go_ret
            exact ⟨ret_bool (by simp [HN.out]), by (repeat (first | (with_reducible exact Below.refl _ _) | (with_reducible refine Ext.drewN ?_ _) | (with_reducible refine Below.drew ?_) | (with_reducible refine Ext.alloc ?_ _) | (with_reducible refine Ext.setCell ?_ (by simp; try omega) _) | (with_reducible refine Ext.trans ?_ (by assumption)) | (with_reducible assumption) | exact Below.refl _ _))⟩
          | true =>
            have hE : ∀ w, (Op.equalIn 10000 180 (.agg #[.int .i64 s.l, .int .i64 s.x, .int .i64 s.y, .string s.s]) (.agg #[.int .i64 t.l, .int .i64 t.x, .int .i64 t.y, .string t.s])).run Tryd.prog w = .ok true w := fun w => by rw [eqLblQ]; exact congrArg (fun b => Result.ok b w) (show lblE s t = true from he)
            have HA1 : Hid (eqF lblE c.b d.b (j + 1) = true) := Lib.hid (by rw [eqF_succ HS.out HT.out, HA.out, he]; rfl)
            clear he
            go_upto_region 11 with fail
            go_still_tail 10, (by kernel_rfl)
            change wpList _ _ _ _ _ wr.drew
            have hW2 : Below w.heap.size w wr.drew := hW.drew
            have HX2 := Lib.hid (HX.out.below (Below.refl _ _).drew (Nat.le_refl _))
            have HY2 := Lib.hid (HY.out.below (Below.refl _ _).drew (Nat.le_refl _))
            go_wp2_with fail
            first | exact ⟨⟨j + 1, by omega, by go_num, HA1, hW2, HX2, HY2⟩, by simp [intOf]; omega⟩ | (go_roundw; case rel => exact ⟨j + 1, by omega, by go_num, HA1, hW2, HX2, HY2⟩; case measure => simp [intOf]; omega)
        · have r5 : ¬ ((j : Nat) : Int) < (c.b.length : Int) := by omega
          have HXB : Hid (lisE lblE c.b d.b = true) := Lib.hid (by unfold lisE; rw [decide_eq_true HLB.out, show c.b.length = j by omega, HA.out]; rfl)
          clear HA
          go_wp2_with fail
          go_loopw [7] (fun s4 wr => ∃ i : Nat, i ≤ c.d.length ∧ s4 = .int .i64 (i : Nat) ∧ Hid (eqF insE c.d d.d i = true) ∧ Below w.heap.size w wr ∧ Hid (BoxC w.heap.size wr c a1 a2 a3 k1 k2 k3) ∧ Hid (BoxC (w.heap.size + 1) wr d b1 b2 b3 j1 j2 j3)) (fun s4 _ => c.d.length - (intOf s4).toNat)
          case atStart => exact ⟨0, by omega, rfl, Lib.hid (eqF_zero _ _ _), by (repeat (first | (with_reducible exact Below.refl _ _) | (with_reducible refine Ext.drewN ?_ _) | (with_reducible refine Below.drew ?_) | (with_reducible refine Ext.alloc ?_ _) | (with_reducible refine Ext.setCell ?_ (by simp; try omega) _) | (with_reducible refine Ext.trans ?_ (by assumption)) | (with_reducible assumption) | exact Below.refl _ _)), HX, HY⟩
          case round =>
            clear hW HX HY x0 y0 y1 y2 y3 z0 z1 z2 z3 z4
            obtain ⟨v, hik, rfl, HA, hW, HX, HY⟩ := hrel
            obtain ⟨x0, y0, y1, y2, y3⟩ := HX.out
            obtain ⟨z0, z1, z2, z3, z4⟩ := HY.out
            by_cases hlt : v < c.d.length
            · obtain ⟨s, hs⟩ := get_some hlt
              obtain ⟨t, ht⟩ := get_some (l := d.d) (i := v) (by have := HLD.out; omega)
              obtain ⟨g1, o1, rfl, hg1, c0, c1, c2, c3, c4, c5, c6, c7⟩ := ins_at (HC.out.2.2.below hW) hs
              obtain ⟨g2, o2, rfl, hg2, d0, d1, d2, d3, d4, d5, d6, d7⟩ := ins_at (HD.out.2.2.below hW) ht
              have r5 : ((v : Nat) : Int) < (c.d.length : Int) := by omega
              have r6 : ((v : Nat) : Int) < (d.d.length : Int) := by have := HLD.out; omega
              have r0 : (0 : Int) ≤ ((v : Nat) : Int) := by omega
              have HS := Lib.hid hs
              have HT := Lib.hid ht
              clear hs ht
              cases he : insE s t with
              | false =>
                have hE : ∀ w, (Op.equalIn 10000 85 (.agg #[.int .i64 s.c, .int .i64 s.o, .int .i64 s.x, .int .i64 s.y, .int .i64 s.m, .int .i64 s.n, .int .i64 s.p, .int .i64 s.q]) (.agg #[.int .i64 t.c, .int .i64 t.o, .int .i64 t.x, .int .i64 t.y, .int .i64 t.m, .int .i64 t.n, .int .i64 t.p, .int .i64 t.q])).run Tryd.prog w = .ok false w := fun w => by rw [eqInsQ]; exact congrArg (fun b => Result.ok b w) (show insE s t = false from he)
                have HN : Hid (celE c d = false) := Lib.hid (by rw [HE.out, show lisE insE c.d d.d = false by unfold lisE; rw [eqF_f HS.out HT.out hlt he, Bool.and_false]]; simp)
                clear he
                go_upto_region 16 with fail
                go_still_tail 10, (by kernel_rfl)
                change wpList _ _ _ _ _ wr.drew
                go_wp2_with fail
                go_ret
                exact ⟨ret_bool (by simp [HN.out]), by (repeat (first | (with_reducible exact Below.refl _ _) | (with_reducible refine Ext.drewN ?_ _) | (with_reducible refine Below.drew ?_) | (with_reducible refine Ext.alloc ?_ _) | (with_reducible refine Ext.setCell ?_ (by simp; try omega) _) | (with_reducible refine Ext.trans ?_ (by assumption)) | (with_reducible assumption) | exact Below.refl _ _))⟩
              | true =>
                have hE : ∀ w, (Op.equalIn 10000 85 (.agg #[.int .i64 s.c, .int .i64 s.o, .int .i64 s.x, .int .i64 s.y, .int .i64 s.m, .int .i64 s.n, .int .i64 s.p, .int .i64 s.q]) (.agg #[.int .i64 t.c, .int .i64 t.o, .int .i64 t.x, .int .i64 t.y, .int .i64 t.m, .int .i64 t.n, .int .i64 t.p, .int .i64 t.q])).run Tryd.prog w = .ok true w := fun w => by rw [eqInsQ]; exact congrArg (fun b => Result.ok b w) (show insE s t = true from he)
                have HA1 : Hid (eqF insE c.d d.d (v + 1) = true) := Lib.hid (by rw [eqF_succ HS.out HT.out, HA.out, he]; rfl)
                clear he
                go_upto_region 16 with fail
                go_still_tail 10, (by kernel_rfl)
                change wpList _ _ _ _ _ wr.drew
                have hW2 : Below w.heap.size w wr.drew := hW.drew
                have HX2 := Lib.hid (HX.out.below (Below.refl _ _).drew (Nat.le_refl _))
                have HY2 := Lib.hid (HY.out.below (Below.refl _ _).drew (Nat.le_refl _))
                go_wp2_with fail
                first | exact ⟨⟨v + 1, by omega, by go_num, HA1, hW2, HX2, HY2⟩, by simp [intOf]; omega⟩ | (go_roundw; case rel => exact ⟨v + 1, by omega, by go_num, HA1, hW2, HX2, HY2⟩; case measure => simp [intOf]; omega)
            · have r5 : ¬ ((v : Nat) : Int) < (c.d.length : Int) := by omega
              have HXD : Hid (lisE insE c.d d.d = true) := Lib.hid (by unfold lisE; rw [decide_eq_true HLD.out, show c.d.length = v by omega, HA.out]; rfl)
              clear HA
              go_wp2_with fail
              go_ret
              exact ⟨ret_bool (by rw [HE.out, h1, HXA.out, HXB.out, HXD.out]; rfl), by (repeat (first | (with_reducible exact Below.refl _ _) | (with_reducible refine Ext.drewN ?_ _) | (with_reducible refine Below.drew ?_) | (with_reducible refine Ext.alloc ?_ _) | (with_reducible refine Ext.setCell ?_ (by simp; try omega) _) | (with_reducible refine Ext.trans ?_ (by assumption)) | (with_reducible assumption) | exact Below.refl _ _))⟩
set_option maxRecDepth 100000 in
set_option maxHeartbeats 8000000 in
theorem specSameLibrary_any (a b : Option Addr) (L M : List Cel) (k1 k2 : Nat) (w : World) (hs : szCs L ≤ 1048576) (hs' : szCs M ≤ 1048576) (hP : CelsAt w.heap.size w a L) (hQ : CelsAt w.heap.size w b M) :
    Calls Tryd.prog 39 #[.agg #[.slice a L.length k1], .agg #[.slice b M.length k2]] w fun e w' => e = .returned (.bool (smB L M)) ∧ Below w.heap.size w w' := by
  have HP := Lib.hid hP
  have HQ := Lib.hid hQ
  have hl := sz_len hs
  have hm := sz_len hs'
  have HZ := Lib.hid hs
  have HZ' := Lib.hid hs'
  clear hP hQ hs hs'
  cases hp : libB L with
  | false =>
    have HN := Lib.hid (smB_no1 (M := M) hp)
    go_enter Tryd.func39, Tryd.ntmps39
    go_wp2_with (first | (go_at_call 21; refine (specIsValidLibrary_any a L k1 _ HZ.out (HP.out.ext (by (repeat (first | (with_reducible exact Below.refl _ _) | (with_reducible refine Ext.drewN ?_ _) | (with_reducible refine Below.drew ?_) | (with_reducible refine Ext.alloc ?_ _) | (with_reducible refine Ext.setCell ?_ (by simp; try omega) _) | (with_reducible refine Ext.trans ?_ (by assumption)) | (with_reducible assumption) | exact Below.refl _ _))))).mono ?_; rintro e v1 ⟨rfl, bv1⟩; obtain ⟨sv1, zv1, cv1, fv1⟩ := bcell bv1; (try simp only [World.size_alloc, World.size_setCell, World.size_drew] at sv1); rw [hp]))
    go_ret
    exact ⟨ret_bool (by simp [HN.out]), by (repeat (first | (with_reducible exact Below.refl _ _) | (with_reducible refine Ext.drewN ?_ _) | (with_reducible refine Below.drew ?_) | (with_reducible refine Ext.alloc ?_ _) | (with_reducible refine Ext.setCell ?_ (by simp; try omega) _) | (with_reducible refine Ext.trans ?_ (by assumption)) | (with_reducible assumption) | exact Below.refl _ _))⟩
  | true =>
  cases hp' : libB M with
  | false =>
    have HN := Lib.hid (smB_no2 (L := L) hp')
    go_enter Tryd.func39, Tryd.ntmps39
    go_wp2_with (first | (go_at_call_of 21 (Value.agg #[.slice a L.length k1]); refine (specIsValidLibrary_any a L k1 _ HZ.out (HP.out.ext (by (repeat (first | (with_reducible exact Below.refl _ _) | (with_reducible refine Ext.drewN ?_ _) | (with_reducible refine Below.drew ?_) | (with_reducible refine Ext.alloc ?_ _) | (with_reducible refine Ext.setCell ?_ (by simp; try omega) _) | (with_reducible refine Ext.trans ?_ (by assumption)) | (with_reducible assumption) | exact Below.refl _ _))))).mono ?_; rintro e v1 ⟨rfl, bv1⟩; obtain ⟨sv1, zv1, cv1, fv1⟩ := bcell bv1; (try simp only [World.size_alloc, World.size_setCell, World.size_drew] at sv1); (try have n1a : w.heap.size + 1 < v1.heap.size := by omega); rw [hp]) | (go_at_call 21; refine (specIsValidLibrary_any b M k2 _ HZ'.out (HQ.out.ext (by (repeat (first | (with_reducible exact Below.refl _ _) | (with_reducible refine Ext.drewN ?_ _) | (with_reducible refine Below.drew ?_) | (with_reducible refine Ext.alloc ?_ _) | (with_reducible refine Ext.setCell ?_ (by simp; try omega) _) | (with_reducible refine Ext.trans ?_ (by assumption)) | (with_reducible assumption) | exact Below.refl _ _))))).mono ?_; rintro e v2 ⟨rfl, bv2⟩; obtain ⟨sv2, zv2, cv2, fv2⟩ := bcell bv2; (try simp only [World.size_alloc, World.size_setCell, World.size_drew] at sv2); rw [hp']))
    go_ret
    exact ⟨ret_bool (by simp [HN.out]), by (repeat (first | (with_reducible exact Below.refl _ _) | (with_reducible refine Ext.drewN ?_ _) | (with_reducible refine Below.drew ?_) | (with_reducible refine Ext.alloc ?_ _) | (with_reducible refine Ext.setCell ?_ (by simp; try omega) _) | (with_reducible refine Ext.trans ?_ (by assumption)) | (with_reducible assumption) | exact Below.refl _ _))⟩
  | true =>
  by_cases hlen : L.length = M.length
  case neg =>
    have HN : Hid (smB L M = false) := Lib.hid (by rw [smB_yes hp, lisE_no hlen])
    have q1 : ((L.length : Int) == (M.length : Int)) = false := beq_eq_false_iff_ne.2 (by omega)
    have q2 : ((L.length : Int) != (M.length : Int)) = true := by unfold bne; rw [q1]; rfl
    clear hlen
    go_enter Tryd.func39, Tryd.ntmps39
    go_wp2_with (first | (go_at_call_of 21 (Value.agg #[.slice a L.length k1]); refine (specIsValidLibrary_any a L k1 _ HZ.out (HP.out.ext (by (repeat (first | (with_reducible exact Below.refl _ _) | (with_reducible refine Ext.drewN ?_ _) | (with_reducible refine Below.drew ?_) | (with_reducible refine Ext.alloc ?_ _) | (with_reducible refine Ext.setCell ?_ (by simp; try omega) _) | (with_reducible refine Ext.trans ?_ (by assumption)) | (with_reducible assumption) | exact Below.refl _ _))))).mono ?_; rintro e v1 ⟨rfl, bv1⟩; obtain ⟨sv1, zv1, cv1, fv1⟩ := bcell bv1; (try simp only [World.size_alloc, World.size_setCell, World.size_drew] at sv1); (try have n1a : w.heap.size < v1.heap.size := by omega); (try have n1a : w.heap.size + 1 < v1.heap.size := by omega); rw [hp]) | (go_at_call 21; refine (specIsValidLibrary_any b M k2 _ HZ'.out (HQ.out.ext (by (repeat (first | (with_reducible exact Below.refl _ _) | (with_reducible refine Ext.drewN ?_ _) | (with_reducible refine Below.drew ?_) | (with_reducible refine Ext.alloc ?_ _) | (with_reducible refine Ext.setCell ?_ (by simp; try omega) _) | (with_reducible refine Ext.trans ?_ (by assumption)) | (with_reducible assumption) | exact Below.refl _ _))))).mono ?_; rintro e v2 ⟨rfl, bv2⟩; obtain ⟨sv2, zv2, cv2, fv2⟩ := bcell bv2; (try simp only [World.size_alloc, World.size_setCell, World.size_drew] at sv2); (try have n1a : w.heap.size < v2.heap.size := by omega); (try have n1a : w.heap.size + 1 < v2.heap.size := by omega); rw [hp']))
    go_ret
    exact ⟨ret_bool (by simp [HN.out]), by (repeat (first | (with_reducible exact Below.refl _ _) | (with_reducible refine Ext.drewN ?_ _) | (with_reducible refine Below.drew ?_) | (with_reducible refine Ext.alloc ?_ _) | (with_reducible refine Ext.setCell ?_ (by simp; try omega) _) | (with_reducible refine Ext.trans ?_ (by assumption)) | (with_reducible assumption) | exact Below.refl _ _))⟩
  have HLN := Lib.hid hlen
  have q1 : ((L.length : Int) == (M.length : Int)) = true := by rw [hlen]; exact beq_self_eq_true _
  have q2 : ((L.length : Int) != (M.length : Int)) = false := by unfold bne; rw [q1]; rfl
  clear hlen
  go_enter Tryd.func39, Tryd.ntmps39
  go_wp2_with (first | (go_at_call_of 21 (Value.agg #[.slice a L.length k1]); refine (specIsValidLibrary_any a L k1 _ HZ.out (HP.out.ext (by (repeat (first | (with_reducible exact Below.refl _ _) | (with_reducible refine Ext.drewN ?_ _) | (with_reducible refine Below.drew ?_) | (with_reducible refine Ext.alloc ?_ _) | (with_reducible refine Ext.setCell ?_ (by simp; try omega) _) | (with_reducible refine Ext.trans ?_ (by assumption)) | (with_reducible assumption) | exact Below.refl _ _))))).mono ?_; rintro e v1 ⟨rfl, bv1⟩; obtain ⟨sv1, zv1, cv1, fv1⟩ := bcell bv1; (try simp only [World.size_alloc, World.size_setCell, World.size_drew] at sv1); (try have n1a : w.heap.size < v1.heap.size := by omega); (try have n1a : w.heap.size + 1 < v1.heap.size := by omega); rw [hp]) | (go_at_call 21; refine (specIsValidLibrary_any b M k2 _ HZ'.out (HQ.out.ext (by (repeat (first | (with_reducible exact Below.refl _ _) | (with_reducible refine Ext.drewN ?_ _) | (with_reducible refine Below.drew ?_) | (with_reducible refine Ext.alloc ?_ _) | (with_reducible refine Ext.setCell ?_ (by simp; try omega) _) | (with_reducible refine Ext.trans ?_ (by assumption)) | (with_reducible assumption) | exact Below.refl _ _))))).mono ?_; rintro e v2 ⟨rfl, bv2⟩; obtain ⟨sv2, zv2, cv2, fv2⟩ := bcell bv2; (try simp only [World.size_alloc, World.size_setCell, World.size_drew] at sv2); (try have n1a : w.heap.size < v2.heap.size := by omega); (try have n1a : w.heap.size + 1 < v2.heap.size := by omega); rw [hp']))
  have X1 : Hid (BoxL w.heap.size v2 a L.length k1) := Lib.hid ⟨by omega, keepC bv2 (keepC bv1 (by simp [go_sem]))⟩
  have Y1 : Hid (BoxL (w.heap.size + 1) v2 b M.length k2) := Lib.hid ⟨by omega, keepC bv2 (keepC bv1 (by simp [go_sem]))⟩
  have W1 := Lib.hid (show Below w.heap.size w v2 by (repeat (first | (with_reducible exact Below.refl _ _) | (with_reducible refine Ext.drewN ?_ _) | (with_reducible refine Below.drew ?_) | (with_reducible refine Ext.alloc ?_ _) | (with_reducible refine Ext.setCell ?_ (by simp; try omega) _) | (with_reducible refine Ext.trans ?_ (by assumption)) | (with_reducible assumption) | exact Below.refl _ _)))
  go_loopw [5] (fun s5 wr => ∃ i : Nat, i ≤ L.length ∧ s5 = .int .i64 (i : Nat) ∧ Hid (eqF celE L M i = true) ∧ Below w.heap.size w wr ∧ Hid (BoxL w.heap.size wr a L.length k1) ∧ Hid (BoxL (w.heap.size + 1) wr b M.length k2)) (fun s5 _ => L.length - (intOf s5).toNat)
  case atStart => exact ⟨0, by omega, rfl, Lib.hid (eqF_zero _ _ _), W1.out, X1, Y1⟩
  case round =>
    clear X1 Y1 W1
    obtain ⟨i, hik, rfl, HA, hW, HX, HY⟩ := hrel
    obtain ⟨x0, y0⟩ := HX.out
    obtain ⟨z0, z1⟩ := HY.out
    by_cases hlt : i < L.length
    · obtain ⟨c, hc⟩ := get_some hlt
      obtain ⟨d, hd⟩ := get_some (l := M) (i := i) (by have := HLN.out; omega)
      obtain ⟨g1, o1, a1, a2, a3, j1, j2, j3, rfl, hg1, c0, c1, c2, c3, hC⟩ := (HP.out.below hW) i c hc
      obtain ⟨g2, o2, e1, e2, e3, i1, i2, i3, rfl, hg2, d0, d1, d2, d3, hD⟩ := (HQ.out.below hW) i d hd
      obtain ⟨hs1, hs2, hs3, hs4, hs5⟩ := sz_at HZ.out hc
      obtain ⟨ht1, ht2, ht3, ht4, ht5⟩ := sz_at HZ'.out hd
      have HC := Lib.hid (hC.mono hW.size)
      have HD := Lib.hid (hD.mono hW.size)
      have r5 : ((i : Nat) : Int) < (L.length : Int) := by omega
      have r6 : ((i : Nat) : Int) < (M.length : Int) := by have := HLN.out; omega
      have r0 : (0 : Int) ≤ ((i : Nat) : Int) := by omega
      have HS := Lib.hid hc
      have HT := Lib.hid hd
      clear hc hd hC hD
      go_upto_region 6 with fail
      go_still_tail 10, (by kernel_rfl)
      change wpList _ _ _ _ _ wr.drew
      obtain ⟨wd, hwd⟩ : ∃ wd, wd = wr.drew := ⟨_, rfl⟩
      have Bd : Below wr.heap.size wr wd := by rw [hwd]; exact (Below.refl _ _).drew
      rw [← hwd]
      clear hwd
      cases he : celE c d with
      | true =>
        have HA1 : Hid (eqF celE L M (i + 1) = true) := Lib.hid (by rw [eqF_succ HS.out HT.out, HA.out, he]; rfl)
        go_wp2_with fail
        refine (l09SameCell_any c d _ _ _ _ _ _ _ _ _ _ _ _ _ hs2 hs3 hs4 ht2 ht3 ht4 (HC.out.ext Bd) (HD.out.ext Bd)).mono ?_
        rintro e w3 ⟨rfl, bw3⟩
        rw [he]
        have B3 := Ext.trans (Ext.trans hW Bd) bw3
        have HX2 := Lib.hid (HX.out.below (Ext.trans Bd bw3) (Nat.le_refl _))
        have HY2 := Lib.hid (HY.out.below (Ext.trans Bd bw3) (Nat.le_refl _))
        go_wp2_with fail
        first | exact ⟨⟨i + 1, by omega, by go_num, HA1, B3, HX2, HY2⟩, by simp [intOf]; omega⟩ | (go_roundw; case rel => exact ⟨i + 1, by omega, by go_num, HA1, B3, HX2, HY2⟩; case measure => simp [intOf]; omega)
      | false =>
        have HN : Hid (smB L M = false) := Lib.hid (by rw [smB_yes hp]; unfold lisE; rw [eqF_f HS.out HT.out hlt he, Bool.and_false])
        go_wp2_with fail
        refine (l09SameCell_any c d _ _ _ _ _ _ _ _ _ _ _ _ _ hs2 hs3 hs4 ht2 ht3 ht4 (HC.out.ext Bd) (HD.out.ext Bd)).mono ?_
        rintro e w3 ⟨rfl, bw3⟩
        rw [he]
        go_wp2_with fail
        go_ret
        exact ⟨ret_bool (by simp [HN.out]), by (repeat (first | (with_reducible exact Below.refl _ _) | (with_reducible refine Ext.drewN ?_ _) | (with_reducible refine Below.drew ?_) | (with_reducible refine Ext.alloc ?_ _) | (with_reducible refine Ext.setCell ?_ (by simp; try omega) _) | (with_reducible refine Ext.trans ?_ (by assumption)) | (with_reducible assumption) | exact Below.refl _ _))⟩
    · have r5 : ¬ ((i : Nat) : Int) < (L.length : Int) := by omega
      have HN : Hid (smB L M = true) := Lib.hid (by rw [smB_yes hp]; unfold lisE; rw [decide_eq_true HLN.out, show L.length = i by omega, HA.out]; rfl)
      go_wp2_with fail
      go_ret
      exact ⟨ret_bool (by simp [HN.out]), by (repeat (first | (with_reducible exact Below.refl _ _) | (with_reducible refine Ext.drewN ?_ _) | (with_reducible refine Below.drew ?_) | (with_reducible refine Ext.alloc ?_ _) | (with_reducible refine Ext.setCell ?_ (by simp; try omega) _) | (with_reducible refine Ext.trans ?_ (by assumption)) | (with_reducible assumption) | exact Below.refl _ _))⟩
end Go.Proofs.YtgamgfnbjfenaaaDoor
