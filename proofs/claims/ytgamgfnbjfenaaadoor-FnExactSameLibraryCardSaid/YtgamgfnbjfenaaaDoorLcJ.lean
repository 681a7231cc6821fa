/- SameLibrary: lists compared, by the program and by the model. Conditions: the cells' parts are in memory. -/
import Derived.Test.YtgamgfnbjfenaaaDoorLcI
import Derived.StillTailTactics
import Derived.Deep.RegionWith
namespace Go.Proofs.YtgamgfnbjfenaaaDoor
open Go.RowKit
set_option linter.unusedVariables false
set_option linter.unusedSimpArgs false
attribute [local go_sem ↓] Go.wp_at_zero Go.wp_at_succ

/-- Are the first i things of two lists equal? -/
def eqF {α : Type} (e : α → α → Bool) (l m : List α) (i : Nat) : Bool := (List.range i).all fun j => match l[j]?, m[j]? with | some s, some t => e s t | _, _ => true
def lisE {α : Type} (e : α → α → Bool) (l m : List α) : Bool := decide (l.length = m.length) && eqF e l m l.length
theorem eqF_zero {α : Type} (e : α → α → Bool) (l m : List α) : eqF e l m 0 = true := rfl
theorem eqF_succ {α : Type} {e : α → α → Bool} {l m : List α} {i : Nat} {s t : α} (hs : l[i]? = some s) (ht : m[i]? = some t) : eqF e l m (i + 1) = (eqF e l m i && e s t) := by
  unfold eqF
  rw [List.range_succ, List.all_append]
  simp [hs, ht]
theorem eqF_f {α : Type} {e : α → α → Bool} {l m : List α} {i n : Nat} {s t : α} (hs : l[i]? = some s) (ht : m[i]? = some t) (hi : i < n) (h : e s t = false) : eqF e l m n = false := by
  unfold eqF
  rw [List.all_eq_false]
  exact ⟨i, List.mem_range.2 hi, by simp [hs, ht, h]⟩
theorem eqF_at {α : Type} {e : α → α → Bool} {l m : List α} {n i : Nat} {s t : α} (h : eqF e l m n = true) (hi : i < n) (hs : l[i]? = some s) (ht : m[i]? = some t) : e s t = true := by
  unfold eqF at h
  have := List.all_eq_true.1 h i (List.mem_range.2 hi)
  simpa [hs, ht] using this
theorem lisE_no {α : Type} {e : α → α → Bool} {l m : List α} (h : l.length ≠ m.length) : lisE e l m = false := by unfold lisE; rw [decide_eq_false h]; rfl
theorem lisE_eq {α : Type} {e : α → α → Bool} (he : ∀ s t, e s t = true → s = t) {l m : List α} (h : lisE e l m = true) : l = m := by
  unfold lisE at h
  rw [Bool.and_eq_true, decide_eq_true_eq] at h
  refine List.ext_getElem? fun i => ?_
  by_cases hi : i < l.length
  · obtain ⟨s, hs⟩ := get_some hi
    obtain ⟨t, ht⟩ := get_some (l := m) (i := i) (by omega)
    rw [hs, ht, he s t (eqF_at h.2 hi hs ht)]
  · rw [List.getElem?_eq_none (by omega), List.getElem?_eq_none (by omega)]
theorem shpE_eq (s t : Shp) (h : shpE s t = true) : s = t := by
  unfold shpE at h
  simp only [Bool.and_eq_true, beq_iff_eq] at h
  cases s; cases t; simp_all
theorem lblE_eq (s t : Lbl) (h : lblE s t = true) : s = t := by
  unfold lblE at h
  simp only [Bool.and_eq_true, beq_iff_eq] at h
  have h2 := (Go.Lib.bytes_beq_iff s.s t.s).1 (beq_iff_eq.2 h.2)
  cases s; cases t; simp_all
theorem insE_eq (s t : Ins) (h : insE s t = true) : s = t := by
  unfold insE at h
  simp only [Bool.and_eq_true, beq_iff_eq] at h
  cases s; cases t; simp_all
def celE (c d : Cel) : Bool := (c.s.toList == d.s.toList) && lisE shpE c.a d.a && lisE lblE c.b d.b && lisE insE c.d d.d
theorem celE_eq (c d : Cel) (h : celE c d = true) : c = d := by
  unfold celE at h
  simp only [Bool.and_eq_true] at h
  have h1 := (Go.Lib.bytes_beq_iff c.s d.s).1 h.1.1.1
  have h2 := lisE_eq shpE_eq h.1.1.2
  have h3 := lisE_eq lblE_eq h.1.2
  have h4 := lisE_eq insE_eq h.2
  cases c; cases d; simp_all
/-- What SameLibrary answers. -/
def smB (L M : List Cel) : Bool := libB L && lisE celE L M
theorem smB_no1 {L M : List Cel} (h : libB L = false) : smB L M = false := by unfold smB; rw [h]; rfl
theorem smB_yes {L M : List Cel} (h : libB L = true) : smB L M = lisE celE L M := by unfold smB; rw [h]; rfl
theorem smB_no2 {L M : List Cel} (h : libB M = false) : smB L M = false := by
  cases h1 : lisE celE L M with
  | false => unfold smB; rw [h1, Bool.and_false]
  | true => rw [smB_no1]; rw [lisE_eq celE_eq h1]; exact h
set_option maxRecDepth 100000 in
set_option maxHeartbeats 8000000 in
theorem equalShape_any (a b : Option Addr) (l m : List Shp) (k1 k2 : Nat) (w : World) (hl : l.length ≤ 1048576) (hm : m.length ≤ 1048576) (hP : LiesAt 5 Shp.cs w.heap.size w a l) (hQ : LiesAt 5 Shp.cs w.heap.size w b m) :
    Calls Tryd.prog 168 #[.slice a l.length k1, .slice b m.length k2] w fun e w' => e = .returned (.bool (lisE shpE l m)) ∧ Below w.heap.size w w' := by
  have HP := Lib.hid hP
  have HQ := Lib.hid hQ
  clear hP hQ
  by_cases hlen : l.length = m.length
  case neg =>
    have HN := Lib.hid (lisE_no (e := shpE) hlen)
    have q1 : ((l.length : Int) == (m.length : Int)) = false := beq_eq_false_iff_ne.2 (by omega)
    go_enter Tryd.func168, Tryd.ntmps168
    go_wp2_with fail
    go_ret
    exact ⟨ret_bool (by simp [HN.out]), by (repeat (first | (with_reducible exact Below.refl _ _) | (with_reducible refine Ext.drewN ?_ _) | (with_reducible refine Below.drew ?_) | (with_reducible refine Ext.alloc ?_ _) | (with_reducible refine Ext.setCell ?_ (by simp; try omega) _) | (with_reducible refine Ext.trans ?_ (by assumption)) | (with_reducible assumption) | exact Below.refl _ _))⟩
  have HLN := Lib.hid hlen
  have q1 : ((l.length : Int) == (m.length : Int)) = true := by rw [hlen]; exact beq_self_eq_true _
  clear hlen
  go_enter Tryd.func168, Tryd.ntmps168
  go_wp2_with fail
  go_loopw [13] (fun s wr => ∃ i : Nat, i ≤ l.length ∧ s = .int .i64 i ∧ Below w.heap.size w wr ∧ Hid (eqF shpE l m i = true)) (fun s _ => l.length - (intOf s).toNat)
  case atStart => exact ⟨0, by omega, rfl, by (repeat (first | (with_reducible exact Below.refl _ _) | (with_reducible refine Ext.drewN ?_ _) | (with_reducible refine Below.drew ?_) | (with_reducible refine Ext.alloc ?_ _) | (with_reducible refine Ext.setCell ?_ (by simp; try omega) _) | (with_reducible refine Ext.trans ?_ (by assumption)) | (with_reducible assumption) | exact Below.refl _ _)), Lib.hid (eqF_zero _ _ _)⟩
  case round =>
    obtain ⟨i, hi, rfl, hW, HA⟩ := hrel
    by_cases hlt : i < l.length
    · obtain ⟨s, hs⟩ := get_some hlt
      obtain ⟨t, ht⟩ := get_some (l := m) (i := i) (by have := HLN.out; omega)
      obtain ⟨b1, o1, rfl, hb1, c0, c1, c2, c3, c4⟩ := shp_at (HP.out.below hW) hs
      obtain ⟨b2, o2, rfl, hb2, d0, d1, d2, d3, d4⟩ := shp_at (HQ.out.below hW) ht
      have q3 : (i : Int) < (l.length : Int) := by omega
      have q4 : (i : Int) < (m.length : Int) := by have := HLN.out; omega
      have q0 : (0 : Int) ≤ (i : Int) := by omega
      have HS := Lib.hid hs
      have HT := Lib.hid ht
      clear hs ht
      cases he : shpE s t with
      | true =>
        have hE : ∀ w, (Op.equalIn 10000 177 (.agg #[.int .i64 s.l, .int .i64 s.x, .int .i64 s.y, .int .i64 s.u, .int .i64 s.v]) (.agg #[.int .i64 t.l, .int .i64 t.x, .int .i64 t.y, .int .i64 t.u, .int .i64 t.v])).run Tryd.prog w = .ok true w := fun w => by rw [eqShpQ]; exact congrArg (fun b => Result.ok b w) (show shpE s t = true from he)
        have HA1 : Hid (eqF shpE l m (i + 1) = true) := Lib.hid (by rw [eqF_succ HS.out HT.out, HA.out, he]; rfl)
        clear he
        go_wp2_with fail
        go_region
        all_goals
          go_wp2_with fail
          go_roundw
          case rel => exact ⟨i + 1, by omega, by go_num, by first | assumption | (repeat (first | (with_reducible exact Below.refl _ _) | (with_reducible refine Ext.drewN ?_ _) | (with_reducible refine Below.drew ?_) | (with_reducible refine Ext.alloc ?_ _) | (with_reducible refine Ext.setCell ?_ (by simp; try omega) _) | (with_reducible refine Ext.trans ?_ (by assumption)) | (with_reducible assumption) | exact Below.refl _ _)), HA1⟩
          case measure => simp [intOf]; omega
      | false =>
        have hE : ∀ w, (Op.equalIn 10000 177 (.agg #[.int .i64 s.l, .int .i64 s.x, .int .i64 s.y, .int .i64 s.u, .int .i64 s.v]) (.agg #[.int .i64 t.l, .int .i64 t.x, .int .i64 t.y, .int .i64 t.u, .int .i64 t.v])).run Tryd.prog w = .ok false w := fun w => by rw [eqShpQ]; exact congrArg (fun b => Result.ok b w) (show shpE s t = false from he)
        have HN : Hid (lisE shpE l m = false) := Lib.hid (by unfold lisE; rw [eqF_f HS.out HT.out hlt he, Bool.and_false])
        clear he
        go_wp2_with fail
        go_region
        all_goals
          go_wp2_with fail
          go_ret
          exact ⟨ret_bool HN.out.symm, by first | assumption | (repeat (first | (with_reducible exact Below.refl _ _) | (with_reducible refine Ext.drewN ?_ _) | (with_reducible refine Below.drew ?_) | (with_reducible refine Ext.alloc ?_ _) | (with_reducible refine Ext.setCell ?_ (by simp; try omega) _) | (with_reducible refine Ext.trans ?_ (by assumption)) | (with_reducible assumption) | exact Below.refl _ _))⟩
    · have q3 : ¬ (i : Int) < (l.length : Int) := by omega
      have HN : Hid (lisE shpE l m = true) := Lib.hid (by unfold lisE; rw [decide_eq_true HLN.out, show l.length = i by omega, HA.out]; rfl)
      go_wp2_with fail
      go_ret
      exact ⟨ret_bool (by simp [HN.out]), hW⟩
set_option maxRecDepth 100000 in
set_option maxHeartbeats 8000000 in
theorem equalLabel_any (a b : Option Addr) (l m : List Lbl) (k1 k2 : Nat) (w : World) (hl : l.length ≤ 1048576) (hm : m.length ≤ 1048576) (hP : LiesAt 4 Lbl.cs w.heap.size w a l) (hQ : LiesAt 4 Lbl.cs w.heap.size w b m) :
    Calls Tryd.prog 169 #[.slice a l.length k1, .slice b m.length k2] w fun e w' => e = .returned (.bool (lisE lblE l m)) ∧ Below w.heap.size w w' := by
  have HP := Lib.hid hP
  have HQ := Lib.hid hQ
  clear hP hQ
  by_cases hlen : l.length = m.length
  case neg =>
    have HN := Lib.hid (lisE_no (e := lblE) hlen)
    have q1 : ((l.length : Int) == (m.length : Int)) = false := beq_eq_false_iff_ne.2 (by omega)
    go_enter Tryd.func169, Tryd.ntmps169
    go_wp2_with fail
    go_ret
    exact ⟨ret_bool (by simp [HN.out]), by (repeat (first | (with_reducible exact Below.refl _ _) | (with_reducible refine Ext.drewN ?_ _) | (with_reducible refine Below.drew ?_) | (with_reducible refine Ext.alloc ?_ _) | (with_reducible refine Ext.setCell ?_ (by simp; try omega) _) | (with_reducible refine Ext.trans ?_ (by assumption)) | (with_reducible assumption) | exact Below.refl _ _))⟩
  have HLN := Lib.hid hlen
  have q1 : ((l.length : Int) == (m.length : Int)) = true := by rw [hlen]; exact beq_self_eq_true _
  clear hlen
  go_enter Tryd.func169, Tryd.ntmps169
  go_wp2_with fail
  go_loopw [13] (fun s wr => ∃ i : Nat, i ≤ l.length ∧ s = .int .i64 i ∧ Below w.heap.size w wr ∧ Hid (eqF lblE l m i = true)) (fun s _ => l.length - (intOf s).toNat)
  case atStart => exact ⟨0, by omega, rfl, by (repeat (first | (with_reducible exact Below.refl _ _) | (with_reducible refine Ext.drewN ?_ _) | (with_reducible refine Below.drew ?_) | (with_reducible refine Ext.alloc ?_ _) | (with_reducible refine Ext.setCell ?_ (by simp; try omega) _) | (with_reducible refine Ext.trans ?_ (by assumption)) | (with_reducible assumption) | exact Below.refl _ _)), Lib.hid (eqF_zero _ _ _)⟩
  case round =>
    obtain ⟨i, hi, rfl, hW, HA⟩ := hrel
    by_cases hlt : i < l.length
    · obtain ⟨s, hs⟩ := get_some hlt
      obtain ⟨t, ht⟩ := get_some (l := m) (i := i) (by have := HLN.out; omega)
      obtain ⟨b1, o1, rfl, hb1, c0, c1, c2, c3⟩ := lbl_at (HP.out.below hW) hs
      obtain ⟨b2, o2, rfl, hb2, d0, d1, d2, d3⟩ := lbl_at (HQ.out.below hW) ht
      have q3 : (i : Int) < (l.length : Int) := by omega
      have q4 : (i : Int) < (m.length : Int) := by have := HLN.out; omega
      have q0 : (0 : Int) ≤ (i : Int) := by omega
      have HS := Lib.hid hs
      have HT := Lib.hid ht
      clear hs ht
      cases he : lblE s t with
      | true =>
        have hE : ∀ w, (Op.equalIn 10000 180 (.agg #[.int .i64 s.l, .int .i64 s.x, .int .i64 s.y, .string s.s]) (.agg #[.int .i64 t.l, .int .i64 t.x, .int .i64 t.y, .string t.s])).run Tryd.prog w = .ok true w := fun w => by rw [eqLblQ]; exact congrArg (fun b => Result.ok b w) (show lblE s t = true from he)
        have HA1 : Hid (eqF lblE l m (i + 1) = true) := Lib.hid (by rw [eqF_succ HS.out HT.out, HA.out, he]; rfl)
        clear he
        go_wp2_with fail
        go_region
        all_goals
          go_wp2_with fail
          go_roundw
          case rel => exact ⟨i + 1, by omega, by go_num, by first | assumption | (repeat (first | (with_reducible exact Below.refl _ _) | (with_reducible refine Ext.drewN ?_ _) | (with_reducible refine Below.drew ?_) | (with_reducible refine Ext.alloc ?_ _) | (with_reducible refine Ext.setCell ?_ (by simp; try omega) _) | (with_reducible refine Ext.trans ?_ (by assumption)) | (with_reducible assumption) | exact Below.refl _ _)), HA1⟩
          case measure => simp [intOf]; omega
      | false =>
        have hE : ∀ w, (Op.equalIn 10000 180 (.agg #[.int .i64 s.l, .int .i64 s.x, .int .i64 s.y, .string s.s]) (.agg #[.int .i64 t.l, .int .i64 t.x, .int .i64 t.y, .string t.s])).run Tryd.prog w = .ok false w := fun w => by rw [eqLblQ]; exact congrArg (fun b => Result.ok b w) (show lblE s t = false from he)
        have HN : Hid (lisE lblE l m = false) := Lib.hid (by unfold lisE; rw [eqF_f HS.out HT.out hlt he, Bool.and_false])
        clear he
        go_wp2_with fail
        go_region
        all_goals
          go_wp2_with fail
          go_ret
          exact ⟨ret_bool HN.out.symm, by first | assumption | (repeat (first | (with_reducible exact Below.refl _ _) | (with_reducible refine Ext.drewN ?_ _) | (with_reducible refine Below.drew ?_) | (with_reducible refine Ext.alloc ?_ _) | (with_reducible refine Ext.setCell ?_ (by simp; try omega) _) | (with_reducible refine Ext.trans ?_ (by assumption)) | (with_reducible assumption) | exact Below.refl _ _))⟩
    · have q3 : ¬ (i : Int) < (l.length : Int) := by omega
      have HN : Hid (lisE lblE l m = true) := Lib.hid (by unfold lisE; rw [decide_eq_true HLN.out, show l.length = i by omega, HA.out]; rfl)
      go_wp2_with fail
      go_ret
      exact ⟨ret_bool (by simp [HN.out]), hW⟩
set_option maxRecDepth 100000 in
set_option maxHeartbeats 8000000 in
theorem equalInstance_any (a b : Option Addr) (l m : List Ins) (k1 k2 : Nat) (w : World) (hl : l.length ≤ 1048576) (hm : m.length ≤ 1048576) (hP : LiesAt 8 Ins.cs w.heap.size w a l) (hQ : LiesAt 8 Ins.cs w.heap.size w b m) :
    Calls Tryd.prog 170 #[.slice a l.length k1, .slice b m.length k2] w fun e w' => e = .returned (.bool (lisE insE l m)) ∧ Below w.heap.size w w' := by
  have HP := Lib.hid hP
  have HQ := Lib.hid hQ
  clear hP hQ
  by_cases hlen : l.length = m.length
  case neg =>
    have HN := Lib.hid (lisE_no (e := insE) hlen)
    have q1 : ((l.length : Int) == (m.length : Int)) = false := beq_eq_false_iff_ne.2 (by omega)
    go_enter Tryd.func170, Tryd.ntmps170
    go_wp2_with fail
    go_ret
    exact ⟨ret_bool (by simp [HN.out]), by (repeat (first | (with_reducible exact Below.refl _ _) | (with_reducible refine Ext.drewN ?_ _) | (with_reducible refine Below.drew ?_) | (with_reducible refine Ext.alloc ?_ _) | (with_reducible refine Ext.setCell ?_ (by simp; try omega) _) | (with_reducible refine Ext.trans ?_ (by assumption)) | (with_reducible assumption) | exact Below.refl _ _))⟩
  have HLN := Lib.hid hlen
  have q1 : ((l.length : Int) == (m.length : Int)) = true := by rw [hlen]; exact beq_self_eq_true _
  clear hlen
  go_enter Tryd.func170, Tryd.ntmps170
  go_wp2_with fail
  go_loopw [13] (fun s wr => ∃ i : Nat, i ≤ l.length ∧ s = .int .i64 i ∧ Below w.heap.size w wr ∧ Hid (eqF insE l m i = true)) (fun s _ => l.length - (intOf s).toNat)
  case atStart => exact ⟨0, by omega, rfl, by (repeat (first | (with_reducible exact Below.refl _ _) | (with_reducible refine Ext.drewN ?_ _) | (with_reducible refine Below.drew ?_) | (with_reducible refine Ext.alloc ?_ _) | (with_reducible refine Ext.setCell ?_ (by simp; try omega) _) | (with_reducible refine Ext.trans ?_ (by assumption)) | (with_reducible assumption) | exact Below.refl _ _)), Lib.hid (eqF_zero _ _ _)⟩
  case round =>
    obtain ⟨i, hi, rfl, hW, HA⟩ := hrel
    by_cases hlt : i < l.length
    · obtain ⟨s, hs⟩ := get_some hlt
      obtain ⟨t, ht⟩ := get_some (l := m) (i := i) (by have := HLN.out; omega)
      obtain ⟨b1, o1, rfl, hb1, c0, c1, c2, c3, c4, c5, c6, c7⟩ := ins_at (HP.out.below hW) hs
      obtain ⟨b2, o2, rfl, hb2, d0, d1, d2, d3, d4, d5, d6, d7⟩ := ins_at (HQ.out.below hW) ht
      have q3 : (i : Int) < (l.length : Int) := by omega
      have q4 : (i : Int) < (m.length : Int) := by have := HLN.out; omega
      have q0 : (0 : Int) ≤ (i : Int) := by omega
      have HS := Lib.hid hs
      have HT := Lib.hid ht
      clear hs ht
      cases he : insE s t with
      | true =>
        have hE : ∀ w, (Op.equalIn 10000 85 (.agg #[.int .i64 s.c, .int .i64 s.o, .int .i64 s.x, .int .i64 s.y, .int .i64 s.m, .int .i64 s.n, .int .i64 s.p, .int .i64 s.q]) (.agg #[.int .i64 t.c, .int .i64 t.o, .int .i64 t.x, .int .i64 t.y, .int .i64 t.m, .int .i64 t.n, .int .i64 t.p, .int .i64 t.q])).run Tryd.prog w = .ok true w := fun w => by rw [eqInsQ]; exact congrArg (fun b => Result.ok b w) (show insE s t = true from he)
        have HA1 : Hid (eqF insE l m (i + 1) = true) := Lib.hid (by rw [eqF_succ HS.out HT.out, HA.out, he]; rfl)
        clear he
        go_wp2_with fail
        go_region
        all_goals
          go_wp2_with fail
          go_roundw
          case rel => exact ⟨i + 1, by omega, by go_num, by first | assumption | (repeat (first | (with_reducible exact Below.refl _ _) | (with_reducible refine Ext.drewN ?_ _) | (with_reducible refine Below.drew ?_) | (with_reducible refine Ext.alloc ?_ _) | (with_reducible refine Ext.setCell ?_ (by simp; try omega) _) | (with_reducible refine Ext.trans ?_ (by assumption)) | (with_reducible assumption) | exact Below.refl _ _)), HA1⟩
          case measure => simp [intOf]; omega
      | false =>
        have hE : ∀ w, (Op.equalIn 10000 85 (.agg #[.int .i64 s.c, .int .i64 s.o, .int .i64 s.x, .int .i64 s.y, .int .i64 s.m, .int .i64 s.n, .int .i64 s.p, .int .i64 s.q]) (.agg #[.int .i64 t.c, .int .i64 t.o, .int .i64 t.x, .int .i64 t.y, .int .i64 t.m, .int .i64 t.n, .int .i64 t.p, .int .i64 t.q])).run Tryd.prog w = .ok false w := fun w => by rw [eqInsQ]; exact congrArg (fun b => Result.ok b w) (show insE s t = false from he)
        have HN : Hid (lisE insE l m = false) := Lib.hid (by unfold lisE; rw [eqF_f HS.out HT.out hlt he, Bool.and_false])
        clear he
        go_wp2_with fail
        go_region
        all_goals
          go_wp2_with fail
          go_ret
          exact ⟨ret_bool HN.out.symm, by first | assumption | (repeat (first | (with_reducible exact Below.refl _ _) | (with_reducible refine Ext.drewN ?_ _) | (with_reducible refine Below.drew ?_) | (with_reducible refine Ext.alloc ?_ _) | (with_reducible refine Ext.setCell ?_ (by simp; try omega) _) | (with_reducible refine Ext.trans ?_ (by assumption)) | (with_reducible assumption) | exact Below.refl _ _))⟩
    · have q3 : ¬ (i : Int) < (l.length : Int) := by omega
      have HN : Hid (lisE insE l m = true) := Lib.hid (by unfold lisE; rw [decide_eq_true HLN.out, show l.length = i by omega, HA.out]; rfl)
      go_wp2_with fail
      go_ret
      exact ⟨ret_bool (by simp [HN.out]), hW⟩
end Go.Proofs.YtgamgfnbjfenaaaDoor
