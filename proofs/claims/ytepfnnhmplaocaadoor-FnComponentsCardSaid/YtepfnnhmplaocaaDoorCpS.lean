/- The laws' marks in lists of lists of their own, and comparisons. Conditions: the lists lie in memory. -/
import Derived.Test.YtepfnnhmplaocaaDoorCpR
import Derived.Test.YtepfnnhmplaocaaDoorQD
import Derived.Test.YtepfnnhmplaocaaDoorQP
import Derived.Test.YtepfnnhmplaocaaDoorCpM
import Derived.Test.YtepfnnhmplaocaaDoorCpI
namespace Go.Proofs.YtepfnnhmplaocaaDoor
open Go.RowKit
set_option linter.unusedVariables false
set_option linter.unusedSimpArgs false
attribute [local go_sem ↓] Go.wp_at_zero Go.wp_at_succ

set_option maxHeartbeats 4000000 in
theorem heldRectS_rowK (g len c : Nat) (k : Int) (w : World) (hlen : len ≤ 1048576) (k0 : 0 ≤ k) (k1 : k ≤ 50000000) (hr : RowR w g len (mkV k 0) (mkV k 1) (mkV k 2) (mkV k 3)) :
    Calls Tryd.prog 49 #[.slice (some ⟨g, 0, none⟩) len c, .int .i64 k] w fun e w' => e = .returned (.int .i64 (k + 4 * (len : Int))) ∧ w = w' := by
  have HR := Lib.hid hr
  clear hr
  go_enter Tryd.func49, Tryd.ntmps49
  go_wp2_with fail
  go_loopw [1, 5] (fun s t wr => ∃ i : Nat, i ≤ len ∧ t = .int .i64 i ∧ s = .int .i64 (k + 4 * (i : Int)) ∧ wr = w) (fun _ t _ => len - (intOf t).toNat)
  case atStart => exact ⟨0, by omega, rfl, by simp, rfl⟩
  case round =>
    obtain ⟨i, hi, rfl, rfl, rfl⟩ := hrel
    by_cases hlt : i < len
    · obtain ⟨⟨c0, c1, c2, c3⟩, f0, f1, f2, f3⟩ := HR.out i hlt
      have q1 : (i : Int) < (len : Int) := by omega
      have q0 : (0 : Int) ≤ (i : Int) := by omega
      obtain ⟨v, hv⟩ : ∃ v, v = k + 4 * (i : Int) := ⟨_, rfl⟩
      have e0 : mkV k 0 i = v := by unfold mkV; omega
      have e1 : mkV k 1 i = v + 1 := by unfold mkV; omega
      have e2 : mkV k 2 i = v + 1 + 1 := by unfold mkV; omega
      have e3 : mkV k 3 i = v + 1 + 1 + 1 := by unfold mkV; omega
      rw [e0] at c0
      rw [e1] at c1
      rw [e2] at c2
      rw [e3] at c3
      have v0 : 0 ≤ v := by omega
      have v1 : v ≤ 100000000 := by omega
      rw [← hv]
      have HV := Lib.hid hv
      have n0 : (v != v) = false := by simp
      have n1 : (v + 1 != v + 1) = false := by simp
      have n2 : (v + 1 + 1 != v + 1 + 1) = false := by simp
      have n3 : (v + 1 + 1 + 1 != v + 1 + 1 + 1) = false := by simp
      clear e0 e1 e2 e3 hv f0 f1 f2 f3
      go_wp2_with fail
      go_roundw
      case rel => exact ⟨i + 1, by omega, by go_num, by rw [show v + 1 + 1 + 1 + 1 = k + 4 * ((i + 1 : Nat) : Int) by have := HV.out; omega], by trivial⟩
      case measure => simp [intOf]; omega
    · have q1 : ¬ (i : Int) < (len : Int) := by omega
      obtain rfl : i = len := by omega
      go_wp2_with fail
      go_ret
      exact ⟨rfl, rfl⟩

theorem RowR.kept {w w' : World} {X : Nat → Prop} {g n : Nat} {P Q R S : Nat → Int} (h : RowR w g n P Q R S) (hk : Kept X w w') (hlt : g < w.heap.size) (hX : ¬ X g) : RowR w' g n P Q R S := fun t ht => by
  obtain ⟨⟨c0, c1, c2, c3⟩, f0, f1, f2, f3⟩ := h t ht
  have cc : ∀ o v, w.cell? ⟨g, o, none⟩ = some v → w'.cell? ⟨g, o, none⟩ = some v := fun o v hc => (hk.cell (p := ⟨g, o, none⟩) hlt hX).trans hc
  have ff : ∀ o, w.frozen? ⟨g, o, none⟩ = false → w'.frozen? ⟨g, o, none⟩ = false := fun o hc => (hk.frozen (p := ⟨g, o, none⟩) hlt hX).trans hc
  exact ⟨⟨cc _ _ c0, cc _ _ c1, cc _ _ c2, cc _ _ c3⟩, ff _ f0, ff _ f1, ff _ f2, ff _ f3⟩
/-- The number at which the marks of the i-th list begin. -/
def kAt (LL : List (List R4)) (i : Nat) : Int := 1 + 4 * ((((LL.take i).map List.length).sum : Nat) : Int)
theorem kAt_succ {LL : List (List R4)} {i : Nat} {l : List R4} (h : LL[i]? = some l) : kAt LL (i + 1) = kAt LL i + 4 * (l.length : Int) := by
  unfold kAt
  rw [List.take_add_one, h, Option.toList_some, List.map_append, List.sum_append]
  simp
  omega
theorem take_sum_le {LL : List (List R4)} : ∀ i, ((LL.take i).map List.length).sum ≤ (LL.map List.length).sum := by
  intro i
  conv => rhs; rw [← List.take_append_drop i LL]
  rw [List.map_append, List.sum_append]
  omega
theorem kAt_bd {LL : List (List R4)} (ht : (LL.map List.length).sum ≤ 3280) (i : Nat) : 1 ≤ kAt LL i ∧ kAt LL i ≤ 20000 := by
  have := take_sum_le (LL := LL) i
  unfold kAt
  omega
theorem kAt_all (LL : List (List R4)) : kAt LL LL.length = 1 + 4 * (((LL.map List.length).sum : Nat) : Int) := by unfold kAt; rw [List.take_length]
/-- The lists' rows hold their marks. -/
def MarkedLs (w : World) (a : Option Addr) (LL : List (List R4)) (g : Nat → Nat) (i : Nat) : Prop := ∀ (j : Nat) (l : List R4), j < i → LL[j]? = some l → (∃ h c, a = some ⟨h, 0, none⟩ ∧ h < w.heap.size ∧ w.cell? ⟨h, j, none⟩ = some (.slice (some ⟨g j, 0, none⟩) l.length c)) ∧ g j < w.heap.size ∧ RowR w (g j) l.length (mkV (kAt LL j) 0) (mkV (kAt LL j) 1) (mkV (kAt LL j) 2) (mkV (kAt LL j) 3)
theorem MarkedLs.below {w w' : World} {a : Option Addr} {LL : List (List R4)} {g : Nat → Nat} {i : Nat} (h : MarkedLs w a LL g i) (hb : Below w.heap.size w w') : MarkedLs w' a LL g i := fun j l hj hl => by
  obtain ⟨⟨x, c, h1, h2, h3⟩, h4, h5⟩ := h j l hj hl
  exact ⟨⟨x, c, h1, Nat.lt_of_lt_of_le h2 hb.size, keepC hb h3⟩, Nat.lt_of_lt_of_le h4 hb.size, h5.below hb h4⟩
set_option maxHeartbeats 8000000 in
set_option maxRecDepth 100000 in
theorem heldLs_any (a : Option Addr) (LL : List (List R4)) (c : Nat) (g : Nat → Nat) (w : World) (ht : (LL.map List.length).sum ≤ 3280) (hle : LL.length ≤ 6400) (hM : MarkedLs w a LL g LL.length) :
    Calls Tryd.prog 47 #[.slice a LL.length c, .int .i64 1] w fun e w' => e = .returned (.int .i64 (kAt LL LL.length)) ∧ Below w.heap.size w w' := by
  have HM := Lib.hid hM
  have hbd := kAt_bd ht
  have HBD := Lib.hid hbd
  clear hM hbd
  go_enter Tryd.func47, Tryd.ntmps47
  go_wp2_with fail
  go_loopw [1, 5] (fun s1 s5 wr => ∃ i : Nat, i ≤ LL.length ∧ s1 = .int .i64 (kAt LL i) ∧ s5 = .int .i64 (i : Nat) ∧ Hid (Below w.heap.size w wr)) (fun _ s5 _ => LL.length - (intOf s5).toNat)
  case atStart => exact ⟨0, by omega, rfl, rfl, Lib.hid (Below.refl _ _)⟩
  case round =>
    obtain ⟨i, hil, rfl, rfl, HW⟩ := hrel
    by_cases hlt : i < LL.length
    case neg =>
      obtain rfl : i = LL.length := by omega
      have q1 : ¬ ((LL.length : Nat) : Int) < (LL.length : Int) := by omega
      obtain ⟨v, hv⟩ : ∃ v, kAt LL LL.length = v := ⟨_, rfl⟩
      rw [hv]
      go_wp2_with fail
      go_ret
      exact ⟨rfl, HW.out⟩
    have q1 : ((i : Nat) : Int) < (LL.length : Int) := by omega
    have q0 : (0 : Int) ≤ ((i : Nat) : Int) := by omega
    obtain ⟨l, hl⟩ : ∃ l, LL[i]? = some l := ⟨_, List.getElem?_eq_getElem hlt⟩
    obtain ⟨⟨x, c', rfl, h2, h3⟩, h4, h5⟩ := (HM.out.below HW.out) i l hlt hl
    have hk := HBD.out i
    have hks := kAt_succ hl
    obtain ⟨v, hv⟩ : ∃ v, kAt LL i = v := ⟨_, rfl⟩
    rw [hv] at hk hks h5 ⊢
    have hks' := HBD.out (i + 1)
    rw [hks] at hks'
    have HKS := Lib.hid hks
    have HR := Lib.hid h5
    have hll : l.length ≤ 1048576 := by omega
    have hnn : ¬ v + 4 * (l.length : Int) < 0 := by omega
    clear hks h5 hv hl
    go_wp2_with (go_at_call 49; refine (heldRectS_rowK (g i) l.length c' v _ hll (by omega) (by omega) HR.out).mono ?_; rintro e w3 ⟨rfl, rfl⟩)
    go_roundw
    case rel => exact ⟨i + 1, by omega, by rw [HKS.out], by go_num, by first | exact HW | exact Lib.hid (HW.out.drew)⟩
    case measure => simp [intOf]; omega
set_option maxHeartbeats 8000000 in
set_option maxRecDepth 100000 in
theorem markLs_any (B : Nat) (a : Option Addr) (LL : List (List R4)) (c : Nat) (V : List Value) (g : Nat → Nat) (w : World) (ht : (LL.map List.length).sum ≤ 3280) (hle : LL.length ≤ 6400) (hO : LsOwn B w (.slice a LL.length c) LL V g) :
    Calls Tryd.prog 46 #[.slice a LL.length c, .int .i64 1] w fun e w' => e = .returned (.int .i64 (kAt LL LL.length)) ∧ MarkedLs w' a LL g LL.length ∧ Kept (fun b => ∃ j, j < LL.length ∧ b = g j) w w' := by
  have HO := Lib.hid hO
  have hbd := kAt_bd ht
  have HBD := Lib.hid hbd
  clear hO hbd
  go_enter Tryd.func46, Tryd.ntmps46
  go_wp2_with fail
  go_loopw [1, 5] (fun s1 s5 wr => ∃ i : Nat, i ≤ LL.length ∧ s1 = .int .i64 (kAt LL i) ∧ s5 = .int .i64 (i : Nat) ∧ Hid (Kept (fun b => ∃ j, j < i ∧ b = g j) w wr) ∧ Hid (MarkedLs wr a LL g i)) (fun _ s5 _ => LL.length - (intOf s5).toNat)
  case atStart => exact ⟨0, by omega, rfl, rfl, Lib.hid (Kept.refl _ _), Lib.hid (fun j l hj => by omega)⟩
  case round =>
    obtain ⟨i, hil, rfl, rfl, HK, HM⟩ := hrel
    by_cases hlt : i < LL.length
    case neg =>
      obtain rfl : i = LL.length := by omega
      have q1 : ¬ ((LL.length : Nat) : Int) < (LL.length : Int) := by omega
      obtain ⟨v, hv⟩ : ∃ v, kAt LL LL.length = v := ⟨_, rfl⟩
      rw [hv]
      go_wp2_with fail
      go_ret
      exact ⟨rfl, HM.out, HK.out⟩
    have q1 : ((i : Nat) : Int) < (LL.length : Int) := by omega
    have q0 : (0 : Int) ≤ ((i : Nat) : Int) := by omega
    obtain ⟨l, hl⟩ : ∃ l, LL[i]? = some l := ⟨_, List.getElem?_eq_getElem hlt⟩
    obtain ⟨c', e1, e2, e3, e4, e5⟩ := HO.out.each i l hl
    obtain ⟨g0, cap0, hg0⟩ : ∃ g0 cap0, Value.slice a LL.length c = .slice (some ⟨g0, 0, none⟩) LL.length cap0 := by
      rcases HO.out.row.2 with ⟨_, h0⟩ | ⟨g0, cap0, _, h1, _⟩
      · omega
      · exact ⟨g0, cap0, h1⟩
    cases hg0
    have hg0l := (HO.out.row.lt g0 rfl).2
    have hout : ∀ t, t < LL.length → g t ≠ g0 := fun t ht' e => by
      obtain ⟨_, _, _, _, _, k5⟩ := HO.out.each t _ (List.getElem?_eq_getElem ht')
      exact k5 (by rw [e]; rfl)
    have hx : ∀ b, (∀ t, t < i → b ≠ g t) → ¬ ∃ j, j < i ∧ b = g j := fun b hb ⟨j, j1, j2⟩ => hb j j1 j2
    have r1 := (HK.out.cell (p := ⟨g0, i, none⟩) hg0l (hx g0 fun t ht' e => hout t (by omega) e.symm)).trans (row_cells HO.out.row i _ e1)
    have hnx : ¬ ∃ j, j < i ∧ g i = g j := hx (g i) fun t ht' e => HO.out.inj i t hlt (by omega) (by omega) e
    have hrow : RowR wr (g i) l.length (pA l) (pB l) (pC l) (pD l) := fun t ht' => by
      obtain ⟨⟨c0, c1, c2, c3⟩, f0, f1, f2, f3⟩ := e4 t ht'
      have cc : ∀ o v, w.cell? ⟨g i, o, none⟩ = some v → wr.cell? ⟨g i, o, none⟩ = some v := fun o v hc => (HK.out.cell (p := ⟨g i, o, none⟩) e3.2 hnx).trans hc
      have ff : ∀ o, w.frozen? ⟨g i, o, none⟩ = false → wr.frozen? ⟨g i, o, none⟩ = false := fun o hc => (HK.out.frozen (p := ⟨g i, o, none⟩) e3.2 hnx).trans hc
      exact ⟨⟨cc _ _ c0, cc _ _ c1, cc _ _ c2, cc _ _ c3⟩, ff _ f0, ff _ f1, ff _ f2, ff _ f3⟩
    have hk := HBD.out i
    have hks := kAt_succ hl
    have hgi : g i < wr.heap.size := Nat.lt_of_lt_of_le e3.2 HK.out.size
    obtain ⟨v, hv⟩ : ∃ v, kAt LL i = v := ⟨_, rfl⟩
    have HV := Lib.hid hv
    rw [hv] at hk hks ⊢
    have hks' := HBD.out (i + 1)
    rw [hks] at hks'
    have HKS := Lib.hid hks
    have HR := Lib.hid hrow
    have HLI := Lib.hid hl
    have HOUT := Lib.hid hout
    have hll : l.length ≤ 1048576 := by omega
    have hcell1 := row_cells HO.out.row i _ e1
    clear hks hrow hv hl e4 hx hout
    go_wp2_with (go_at_call 45; refine (markRectS_rowK (g i) l.length c' v _ _ _ _ _ hll (by omega) (by omega) hgi HR.out).mono ?_; rintro e w3 ⟨rfl, hm3, hw3⟩)
    have K3 : Kept (fun b => b = g i) wr w3 := ⟨hw3.os, hw3.tape, hw3.output, hw3.size, fun k hk hne => hw3.block k hk (fun e => hne (Option.some.inj e))⟩
    have HK3 : Hid (Kept (fun b => ∃ j, j < i + 1 ∧ b = g j) w w3) := Lib.hid (Kept.trans (HK.out.mono fun k _ ⟨j, j1, j2⟩ => ⟨j, by omega, j2⟩) (K3.mono fun k _ e => ⟨i, by omega, e⟩))
    have HM3 : Hid (MarkedLs w3 (some ⟨g0, 0, none⟩) LL g (i + 1)) := Lib.hid (fun j l' hj hl' => by
      by_cases e : j = i
      · subst e
        rw [HLI.out] at hl'
        obtain rfl := Option.some.inj hl'
        refine ⟨⟨g0, c', rfl, by have := HK.out.size; have := K3.size; omega, (K3.cell (p := ⟨g0, j, none⟩) (by have := HK.out.size; show g0 < wr.heap.size; omega) (fun e => HOUT.out j hlt e.symm)).trans r1⟩, Nat.lt_of_lt_of_le hgi K3.size, by rw [HV.out]; exact hm3⟩
      · obtain ⟨⟨x, cx, k1, k2, k3⟩, k4, k5⟩ := HM.out j l' (by omega) hl'
        cases k1
        exact ⟨⟨g0, cx, rfl, Nat.lt_of_lt_of_le k2 K3.size, (K3.cell (p := ⟨g0, j, none⟩) k2 (fun e => HOUT.out i hlt e.symm)).trans k3⟩, Nat.lt_of_lt_of_le k4 K3.size, k5.kept K3 k4 (fun e' => HO.out.inj j i (by omega) hlt e e')⟩)
    clear hm3 hw3 K3
    go_roundw
    case rel => exact ⟨i + 1, by omega, by rw [HKS.out], by go_num, HK3, HM3⟩
    case measure => simp [intOf]; omega
set_option maxRecDepth 100000 in
set_option maxHeartbeats 4000000 in
/-- Two lists of lists that are alike. -/
theorem eqLs_any (a a' : Option Addr) (LL : List (List R4)) (c c' : Nat) (w : World) (hle : LL.length ≤ 6400)
    (hA : ∀ (i : Nat) (l : List R4), LL[i]? = some l → ∃ b x k, a = some ⟨b, 0, none⟩ ∧ b < w.heap.size ∧ w.cell? ⟨b, i, none⟩ = some (.slice x l.length k) ∧ l.length ≤ 3280 ∧ RectsL w.heap.size w x l) (hB : LsIn w a' LL) :
    Calls Tryd.prog 44 #[.slice a LL.length c, .slice a' LL.length c'] w fun e w' => e = .returned (.bool true) ∧ Below w.heap.size w w' := by
  have HA : Hid (LsIn w a LL) := Lib.hid hA
  have HB := Lib.hid hB
  clear hA hB
  go_enter Tryd.func44, Tryd.ntmps44
  go_wp2_with fail
  go_loopw [5] (fun s5 wr => ∃ i : Nat, i ≤ LL.length ∧ s5 = .int .i64 (i : Nat) ∧ Below w.heap.size w wr) (fun s5 _ => LL.length - (intOf s5).toNat)
  case atStart => exact ⟨0, by omega, rfl, Below.refl _ _⟩
  case round =>
    obtain ⟨i, hik, rfl, hW⟩ := hrel
    by_cases hlt : i < LL.length
    · obtain ⟨l, hl⟩ : ∃ l, LL[i]? = some l := ⟨_, List.getElem?_eq_getElem hlt⟩
      obtain ⟨b, x, k, rfl, h2, h3, h4, h5⟩ := (HA.out.below hW) i l hl
      obtain ⟨b', x', k', rfl, h2', h3', h4', h5'⟩ := (HB.out.below hW) i l hl
      have q3 : ((i : Nat) : Int) < (LL.length : Int) := by omega
      have q0 : (0 : Int) ≤ ((i : Nat) : Int) := by omega
      have HR1 := Lib.hid h5
      have HR1' := Lib.hid h5'
      have hll : l.length ≤ 1048576 := by omega
      clear h5 h5' hl
      go_upto_region 6 with fail
      go_still_tail 8, (by kernel_rfl)
      change wpList _ _ _ _ _ wr.drew
      obtain ⟨wd, hwd⟩ : ∃ wd, wd = wr.drew := ⟨_, rfl⟩
      have Bd : Below wr.heap.size wr wd := by rw [hwd]; exact (Below.refl _ _).drew
      rw [← hwd]
      clear hwd
      go_wp2_with fail
      refine (eqRectS_any x x' l.length k k' (pA l) (pB l) (pC l) (pD l) _ hll (RectsIs.ext HR1.out Bd) (RectsIs.ext HR1'.out Bd)).mono ?_
      rintro e w3 ⟨rfl, bw3⟩
      have B3 := Ext.trans (Ext.trans hW Bd) bw3
      go_wp2_with fail
      go_roundw
      case rel => exact ⟨i + 1, by omega, by go_num, B3⟩
      case measure => simp [intOf]; omega
    · have q3 : ¬ ((i : Nat) : Int) < (LL.length : Int) := by omega
      obtain rfl : i = LL.length := by omega
      go_wp2_with fail
      go_ret
      exact ⟨rfl, hW⟩
theorem LsOwn.in {B : Nat} {w : World} {a : Option Addr} {c : Nat} {LL : List (List R4)} {V : List Value} {g : Nat → Nat} (h : LsOwn B w (.slice a LL.length c) LL V g) (hl : ∀ l, l ∈ LL → l.length ≤ 3280) : LsIn w a LL := fun i l hi => by
  obtain ⟨c', e1, e2, e3, e4, e5⟩ := h.each i l hi
  have hlt := (List.getElem?_eq_some_iff.1 hi).1
  rcases h.row.2 with ⟨_, h0⟩ | ⟨g0, cap0, _, h1, _⟩
  · omega
  · cases h1
    exact ⟨g0, _, c', rfl, (h.row.lt g0 rfl).2, row_cells h.row i _ e1, hl l (List.mem_of_getElem? hi), RowR.rects e4⟩
/-- Lists that lie below block B. -/
def LsInB (B : Nat) (w : World) (a : Option Addr) (LL : List (List R4)) : Prop := ∀ (i : Nat) (l : List R4), LL[i]? = some l → ∃ b x c, a = some ⟨b, 0, none⟩ ∧ b < B ∧ w.cell? ⟨b, i, none⟩ = some (.slice x l.length c) ∧ l.length ≤ 3280 ∧ RectsL B w x l
theorem LsIn.inB {w : World} {a : Option Addr} {LL : List (List R4)} (h : LsIn w a LL) : LsInB w.heap.size w a LL := h
theorem LsInB.below {B : Nat} {w w' : World} {a : Option Addr} {LL : List (List R4)} (h : LsInB B w a LL) (hb : Below B w w') : LsInB B w' a LL := fun i l hl => by
  obtain ⟨b, x, c, h1, h2, h3, h4, h5⟩ := h i l hl
  exact ⟨b, x, c, h1, h2, (hb.cell (p := ⟨b, i, none⟩) h2).trans h3, h4, RectsIs.below h5 hb⟩
theorem LsInB.in {B : Nat} {w : World} {a : Option Addr} {LL : List (List R4)} (h : LsInB B w a LL) (hB : B ≤ w.heap.size) : LsIn w a LL := fun i l hl => by
  obtain ⟨b, x, c, h1, h2, h3, h4, h5⟩ := h i l hl
  exact ⟨b, x, c, h1, by omega, h3, h4, RectsIs.mono h5 hB⟩
theorem LsOwn.kept {B : Nat} {w w' : World} {X : Nat → Prop} {v : Value} {LL : List (List R4)} {V : List Value} {g : Nat → Nat} (h : LsOwn B w v LL V g) (hk : Kept X w w') (hX : ∀ b, B ≤ b → ¬ X b) : LsOwn B w' v LL V g :=
  ⟨own_moved h.row fun b hb => hk.block b (h.row.lt b hb).2 (hX b (h.row.lt b hb).1), h.ne, fun i l hl => by
    obtain ⟨c, h1, h2, h3, h4, h5⟩ := h.each i l hl
    exact ⟨c, h1, h2, ⟨h3.1, Nat.lt_of_lt_of_le h3.2 hk.size⟩, h4.kept hk h3.2 (hX _ h3.1), h5⟩, h.inj⟩
theorem Wr.kept' {g : Nat} {w w' : World} (h : Wr g w w') : Kept (fun b => b = g) w w' := ⟨h.os, h.tape, h.output, h.size, fun k hk hne => h.block k hk (fun e => hne (Option.some.inj e))⟩
theorem cs_total (P Q R S : Nat → Int) (n : Nat) : ((csL P Q R S n).map List.length).sum ≤ 3280 := by
  unfold csL
  split
  · have h1 := parts_len (covF P Q R S n) false
    have h2 := canonL_len (covF P Q R S n)
    unfold cmpL
    rw [List.map_map]
    exact Nat.le_trans h1 h2
  · simp
theorem hs_total (P Q R S : Nat → Int) (n : Nat) : ((hsL P Q R S n).map List.length).sum ≤ 3280 := by
  unfold hsL
  split
  · have h1 := parts_len (notF (covF P Q R S n)) true
    have h2 := canonL_len (notF (covF P Q R S n))
    have h3 := sum_filter_le (fun s => (canonL (partF (notF (covF P Q R S n)) true (cxN s) (cyN s))).length) (fun s => innB (partF (notF (covF P Q R S n)) true (cxN s) (cyN s))) (startsTo (notF (covF P Q R S n)) true 6400)
    unfold holL
    rw [List.map_map]
    exact Nat.le_trans h3 (Nat.le_trans h1 h2)
  · simp
end Go.Proofs.YtepfnnhmplaocaaDoor
