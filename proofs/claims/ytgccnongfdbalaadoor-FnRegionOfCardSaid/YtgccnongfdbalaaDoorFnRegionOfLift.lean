/- FnRegionOf answers true. Conditions: the code's bytes are in memory; the variables that regions read hold their tables. -/
import Derived.Test.YtgccnongfdbalaaDoorQT
import Derived.Test.YtgccnongfdbalaaDoorQP
import Derived.Test.YtgccnongfdbalaaDoorQL
import Derived.Test.YtgccnongfdbalaaDoorQI
import Derived.ProofKit
import Derived.OpenShut
import Derived.ShutString
import Derived.ChangeOld
import Derived.Carry
import Derived.Below
import Derived.Lib.SmallJoins
import Derived.Lib.LaidU8
import Derived.Test.YtgccnongfdbalaaDoorFacts
import Derived.OpenVars
import Derived.LaidMore
import Derived.Stop.Joined
import Derived.SevenTiedAt
import Derived.Test.YtgccnongfdbalaaDoorTie
import Derived.Test.YtgccnongfdbalaaDoorCards
namespace Go.Proofs.YtgccnongfdbalaaDoor
open Go.RowKit
set_option linter.unusedVariables false
set_option linter.unusedSimpArgs false
attribute [local go_sem ↓] Go.wp_at_zero Go.wp_at_succ

theorem opL_eq (op : Nat) {l m : List R4} {f g : Nat → Bool} (hl : l = canonL f) (hm : m = canonL g) : opL op (pA l) (pB l) (pC l) (pD l) l.length (pA m) (pB m) (pC m) (pD m) m.length = canonL (fun k => tt op (f k) (g k)) := by
  subst hl hm; exact opL_canon op f g
theorem canon_len {l : List R4} {f : Nat → Bool} (hl : l = canonL f) : l.length ≤ 3200 := by subst hl; exact canonL_len' f
theorem one_list {r : R4} (h : rvB r.a r.b r.c r.d = true) : [r] = canonL (covF (fun _ => r.a) (fun _ => r.b) (fun _ => r.c) (fun _ => r.d) 1) := (one_canon h).symm
theorem cov_next (l : List R4) (k : Nat) : canonL (fun j => tt 14 (covF (pA l) (pB l) (pC l) (pD l) k j) (covF (fun _ => (l.getD k default).a) (fun _ => (l.getD k default).b) (fun _ => (l.getD k default).c) (fun _ => (l.getD k default).d) 1 j)) = canonL (covF (pA l) (pB l) (pC l) (pD l) (k + 1)) := by
  refine canonL_congr fun j hj => ?_
  have e : ∀ a b : Bool, tt 14 a b = (a || b) := fun a b => by cases a <;> cases b <;> rfl
  rw [e]
  unfold covF
  rw [covB, covB, covB, Bool.false_or]
  rfl
theorem own_lit (w : World) (r : R4) : (w.alloc (.cells #[.int .i64 r.a, .int .i64 r.b, .int .i64 r.c, .int .i64 r.d] 29)).ownsRow w.heap.size 29 4 (.slice (some ⟨w.heap.size, 0, none⟩) 1 1) 1 (recCells [r]) :=
  ⟨rfl, .inr ⟨w.heap.size, 1, #[.int .i64 r.a, .int .i64 r.b, .int .i64 r.c, .int .i64 r.d], rfl, Nat.le_refl _, heap_alloc_new w _, Nat.le_refl _, by unfold maxLen; decide, rfl, rfl⟩⟩
theorem inR_rev (l : List R4) (x y : Int) : inR l.reverse x y = inR l x y := by
  unfold inR; rw [List.any_reverse]
theorem canon_rev (l : List R4) : canonL (covF (pA l.reverse) (pB l.reverse) (pC l.reverse) (pD l.reverse) l.reverse.length) = canonL (covF (pA l) (pB l) (pC l) (pD l) l.length) := by
  refine canonL_congr fun j hj => ?_
  unfold covF
  rw [covB_pA, covB_pA, inR_rev]
theorem okV_listR (l : List R4) : okV (pA l) (pB l) (pC l) (pD l) l.length = (decide (l.length ≤ 3200) && l.all fun r => rvB r.a r.b r.c r.d) := by
  unfold okV
  congr 1
  rw [Bool.eq_iff_iff, List.all_eq_true]
  constructor
  · intro h r hr
    obtain ⟨i, hi, rfl⟩ := List.getElem_of_mem hr
    have := allV_at h hi
    simpa [pA, pB, pC, pD, List.getD, List.getElem?_eq_getElem hi] using this
  · intro h
    exact allV_mk fun i hi => by
      have := h _ (List.getElem_mem hi)
      simpa [pA, pB, pC, pD, List.getD, List.getElem?_eq_getElem hi] using this
theorem okV_rev (l : List R4) : okV (pA l.reverse) (pB l.reverse) (pC l.reverse) (pD l.reverse) l.reverse.length = okV (pA l) (pB l) (pC l) (pD l) l.length := by
  rw [okV_listR, okV_listR, List.length_reverse, List.all_reverse]
set_option maxRecDepth 100000 in
set_option maxHeartbeats 4000000 in
theorem walkRegionOfLaw (a : Option Addr) (len cap : Nat) (w : World) (hlen : len ≤ maxLen) (hC : CodeIs w.heap.size w a len) (hD : EnvW w) :
    Calls Tryd.prog 3 #[.slice a len cap] w fun e w' => e = .returned (.bool true) ∧ Below w.heap.size w w' := by
  obtain ⟨i0, hi, hz0, hz1, hz2⟩ := info_parts Tryd.infoR
  by_cases hbig : 4096 < len
  · have hb : decide (4096 < len) = true := decide_eq_true hbig
    go_enter Tryd.func3, Tryd.ntmps3
    go_wp2_with fail
    refine (lawBigB_any _ _ _ _).mono ?_
    rintro e w1 ⟨rfl, rfl⟩
    rw [hb]
    go_wp2_with fail
    go_ret
    exact ⟨rfl, Below.refl _ _⟩
  have hb : decide (4096 < len) = false := decide_eq_false hbig
  have HC := Lib.hid hC
  clear hC
  go_enter Tryd.func3, Tryd.ntmps3
  go_wp2_with fail
  refine (lawBigB_any _ _ _ _).mono ?_
  rintro e w1 ⟨rfl, rfl⟩
  rw [hb]
  go_wp2_with fail
  refine (drawRegionOf_any a len cap _ (by omega) HC.out).mono ?_
  rintro e w2 ⟨h1, c1, l, rfl, n1, i1, Bc⟩
  have I1 := Lib.hid i1
  clear i1 HC hbig hb
  cases hok : okV (pA l) (pB l) (pC l) (pD l) l.length with
  | false =>
    go_wp2_with fail
    refine (specRegionOf_no (some ⟨h1, 0, none⟩) l.length c1 (pA l) (pB l) (pC l) (pD l) _ (by omega) I1.out.rects hok).mono ?_
    rintro e w3 ⟨rfl, b3⟩
    have Bc := Ext.trans Bc b3
    go_wp2_with fail
    go_ret
    exact ⟨rfl, Bc⟩
  | true =>
  have M14 : MergeC 0 14 := fun m n cap P Q R S mm k kc a' n' c' P' Q' R' S' w h1 h2 h3 h4 h5 h6 => merge14_any m n cap P Q R S mm k kc a' n' c' P' Q' R' S' w h1 h2 h3 h4 h5 h6
  have hval : ∀ r ∈ l, rvB r.a r.b r.c r.d = true := by
    have := hok
    rw [okV_listR] at this
    simp only [Bool.and_eq_true, List.all_eq_true] at this
    exact this.2
  have HVAL := Lib.hid hval
  have HOK := Lib.hid hok
  clear hval
  go_wp2_with fail
  refine (specRegionOf_yes (some ⟨h1, 0, none⟩) l.length c1 (pA l) (pB l) (pC l) (pD l) _ (by omega) I1.out.rects hok).mono ?_
  rintro e w3 ⟨⟨h2, c2, rfl, i2⟩, b3⟩
  obtain ⟨lw, hlw⟩ : ∃ lw, lw = canonL (covF (pA l) (pB l) (pC l) (pD l) l.length) := ⟨_, rfl⟩
  have nlw := canon_len hlw
  rw [← hlw] at i2 ⊢
  have HLW := Lib.hid hlw
  have I2 := Lib.hid i2
  have I1 := Lib.hid (I1.out.ext b3)
  have Bc := Ext.trans Bc b3
  clear b3 i2 hlw hok
  go_wp2_with fail
  go_loopw [6, 7, 8] (fun s1 s2 s3 wr => ∃ (k hb cb : Nat) (al : List R4) (aa : Option Addr) (ca : Nat), k ≤ l.length ∧ s3 = .int .i64 (k : Nat) ∧ s1 = .slice (some ⟨hb, 0, none⟩) (l.take k).reverse.length cb ∧ (l.take k).reverse.length ≤ cb ∧ Hid (RecIs w3.heap.size wr hb (l.take k).reverse) ∧ s2 = .slice aa al.length ca ∧ al.length ≤ ca ∧ Hid (RectsL wr.heap.size wr aa al) ∧ Hid (al = canonL (covF (pA l) (pB l) (pC l) (pD l) k)) ∧ Below w3.heap.size w3 wr) (fun _ _ s3 _ => l.length - (intOf s3).toNat)
  case atStart =>
    refine ⟨0, w3.heap.size, 0, [], some ⟨w3.heap.size + 1, 0, none⟩, 0, by omega, rfl, rfl, by simp, Lib.hid ⟨Nat.le_refl _, by simp; omega, fun i r hi => by cases hi⟩, by simp, by simp, Lib.hid (RectsL.nil _ _ _), Lib.hid ?_, by (repeat (first | (with_reducible exact Below.refl _ _) | (with_reducible refine Ext.drewN ?_ _) | (with_reducible refine Below.drew ?_) | (with_reducible refine Ext.alloc ?_ _) | (with_reducible refine Ext.setCell ?_ (by simp; try omega) _) | (with_reducible refine Ext.trans ?_ (by assumption)) | (with_reducible assumption) | exact Below.refl _ _))⟩
    exact (List.eq_nil_of_length_eq_zero ((canonL_none_iff _).2 fun k hk => rfl)).symm
  case round =>
    obtain ⟨k, hb, cb, al, aa, ca, hk, rfl, rfl, hkb, IB, rfl, hka, IA, HAL, hW⟩ := hrel
    have hnal := canon_len HAL.out
    have hbl : (l.take k).reverse.length = k := by simp; omega
    by_cases hlt : k < l.length
    · have q1 : ((k : Nat) : Int) < ((l.length : Nat) : Int) := by omega
      have q0 : (0 : Int) ≤ ((k : Nat) : Int) := by omega
      obtain ⟨r, hr⟩ : ∃ r, r = l.getD k default := ⟨_, rfl⟩
      have HR := Lib.hid hr
      have hrv := HVAL.out r (by rw [hr]; exact List.mem_of_getElem? (getD_get hlt))
      obtain ⟨a0, a1, a2, a3⟩ := I1.out.2.2 k _ (getD_get hlt)
      rw [← hr] at a0 a1 a2 a3
      clear hr
      have a0 := keepC hW a0
      have a1 := keepC hW a1
      have a2 := keepC hW a2
      have a3 := keepC hW a3
      obtain ⟨bl, hbl'⟩ : ∃ bl, bl = (l.take k).reverse := ⟨_, rfl⟩
      rw [← hbl'] at hbl hkb IB ⊢
      have HBL := Lib.hid hbl'
      clear hbl'
      obtain ⟨wz, hwz⟩ : ∃ wz, wz = wr.alloc (.cells #[.int .i64 r.a, .int .i64 r.b, .int .i64 r.c, .int .i64 r.d] 29) := ⟨_, rfl⟩
      have bz : Below wr.heap.size wr wz := by rw [hwz]; (repeat (first | (with_reducible exact Below.refl _ _) | (with_reducible refine Ext.drewN ?_ _) | (with_reducible refine Below.drew ?_) | (with_reducible refine Ext.alloc ?_ _) | (with_reducible refine Ext.setCell ?_ (by simp; try omega) _) | (with_reducible refine Ext.trans ?_ (by assumption)) | (with_reducible assumption) | exact Below.refl _ _))
      have sz : wz.heap.size = wr.heap.size + 1 := by rw [hwz]; simp
      have OZ : Hid (wz.ownsRow wr.heap.size 29 4 (.slice (some ⟨wr.heap.size, 0, none⟩) 1 1) 1 (recCells [r])) := Lib.hid (by rw [hwz]; exact own_lit wr r)
      have IBz := Lib.hid (IB.out.ext bz)
      have hW' := hW
      go_wp2_with (at_builtin; rw [← hwz]; refine wpList_append_own _ rfl _ _ 24 rfl wr.heap.size 29 i0 (.agg #[.int .i64 0, .int .i64 0, .int .i64 0, .int .i64 0]) 4 32 Tryd.underlying24 hi hz0 hz1 hz2 rfl (by decide) _ _ _ rfl OZ.out ⟨hb, 0, none⟩ bl.length cb (recCells bl) rfl (recCells_len bl) (rec_cells IBz.out) (rec_one bl) (by unfold maxLen; omega) (by omega) (by omega) ?_; intro v' w4 hown4 hgrow hnil; have hnn : v' ≠ .slice none 0 0 := (fun e => by have := (hnil.1 e).1; cases this); obtain ⟨hb', cb', rfl, hcb', hown5⟩ := own_some (l := r :: bl) (by simp [Nat.add_comm]) hown4 hnn; have b4 : Below wr.heap.size wr w4 := bz.grown hgrow bz.size (fun j hj => (OZ.out.lt j hj).1); have x0 := keepC b4 a0; have x1 := keepC b4 a1; have x2 := keepC b4 a2; have x3 := keepC b4 a3)
      have HI := Lib.hid (rec_own hown5)
      clear hown4 hown5 hgrow hnil hnn x0 x1 x2 x3
      obtain ⟨wy, hwy⟩ : ∃ wy, wy = w4.alloc (.cells #[.int .i64 r.a, .int .i64 r.b, .int .i64 r.c, .int .i64 r.d] 29) := ⟨_, rfl⟩
      have by4 : Below w4.heap.size w4 wy := by rw [hwy]; (repeat (first | (with_reducible exact Below.refl _ _) | (with_reducible refine Ext.drewN ?_ _) | (with_reducible refine Below.drew ?_) | (with_reducible refine Ext.alloc ?_ _) | (with_reducible refine Ext.setCell ?_ (by simp; try omega) _) | (with_reducible refine Ext.trans ?_ (by assumption)) | (with_reducible assumption) | exact Below.refl _ _))
      have sy : wy.heap.size = w4.heap.size + 1 := by rw [hwy]; simp
      have OY := Lib.hid (rec_own (B := w4.heap.size) (show wy.ownsRow w4.heap.size 29 4 (.slice (some ⟨w4.heap.size, 0, none⟩) 1 1) 1 (recCells [r]) by rw [hwy]; exact own_lit w4 r))
      rw [← hwy]
      clear hwy
      have b5 := Ext.trans b4 by4
      have IAy := Lib.hid (IA.out.ext b5)
      have HIy := Lib.hid (HI.out.ext by4)
      have Bw := Ext.trans hW b5
      have e1 := (opL_eq 14 HAL.out (one_list hrv)).trans ((by rw [HR.out]; exact cov_next l k : canonL (fun j => tt 14 (covF (pA l) (pB l) (pC l) (pD l) k j) (covF (fun _ => r.a) (fun _ => r.b) (fun _ => r.c) (fun _ => r.d) 1 j)) = canonL (covF (pA l) (pB l) (pC l) (pD l) (k + 1))))
      obtain ⟨am, ham⟩ : ∃ am, am = opL 14 (pA al) (pB al) (pC al) (pD al) al.length (pA [r]) (pB [r]) (pC [r]) (pD [r]) [r].length := ⟨_, rfl⟩
      have HAM := Lib.hid ham
      have HAC := Lib.hid (ham.trans e1)
      clear ham e1
      refine (implUnionC_any M14 aa al.length ca (pA al) (pB al) (pC al) (pD al) (some ⟨w4.heap.size, 0, none⟩) [r].length 1 (pA [r]) (pB [r]) (pC [r]) (pD [r]) wy (by omega) hka (by simp) (by simp) (hD.ext (Ext.trans Bc Bw)) IAy.out OY.out.rects).mono ?_
      rintro e w6 ⟨⟨a6, c6, rfl, k6, o6⟩, b6⟩
      rw [← HAM.out] at k6 o6 ⊢
      have O6 := Lib.hid o6
      clear o6
      have HI6 := Lib.hid (HIy.out.ext b6)
      have B6 := Ext.trans Bw b6
      have ht : (r :: bl) = (l.take (k + 1)).reverse := by
        rw [HBL.out, HR.out, List.take_add_one, getD_get hlt]
        simp
      rw [ht] at HI6 hcb'
      go_wp2_with fail
      go_roundw
      case rel => exact ⟨k + 1, hb', cb', am, a6, c6, by omega, by go_num, by rw [show (l.take (k + 1)).reverse.length = k + 1 by simp; omega], hcb', Lib.hid (HI6.out.lower hW'.size), rfl, k6, Lib.hid O6.out.rects, HAC, B6⟩
      case measure => simp [intOf]; omega
    · have q1 : ¬ ((k : Nat) : Int) < ((l.length : Nat) : Int) := by omega
      obtain rfl : k = l.length := by omega
      have et : l.take l.length = l := List.take_length
      rw [et] at hkb IB hbl ⊢
      have I1 := Lib.hid (I1.out.ext hW)
      have I2 := Lib.hid (I2.out.ext hW)
      have Bc := Ext.trans Bc hW
      have ean : al = lw := HAL.out.trans HLW.out.symm
      subst ean
      obtain ⟨bl, hbl'⟩ : ∃ bl, bl = l.reverse := ⟨_, rfl⟩
      have HB := Lib.hid hbl'
      rw [← hbl'] at hbl hkb IB ⊢
      clear hbl'
      have HBN := Lib.hid hbl
      clear hbl et
      have ok1 : okV (pA bl) (pB bl) (pC bl) (pD bl) bl.length = true := by rw [HB.out, okV_rev]; exact HOK.out
      have ro1 : roL (pA bl) (pB bl) (pC bl) (pD bl) bl.length = al := by
        unfold roL
        rw [if_pos ok1, HB.out, canon_rev, ← HLW.out]
      have OK1 := Lib.hid ok1
      have RO1 := Lib.hid ro1
      clear ok1 ro1
      go_wp2_with fail
      refine (regionOfC_any (some ⟨hb, 0, none⟩) bl.length cb (pA bl) (pB bl) (pC bl) (pD bl) _ (by have := HBN.out; omega) hkb (hD.ext Bc) IB.out.rects).mono ?_
      rintro e w6 ⟨⟨a6, c6, rfl, k6, o6⟩, b6⟩
      rw [RO1.out] at k6 o6 ⊢
      rw [OK1.out]
      have O6 := Lib.hid o6
      clear o6
      have I2 := Lib.hid (I2.out.ext b6)
      have IA := Lib.hid (IA.out.ext b6)
      have Bc := Ext.trans Bc b6
      clear b6
      go_wp2_with fail
      refine (sameRects_any a6 al.length c6 (pA al) (pB al) (pC al) (pD al) (some ⟨h2, 0, none⟩) al.length c2 (pA al) (pB al) (pC al) (pD al) _ (by omega) (by omega) O6.out.rects I2.out.rects).mono ?_
      rintro e w7 ⟨rfl, b7⟩
      rw [decide_eq_true (Eq.refl (listR (pA al) (pB al) (pC al) (pD al) al.length))]
      have I2 := Lib.hid (I2.out.ext b7)
      have IA := Lib.hid (IA.out.ext b7)
      have O6 := Lib.hid (O6.out.below b7)
      have Bc := Ext.trans Bc b7
      clear b7
      go_wp2_with fail
      refine (sameRects_any aa al.length ca (pA al) (pB al) (pC al) (pD al) (some ⟨h2, 0, none⟩) al.length c2 (pA al) (pB al) (pC al) (pD al) _ (by omega) (by omega) IA.out I2.out.rects).mono ?_
      rintro e w8 ⟨rfl, b8⟩
      rw [decide_eq_true (Eq.refl (listR (pA al) (pB al) (pC al) (pD al) al.length))]
      have O6 := Lib.hid (O6.out.below b8)
      have Bc := Ext.trans Bc b8
      clear b8
      go_wp2_with fail
      refine (isRegion_any a6 al.length c6 (pA al) (pB al) (pC al) (pD al) _ (by omega) k6 (hD.ext Bc) O6.out.rects).mono ?_
      rintro e w9 ⟨rfl, b9⟩
      rw [show okR (pA al) (pB al) (pC al) (pD al) al.length = true by rw [HLW.out]; exact okR_canonL _]
      have Bc := Ext.trans Bc b9
      go_wp2_with fail
      go_ret
      exact ⟨rfl, Bc⟩
end Go.Proofs.YtgccnongfdbalaaDoor

namespace Go.Proofs.YtgccnongfdbalaaDoor.fnRegionOf
open Go.Proofs.YtgccnongfdbalaaDoor
open Go.ChangeShapes Go.WideShapes Go.ChangeAt Go.RowKit Go.Joins
open Go.ChangeMaps (open_string shut_string)
set_option linter.unusedVariables false

theorem addN0 (x : Addr) : x.add 0 = x := by simp [Addr.add]
theorem addNk (b o k : Nat) : (⟨b, o, none⟩ : Addr).add k = ⟨b, o + k, none⟩ := by
  unfold Addr.add
  split
  · rename_i h; subst h; rfl
  · rfl
theorem own : ownKnob Tryd.prog.godebug = none := by kernel_rfl
theorem laidOut : laidOutB Tryd.prog = true := by kernel_rfl

abbrev laid := Rows.fnRegionOfRow.laid
set_option maxRecDepth 100000 in
theorem lifted (os : Os) (started : os.Started) (H : Type) (enc : TypeId × Value → H) :
    ReturnsInHanded {} Tryd.checked os 3 .any (fun w args => (Rows.fnRegionOfSpec.pre enc Tryd.prog Tryd.f3 Rows.fnRegionOfRow.domain false w args ∧ laidMetH Tryd.prog Rows.fnRegionOfRow.laid w) ∧ sizedMet enc Tryd.prog Tryd.f3 (OpenSpec.ofChange Rows.fnRegionOfSpec) false w args)
      (Rows.fnRegionOfSpec.post enc Tryd.prog Tryd.f3 false true false false) := by
  refine returnsInHanded_of_change_and (C := Tryd.checked) (X := fun w _ => laidMetH Tryd.prog Rows.fnRegionOfRow.laid w) (fun _ _ _ hh h => h.of_heap hh) own started (by kernel_rfl) Tryd.func3
    (ChangeSpec.witness_shaped (enc := enc) (C := Tryd.checked) (os := os) (X := fun w _ => laidMetH Tryd.prog Rows.fnRegionOfRow.laid w) false (World.laidAll Tryd.prog os Rows.fnRegionOfRow.laid) #[.slice none 0 0] 8 (World.laidAll_os _ _ _)
      (World.shaped_of_ZipB (by kernel_rfl) (by kernel_rfl)) (by kernel_rfl) (by kernel_rfl) (by kernel_rfl)
      (by rw [MakeChecks.laidMetH_plain _ _ _ (by kernel_rfl)]; exact laidMet_laidAll _ (by kernel_rfl) (by kernel_rfl))) ?_
  intro W base args ds gs before hval0 hW hcnd _ hL _
  have hval : ∀ (j : Nat) t v, Tryd.f3.params[j]? = some t → args[j]? = some v → Value.okWide Tryd.prog W .any base t v := hval0
  have hW' := hW
  obtain ⟨p, q, hA0, hV, rfl, hfz, hnd⟩ := hW
  have hA : DataW.TrodAll enc Tryd.prog W 0 (fun _ => true) true Tryd.f3.params.toList args.toList ds p := hA0
  rw [Tryd.params3] at hA hval
  obtain ⟨v0, vs0, d0, ds0, p0, q0, hargs, rfl, rfl, h0, r0⟩ := trodAll_cons hA
  obtain ⟨rfl, rfl, rfl⟩ := trodAll_nil r0
  obtain rfl : args = #[v0] := by cases args; simp_all
  obtain ⟨g0, gt0, gcs0, gf0, gd0, gp0, rfl, hg1, hg2, hg3, hg4, hg5⟩ := trodVars_one hV
  have k0 := h0
  have lt0 : ∀ x ∈ p0, x.block < W.heap.size := by obtain ⟨m, hm⟩ := k0; exact DataW.trod_lt m _ _ _ hm
  obtain ⟨a0, len0, cap0, rfl⟩ := okWide_slice Tryd.underlying22 (hval 0 22 v0 rfl rfl)
  have code0 : len0 ≤ maxLen ∧ CodeIs W.heap.size W a0 len0 := by
    obtain ⟨fuel, hf⟩ := h0
    rcases open_ints Tryd.underlying22 Tryd.underlying5 (by kernel_rfl) hf with ⟨hcs, _⟩ | ⟨x, l, c, zs, hcs, _, hl, hm, hz, _, hcell, hwz⟩
    · simp [Value.cells] at hcs
      obtain ⟨rfl, rfl, rfl⟩ := hcs
      exact ⟨Nat.zero_le _, fun k hk => absurd hk (by omega)⟩
    · simp [Value.cells] at hcs
      obtain ⟨rfl, rfl, rfl⟩ := hcs
      have hz' := hz
      simp at hz'
      refine ⟨by omega, fun k hk => ?_⟩
      have hk' : k < zs.length := by omega
      have hc0 := hcell 0 (by omega)
      have hc := hcell k hk'
      rw [addN0] at hc0
      have hsp : x.spot = none := Go.Proofs.cell_spot hc0
      have hw := hwz (zs.getD k 0) (by rw [List.getD, List.getElem?_eq_getElem hk']; exact List.getElem_mem hk')
      have hb := bounds_u8 hw
      obtain ⟨xb, xo, xs⟩ := x
      obtain rfl : xs = none := hsp
      rw [addNk] at hc
      exact ⟨xb, xo, zs.getD k 0, rfl, World.block_lt_of_cell? W ⟨xb, xo + k, none⟩ hc, hc, hb.1, hb.2⟩
  have hEnv : EnvW W := ⟨deb_of_laid hL (by kernel_rfl) (by simp [Rows.fnRegionOfRow]), chip_of_laid hL (by kernel_rfl) (by simp [Rows.fnRegionOfRow])⟩
  clear hA0 hval0
  refine (walkRegionOfLaw a0 len0 cap0 W code0.1 code0.2 hEnv).mono fun e W' ⟨he, bel⟩ => ?_
  subst he
  exact ⟨_, rfl, _, _, _, [], _, _, hW', trodAll_mk1 (shut_bool Tryd.underlying4 _), (trodAll_cons_mk (Below.trod laidOut (by kernel_rfl) (of_decide_eq_true (by kernel_rfl)) k0 bel lt0) trodAll_mk0), (Below.trodVars laidOut bel (by kernel_rfl) hV), bel.frame _, fun h => by cases h⟩

end Go.Proofs.YtgccnongfdbalaaDoor.fnRegionOf
