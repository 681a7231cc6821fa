/- The program's region of merged operands. Conditions: the elements' cells are in memory; the variables that regions read hold their tables. -/
import Derived.Test.YtpbijohdnocleaaDoorSbC
import Derived.Test.YtpbijohdnocleaaDoorRiY
import Derived.Test.YtpbijohdnocleaaDoorRgN
namespace Go.Proofs.YtpbijohdnocleaaDoor
open Go.RowKit Go.Shelf
set_option linter.unusedVariables false
set_option linter.unusedSimpArgs false
attribute [local go_sem] Oper.semAt_some

/-- What merge answers. -/
def MergeC (kind : Int) (op : Nat) : Prop := ∀ (m : Option Addr) (n cap : Nat) (P Q R S : Nat → Int) (mm : Option Addr) (k kc : Nat) (a' : Nat → Option Addr) (n' c' : Nat → Nat) (P' Q' R' S' : Nat → Nat → Int) (w : World),
    n ≤ 1048576 → n ≤ cap → k ≤ 1048576 → EnvW w → RectsIs w.heap.size w m n P Q R S → ListsIs w.heap.size w mm k a' n' c' P' Q' R' S' →
    Calls Tryd.prog 98 #[.int .i64 kind, .slice m n cap, .slice mm k kc] w fun e w' => (∃ G, e = .returned (.tuple #[.agg (wArr G), .bool (okR P Q R S n && okA n' P' Q' R' S' k)]) ∧ RowsOK (if (okR P Q R S n && okA n' P' Q' R' S' k) = true then mgA op (covF P Q R S n) n' P' Q' R' S' k else fun _ => false) G) ∧ Below w.heap.size w w'
/-- What mergedRegion answers. -/
def mrL (op : Nat) (P Q R S : Nat → Int) (n : Nat) (n' : Nat → Nat) (P' Q' R' S' : Nat → Nat → Int) (k : Nat) : List R4 := if (okR P Q R S n && okA n' P' Q' R' S' k) = true then canonL (mgA op (covF P Q R S n) n' P' Q' R' S' k) else []
theorem mrL_canon (op : Nat) (P Q R S : Nat → Int) (n : Nat) (n' : Nat → Nat) (P' Q' R' S' : Nat → Nat → Int) (k : Nat) : canonL (if (okR P Q R S n && okA n' P' Q' R' S' k) = true then mgA op (covF P Q R S n) n' P' Q' R' S' k else fun _ => false) = mrL op P Q R S n n' P' Q' R' S' k := by
  unfold mrL
  split
  · rfl
  · exact canonL_none

set_option maxRecDepth 100000 in
set_option maxHeartbeats 4000000 in
theorem mergedRegion_any (kind : Int) (op : Nat) (hM : MergeC kind op) (m : Option Addr) (n cap : Nat) (P Q R S : Nat → Int) (mm : Option Addr) (k kc : Nat) (a' : Nat → Option Addr) (n' c' : Nat → Nat) (P' Q' R' S' : Nat → Nat → Int) (w : World)
    (hn : n ≤ 1048576) (hcap : n ≤ cap) (hk : k ≤ 1048576) (hD : EnvW w) (hR : RectsIs w.heap.size w m n P Q R S) (hL : ListsIs w.heap.size w mm k a' n' c' P' Q' R' S') :
    Calls Tryd.prog 96 #[.int .i64 kind, .slice m n cap, .slice mm k kc] w fun e w' => LOwn w.heap.size (mrL op P Q R S n n' P' Q' R' S' k) e w' ∧ Below w.heap.size w w' := by
  have hz := zero59
  have HMC := Lib.hid (hM m n cap P Q R S mm k kc a' n' c' P' Q' R' S' w hn hcap hk hD hR hL)
  rw [← mrL_canon]
  obtain ⟨bo, hbo⟩ : ∃ bo, bo = (okR P Q R S n && okA n' P' Q' R' S' k) := ⟨_, rfl⟩
  obtain ⟨F, hF⟩ : ∃ F : Nat → Bool, F = if bo = true then mgA op (covF P Q R S n) n' P' Q' R' S' k else fun _ => false := ⟨_, rfl⟩
  rw [← hbo, ← hF] at HMC ⊢
  clear hbo hF hM
  go_enter Tryd.func96, Tryd.ntmps96
  go_wp2_with (first | (go_at_call 98; refine HMC.out.mono ?_; rintro e w1 ⟨⟨G, rfl, hG⟩, bw1⟩; have HG := Lib.hid hG; clear hG; have r1 := RowsAt.new w1 (fun _ => 0); have st1 := store59 G r1; have sz1 := wArr_size G; have b1 : Below w1.heap.size w1 ((w1.alloc (.cells (wArr fun _ => 0) 70)).setRow w1.heap.size (wArr G)) := ((Below.refl _ _).alloc (Nat.le_refl _) _).trans (below_setRow _ _ (Nat.le_refl _))) | (go_at_call 73; refine (region_any _ _).mono ?_; rintro e w4 ⟨rfl, hw4⟩; subst hw4))
  have r4 := r1.setRow G
  obtain ⟨w3, hw3⟩ : ∃ w3, w3 = (w1.alloc (.cells (wArr fun _ => 0) 70)).setRow w1.heap.size (wArr G) := ⟨_, rfl⟩
  rw [← hw3] at b1 r4 ⊢
  have s3 : w3.heap.size = w1.heap.size + 1 := by rw [hw3, setRow_size]; simp
  have B3 := Ext.trans bw1 b1
  obtain ⟨wS, hwS⟩ : ∃ wS, wS = w3.alloc (.cells #[.pointer (some ⟨w1.heap.size, 0, none⟩)] 105) := ⟨_, rfl⟩
  have bS : Below w3.heap.size w3 wS := by rw [hwS]; (repeat (first | (with_reducible exact Below.refl _ _) | (with_reducible refine Ext.drewN ?_ _) | (with_reducible refine Below.drew ?_) | (with_reducible refine Ext.alloc ?_ _) | (with_reducible refine Ext.setCell ?_ (by simp; try omega) _) | (with_reducible refine Ext.trans ?_ (by assumption)) | (with_reducible assumption) | exact Below.refl _ _))
  have cS : wS.cell? ⟨w3.heap.size, 0, none⟩ = some (.pointer (some ⟨w1.heap.size, 0, none⟩)) := by rw [hwS]; simp [go_sem]
  have BS := Ext.trans B3 bS
  rw [s3] at cS
  have r5 := r4.ext bS
  rw [← hwS]
  clear hwS hw3 st1 sz1 r1 r4
  refine (collect_any (w1.heap.size + 1) w1.heap.size F G wS cS r5 HG.out (hD.deb.ext BS)).mono ?_
  rintro e w5 ⟨⟨v, rfl, hv⟩, bw5⟩
  obtain ⟨a, c, rfl, ho⟩ := ownsL_own hv
  have HO := Lib.hid ho
  clear ho hv
  go_wp2_with fail
  exact bodyPost_ret (v := .slice a (canonL F).length c) (by simp [results, Tryd.results96, go_sem]) rfl ⟨⟨a, c, rfl, HO.out.mono BS.size⟩, Ext.trans BS bw5⟩
theorem listsOne {w : World} {b : Nat} {a : Option Addr} {n c : Nat} {P Q R S : Nat → Int} (hc : w.cell? ⟨b, 0, none⟩ = some (.slice a n c)) (hn : n ≤ 1048576) (hcap : n ≤ c) (hR : RectsIs w.heap.size w a n P Q R S) :
    ListsIs w.heap.size w (some ⟨b, 0, none⟩) 1 (fun _ => a) (fun _ => n) (fun _ => c) (fun _ => P) (fun _ => Q) (fun _ => R) (fun _ => S) := fun i hi => by
  obtain rfl : i = 0 := by omega
  exact ⟨⟨b, 0, rfl, World.block_lt_of_cell? w ⟨b, 0, none⟩ hc, hc⟩, hn, hcap, hR⟩

theorem mr14_op (P Q R S : Nat → Int) (n : Nat) (A B C D : Nat → Int) (k : Nat) : mrL 14 P Q R S n (fun _ => k) (fun _ => A) (fun _ => B) (fun _ => C) (fun _ => D) 1 = opL 14 P Q R S n A B C D k := by
  unfold mrL opL
  rw [show okA (fun _ => k) (fun _ => A) (fun _ => B) (fun _ => C) (fun _ => D) 1 = okR A B C D k by rw [okA, okA, Bool.true_and]]
  rfl
set_option maxRecDepth 100000 in
set_option maxHeartbeats 4000000 in
theorem implUnion_any (hM : MergeC 0 14) (m : Option Addr) (n cap : Nat) (P Q R S : Nat → Int) (m' : Option Addr) (k cap' : Nat) (A B C D : Nat → Int) (w : World) (hn : n ≤ 1048576) (hcap : n ≤ cap) (hk : k ≤ 1048576) (hcap' : k ≤ cap') (hD : EnvW w) (hR : RectsIs w.heap.size w m n P Q R S) (hR' : RectsIs w.heap.size w m' k A B C D) :
    Calls Tryd.prog 47 #[.slice m n cap, .slice m' k cap'] w fun e w' => LOwn w.heap.size (opL 14 P Q R S n A B C D k) e w' ∧ Below w.heap.size w w' := by
  rw [← mr14_op]
  go_enter Tryd.func47, Tryd.ntmps47
  go_wp2_with fail
  obtain ⟨wS, hwS⟩ : ∃ wS, wS = w.alloc (.cells #[.slice m' k cap'] 25) := ⟨_, rfl⟩
  have bS : Below w.heap.size w wS := by rw [hwS]; (repeat (first | (with_reducible exact Below.refl _ _) | (with_reducible refine Ext.drewN ?_ _) | (with_reducible refine Below.drew ?_) | (with_reducible refine Ext.alloc ?_ _) | (with_reducible refine Ext.setCell ?_ (by simp; try omega) _) | (with_reducible refine Ext.trans ?_ (by assumption)) | (with_reducible assumption) | exact Below.refl _ _))
  have cS : wS.cell? ⟨w.heap.size, 0, none⟩ = some (.slice m' k cap') := by rw [hwS]; simp [go_sem]
  rw [← hwS]
  clear hwS
  refine (mergedRegion_any 0 14 hM m n cap P Q R S (some ⟨w.heap.size, 0, none⟩) 1 1 _ _ _ _ _ _ _ wS hn hcap (by omega) (hD.ext bS) (hR.ext bS) (listsOne cS hk hcap' (hR'.ext bS))).mono ?_
  rintro e w1 ⟨⟨a, c, rfl, ho⟩, bw1⟩
  have HO := Lib.hid ho
  clear ho
  go_wp2_with fail
  go_ret
  exact ⟨⟨a, c, rfl, HO.out.mono bS.size⟩, Ext.trans bS bw1⟩

theorem mr8_op (P Q R S : Nat → Int) (n : Nat) (A B C D : Nat → Int) (k : Nat) : mrL 8 P Q R S n (fun _ => k) (fun _ => A) (fun _ => B) (fun _ => C) (fun _ => D) 1 = opL 8 P Q R S n A B C D k := by
  unfold mrL opL
  rw [show okA (fun _ => k) (fun _ => A) (fun _ => B) (fun _ => C) (fun _ => D) 1 = okR A B C D k by rw [okA, okA, Bool.true_and]]
  rfl
set_option maxRecDepth 100000 in
set_option maxHeartbeats 4000000 in
theorem implIntersection_any (hM : MergeC 1 8) (m : Option Addr) (n cap : Nat) (P Q R S : Nat → Int) (m' : Option Addr) (k cap' : Nat) (A B C D : Nat → Int) (w : World) (hn : n ≤ 1048576) (hcap : n ≤ cap) (hk : k ≤ 1048576) (hcap' : k ≤ cap') (hD : EnvW w) (hR : RectsIs w.heap.size w m n P Q R S) (hR' : RectsIs w.heap.size w m' k A B C D) :
    Calls Tryd.prog 49 #[.slice m n cap, .slice m' k cap'] w fun e w' => LOwn w.heap.size (opL 8 P Q R S n A B C D k) e w' ∧ Below w.heap.size w w' := by
  rw [← mr8_op]
  go_enter Tryd.func49, Tryd.ntmps49
  go_wp2_with fail
  obtain ⟨wS, hwS⟩ : ∃ wS, wS = w.alloc (.cells #[.slice m' k cap'] 25) := ⟨_, rfl⟩
  have bS : Below w.heap.size w wS := by rw [hwS]; (repeat (first | (with_reducible exact Below.refl _ _) | (with_reducible refine Ext.drewN ?_ _) | (with_reducible refine Below.drew ?_) | (with_reducible refine Ext.alloc ?_ _) | (with_reducible refine Ext.setCell ?_ (by simp; try omega) _) | (with_reducible refine Ext.trans ?_ (by assumption)) | (with_reducible assumption) | exact Below.refl _ _))
  have cS : wS.cell? ⟨w.heap.size, 0, none⟩ = some (.slice m' k cap') := by rw [hwS]; simp [go_sem]
  rw [← hwS]
  clear hwS
  refine (mergedRegion_any 1 8 hM m n cap P Q R S (some ⟨w.heap.size, 0, none⟩) 1 1 _ _ _ _ _ _ _ wS hn hcap (by omega) (hD.ext bS) (hR.ext bS) (listsOne cS hk hcap' (hR'.ext bS))).mono ?_
  rintro e w1 ⟨⟨a, c, rfl, ho⟩, bw1⟩
  have HO := Lib.hid ho
  clear ho
  go_wp2_with fail
  go_ret
  exact ⟨⟨a, c, rfl, HO.out.mono bS.size⟩, Ext.trans bS bw1⟩

theorem mr4_op (P Q R S : Nat → Int) (n : Nat) (A B C D : Nat → Int) (k : Nat) : mrL 4 P Q R S n (fun _ => k) (fun _ => A) (fun _ => B) (fun _ => C) (fun _ => D) 1 = opL 4 P Q R S n A B C D k := by
  unfold mrL opL
  rw [show okA (fun _ => k) (fun _ => A) (fun _ => B) (fun _ => C) (fun _ => D) 1 = okR A B C D k by rw [okA, okA, Bool.true_and]]
  rfl
set_option maxRecDepth 100000 in
set_option maxHeartbeats 4000000 in
theorem implDifference_any (hM : MergeC 2 4) (m : Option Addr) (n cap : Nat) (P Q R S : Nat → Int) (m' : Option Addr) (k cap' : Nat) (A B C D : Nat → Int) (w : World) (hn : n ≤ 1048576) (hcap : n ≤ cap) (hk : k ≤ 1048576) (hcap' : k ≤ cap') (hD : EnvW w) (hR : RectsIs w.heap.size w m n P Q R S) (hR' : RectsIs w.heap.size w m' k A B C D) :
    Calls Tryd.prog 51 #[.slice m n cap, .slice m' k cap'] w fun e w' => LOwn w.heap.size (opL 4 P Q R S n A B C D k) e w' ∧ Below w.heap.size w w' := by
  rw [← mr4_op]
  go_enter Tryd.func51, Tryd.ntmps51
  go_wp2_with fail
  obtain ⟨wS, hwS⟩ : ∃ wS, wS = w.alloc (.cells #[.slice m' k cap'] 25) := ⟨_, rfl⟩
  have bS : Below w.heap.size w wS := by rw [hwS]; (repeat (first | (with_reducible exact Below.refl _ _) | (with_reducible refine Ext.drewN ?_ _) | (with_reducible refine Below.drew ?_) | (with_reducible refine Ext.alloc ?_ _) | (with_reducible refine Ext.setCell ?_ (by simp; try omega) _) | (with_reducible refine Ext.trans ?_ (by assumption)) | (with_reducible assumption) | exact Below.refl _ _))
  have cS : wS.cell? ⟨w.heap.size, 0, none⟩ = some (.slice m' k cap') := by rw [hwS]; simp [go_sem]
  rw [← hwS]
  clear hwS
  refine (mergedRegion_any 2 4 hM m n cap P Q R S (some ⟨w.heap.size, 0, none⟩) 1 1 _ _ _ _ _ _ _ wS hn hcap (by omega) (hD.ext bS) (hR.ext bS) (listsOne cS hk hcap' (hR'.ext bS))).mono ?_
  rintro e w1 ⟨⟨a, c, rfl, ho⟩, bw1⟩
  have HO := Lib.hid ho
  clear ho
  go_wp2_with fail
  go_ret
  exact ⟨⟨a, c, rfl, HO.out.mono bS.size⟩, Ext.trans bS bw1⟩

theorem mr6_op (P Q R S : Nat → Int) (n : Nat) (A B C D : Nat → Int) (k : Nat) : mrL 6 P Q R S n (fun _ => k) (fun _ => A) (fun _ => B) (fun _ => C) (fun _ => D) 1 = opL 6 P Q R S n A B C D k := by
  unfold mrL opL
  rw [show okA (fun _ => k) (fun _ => A) (fun _ => B) (fun _ => C) (fun _ => D) 1 = okR A B C D k by rw [okA, okA, Bool.true_and]]
  rfl
set_option maxRecDepth 100000 in
set_option maxHeartbeats 4000000 in
theorem implSymmetricDifference_any (hM : MergeC 3 6) (m : Option Addr) (n cap : Nat) (P Q R S : Nat → Int) (m' : Option Addr) (k cap' : Nat) (A B C D : Nat → Int) (w : World) (hn : n ≤ 1048576) (hcap : n ≤ cap) (hk : k ≤ 1048576) (hcap' : k ≤ cap') (hD : EnvW w) (hR : RectsIs w.heap.size w m n P Q R S) (hR' : RectsIs w.heap.size w m' k A B C D) :
    Calls Tryd.prog 53 #[.slice m n cap, .slice m' k cap'] w fun e w' => LOwn w.heap.size (opL 6 P Q R S n A B C D k) e w' ∧ Below w.heap.size w w' := by
  rw [← mr6_op]
  go_enter Tryd.func53, Tryd.ntmps53
  go_wp2_with fail
  obtain ⟨wS, hwS⟩ : ∃ wS, wS = w.alloc (.cells #[.slice m' k cap'] 25) := ⟨_, rfl⟩
  have bS : Below w.heap.size w wS := by rw [hwS]; (repeat (first | (with_reducible exact Below.refl _ _) | (with_reducible refine Ext.drewN ?_ _) | (with_reducible refine Below.drew ?_) | (with_reducible refine Ext.alloc ?_ _) | (with_reducible refine Ext.setCell ?_ (by simp; try omega) _) | (with_reducible refine Ext.trans ?_ (by assumption)) | (with_reducible assumption) | exact Below.refl _ _))
  have cS : wS.cell? ⟨w.heap.size, 0, none⟩ = some (.slice m' k cap') := by rw [hwS]; simp [go_sem]
  rw [← hwS]
  clear hwS
  refine (mergedRegion_any 3 6 hM m n cap P Q R S (some ⟨w.heap.size, 0, none⟩) 1 1 _ _ _ _ _ _ _ wS hn hcap (by omega) (hD.ext bS) (hR.ext bS) (listsOne cS hk hcap' (hR'.ext bS))).mono ?_
  rintro e w1 ⟨⟨a, c, rfl, ho⟩, bw1⟩
  have HO := Lib.hid ho
  clear ho
  go_wp2_with fail
  go_ret
  exact ⟨⟨a, c, rfl, HO.out.mono bS.size⟩, Ext.trans bS bw1⟩
end Go.Proofs.YtpbijohdnocleaaDoor

/- Marks over rows of rectangles, from a great number on. Condition: the row is in memory. -/
namespace Go.Proofs.YtpbijohdnocleaaDoor
open Go.RowKit
set_option linter.unusedVariables false
set_option linter.unusedSimpArgs false
attribute [local go_sem ↓] Go.wp_at_zero Go.wp_at_succ

set_option maxHeartbeats 8000000 in
set_option maxRecDepth 100000 in
theorem markRectS_rowK (g len c : Nat) (k : Int) (P Q R S : Nat → Int) (w : World) (hlen : len ≤ 1048576) (k0 : 0 ≤ k) (k1 : k ≤ 50000000) (hg : g < w.heap.size) (hr : RowR w g len P Q R S) :
    Calls Tryd.prog 26 #[.slice (some ⟨g, 0, none⟩) len c, .int .i64 k] w fun e w' => e = .returned (.int .i64 (k + 4 * (len : Int))) ∧ RowR w' g len (mkV k 0) (mkV k 1) (mkV k 2) (mkV k 3) ∧ Wr g w w' := by
  have HR := Lib.hid hr
  clear hr
  go_enter Tryd.func26, Tryd.ntmps26
  go_wp2_with fail
  go_loopw [1, 5] (fun s t wr => ∃ i : Nat, i ≤ len ∧ t = .int .i64 i ∧ s = .int .i64 (k + 4 * (i : Int)) ∧ Wr g w wr ∧ Hid (RowR wr g len (mkI P k 0 i) (mkI Q k 1 i) (mkI R k 2 i) (mkI S k 3 i))) (fun _ t _ => len - (intOf t).toNat)
  case atStart => exact ⟨0, by omega, rfl, by simp, Wr.refl _ _, Lib.hid (by rw [mkI_zero, mkI_zero, mkI_zero, mkI_zero]; exact HR.out)⟩
  case round =>
    obtain ⟨i, hi, rfl, rfl, hW, HM⟩ := hrel
    by_cases hlt : i < len
    · obtain ⟨⟨c0, c1, c2, c3⟩, f0, f1, f2, f3⟩ := HM.out i hlt
      have q1 : (i : Int) < (len : Int) := by omega
      have q0 : (0 : Int) ≤ (i : Int) := by omega
      have hst := HM.out.step (i := i) (mkV k 0 i) (mkV k 1 i) (mkV k 2 i) (mkV k 3 i)
      rw [mkI_step, mkI_step, mkI_step, mkI_step] at hst
      obtain ⟨v, hv⟩ : ∃ v, v = k + 4 * (i : Int) := ⟨_, rfl⟩
      have e0 : mkV k 0 i = v := by unfold mkV; omega
      have e1 : mkV k 1 i = v + 1 := by unfold mkV; omega
      have e2 : mkV k 2 i = v + 1 + 1 := by unfold mkV; omega
      have e3 : mkV k 3 i = v + 1 + 1 + 1 := by unfold mkV; omega
      rw [e0, e1, e2, e3] at hst
      have HS := Lib.hid hst
      have v0 : 0 ≤ v := by omega
      have v1 : v ≤ 100000000 := by omega
      rw [← hv]
      have HV := Lib.hid hv
      clear hst e0 e1 e2 e3 hv
      go_wp2_with fail
      go_roundw
      case rel => exact ⟨i + 1, by omega, by go_num, by rw [show v + 1 + 1 + 1 + 1 = k + 4 * ((i + 1 : Nat) : Int) by have := HV.out; omega], (((hW.set _).set _).set _).set _, HS⟩
      case measure => simp [intOf]; omega
    · have q1 : ¬ (i : Int) < (len : Int) := by omega
      obtain rfl : i = len := by omega
      go_wp2_with fail
      go_ret
      exact ⟨rfl, HM.out.congr fun j hj => ⟨mkI_full _ _ _ _ _ hj, mkI_full _ _ _ _ _ hj, mkI_full _ _ _ _ _ hj, mkI_full _ _ _ _ _ hj⟩, hW⟩
end Go.Proofs.YtpbijohdnocleaaDoor
