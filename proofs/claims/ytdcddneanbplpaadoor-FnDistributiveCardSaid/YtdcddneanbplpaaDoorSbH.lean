/- The program's region of merged operands. Conditions: the elements' cells are in memory; the variables that regions read hold their tables. -/
import Derived.Test.YtdcddneanbplpaaDoorSbC
import Derived.Test.YtdcddneanbplpaaDoorRiY
import Derived.Test.YtdcddneanbplpaaDoorRgN
namespace Go.Proofs.YtdcddneanbplpaaDoor
open Go.RowKit Go.Shelf
set_option linter.unusedVariables false
set_option linter.unusedSimpArgs false
attribute [local go_sem] Oper.semAt_some

/-- What merge answers. -/
def MergeC (kind : Int) (op : Nat) : Prop := ∀ (m : Option Addr) (n cap : Nat) (P Q R S : Nat → Int) (mm : Option Addr) (k kc : Nat) (a' : Nat → Option Addr) (n' c' : Nat → Nat) (P' Q' R' S' : Nat → Nat → Int) (w : World),
    n ≤ 1048576 → n ≤ cap → k ≤ 1048576 → EnvW w → RectsIs w.heap.size w m n P Q R S → ListsIs w.heap.size w mm k a' n' c' P' Q' R' S' →
    Calls Tryd.prog 85 #[.int .i64 kind, .slice m n cap, .slice mm k kc] w fun e w' => (∃ G, e = .returned (.tuple #[.agg (wArr G), .bool (okR P Q R S n && okA n' P' Q' R' S' k)]) ∧ RowsOK (if (okR P Q R S n && okA n' P' Q' R' S' k) = true then mgA op (covF P Q R S n) n' P' Q' R' S' k else fun _ => false) G) ∧ Below w.heap.size w w'
/-- What mergedRegion answers. -/
def mrL (op : Nat) (P Q R S : Nat → Int) (n : Nat) (n' : Nat → Nat) (P' Q' R' S' : Nat → Nat → Int) (k : Nat) : List R4 := if (okR P Q R S n && okA n' P' Q' R' S' k) = true then canonL (mgA op (covF P Q R S n) n' P' Q' R' S' k) else []
theorem mrL_canon (op : Nat) (P Q R S : Nat → Int) (n : Nat) (n' : Nat → Nat) (P' Q' R' S' : Nat → Nat → Int) (k : Nat) : canonL (if (okR P Q R S n && okA n' P' Q' R' S' k) = true then mgA op (covF P Q R S n) n' P' Q' R' S' k else fun _ => false) = mrL op P Q R S n n' P' Q' R' S' k := by
  unfold mrL
  split
  · rfl
  · exact canonL_none

/-- A call that hands back list l in memory of its own, with its capacity. -/
def LOwnC (B : Nat) (l : List R4) (e : Ending) (w : World) : Prop := ∃ a c, e = .returned (.slice a l.length c) ∧ l.length ≤ c ∧ OwnsL B w a l
theorem LOwnC.weak {B : Nat} {l : List R4} {e : Ending} {w : World} (h : LOwnC B l e w) : LOwn B l e w := by
  obtain ⟨a, c, h1, _, h2⟩ := h
  exact ⟨a, c, h1, h2⟩
theorem capC {w : World} {B n c : Nat} {a : Option Addr} {xs : List Value} (h : w.ownsRow B 25 4 (.slice a n c) n xs) : n ≤ c := by
  rcases h.2 with ⟨e, h0⟩ | ⟨g, cap, cur, e, _, _, h3, _⟩
  · omega
  · cases e
    exact h3
set_option maxRecDepth 100000 in
set_option maxHeartbeats 4000000 in
theorem mergedRegionC_any (kind : Int) (op : Nat) (hM : MergeC kind op) (m : Option Addr) (n cap : Nat) (P Q R S : Nat → Int) (mm : Option Addr) (k kc : Nat) (a' : Nat → Option Addr) (n' c' : Nat → Nat) (P' Q' R' S' : Nat → Nat → Int) (w : World)
    (hn : n ≤ 1048576) (hcap : n ≤ cap) (hk : k ≤ 1048576) (hD : EnvW w) (hR : RectsIs w.heap.size w m n P Q R S) (hL : ListsIs w.heap.size w mm k a' n' c' P' Q' R' S') :
    Calls Tryd.prog 84 #[.int .i64 kind, .slice m n cap, .slice mm k kc] w fun e w' => LOwnC w.heap.size (mrL op P Q R S n n' P' Q' R' S' k) e w' ∧ Below w.heap.size w w' := by
  have hz := zero59
  have HMC := Lib.hid (hM m n cap P Q R S mm k kc a' n' c' P' Q' R' S' w hn hcap hk hD hR hL)
  rw [← mrL_canon]
  obtain ⟨bo, hbo⟩ : ∃ bo, bo = (okR P Q R S n && okA n' P' Q' R' S' k) := ⟨_, rfl⟩
  obtain ⟨F, hF⟩ : ∃ F : Nat → Bool, F = if bo = true then mgA op (covF P Q R S n) n' P' Q' R' S' k else fun _ => false := ⟨_, rfl⟩
  rw [← hbo, ← hF] at HMC ⊢
  clear hbo hF hM
  go_enter Tryd.func84, Tryd.ntmps84
  go_wp2_with (first | (go_at_call 85; refine HMC.out.mono ?_; rintro e w1 ⟨⟨G, rfl, hG⟩, bw1⟩; have HG := Lib.hid hG; clear hG; have r1 := RowsAt.new w1 (fun _ => 0); have st1 := store59 G r1; have sz1 := wArr_size G; have b1 : Below w1.heap.size w1 ((w1.alloc (.cells (wArr fun _ => 0) 89)).setRow w1.heap.size (wArr G)) := ((Below.refl _ _).alloc (Nat.le_refl _) _).trans (below_setRow _ _ (Nat.le_refl _))) | (go_at_call 97; refine (region_any _ _).mono ?_; rintro e w4 ⟨rfl, hw4⟩; subst hw4))
  have r4 := r1.setRow G
  obtain ⟨w3, hw3⟩ : ∃ w3, w3 = (w1.alloc (.cells (wArr fun _ => 0) 89)).setRow w1.heap.size (wArr G) := ⟨_, rfl⟩
  rw [← hw3] at b1 r4 ⊢
  have s3 : w3.heap.size = w1.heap.size + 1 := by rw [hw3, setRow_size]; simp
  have B3 := Ext.trans bw1 b1
  obtain ⟨wS, hwS⟩ : ∃ wS, wS = w3.alloc (.cells #[.pointer (some ⟨w1.heap.size, 0, none⟩)] 119) := ⟨_, rfl⟩
  have bS : Below w3.heap.size w3 wS := by rw [hwS]; (repeat (first | (with_reducible exact Below.refl _ _) | (with_reducible refine Ext.drewN ?_ _) | (with_reducible refine Below.drew ?_) | (with_reducible refine Ext.alloc ?_ _) | (with_reducible refine Ext.setCell ?_ (by simp; try omega) _) | (with_reducible refine Ext.trans ?_ (by assumption)) | (with_reducible assumption) | exact Below.refl _ _))
  have cS : wS.cell? ⟨w3.heap.size, 0, none⟩ = some (.pointer (some ⟨w1.heap.size, 0, none⟩)) := by rw [hwS]; simp [go_sem]
  have BS := Ext.trans B3 bS
  rw [s3] at cS
  have r5 := r4.ext bS
  rw [← hwS]
  clear hwS hw3 st1 sz1 r1 r4
  refine (collect_any (w1.heap.size + 1) w1.heap.size F G wS cS r5 HG.out (hD.deb.ext BS)).mono ?_
  rintro e w5 ⟨⟨v, rfl, hv⟩, bw5⟩
  obtain ⟨a, c, rfl, ho⟩ := ownsL_own hv
  have HO := Lib.hid ho
  have HC := Lib.hid (capC hv)
  clear ho hv
  go_wp2_with fail
  exact bodyPost_ret (v := .slice a (canonL F).length c) (by simp [results, Tryd.results84, go_sem]) rfl ⟨⟨a, c, rfl, HC.out, HO.out.mono BS.size⟩, Ext.trans BS bw5⟩
theorem mergedRegion_any (kind : Int) (op : Nat) (hM : MergeC kind op) (m : Option Addr) (n cap : Nat) (P Q R S : Nat → Int) (mm : Option Addr) (k kc : Nat) (a' : Nat → Option Addr) (n' c' : Nat → Nat) (P' Q' R' S' : Nat → Nat → Int) (w : World)
    (hn : n ≤ 1048576) (hcap : n ≤ cap) (hk : k ≤ 1048576) (hD : EnvW w) (hR : RectsIs w.heap.size w m n P Q R S) (hL : ListsIs w.heap.size w mm k a' n' c' P' Q' R' S') :
    Calls Tryd.prog 84 #[.int .i64 kind, .slice m n cap, .slice mm k kc] w fun e w' => LOwn w.heap.size (mrL op P Q R S n n' P' Q' R' S' k) e w' ∧ Below w.heap.size w w' :=
  (mergedRegionC_any kind op hM m n cap P Q R S mm k kc a' n' c' P' Q' R' S' w hn hcap hk hD hR hL).mono fun _ _ h => ⟨h.1.weak, h.2⟩
theorem listsOne {w : World} {b : Nat} {a : Option Addr} {n c : Nat} {P Q R S : Nat → Int} (hc : w.cell? ⟨b, 0, none⟩ = some (.slice a n c)) (hn : n ≤ 1048576) (hcap : n ≤ c) (hR : RectsIs w.heap.size w a n P Q R S) :
    ListsIs w.heap.size w (some ⟨b, 0, none⟩) 1 (fun _ => a) (fun _ => n) (fun _ => c) (fun _ => P) (fun _ => Q) (fun _ => R) (fun _ => S) := fun i hi => by
  obtain rfl : i = 0 := by omega
  exact ⟨⟨b, 0, rfl, World.block_lt_of_cell? w ⟨b, 0, none⟩ hc, hc⟩, hn, hcap, hR⟩

theorem mr14_op (P Q R S : Nat → Int) (n : Nat) (A B C D : Nat → Int) (k : Nat) : mrL 14 P Q R S n (fun _ => k) (fun _ => A) (fun _ => B) (fun _ => C) (fun _ => D) 1 = opL 14 P Q R S n A B C D k := by
  unfold mrL opL
  rw [show okA (fun _ => k) (fun _ => A) (fun _ => B) (fun _ => C) (fun _ => D) 1 = okR A B C D k by rw [okA, okA, Bool.true_and]]
  rfl
set_option maxRecDepth 100000 in
set_option maxHeartbeats 4000000 in
theorem implUnionC_any (hM : MergeC 0 14) (m : Option Addr) (n cap : Nat) (P Q R S : Nat → Int) (m' : Option Addr) (k cap' : Nat) (A B C D : Nat → Int) (w : World) (hn : n ≤ 1048576) (hcap : n ≤ cap) (hk : k ≤ 1048576) (hcap' : k ≤ cap') (hD : EnvW w) (hR : RectsIs w.heap.size w m n P Q R S) (hR' : RectsIs w.heap.size w m' k A B C D) :
    Calls Tryd.prog 44 #[.slice m n cap, .slice m' k cap'] w fun e w' => LOwnC w.heap.size (opL 14 P Q R S n A B C D k) e w' ∧ Below w.heap.size w w' := by
  rw [← mr14_op]
  go_enter Tryd.func44, Tryd.ntmps44
  go_wp2_with fail
  obtain ⟨wS, hwS⟩ : ∃ wS, wS = w.alloc (.cells #[.slice m' k cap'] 38) := ⟨_, rfl⟩
  have bS : Below w.heap.size w wS := by rw [hwS]; (repeat (first | (with_reducible exact Below.refl _ _) | (with_reducible refine Ext.drewN ?_ _) | (with_reducible refine Below.drew ?_) | (with_reducible refine Ext.alloc ?_ _) | (with_reducible refine Ext.setCell ?_ (by simp; try omega) _) | (with_reducible refine Ext.trans ?_ (by assumption)) | (with_reducible assumption) | exact Below.refl _ _))
  have cS : wS.cell? ⟨w.heap.size, 0, none⟩ = some (.slice m' k cap') := by rw [hwS]; simp [go_sem]
  rw [← hwS]
  clear hwS
  refine (mergedRegionC_any 0 14 hM m n cap P Q R S (some ⟨w.heap.size, 0, none⟩) 1 1 _ _ _ _ _ _ _ wS hn hcap (by omega) (hD.ext bS) (hR.ext bS) (listsOne cS hk hcap' (hR'.ext bS))).mono ?_
  rintro e w1 ⟨⟨a, c, rfl, hc, ho⟩, bw1⟩
  have HO := Lib.hid ho
  have HC := Lib.hid hc
  clear ho hc
  go_wp2_with fail
  go_ret
  exact ⟨⟨a, c, rfl, HC.out, HO.out.mono bS.size⟩, Ext.trans bS bw1⟩

theorem implUnion_any (hM : MergeC 0 14) (m : Option Addr) (n cap : Nat) (P Q R S : Nat → Int) (m' : Option Addr) (k cap' : Nat) (A B C D : Nat → Int) (w : World) (hn : n ≤ 1048576) (hcap : n ≤ cap) (hk : k ≤ 1048576) (hcap' : k ≤ cap') (hD : EnvW w) (hR : RectsIs w.heap.size w m n P Q R S) (hR' : RectsIs w.heap.size w m' k A B C D) :
    Calls Tryd.prog 44 #[.slice m n cap, .slice m' k cap'] w fun e w' => LOwn w.heap.size (opL 14 P Q R S n A B C D k) e w' ∧ Below w.heap.size w w' :=
  (implUnionC_any hM m n cap P Q R S m' k cap' A B C D w hn hcap hk hcap' hD hR hR').mono fun _ _ h => ⟨h.1.weak, h.2⟩
theorem mr8_op (P Q R S : Nat → Int) (n : Nat) (A B C D : Nat → Int) (k : Nat) : mrL 8 P Q R S n (fun _ => k) (fun _ => A) (fun _ => B) (fun _ => C) (fun _ => D) 1 = opL 8 P Q R S n A B C D k := by
  unfold mrL opL
  rw [show okA (fun _ => k) (fun _ => A) (fun _ => B) (fun _ => C) (fun _ => D) 1 = okR A B C D k by rw [okA, okA, Bool.true_and]]
  rfl
set_option maxRecDepth 100000 in
set_option maxHeartbeats 4000000 in
theorem implIntersectionC_any (hM : MergeC 1 8) (m : Option Addr) (n cap : Nat) (P Q R S : Nat → Int) (m' : Option Addr) (k cap' : Nat) (A B C D : Nat → Int) (w : World) (hn : n ≤ 1048576) (hcap : n ≤ cap) (hk : k ≤ 1048576) (hcap' : k ≤ cap') (hD : EnvW w) (hR : RectsIs w.heap.size w m n P Q R S) (hR' : RectsIs w.heap.size w m' k A B C D) :
    Calls Tryd.prog 46 #[.slice m n cap, .slice m' k cap'] w fun e w' => LOwnC w.heap.size (opL 8 P Q R S n A B C D k) e w' ∧ Below w.heap.size w w' := by
  rw [← mr8_op]
  go_enter Tryd.func46, Tryd.ntmps46
  go_wp2_with fail
  obtain ⟨wS, hwS⟩ : ∃ wS, wS = w.alloc (.cells #[.slice m' k cap'] 38) := ⟨_, rfl⟩
  have bS : Below w.heap.size w wS := by rw [hwS]; (repeat (first | (with_reducible exact Below.refl _ _) | (with_reducible refine Ext.drewN ?_ _) | (with_reducible refine Below.drew ?_) | (with_reducible refine Ext.alloc ?_ _) | (with_reducible refine Ext.setCell ?_ (by simp; try omega) _) | (with_reducible refine Ext.trans ?_ (by assumption)) | (with_reducible assumption) | exact Below.refl _ _))
  have cS : wS.cell? ⟨w.heap.size, 0, none⟩ = some (.slice m' k cap') := by rw [hwS]; simp [go_sem]
  rw [← hwS]
  clear hwS
  refine (mergedRegionC_any 1 8 hM m n cap P Q R S (some ⟨w.heap.size, 0, none⟩) 1 1 _ _ _ _ _ _ _ wS hn hcap (by omega) (hD.ext bS) (hR.ext bS) (listsOne cS hk hcap' (hR'.ext bS))).mono ?_
  rintro e w1 ⟨⟨a, c, rfl, hc, ho⟩, bw1⟩
  have HO := Lib.hid ho
  have HC := Lib.hid hc
  clear ho hc
  go_wp2_with fail
  go_ret
  exact ⟨⟨a, c, rfl, HC.out, HO.out.mono bS.size⟩, Ext.trans bS bw1⟩

theorem implIntersection_any (hM : MergeC 1 8) (m : Option Addr) (n cap : Nat) (P Q R S : Nat → Int) (m' : Option Addr) (k cap' : Nat) (A B C D : Nat → Int) (w : World) (hn : n ≤ 1048576) (hcap : n ≤ cap) (hk : k ≤ 1048576) (hcap' : k ≤ cap') (hD : EnvW w) (hR : RectsIs w.heap.size w m n P Q R S) (hR' : RectsIs w.heap.size w m' k A B C D) :
    Calls Tryd.prog 46 #[.slice m n cap, .slice m' k cap'] w fun e w' => LOwn w.heap.size (opL 8 P Q R S n A B C D k) e w' ∧ Below w.heap.size w w' :=
  (implIntersectionC_any hM m n cap P Q R S m' k cap' A B C D w hn hcap hk hcap' hD hR hR').mono fun _ _ h => ⟨h.1.weak, h.2⟩
theorem mr4_op (P Q R S : Nat → Int) (n : Nat) (A B C D : Nat → Int) (k : Nat) : mrL 4 P Q R S n (fun _ => k) (fun _ => A) (fun _ => B) (fun _ => C) (fun _ => D) 1 = opL 4 P Q R S n A B C D k := by
  unfold mrL opL
  rw [show okA (fun _ => k) (fun _ => A) (fun _ => B) (fun _ => C) (fun _ => D) 1 = okR A B C D k by rw [okA, okA, Bool.true_and]]
  rfl
set_option maxRecDepth 100000 in
set_option maxHeartbeats 4000000 in
theorem implDifferenceC_any (hM : MergeC 2 4) (m : Option Addr) (n cap : Nat) (P Q R S : Nat → Int) (m' : Option Addr) (k cap' : Nat) (A B C D : Nat → Int) (w : World) (hn : n ≤ 1048576) (hcap : n ≤ cap) (hk : k ≤ 1048576) (hcap' : k ≤ cap') (hD : EnvW w) (hR : RectsIs w.heap.size w m n P Q R S) (hR' : RectsIs w.heap.size w m' k A B C D) :
    Calls Tryd.prog 47 #[.slice m n cap, .slice m' k cap'] w fun e w' => LOwnC w.heap.size (opL 4 P Q R S n A B C D k) e w' ∧ Below w.heap.size w w' := by
  rw [← mr4_op]
  go_enter Tryd.func47, Tryd.ntmps47
  go_wp2_with fail
  obtain ⟨wS, hwS⟩ : ∃ wS, wS = w.alloc (.cells #[.slice m' k cap'] 38) := ⟨_, rfl⟩
  have bS : Below w.heap.size w wS := by rw [hwS]; (repeat (first | (with_reducible exact Below.refl _ _) | (with_reducible refine Ext.drewN ?_ _) | (with_reducible refine Below.drew ?_) | (with_reducible refine Ext.alloc ?_ _) | (with_reducible refine Ext.setCell ?_ (by simp; try omega) _) | (with_reducible refine Ext.trans ?_ (by assumption)) | (with_reducible assumption) | exact Below.refl _ _))
  have cS : wS.cell? ⟨w.heap.size, 0, none⟩ = some (.slice m' k cap') := by rw [hwS]; simp [go_sem]
  rw [← hwS]
  clear hwS
  refine (mergedRegionC_any 2 4 hM m n cap P Q R S (some ⟨w.heap.size, 0, none⟩) 1 1 _ _ _ _ _ _ _ wS hn hcap (by omega) (hD.ext bS) (hR.ext bS) (listsOne cS hk hcap' (hR'.ext bS))).mono ?_
  rintro e w1 ⟨⟨a, c, rfl, hc, ho⟩, bw1⟩
  have HO := Lib.hid ho
  have HC := Lib.hid hc
  clear ho hc
  go_wp2_with fail
  go_ret
  exact ⟨⟨a, c, rfl, HC.out, HO.out.mono bS.size⟩, Ext.trans bS bw1⟩

theorem implDifference_any (hM : MergeC 2 4) (m : Option Addr) (n cap : Nat) (P Q R S : Nat → Int) (m' : Option Addr) (k cap' : Nat) (A B C D : Nat → Int) (w : World) (hn : n ≤ 1048576) (hcap : n ≤ cap) (hk : k ≤ 1048576) (hcap' : k ≤ cap') (hD : EnvW w) (hR : RectsIs w.heap.size w m n P Q R S) (hR' : RectsIs w.heap.size w m' k A B C D) :
    Calls Tryd.prog 47 #[.slice m n cap, .slice m' k cap'] w fun e w' => LOwn w.heap.size (opL 4 P Q R S n A B C D k) e w' ∧ Below w.heap.size w w' :=
  (implDifferenceC_any hM m n cap P Q R S m' k cap' A B C D w hn hcap hk hcap' hD hR hR').mono fun _ _ h => ⟨h.1.weak, h.2⟩
theorem mr6_op (P Q R S : Nat → Int) (n : Nat) (A B C D : Nat → Int) (k : Nat) : mrL 6 P Q R S n (fun _ => k) (fun _ => A) (fun _ => B) (fun _ => C) (fun _ => D) 1 = opL 6 P Q R S n A B C D k := by
  unfold mrL opL
  rw [show okA (fun _ => k) (fun _ => A) (fun _ => B) (fun _ => C) (fun _ => D) 1 = okR A B C D k by rw [okA, okA, Bool.true_and]]
  rfl
set_option maxRecDepth 100000 in
set_option maxHeartbeats 4000000 in
theorem implSymmetricDifferenceC_any (hM : MergeC 3 6) (m : Option Addr) (n cap : Nat) (P Q R S : Nat → Int) (m' : Option Addr) (k cap' : Nat) (A B C D : Nat → Int) (w : World) (hn : n ≤ 1048576) (hcap : n ≤ cap) (hk : k ≤ 1048576) (hcap' : k ≤ cap') (hD : EnvW w) (hR : RectsIs w.heap.size w m n P Q R S) (hR' : RectsIs w.heap.size w m' k A B C D) :
    Calls Tryd.prog 50 #[.slice m n cap, .slice m' k cap'] w fun e w' => LOwnC w.heap.size (opL 6 P Q R S n A B C D k) e w' ∧ Below w.heap.size w w' := by
  rw [← mr6_op]
  go_enter Tryd.func50, Tryd.ntmps50
  go_wp2_with fail
  obtain ⟨wS, hwS⟩ : ∃ wS, wS = w.alloc (.cells #[.slice m' k cap'] 38) := ⟨_, rfl⟩
  have bS : Below w.heap.size w wS := by rw [hwS]; (repeat (first | (with_reducible exact Below.refl _ _) | (with_reducible refine Ext.drewN ?_ _) | (with_reducible refine Below.drew ?_) | (with_reducible refine Ext.alloc ?_ _) | (with_reducible refine Ext.setCell ?_ (by simp; try omega) _) | (with_reducible refine Ext.trans ?_ (by assumption)) | (with_reducible assumption) | exact Below.refl _ _))
  have cS : wS.cell? ⟨w.heap.size, 0, none⟩ = some (.slice m' k cap') := by rw [hwS]; simp [go_sem]
  rw [← hwS]
  clear hwS
  refine (mergedRegionC_any 3 6 hM m n cap P Q R S (some ⟨w.heap.size, 0, none⟩) 1 1 _ _ _ _ _ _ _ wS hn hcap (by omega) (hD.ext bS) (hR.ext bS) (listsOne cS hk hcap' (hR'.ext bS))).mono ?_
  rintro e w1 ⟨⟨a, c, rfl, hc, ho⟩, bw1⟩
  have HO := Lib.hid ho
  have HC := Lib.hid hc
  clear ho hc
  go_wp2_with fail
  go_ret
  exact ⟨⟨a, c, rfl, HC.out, HO.out.mono bS.size⟩, Ext.trans bS bw1⟩
theorem implSymmetricDifference_any (hM : MergeC 3 6) (m : Option Addr) (n cap : Nat) (P Q R S : Nat → Int) (m' : Option Addr) (k cap' : Nat) (A B C D : Nat → Int) (w : World) (hn : n ≤ 1048576) (hcap : n ≤ cap) (hk : k ≤ 1048576) (hcap' : k ≤ cap') (hD : EnvW w) (hR : RectsIs w.heap.size w m n P Q R S) (hR' : RectsIs w.heap.size w m' k A B C D) :
    Calls Tryd.prog 50 #[.slice m n cap, .slice m' k cap'] w fun e w' => LOwn w.heap.size (opL 6 P Q R S n A B C D k) e w' ∧ Below w.heap.size w w' :=
  (implSymmetricDifferenceC_any hM m n cap P Q R S m' k cap' A B C D w hn hcap hk hcap' hD hR hR').mono fun _ _ h => ⟨h.1.weak, h.2⟩
end Go.Proofs.YtdcddneanbplpaaDoor

/- Marks over rows of rectangles, from a great number on. Condition: the row is in memory. -/
namespace Go.Proofs.YtdcddneanbplpaaDoor
open Go.RowKit
set_option linter.unusedVariables false
set_option linter.unusedSimpArgs false
attribute [local go_sem ↓] Go.wp_at_zero Go.wp_at_succ

end Go.Proofs.YtdcddneanbplpaaDoor
