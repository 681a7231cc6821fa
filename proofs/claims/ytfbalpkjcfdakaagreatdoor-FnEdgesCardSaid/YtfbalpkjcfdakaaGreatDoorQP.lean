/- The program's region of merged operands. Conditions: the elements' cells are in memory; the variables that regions read hold their tables. -/
import Derived.Test.YtfbalpkjcfdakaaGreatDoorQK
import Derived.Test.YtfbalpkjcfdakaaGreatDoorQI
import Derived.Test.YtfbalpkjcfdakaaGreatDoorQD
import Derived.Test.YtfbalpkjcfdakaaGreatDoorQH
import Derived.ChangeKeysEq
import Derived.Test.YtfbalpkjcfdakaaGreatDoorQJ
namespace Go.Proofs.YtfbalpkjcfdakaaGreatDoor
open Go.RowKit Go.Shelf
set_option linter.unusedVariables false
set_option linter.unusedSimpArgs false
attribute [local go_sem] Oper.semAt_some

/-- What merge answers. -/
def MergeC (kind : Int) (op : Nat) : Prop := ∀ (m : Option Addr) (n cap : Nat) (P Q R S : Nat → Int) (mm : Option Addr) (k kc : Nat) (a' : Nat → Option Addr) (n' c' : Nat → Nat) (P' Q' R' S' : Nat → Nat → Int) (w : World),
    n ≤ 1048576 → n ≤ cap → k ≤ 1048576 → EnvW w → RectsIs w.heap.size w m n P Q R S → ListsIs w.heap.size w mm k a' n' c' P' Q' R' S' →
    Calls Tryz.prog 114 #[.int .i64 kind, .slice m n cap, .slice mm k kc] w fun e w' => (∃ G, e = .returned (.tuple #[.agg (wArr G), .bool (okR P Q R S n && okA n' P' Q' R' S' k)]) ∧ RowsOK (if (okR P Q R S n && okA n' P' Q' R' S' k) = true then mgA op (covF P Q R S n) n' P' Q' R' S' k else fun _ => false) G) ∧ Below w.heap.size w w'
/-- What mergedRegion answers. -/
def mrL (op : Nat) (P Q R S : Nat → Int) (n : Nat) (n' : Nat → Nat) (P' Q' R' S' : Nat → Nat → Int) (k : Nat) : List R4 := if (okR P Q R S n && okA n' P' Q' R' S' k) = true then canonL (mgA op (covF P Q R S n) n' P' Q' R' S' k) else []
theorem mrL_canon (op : Nat) (P Q R S : Nat → Int) (n : Nat) (n' : Nat → Nat) (P' Q' R' S' : Nat → Nat → Int) (k : Nat) : canonL (if (okR P Q R S n && okA n' P' Q' R' S' k) = true then mgA op (covF P Q R S n) n' P' Q' R' S' k else fun _ => false) = mrL op P Q R S n n' P' Q' R' S' k := by
  unfold mrL
  split
  · rfl
  · exact canonL_none

/-- A call that hands back list l in memory of its own, with its capacity. -/
def LOwnC (B : Nat) (l : List R4) (e : Ending) (w : World) : Prop := ∃ a c, e = .returned (.slice a l.length c) ∧ l.length ≤ c ∧ OwnsL B w a l
theorem LOwnC.weak {B : Nat} {l : List R4} {e : Ending} {w : World} (h : LOwnC B l e w) : LOwn B l e w := by
  obtain ⟨a, c, h1, _, h2⟩ := h
  exact ⟨a, c, h1, h2⟩
theorem capC {w : World} {B n c : Nat} {a : Option Addr} {xs : List Value} (h : w.ownsRow B 65 4 (.slice a n c) n xs) : n ≤ c := by
  rcases h.2 with ⟨e, h0⟩ | ⟨g, cap, cur, e, _, _, h3, _⟩
  · omega
  · cases e
    exact h3
set_option maxRecDepth 100000 in
set_option maxHeartbeats 4000000 in
theorem mergedRegionC_any (kind : Int) (op : Nat) (hM : MergeC kind op) (m : Option Addr) (n cap : Nat) (P Q R S : Nat → Int) (mm : Option Addr) (k kc : Nat) (a' : Nat → Option Addr) (n' c' : Nat → Nat) (P' Q' R' S' : Nat → Nat → Int) (w : World)
    (hn : n ≤ 1048576) (hcap : n ≤ cap) (hk : k ≤ 1048576) (hD : EnvW w) (hR : RectsIs w.heap.size w m n P Q R S) (hL : ListsIs w.heap.size w mm k a' n' c' P' Q' R' S') :
    Calls Tryz.prog 63 #[.int .i64 kind, .slice m n cap, .slice mm k kc] w fun e w' => LOwnC w.heap.size (mrL op P Q R S n n' P' Q' R' S' k) e w' ∧ Below w.heap.size w w' := by
  have hz := zero59
  have HMC := Lib.hid (hM m n cap P Q R S mm k kc a' n' c' P' Q' R' S' w hn hcap hk hD hR hL)
  rw [← mrL_canon]
  obtain ⟨bo, hbo⟩ : ∃ bo, bo = (okR P Q R S n && okA n' P' Q' R' S' k) := ⟨_, rfl⟩
  obtain ⟨F, hF⟩ : ∃ F : Nat → Bool, F = if bo = true then mgA op (covF P Q R S n) n' P' Q' R' S' k else fun _ => false := ⟨_, rfl⟩
  rw [← hbo, ← hF] at HMC ⊢
  clear hbo hF hM
  go_enter Tryz.func63, Tryz.ntmps63
  go_wp2_with (first | (go_at_call 114; refine HMC.out.mono ?_; rintro e w1 ⟨⟨G, rfl, hG⟩, bw1⟩; have HG := Lib.hid hG; clear hG; have r1 := RowsAt.new w1 (fun _ => 0); have st1 := store59 G r1; have sz1 := wArr_size G; have b1 : Below w1.heap.size w1 ((w1.alloc (.cells (wArr fun _ => 0) 86)).setRow w1.heap.size (wArr G)) := ((Below.refl _ _).alloc (Nat.le_refl _) _).trans (below_setRow _ _ (Nat.le_refl _))) | (go_at_call 62; refine (region_any _ _).mono ?_; rintro e w4 ⟨rfl, hw4⟩; subst hw4))
  have r4 := r1.setRow G
  obtain ⟨w3, hw3⟩ : ∃ w3, w3 = (w1.alloc (.cells (wArr fun _ => 0) 86)).setRow w1.heap.size (wArr G) := ⟨_, rfl⟩
  rw [← hw3] at b1 r4 ⊢
  have s3 : w3.heap.size = w1.heap.size + 1 := by rw [hw3, setRow_size]; simp
  have B3 := Ext.trans bw1 b1
  obtain ⟨wS, hwS⟩ : ∃ wS, wS = w3.alloc (.cells #[.pointer (some ⟨w1.heap.size, 0, none⟩)] 143) := ⟨_, rfl⟩
  have bS : Below w3.heap.size w3 wS := by rw [hwS]; (repeat (first | (with_reducible exact Below.refl _ _) | (with_reducible refine Ext.drewN ?_ _) | (with_reducible refine Below.drew ?_) | (with_reducible refine Ext.alloc ?_ _) | (with_reducible refine Ext.setCell ?_ (by simp; try omega) _) | (with_reducible refine Ext.trans ?_ (by assumption)) | (with_reducible assumption) | exact Below.refl _ _))
  have cS : wS.cell? ⟨w3.heap.size, 0, none⟩ = some (.pointer (some ⟨w1.heap.size, 0, none⟩)) := by rw [hwS]; simp [go_sem]
  have BS := Ext.trans B3 bS
  rw [s3] at cS
  have r5 := r4.ext bS
  rw [← hwS]
  clear hwS hw3 st1 sz1 r1 r4
  refine (collect_any (w1.heap.size + 1) w1.heap.size F G wS cS r5 HG.out (hD.deb.ext BS)).mono ?_
  rintro e w5 ⟨⟨v, rfl, hv⟩, bw5⟩
  obtain ⟨a, c, rfl, ho⟩ := ownsL_own hv
  have HO := Lib.hid ho
  have HC := Lib.hid (capC hv)
  clear ho hv
  go_wp2_with fail
  exact bodyPost_ret (v := .slice a (canonL F).length c) (by simp [results, Tryz.results63, go_sem]) rfl ⟨⟨a, c, rfl, HC.out, HO.out.mono BS.size⟩, Ext.trans BS bw5⟩
theorem mergedRegion_any (kind : Int) (op : Nat) (hM : MergeC kind op) (m : Option Addr) (n cap : Nat) (P Q R S : Nat → Int) (mm : Option Addr) (k kc : Nat) (a' : Nat → Option Addr) (n' c' : Nat → Nat) (P' Q' R' S' : Nat → Nat → Int) (w : World)
    (hn : n ≤ 1048576) (hcap : n ≤ cap) (hk : k ≤ 1048576) (hD : EnvW w) (hR : RectsIs w.heap.size w m n P Q R S) (hL : ListsIs w.heap.size w mm k a' n' c' P' Q' R' S') :
    Calls Tryz.prog 63 #[.int .i64 kind, .slice m n cap, .slice mm k kc] w fun e w' => LOwn w.heap.size (mrL op P Q R S n n' P' Q' R' S' k) e w' ∧ Below w.heap.size w w' :=
  (mergedRegionC_any kind op hM m n cap P Q R S mm k kc a' n' c' P' Q' R' S' w hn hcap hk hD hR hL).mono fun _ _ h => ⟨h.1.weak, h.2⟩
theorem listsOne {w : World} {b : Nat} {a : Option Addr} {n c : Nat} {P Q R S : Nat → Int} (hc : w.cell? ⟨b, 0, none⟩ = some (.slice a n c)) (hn : n ≤ 1048576) (hcap : n ≤ c) (hR : RectsIs w.heap.size w a n P Q R S) :
    ListsIs w.heap.size w (some ⟨b, 0, none⟩) 1 (fun _ => a) (fun _ => n) (fun _ => c) (fun _ => P) (fun _ => Q) (fun _ => R) (fun _ => S) := fun i hi => by
  obtain rfl : i = 0 := by omega
  exact ⟨⟨b, 0, rfl, World.block_lt_of_cell? w ⟨b, 0, none⟩ hc, hc⟩, hn, hcap, hR⟩

theorem mr14_op (P Q R S : Nat → Int) (n : Nat) (A B C D : Nat → Int) (k : Nat) : mrL 14 P Q R S n (fun _ => k) (fun _ => A) (fun _ => B) (fun _ => C) (fun _ => D) 1 = opL 14 P Q R S n A B C D k := by
  unfold mrL opL
  rw [show okA (fun _ => k) (fun _ => A) (fun _ => B) (fun _ => C) (fun _ => D) 1 = okR A B C D k by rw [okA, okA, Bool.true_and]]
  rfl
theorem mr8_op (P Q R S : Nat → Int) (n : Nat) (A B C D : Nat → Int) (k : Nat) : mrL 8 P Q R S n (fun _ => k) (fun _ => A) (fun _ => B) (fun _ => C) (fun _ => D) 1 = opL 8 P Q R S n A B C D k := by
  unfold mrL opL
  rw [show okA (fun _ => k) (fun _ => A) (fun _ => B) (fun _ => C) (fun _ => D) 1 = okR A B C D k by rw [okA, okA, Bool.true_and]]
  rfl
theorem mr4_op (P Q R S : Nat → Int) (n : Nat) (A B C D : Nat → Int) (k : Nat) : mrL 4 P Q R S n (fun _ => k) (fun _ => A) (fun _ => B) (fun _ => C) (fun _ => D) 1 = opL 4 P Q R S n A B C D k := by
  unfold mrL opL
  rw [show okA (fun _ => k) (fun _ => A) (fun _ => B) (fun _ => C) (fun _ => D) 1 = okR A B C D k by rw [okA, okA, Bool.true_and]]
  rfl
theorem mr6_op (P Q R S : Nat → Int) (n : Nat) (A B C D : Nat → Int) (k : Nat) : mrL 6 P Q R S n (fun _ => k) (fun _ => A) (fun _ => B) (fun _ => C) (fun _ => D) 1 = opL 6 P Q R S n A B C D k := by
  unfold mrL opL
  rw [show okA (fun _ => k) (fun _ => A) (fun _ => B) (fun _ => C) (fun _ => D) 1 = okR A B C D k by rw [okA, okA, Bool.true_and]]
  rfl
set_option maxRecDepth 100000 in
set_option maxHeartbeats 4000000 in
theorem implSymmetricDifferenceC_any (hM : MergeC 3 6) (m : Option Addr) (n cap : Nat) (P Q R S : Nat → Int) (m' : Option Addr) (k cap' : Nat) (A B C D : Nat → Int) (w : World) (hn : n ≤ 1048576) (hcap : n ≤ cap) (hk : k ≤ 1048576) (hcap' : k ≤ cap') (hD : EnvW w) (hR : RectsIs w.heap.size w m n P Q R S) (hR' : RectsIs w.heap.size w m' k A B C D) :
    Calls Tryz.prog 22 #[.slice m n cap, .slice m' k cap'] w fun e w' => LOwnC w.heap.size (opL 6 P Q R S n A B C D k) e w' ∧ Below w.heap.size w w' := by
  rw [← mr6_op]
  go_enter Tryz.func22, Tryz.ntmps22
  go_wp2_with fail
  obtain ⟨wS, hwS⟩ : ∃ wS, wS = w.alloc (.cells #[.slice m' k cap'] 26) := ⟨_, rfl⟩
  have bS : Below w.heap.size w wS := by rw [hwS]; (repeat (first | (with_reducible exact Below.refl _ _) | (with_reducible refine Ext.drewN ?_ _) | (with_reducible refine Below.drew ?_) | (with_reducible refine Ext.alloc ?_ _) | (with_reducible refine Ext.setCell ?_ (by simp; try omega) _) | (with_reducible refine Ext.trans ?_ (by assumption)) | (with_reducible assumption) | exact Below.refl _ _))
  have cS : wS.cell? ⟨w.heap.size, 0, none⟩ = some (.slice m' k cap') := by rw [hwS]; simp [go_sem]
  rw [← hwS]
  clear hwS
  refine (mergedRegionC_any 3 6 hM m n cap P Q R S (some ⟨w.heap.size, 0, none⟩) 1 1 _ _ _ _ _ _ _ wS hn hcap (by omega) (hD.ext bS) (hR.ext bS) (listsOne cS hk hcap' (hR'.ext bS))).mono ?_
  rintro e w1 ⟨⟨a, c, rfl, hc, ho⟩, bw1⟩
  have HO := Lib.hid ho
  have HC := Lib.hid hc
  clear ho hc
  go_wp2_with fail
  go_ret
  exact ⟨⟨a, c, rfl, HC.out, HO.out.mono bS.size⟩, Ext.trans bS bw1⟩
theorem implSymmetricDifference_any (hM : MergeC 3 6) (m : Option Addr) (n cap : Nat) (P Q R S : Nat → Int) (m' : Option Addr) (k cap' : Nat) (A B C D : Nat → Int) (w : World) (hn : n ≤ 1048576) (hcap : n ≤ cap) (hk : k ≤ 1048576) (hcap' : k ≤ cap') (hD : EnvW w) (hR : RectsIs w.heap.size w m n P Q R S) (hR' : RectsIs w.heap.size w m' k A B C D) :
    Calls Tryz.prog 22 #[.slice m n cap, .slice m' k cap'] w fun e w' => LOwn w.heap.size (opL 6 P Q R S n A B C D k) e w' ∧ Below w.heap.size w w' :=
  (implSymmetricDifferenceC_any hM m n cap P Q R S m' k cap' A B C D w hn hcap hk hcap' hD hR hR').mono fun _ _ h => ⟨h.1.weak, h.2⟩
end Go.Proofs.YtfbalpkjcfdakaaGreatDoor

/- Marks over rows of rectangles, from a great number on. Condition: the row is in memory. -/
namespace Go.Proofs.YtfbalpkjcfdakaaGreatDoor
open Go.RowKit
set_option linter.unusedVariables false
set_option linter.unusedSimpArgs false
attribute [local go_sem ↓] Go.wp_at_zero Go.wp_at_succ

set_option maxHeartbeats 8000000 in
set_option maxRecDepth 100000 in
theorem markRectS_rowK (g len c : Nat) (k : Int) (P Q R S : Nat → Int) (w : World) (hlen : len ≤ 1048576) (k0 : 0 ≤ k) (k1 : k ≤ 50000000) (hg : g < w.heap.size) (hr : RowR w g len P Q R S) :
    Calls Tryz.prog 14 #[.slice (some ⟨g, 0, none⟩) len c, .int .i64 k] w fun e w' => e = .returned (.int .i64 (k + 4 * (len : Int))) ∧ RowR w' g len (mkV k 0) (mkV k 1) (mkV k 2) (mkV k 3) ∧ Wr g w w' := by
  have HR := Lib.hid hr
  clear hr
  go_enter Tryz.func14, Tryz.ntmps14
  go_wp2_with fail
  go_loopw [1, 5] (fun s t wr => ∃ i : Nat, i ≤ len ∧ t = .int .i64 i ∧ s = .int .i64 (k + 4 * (i : Int)) ∧ Wr g w wr ∧ Hid (RowR wr g len (mkI P k 0 i) (mkI Q k 1 i) (mkI R k 2 i) (mkI S k 3 i))) (fun _ t _ => len - (intOf t).toNat)
  case atStart => exact ⟨0, by omega, rfl, by simp, Wr.refl _ _, Lib.hid (by rw [mkI_zero, mkI_zero, mkI_zero, mkI_zero]; exact HR.out)⟩
  case round =>
    obtain ⟨i, hi, rfl, rfl, hW, HM⟩ := hrel
    by_cases hlt : i < len
    · obtain ⟨⟨c0, c1, c2, c3⟩, f0, f1, f2, f3⟩ := HM.out i hlt
      have q1 : (i : Int) < (len : Int) := by omega
      have q0 : (0 : Int) ≤ (i : Int) := by omega
      have hst := HM.out.step (i := i) (mkV k 0 i) (mkV k 1 i) (mkV k 2 i) (mkV k 3 i)
      rw [mkI_step, mkI_step, mkI_step, mkI_step] at hst
      obtain ⟨v, hv⟩ : ∃ v, v = k + 4 * (i : Int) := ⟨_, rfl⟩
      have e0 : mkV k 0 i = v := by unfold mkV; omega
      have e1 : mkV k 1 i = v + 1 := by unfold mkV; omega
      have e2 : mkV k 2 i = v + 1 + 1 := by unfold mkV; omega
      have e3 : mkV k 3 i = v + 1 + 1 + 1 := by unfold mkV; omega
      rw [e0, e1, e2, e3] at hst
      have HS := Lib.hid hst
      have v0 : 0 ≤ v := by omega
      have v1 : v ≤ 100000000 := by omega
      rw [← hv]
      have HV := Lib.hid hv
      clear hst e0 e1 e2 e3 hv
      go_wp2_with fail
      go_roundw
      case rel => exact ⟨i + 1, by omega, by go_num, by rw [show v + 1 + 1 + 1 + 1 = k + 4 * ((i + 1 : Nat) : Int) by have := HV.out; omega], (((hW.set _).set _).set _).set _, HS⟩
      case measure => simp [intOf]; omega
    · have q1 : ¬ (i : Int) < (len : Int) := by omega
      obtain rfl : i = len := by omega
      go_wp2_with fail
      go_ret
      exact ⟨rfl, HM.out.congr fun j hj => ⟨mkI_full _ _ _ _ _ hj, mkI_full _ _ _ _ _ hj, mkI_full _ _ _ _ _ hj, mkI_full _ _ _ _ _ hj⟩, hW⟩
end Go.Proofs.YtfbalpkjcfdakaaGreatDoor

namespace Go.Proofs.YtfbalpkjcfdakaaGreatDoor
open Go.RowKit
set_option linter.unusedVariables false
set_option linter.unusedSimpArgs false

theorem eqColD (d : Nat) (a b c e : Int) (w : World) : (Op.equalIn (d + 2) 84 (.agg #[.int .u64 a, .int .u64 b]) (.agg #[.int .u64 c, .int .u64 e])).run Tryz.prog w = .ok (a == c && b == e) w := by
  have h : (Tryz.prog.info? 82).isSome = true := by kernel_rfl
  obtain ⟨i, hi⟩ := Option.isSome_iff_exists.1 h
  have c1 : Tryz.prog.cellsOf 82 = 1 := by kernel_rfl
  rw [run_equalIn_array w (d + 1) _ _ Tryz.underlying84 hi, c1]
  have r2 : List.range 2 = [0, 1] := rfl
  rw [r2]
  have hq : ∀ (a b : Int) (w : World), (Op.equalIn (d + 1) 82 (.int .u64 a) (.int .u64 b)).run Tryz.prog w = .ok (a == b) w := fun a b w => run_equalIn_int w d _ _ .u64 a b Tryz.underlying82
  have hp : ∀ (x0 x1 : Int) (w : World), (part 82 #[.int .u64 x0, .int .u64 x1] (0 * 1)).run Tryz.prog w = .ok (.int .u64 x0) w ∧ (part 82 #[.int .u64 x0, .int .u64 x1] (1 * 1)).run Tryz.prog w = .ok (.int .u64 x1) w :=
    fun _ _ _ => ⟨by kernel_rfl, by kernel_rfl⟩
  simp only [Op.eqItems, Sem.run_bind, (hp _ _ _).1, (hp _ _ _).2, Result.andThen_ok, hq, Sem.run_ite, Sem.run_pure]
  cases h0 : a == c <;> cases h1 : b == e <;> simp
theorem wArr_two (G : Nat → Nat) {j : Nat} (hj : j < 80) : (wArr G).extract (j * 2) (j * 2 + 2) = #[.int .u64 (G (j * 2) : Int), .int .u64 (G (j * 2 + 1) : Int)] := by
  apply Array.ext_getElem?
  intro i
  rw [Array.getElem?_extract]
  have hs := wArr_size G
  match i with
  | 0 => rw [if_pos (by omega)]; rw [Nat.add_zero, wArr_get G (by omega)]; rfl
  | 1 => rw [if_pos (by omega)]; rw [wArr_get G (by omega)]; rfl
  | i + 2 => rw [if_neg (by omega)]; rfl
theorem partCol (G : Nat → Nat) {j : Nat} (hj : j < 80) (w : World) : (part 84 (wArr G) (j * 2)).run Tryz.prog w = .ok (colV (G (j * 2)) (G (j * 2 + 1))) w := by
  have h1 : (isAgg 84).run Tryz.prog w = .ok true w := by kernel_rfl
  have h2 : (sizeOf 84).run Tryz.prog w = .ok 2 w := by kernel_rfl
  unfold part
  simp only [Sem.run_bind, h1, Result.andThen_ok, if_true, h2, Sem.run_pure, wArr_two G hj]
def eqW (G H : Nat → Nat) (j : Nat) : Bool := (G (j * 2) : Int) == (H (j * 2) : Int) && (G (j * 2 + 1) : Int) == (H (j * 2 + 1) : Int)
def eqG (G H : Nat → Nat) : Bool := (List.range 80).all (eqW G H)
theorem eqItems59 (d : Nat) (G H : Nat → Nat) (w : World) : ∀ is : List Nat, (∀ j, j ∈ is → j < 80) → (Op.eqItems (d + 2) 84 2 (wArr G) (wArr H) is).run Tryz.prog w = .ok (is.all (eqW G H)) w
  | [], _ => by simp [Op.eqItems]
  | j :: is, h => by
    have ih := eqItems59 d G H w is fun k hk => h k (by simp [hk])
    have hj := h j (by simp)
    simp only [Op.eqItems, Sem.run_bind, partCol G hj, partCol H hj, Result.andThen_ok, eqColD, Sem.run_ite, Sem.run_pure, ih, List.all_cons]
    unfold eqW
    cases ((G (j * 2) : Int) == (H (j * 2) : Int) && (G (j * 2 + 1) : Int) == (H (j * 2 + 1) : Int)) <;> simp
theorem eqRows (G H : Nat → Nat) (w : World) : (Op.equalIn 10000 86 (.agg (wArr G)) (.agg (wArr H))).run Tryz.prog w = .ok (eqG G H) w := by
  have h : (Tryz.prog.info? 84).isSome = true := by kernel_rfl
  obtain ⟨i, hi⟩ := Option.isSome_iff_exists.1 h
  have c1 : Tryz.prog.cellsOf 84 = 2 := by kernel_rfl
  rw [run_equalIn_array w 9999 _ _ Tryz.underlying86 hi, c1]
  exact eqItems59 9997 G H w _ fun j hj => List.mem_range.1 hj
theorem hasB_zero {F : Nat → Bool} {G : Nat → Nat} (hf : RowsOK F G) : eqG G (fun _ => 0) = true ↔ ∀ x y, hasB F x y = false := by
  unfold eqG
  rw [List.all_eq_true]
  constructor
  · intro h x y
    by_cases hin : (-40 ≤ x ∧ x ≤ 39) ∧ (-40 ≤ y ∧ y ≤ 39)
    · have h1 := h (y + 40).toNat (List.mem_range.2 (by omega))
      unfold eqW at h1
      simp only [Bool.and_eq_true, beq_iff_eq] at h1
      have hb := hf.bits (y + 40).toNat (by omega) (x + 40).toNat (by omega)
      rw [show (((x + 40).toNat : Nat) : Int) - 40 = x by omega, show (((y + 40).toNat : Nat) : Int) - 40 = y by omega] at hb
      rw [← hb, show G ((y + 40).toNat * 2) = 0 by omega, show G ((y + 40).toNat * 2 + 1) = 0 by omega]
      simp [colB]
    · exact hasB_out hin
  · intro h j hj
    have hj := List.mem_range.1 hj
    have hz : ∀ c : Nat, c < 80 → colB (G (j * 2)) (G (j * 2 + 1)) c = false := fun c hc => by rw [hf.bits j hj c hc]; exact h _ _
    have e1 : G (j * 2) = 0 := by
      apply Nat.eq_of_testBit_eq
      intro c
      rw [Nat.zero_testBit]
      by_cases hc : c < 64
      · have := hz c (by omega)
        unfold colB at this
        rwa [if_pos hc] at this
      · exact tb0 (n := 64) (hf.word _) (by omega)
    have e2 : G (j * 2 + 1) = 0 := by
      apply Nat.eq_of_testBit_eq
      intro c
      rw [Nat.zero_testBit]
      by_cases hc : c < 16
      · have := hz (c + 64) (by omega)
        unfold colB at this
        rwa [if_neg (by omega), Nat.add_sub_cancel] at this
      · exact tb0 (n := 16) (hf.high j hj) (by omega)
    unfold eqW
    simp [e1, e2]
theorem canonL_zero (F : Nat → Bool) : (canonL F).length = 0 ↔ ∀ x y, hasB F x y = false := by
  constructor
  · intro h x y
    by_cases hin : (-40 ≤ x ∧ x ≤ 39) ∧ (-40 ≤ y ∧ y ≤ 39)
    · rw [hasB_in hin]
      have hc := cov_canonL_all F (cIx_lt hin.1.1 hin.1.2 hin.2.1 hin.2.2)
      rw [h] at hc
      rw [← hc]
      rfl
    · exact hasB_out hin
  · intro h
    rw [canonL_same (g := fun _ => false) (fun x y _ _ _ _ => by rw [h x y]; unfold hasB; rw [Bool.and_false]), canonL_none]
    rfl
theorem eqG_canon {F : Nat → Bool} {G : Nat → Nat} (hf : RowsOK F G) : eqG G (fun _ => 0) = decide ((canonL F).length = 0) := by
  rw [Bool.eq_iff_iff, decide_eq_true_eq, hasB_zero hf, canonL_zero]
end Go.Proofs.YtfbalpkjcfdakaaGreatDoor

namespace Go.Proofs.YtfbalpkjcfdakaaGreatDoor
open Go.RowKit Go.Shelf
set_option linter.unusedVariables false
set_option linter.unusedSimpArgs false
attribute [local go_sem] Oper.semAt_some

theorem okA_one (k : Nat) (A B C D : Nat → Int) : okA (fun _ => k) (fun _ => A) (fun _ => B) (fun _ => C) (fun _ => D) 1 = okR A B C D k := by rw [okA, okA, Bool.true_and]
/-- Two operands merged: the words, and what they are compared with none. -/
theorem merge_two {kind : Int} {op : Nat} (hM : MergeC kind op) (m : Option Addr) (n cap : Nat) (P Q R S : Nat → Int) (m' : Option Addr) (k cap' : Nat) (A B C D : Nat → Int) (b : Nat) (w : World) (hn : n ≤ 1048576) (hcap : n ≤ cap) (hk : k ≤ 1048576) (hcap' : k ≤ cap') (hD : EnvW w) (hR : RectsIs w.heap.size w m n P Q R S) (hR' : RectsIs w.heap.size w m' k A B C D) (hc : w.cell? ⟨b, 0, none⟩ = some (.slice m' k cap')) :
    Calls Tryz.prog 114 #[.int .i64 kind, .slice m n cap, .slice (some ⟨b, 0, none⟩) 1 1] w fun e w' => (∃ G, e = .returned (.tuple #[.agg (wArr G), .bool (okR P Q R S n && okR A B C D k)]) ∧ eqG G (fun _ => 0) = (if (okR P Q R S n && okR A B C D k) = true then decide ((canonL (opF op P Q R S n A B C D k)).length = 0) else true)) ∧ Below w.heap.size w w' := by
  refine (hM m n cap P Q R S (some ⟨b, 0, none⟩) 1 1 _ _ _ _ _ _ _ w hn hcap (by omega) hD hR (listsOne hc hk hcap' hR')).mono ?_
  rintro e w1 ⟨⟨G, rfl, hG⟩, bw1⟩
  refine ⟨⟨G, by rw [okA_one], ?_⟩, bw1⟩
  rw [eqG_canon hG, okA_one]
  split
  · rfl
  · rw [canonL_none]; rfl

/-- The whole chip as a region. -/
theorem full_has (y : Int) (hy : -40 ≤ y ∧ y ≤ 39) (x : Int) : hasB (fun _ => true) x y = (decide (-40 ≤ x) && decide (x ≤ 39)) := by
  by_cases hx : -40 ≤ x ∧ x ≤ 39
  · rw [hasB_in ⟨hx, hy⟩, decide_eq_true hx.1, decide_eq_true hx.2]; rfl
  · rw [hasB_out (fun h => hx h.1)]
    rw [eq_comm, Bool.and_eq_false_iff, decide_eq_false_iff_not, decide_eq_false_iff_not]
    omega
theorem full_runs (y : Int) (hy : -40 ≤ y ∧ y ≤ 39) : runsL (fun _ => true) y = [-40, 40] := by
  have hc : ∀ k : Nat, chg (fun _ => true) (-40 + (k : Int)) y = (decide (k = 0) || decide (k = 80)) := fun k => by
    unfold chg
    rw [full_has y hy, full_has y hy, Bool.eq_iff_iff]
    simp only [bne_iff_ne, ne_eq, Bool.or_eq_true, decide_eq_true_eq]
    rw [Bool.eq_iff_iff]
    simp only [Bool.and_eq_true, decide_eq_true_eq]
    omega
  have h1 : ∀ k : Nat, k < 80 → runsTo (fun _ => true) y (k + 1) = [-40] := fun k => by
    induction k with
    | zero => intro _; rw [runsTo, if_pos (by rw [hc]; rfl), runsTo]; rfl
    | succ k ih => intro hk; rw [runsTo, if_neg (by rw [hc]; simp; omega), ih (by omega)]
  unfold runsL
  rw [runsTo, if_pos (by rw [hc]; rfl), h1 79 (by omega)]
  rfl
theorem full_canon : canonL (fun _ => true) = [⟨-40, -40, 40, 40⟩] := by
  have hb : ∀ (n : Nat) (e : Int), -40 ≤ e → e ≤ 40 → 40 - e ≤ n → bandE (fun _ => true) (-40) n e = 40 := fun n => by
    induction n with
    | zero => intro e h1 h2 h3; rw [bandE]; omega
    | succ n ih =>
      intro e h1 h2 h3
      rw [bandE]
      by_cases h : e < 40
      · rw [if_pos ⟨h, by rw [full_runs e (by omega), full_runs (-40) (by omega)]⟩]
        exact ih (e + 1) (by omega) (by omega) (by omega)
      · rw [if_neg (fun h' => h h'.1)]; omega
  unfold canonL
  rw [canonF, if_pos (by omega), hb 80 (-40 + 1) (by omega) (by omega) (by omega), full_runs (-40) (by omega), canonF_end _ _ _ (by omega)]
  rfl
theorem chip_cov (i : Nat) (hi : i < 6400) : covF (fun _ => -40) (fun _ => -40) (fun _ => 40) (fun _ => 40) 1 i = true := by
  unfold covF
  rw [covB_t]
  exact ⟨0, by omega, by omega, by omega, by omega, by omega⟩
theorem chip_ok : okR (fun _ => -40) (fun _ => -40) (fun _ => 40) (fun _ => 40) 1 = true := by
  rw [okR_iff]
  refine ⟨fun i _ => by decide, ?_⟩
  rw [canonL_congr (g := fun _ => true) (fun k hk => chip_cov k hk), full_canon]
  rfl
theorem cm_mr (P Q R S : Nat → Int) (n : Nat) : mrL 4 (fun _ => -40) (fun _ => -40) (fun _ => 40) (fun _ => 40) 1 (fun _ => n) (fun _ => P) (fun _ => Q) (fun _ => R) (fun _ => S) 1 = cmL P Q R S n := by
  unfold mrL cmL
  rw [chip_ok, okA_one, Bool.true_and]
  cases okR P Q R S n with
  | false => rw [if_neg (by simp), if_neg (by simp)]
  | true =>
    rw [if_pos rfl, if_pos rfl]
    refine canonL_congr fun k hk => ?_
    simp only [mgA, opF]
    rw [chip_cov k hk]
    generalize covF P Q R S n k = b
    cases b <;> decide
end Go.Proofs.YtfbalpkjcfdakaaGreatDoor
