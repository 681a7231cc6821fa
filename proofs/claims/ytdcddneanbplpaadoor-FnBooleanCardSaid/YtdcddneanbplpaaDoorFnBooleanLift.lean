/- The laws' comparison of two lists. -/
import Derived.Test.YtdcddneanbplpaaDoorRgF
import Derived.Test.YtdcddneanbplpaaDoorSbA
import Derived.Test.YtdcddneanbplpaaDoorSbC
import Derived.Test.YtdcddneanbplpaaDoorRiO
import Derived.ChangeKeysEq
import Derived.Test.YtdcddneanbplpaaDoorSbH
import Derived.Test.YtdcddneanbplpaaDoorDrY
import Derived.Test.YtdcddneanbplpaaDoorSbM14
import Derived.Test.YtdcddneanbplpaaDoorSbM8
import Derived.Test.YtdcddneanbplpaaDoorDebTab
import Derived.Test.YtdcddneanbplpaaDoorSbM4
import Derived.Test.YtdcddneanbplpaaDoorSbM6
import Derived.ProofKit
import Derived.OpenShut
import Derived.ShutString
import Derived.ChangeOld
import Derived.Carry
import Derived.Below
import Derived.Lib.SmallJoins
import Derived.Lib.LaidU8
import Derived.Test.YtdcddneanbplpaaDoorFacts
import Derived.OpenVars
import Derived.LaidMore
import Derived.Stop.Joined
import Derived.SevenTiedAt
import Derived.Test.YtdcddneanbplpaaDoorTie
import Derived.Test.YtdcddneanbplpaaDoorCards
namespace Go.Proofs.YtdcddneanbplpaaDoor
open Go.RowKit
set_option linter.unusedVariables false
set_option linter.unusedSimpArgs false
attribute [local go_sem ↓] Go.wp_at_zero Go.wp_at_succ

set_option maxHeartbeats 8000000 in
set_option maxRecDepth 100000 in
theorem sameRects_any (m' : Option Addr) (n cap' : Nat) (A B C D : Nat → Int) (m : Option Addr) (len cap : Nat) (P Q R S : Nat → Int) (w : World) (hlen : len ≤ 1048576) (hl : n ≤ 1048576) (hA : RectsIs w.heap.size w m' n A B C D) (hR : RectsIs w.heap.size w m len P Q R S) :
    Calls Tryd.prog 48 #[.slice m' n cap', .slice m len cap] w fun e w' => e = .returned (.bool (decide (listR A B C D n = listR P Q R S len))) ∧ Below w.heap.size w w' := by
  have HA := Lib.hid hA
  have HR := Lib.hid hR
  clear hA hR
  by_cases hne : n = len
  · subst hne
    have e0 : ((n : Int) != (n : Int)) = false := by simp
    go_enter Tryd.func48, Tryd.ntmps48
    go_wp2_with fail
    go_loopw [5] (fun s wr => ∃ k : Nat, k ≤ n ∧ s = .int .i64 k ∧ Below w.heap.size w wr ∧ ∀ j, j < k → R4.mk (A j) (B j) (C j) (D j) = R4.mk (P j) (Q j) (R j) (S j)) (fun s _ => n - (intOf s).toNat)
    case atStart => exact ⟨0, by omega, rfl, Below.refl _ _, fun j hj => by omega⟩
    case round =>
      obtain ⟨k, hk, rfl, hW, heq⟩ := hrel
      have HQ := Lib.hid heq
      clear heq
      by_cases hlt : k < n
      · obtain ⟨b1, o1, rfl, hb1, c0, c1, c2, c3⟩ := HR.out k hlt
        obtain ⟨b2, o2, rfl, hb2, a0, a1, a2, a3⟩ := HA.out k hlt
        have q1 : (k : Int) < (n : Int) := by omega
        have q0 : (0 : Int) ≤ (k : Int) := by omega
        have x0 := keepC hW a0
        have x1 := keepC hW a1
        have x2 := keepC hW a2
        have x3 := keepC hW a3
        have y0 := keepC hW c0
        have y1 := keepC hW c1
        have y2 := keepC hW c2
        have y3 := keepC hW c3
        clear a0 a1 a2 a3 c0 c1 c2 c3
        have hcmp := fun W : World => eqRc (A k) (B k) (C k) (D k) (P k) (Q k) (R k) (S k) W
        cases hv : eqRB (A k) (B k) (C k) (D k) (P k) (Q k) (R k) (S k) with
        | true =>
          rw [hv] at hcmp
          have HV := Lib.hid hv
          clear hv
          go_wp2_with fail
          go_region_held3 (fun w' => Below wr.heap.size wr w' ∧ w'.cell? ⟨b2, o2 + k * 4, none⟩ = some (.int .i64 (A k)) ∧ w'.cell? ⟨b2, o2 + k * 4 + 1, none⟩ = some (.int .i64 (B k)) ∧ w'.cell? ⟨b2, o2 + k * 4 + 2, none⟩ = some (.int .i64 (C k)) ∧ w'.cell? ⟨b2, o2 + k * 4 + 3, none⟩ = some (.int .i64 (D k)) ∧ w'.cell? ⟨b1, o1 + k * 4, none⟩ = some (.int .i64 (P k)) ∧ w'.cell? ⟨b1, o1 + k * 4 + 1, none⟩ = some (.int .i64 (Q k)) ∧ w'.cell? ⟨b1, o1 + k * 4 + 2, none⟩ = some (.int .i64 (R k)) ∧ w'.cell? ⟨b1, o1 + k * 4 + 3, none⟩ = some (.int .i64 (S k)))
            (first | ((try dsimp only); go_split_ands; (repeat' (with_reducible refine And.intro ?_ ?_)) <;> first | ((repeat (with_reducible refine keepS ?_ (by simp; try omega) _)); (first | (with_reducible assumption) | (with_reducible exact keepC (by assumption) (by assumption)) | (with_reducible exact keepA (by assumption) _) | (with_reducible exact keepR (by assumption) (by omega) _))) | ((try simp only [World.size_alloc, World.size_setCell, World.size_drew]); omega) | (refine Mats.below hM ?_ hM.size; (repeat (first | (with_reducible exact Below.refl _ _) | (with_reducible refine Ext.drewN ?_ _) | (with_reducible refine Below.drew ?_) | (with_reducible refine Ext.alloc ?_ _) | (with_reducible refine Ext.setCell ?_ (by simp; try omega) _) | (with_reducible refine Ext.trans ?_ (by assumption)) | (with_reducible assumption) | exact Below.refl _ _)); done) | ((repeat (first | (with_reducible exact Below.refl _ _) | (with_reducible refine Ext.drewN ?_ _) | (with_reducible refine Below.drew ?_) | (with_reducible refine Ext.alloc ?_ _) | (with_reducible refine Ext.setCell ?_ (by simp; try omega) _) | (with_reducible refine Ext.trans ?_ (by assumption)) | (with_reducible assumption) | exact Below.refl _ _)); done) | (go_keep; done)))
            (fail)
          go_wp2_with fail
          go_roundw
          case rel => exact ⟨k + 1, by omega, by go_num, by (repeat (first | (with_reducible exact Below.refl _ _) | (with_reducible refine Ext.drewN ?_ _) | (with_reducible refine Below.drew ?_) | (with_reducible refine Ext.alloc ?_ _) | (with_reducible refine Ext.setCell ?_ (by simp; try omega) _) | (with_reducible refine Ext.trans ?_ (by assumption)) | (with_reducible assumption) | exact Below.refl _ _)), fun j hj => by
            by_cases e : j = k
            · subst e
              have hv := HV.out
              unfold eqRB at hv
              simp only [Bool.and_eq_true, beq_iff_eq] at hv
              exact R4.ext' hv.1 hv.2.1 hv.2.2.1 hv.2.2.2
            · exact HQ.out j (by omega)⟩
          case measure => simp [intOf]; omega
        | false =>
          rw [hv] at hcmp
          have hres : decide (listR A B C D n = listR P Q R S n) = false := decide_eq_false (fun e => by
            have h1 := listR_getD A B C D n k hlt
            rw [e, listR_getD P Q R S n k hlt] at h1
            injection h1 with e1 e2 e3 e4
            rw [e1, e2, e3, e4] at hv
            simp [eqRB] at hv)
          have HRES := Lib.hid hres
          clear hres hv
          go_wp2_with fail
          go_region_held3 (fun w' => Below wr.heap.size wr w' ∧ w'.cell? ⟨b2, o2 + k * 4, none⟩ = some (.int .i64 (A k)) ∧ w'.cell? ⟨b2, o2 + k * 4 + 1, none⟩ = some (.int .i64 (B k)) ∧ w'.cell? ⟨b2, o2 + k * 4 + 2, none⟩ = some (.int .i64 (C k)) ∧ w'.cell? ⟨b2, o2 + k * 4 + 3, none⟩ = some (.int .i64 (D k)) ∧ w'.cell? ⟨b1, o1 + k * 4, none⟩ = some (.int .i64 (P k)) ∧ w'.cell? ⟨b1, o1 + k * 4 + 1, none⟩ = some (.int .i64 (Q k)) ∧ w'.cell? ⟨b1, o1 + k * 4 + 2, none⟩ = some (.int .i64 (R k)) ∧ w'.cell? ⟨b1, o1 + k * 4 + 3, none⟩ = some (.int .i64 (S k)))
            (first | ((try dsimp only); go_split_ands; (repeat' (with_reducible refine And.intro ?_ ?_)) <;> first | ((repeat (with_reducible refine keepS ?_ (by simp; try omega) _)); (first | (with_reducible assumption) | (with_reducible exact keepC (by assumption) (by assumption)) | (with_reducible exact keepA (by assumption) _) | (with_reducible exact keepR (by assumption) (by omega) _))) | ((try simp only [World.size_alloc, World.size_setCell, World.size_drew]); omega) | (refine Mats.below hM ?_ hM.size; (repeat (first | (with_reducible exact Below.refl _ _) | (with_reducible refine Ext.drewN ?_ _) | (with_reducible refine Below.drew ?_) | (with_reducible refine Ext.alloc ?_ _) | (with_reducible refine Ext.setCell ?_ (by simp; try omega) _) | (with_reducible refine Ext.trans ?_ (by assumption)) | (with_reducible assumption) | exact Below.refl _ _)); done) | ((repeat (first | (with_reducible exact Below.refl _ _) | (with_reducible refine Ext.drewN ?_ _) | (with_reducible refine Below.drew ?_) | (with_reducible refine Ext.alloc ?_ _) | (with_reducible refine Ext.setCell ?_ (by simp; try omega) _) | (with_reducible refine Ext.trans ?_ (by assumption)) | (with_reducible assumption) | exact Below.refl _ _)); done) | (go_keep; done)))
            (fail)
          go_wp2_with fail
          go_ret
          exact ⟨ret_bool HRES.out.symm, by (repeat (first | (with_reducible exact Below.refl _ _) | (with_reducible refine Ext.drewN ?_ _) | (with_reducible refine Below.drew ?_) | (with_reducible refine Ext.alloc ?_ _) | (with_reducible refine Ext.setCell ?_ (by simp; try omega) _) | (with_reducible refine Ext.trans ?_ (by assumption)) | (with_reducible assumption) | exact Below.refl _ _))⟩
      · have q1 : ¬ (k : Int) < (n : Int) := by omega
        obtain rfl : k = n := by omega
        have hres : decide (listR A B C D k = listR P Q R S k) = true := decide_eq_true (ext_R4 (by rw [listR_len, listR_len]) (fun j hj => by
          rw [listR_len] at hj
          rw [listR_getD A B C D k j hj, listR_getD P Q R S k j hj]
          exact HQ.out j hj))
        have HRES := Lib.hid hres
        clear hres
        go_wp2_with fail
        go_ret
        exact ⟨ret_bool HRES.out.symm, hW⟩
  · have e0 : ((n : Int) != (len : Int)) = true := by simp; omega
    have hres : decide (listR A B C D n = listR P Q R S len) = false := decide_eq_false (fun e => hne (by
      have := congrArg List.length e
      rwa [listR_len, listR_len] at this))
    have HRES := Lib.hid hres
    clear hres
    go_enter Tryd.func48, Tryd.ntmps48
    go_wp2_with fail
    go_ret
    exact ⟨ret_bool HRES.out.symm, Below.refl _ _⟩
theorem lawBigB_any (a : Option Addr) (len cap : Nat) (w : World) : Calls Tryd.prog 41 #[.slice a len cap] w fun e w' => e = .returned (.bool (decide (4096 < len))) ∧ w = w' := by
  by_cases h : 4096 < len
  all_goals
    go_enter Tryd.func41, Tryd.ntmps41
    go_wp2
    go_ret
    exact ⟨ret_bool (by simp [h]; try omega), rfl⟩
/-- Two lists with the same cells. -/
theorem same_yes {l m : List R4} {f g : Nat → Bool} (hl : l = canonL f) (hm : m = canonL g) (h : ∀ k, f k = g k) : decide (listR (pA l) (pB l) (pC l) (pD l) l.length = listR (pA m) (pB m) (pC m) (pD m) m.length) = true := by
  rw [show f = g from funext h] at hl
  rw [hl, hm]
  exact decide_eq_true rfl
end Go.Proofs.YtdcddneanbplpaaDoor

/- The program's sets compared as a whole. No condition. -/
namespace Go.Proofs.YtdcddneanbplpaaDoor
open Go.RowKit
set_option linter.unusedVariables false
set_option linter.unusedSimpArgs false

theorem eqColD (d : Nat) (a b c e : Int) (w : World) : (Op.equalIn (d + 2) 87 (.agg #[.int .u64 a, .int .u64 b]) (.agg #[.int .u64 c, .int .u64 e])).run Tryd.prog w = .ok (a == c && b == e) w := by
  have h : (Tryd.prog.info? 85).isSome = true := by kernel_rfl
  obtain ⟨i, hi⟩ := Option.isSome_iff_exists.1 h
  have c1 : Tryd.prog.cellsOf 85 = 1 := by kernel_rfl
  rw [run_equalIn_array w (d + 1) _ _ Tryd.underlying87 hi, c1]
  have r2 : List.range 2 = [0, 1] := rfl
  rw [r2]
  have hq : ∀ (a b : Int) (w : World), (Op.equalIn (d + 1) 85 (.int .u64 a) (.int .u64 b)).run Tryd.prog w = .ok (a == b) w := fun a b w => run_equalIn_int w d _ _ .u64 a b Tryd.underlying85
  have hp : ∀ (x0 x1 : Int) (w : World), (part 85 #[.int .u64 x0, .int .u64 x1] (0 * 1)).run Tryd.prog w = .ok (.int .u64 x0) w ∧ (part 85 #[.int .u64 x0, .int .u64 x1] (1 * 1)).run Tryd.prog w = .ok (.int .u64 x1) w :=
    fun _ _ _ => ⟨by kernel_rfl, by kernel_rfl⟩
  simp only [Op.eqItems, Sem.run_bind, (hp _ _ _).1, (hp _ _ _).2, Result.andThen_ok, hq, Sem.run_ite, Sem.run_pure]
  cases h0 : a == c <;> cases h1 : b == e <;> simp
theorem wArr_two (G : Nat → Nat) {j : Nat} (hj : j < 80) : (wArr G).extract (j * 2) (j * 2 + 2) = #[.int .u64 (G (j * 2) : Int), .int .u64 (G (j * 2 + 1) : Int)] := by
  apply Array.ext_getElem?
  intro i
  rw [Array.getElem?_extract]
  have hs := wArr_size G
  match i with
  | 0 => rw [if_pos (by omega)]; rw [Nat.add_zero, wArr_get G (by omega)]; rfl
  | 1 => rw [if_pos (by omega)]; rw [wArr_get G (by omega)]; rfl
  | i + 2 => rw [if_neg (by omega)]; rfl
theorem partCol (G : Nat → Nat) {j : Nat} (hj : j < 80) (w : World) : (part 87 (wArr G) (j * 2)).run Tryd.prog w = .ok (colV (G (j * 2)) (G (j * 2 + 1))) w := by
  have h1 : (isAgg 87).run Tryd.prog w = .ok true w := by kernel_rfl
  have h2 : (sizeOf 87).run Tryd.prog w = .ok 2 w := by kernel_rfl
  unfold part
  simp only [Sem.run_bind, h1, Result.andThen_ok, if_true, h2, Sem.run_pure, wArr_two G hj]
def eqW (G H : Nat → Nat) (j : Nat) : Bool := (G (j * 2) : Int) == (H (j * 2) : Int) && (G (j * 2 + 1) : Int) == (H (j * 2 + 1) : Int)
def eqG (G H : Nat → Nat) : Bool := (List.range 80).all (eqW G H)
theorem eqItems59 (d : Nat) (G H : Nat → Nat) (w : World) : ∀ is : List Nat, (∀ j, j ∈ is → j < 80) → (Op.eqItems (d + 2) 87 2 (wArr G) (wArr H) is).run Tryd.prog w = .ok (is.all (eqW G H)) w
  | [], _ => by simp [Op.eqItems]
  | j :: is, h => by
    have ih := eqItems59 d G H w is fun k hk => h k (by simp [hk])
    have hj := h j (by simp)
    simp only [Op.eqItems, Sem.run_bind, partCol G hj, partCol H hj, Result.andThen_ok, eqColD, Sem.run_ite, Sem.run_pure, ih, List.all_cons]
    unfold eqW
    cases ((G (j * 2) : Int) == (H (j * 2) : Int) && (G (j * 2 + 1) : Int) == (H (j * 2 + 1) : Int)) <;> simp
theorem eqRows (G H : Nat → Nat) (w : World) : (Op.equalIn 10000 89 (.agg (wArr G)) (.agg (wArr H))).run Tryd.prog w = .ok (eqG G H) w := by
  have h : (Tryd.prog.info? 87).isSome = true := by kernel_rfl
  obtain ⟨i, hi⟩ := Option.isSome_iff_exists.1 h
  have c1 : Tryd.prog.cellsOf 87 = 2 := by kernel_rfl
  rw [run_equalIn_array w 9999 _ _ Tryd.underlying89 hi, c1]
  exact eqItems59 9997 G H w _ fun j hj => List.mem_range.1 hj
theorem hasB_zero {F : Nat → Bool} {G : Nat → Nat} (hf : RowsOK F G) : eqG G (fun _ => 0) = true ↔ ∀ x y, hasB F x y = false := by
  unfold eqG
  rw [List.all_eq_true]
  constructor
  · intro h x y
    by_cases hin : (-40 ≤ x ∧ x ≤ 39) ∧ (-40 ≤ y ∧ y ≤ 39)
    · have h1 := h (y + 40).toNat (List.mem_range.2 (by omega))
      unfold eqW at h1
      simp only [Bool.and_eq_true, beq_iff_eq] at h1
      have hb := hf.bits (y + 40).toNat (by omega) (x + 40).toNat (by omega)
      rw [show (((x + 40).toNat : Nat) : Int) - 40 = x by omega, show (((y + 40).toNat : Nat) : Int) - 40 = y by omega] at hb
      rw [← hb, show G ((y + 40).toNat * 2) = 0 by omega, show G ((y + 40).toNat * 2 + 1) = 0 by omega]
      simp [colB]
    · exact hasB_out hin
  · intro h j hj
    have hj := List.mem_range.1 hj
    have hz : ∀ c : Nat, c < 80 → colB (G (j * 2)) (G (j * 2 + 1)) c = false := fun c hc => by rw [hf.bits j hj c hc]; exact h _ _
    have e1 : G (j * 2) = 0 := by
      apply Nat.eq_of_testBit_eq
      intro c
      rw [Nat.zero_testBit]
      by_cases hc : c < 64
      · have := hz c (by omega)
        unfold colB at this
        rwa [if_pos hc] at this
      · exact tb0 (n := 64) (hf.word _) (by omega)
    have e2 : G (j * 2 + 1) = 0 := by
      apply Nat.eq_of_testBit_eq
      intro c
      rw [Nat.zero_testBit]
      by_cases hc : c < 16
      · have := hz (c + 64) (by omega)
        unfold colB at this
        rwa [if_neg (by omega), Nat.add_sub_cancel] at this
      · exact tb0 (n := 16) (hf.high j hj) (by omega)
    unfold eqW
    simp [e1, e2]
theorem canonL_zero (F : Nat → Bool) : (canonL F).length = 0 ↔ ∀ x y, hasB F x y = false := by
  constructor
  · intro h x y
    by_cases hin : (-40 ≤ x ∧ x ≤ 39) ∧ (-40 ≤ y ∧ y ≤ 39)
    · rw [hasB_in hin]
      have hc := cov_canonL_all F (cIx_lt hin.1.1 hin.1.2 hin.2.1 hin.2.2)
      rw [h] at hc
      rw [← hc]
      rfl
    · exact hasB_out hin
  · intro h
    rw [canonL_same (g := fun _ => false) (fun x y _ _ _ _ => by rw [h x y]; unfold hasB; rw [Bool.and_false]), canonL_none]
    rfl
theorem eqG_canon {F : Nat → Bool} {G : Nat → Nat} (hf : RowsOK F G) : eqG G (fun _ => 0) = decide ((canonL F).length = 0) := by
  rw [Bool.eq_iff_iff, decide_eq_true_eq, hasB_zero hf, canonL_zero]
end Go.Proofs.YtdcddneanbplpaaDoor

/- The program's Covers and Overlaps. Conditions: the elements' cells are in memory; the variables that regions read hold their tables. -/
namespace Go.Proofs.YtdcddneanbplpaaDoor
open Go.RowKit Go.Shelf
set_option linter.unusedVariables false
set_option linter.unusedSimpArgs false
attribute [local go_sem] Oper.semAt_some

theorem okA_one (k : Nat) (A B C D : Nat → Int) : okA (fun _ => k) (fun _ => A) (fun _ => B) (fun _ => C) (fun _ => D) 1 = okR A B C D k := by rw [okA, okA, Bool.true_and]
/-- Two operands merged: the words, and what they are compared with none. -/
theorem merge_two {kind : Int} {op : Nat} (hM : MergeC kind op) (m : Option Addr) (n cap : Nat) (P Q R S : Nat → Int) (m' : Option Addr) (k cap' : Nat) (A B C D : Nat → Int) (b : Nat) (w : World) (hn : n ≤ 1048576) (hcap : n ≤ cap) (hk : k ≤ 1048576) (hcap' : k ≤ cap') (hD : EnvW w) (hR : RectsIs w.heap.size w m n P Q R S) (hR' : RectsIs w.heap.size w m' k A B C D) (hc : w.cell? ⟨b, 0, none⟩ = some (.slice m' k cap')) :
    Calls Tryd.prog 85 #[.int .i64 kind, .slice m n cap, .slice (some ⟨b, 0, none⟩) 1 1] w fun e w' => (∃ G, e = .returned (.tuple #[.agg (wArr G), .bool (okR P Q R S n && okR A B C D k)]) ∧ eqG G (fun _ => 0) = (if (okR P Q R S n && okR A B C D k) = true then decide ((canonL (opF op P Q R S n A B C D k)).length = 0) else true)) ∧ Below w.heap.size w w' := by
  refine (hM m n cap P Q R S (some ⟨b, 0, none⟩) 1 1 _ _ _ _ _ _ _ w hn hcap (by omega) hD hR (listsOne hc hk hcap' hR')).mono ?_
  rintro e w1 ⟨⟨G, rfl, hG⟩, bw1⟩
  refine ⟨⟨G, by rw [okA_one], ?_⟩, bw1⟩
  rw [eqG_canon hG, okA_one]
  split
  · rfl
  · rw [canonL_none]; rfl

set_option maxRecDepth 100000 in
set_option maxHeartbeats 1000000 in
theorem implCovers_any (hM : MergeC 2 4) (m : Option Addr) (n cap : Nat) (P Q R S : Nat → Int) (m' : Option Addr) (k cap' : Nat) (A B C D : Nat → Int) (w : World) (hn : n ≤ 1048576) (hcap : n ≤ cap) (hk : k ≤ 1048576) (hcap' : k ≤ cap') (hD : EnvW w) (hR : RectsIs w.heap.size w m n P Q R S) (hR' : RectsIs w.heap.size w m' k A B C D) :
    Calls Tryd.prog 51 #[.slice m n cap, .slice m' k cap'] w fun e w' => e = .returned (.bool (cvB P Q R S n A B C D k)) ∧ Below w.heap.size w w' := by
  have hz := zero59
  have hv : cvB P Q R S n A B C D k = ((okR A B C D k && okR P Q R S n) && (if (okR A B C D k && okR P Q R S n) = true then decide ((canonL (opF 4 A B C D k P Q R S n)).length = 0) else true)) := by
    unfold cvB
    rw [Bool.and_comm (okR P Q R S n)]
    cases okR A B C D k && okR P Q R S n with
    | false => rfl
    | true => rw [if_pos rfl]; congr 1; rw [Bool.eq_iff_iff, beq_iff_eq, decide_eq_true_eq]; omega
  have HV := Lib.hid hv
  clear hv
  go_enter Tryd.func51, Tryd.ntmps51
  go_wp2_with fail
  obtain ⟨wS, hwS⟩ : ∃ wS, wS = w.alloc (.cells #[.slice m n cap] 38) := ⟨_, rfl⟩
  have bS : Below w.heap.size w wS := by rw [hwS]; (repeat (first | (with_reducible exact Below.refl _ _) | (with_reducible refine Ext.drewN ?_ _) | (with_reducible refine Below.drew ?_) | (with_reducible refine Ext.alloc ?_ _) | (with_reducible refine Ext.setCell ?_ (by simp; try omega) _) | (with_reducible refine Ext.trans ?_ (by assumption)) | (with_reducible assumption) | exact Below.refl _ _))
  have cS : wS.cell? ⟨w.heap.size, 0, none⟩ = some (.slice m n cap) := by rw [hwS]; simp [go_sem]
  rw [← hwS]
  clear hwS
  refine (merge_two hM m' k cap' A B C D m n cap P Q R S w.heap.size wS hk hcap' hn hcap (hD.ext bS) (hR'.ext bS) (hR.ext bS) cS).mono ?_
  rintro e w1 ⟨⟨G, rfl, hG⟩, bw1⟩
  have HG := Lib.hid hG
  clear hG
  obtain ⟨bo, hbo⟩ : ∃ bo, bo = (okR A B C D k && okR P Q R S n) := ⟨_, rfl⟩
  rw [← hbo] at HG HV ⊢
  clear hbo
  have r1 := RowsAt.new w1 (fun _ => 0)
  have st1 := store59 G r1
  have sz1 := wArr_size G
  have b1 : Below w1.heap.size w1 ((w1.alloc (.cells (wArr fun _ => 0) 89)).setRow w1.heap.size (wArr G)) := ((Below.refl _ _).alloc (Nat.le_refl _) _).trans (below_setRow _ _ (Nat.le_refl _))
  have r2 := r1.setRow G
  have ld := loadAt59 r2
  have ld2 := loadVar59 r2
  have hq := fun w => eqRows G (fun _ => 0) w
  have B2 := (Ext.trans bS bw1).trans (b1.mono (Ext.trans bS bw1).size)
  have H1 : Hid (bo = true → eqG G (fun _ => 0) = cvB P Q R S n A B C D k) := Lib.hid fun h => by rw [HV.out, HG.out, h]; rfl
  have H0 : Hid (bo = false → cvB P Q R S n A B C D k = false) := Lib.hid fun h => by rw [HV.out, h]; rfl
  clear HV HG
  cases bo with
  | false =>
    go_wp2_with fail
    exact bodyPost_ret (v := .bool false) (by simp [results, Tryd.results51, go_sem]) rfl ⟨by rw [H0.out (by first | rfl | trivial)], B2⟩
  | true =>
    go_wp2_with fail
    refine op_load59 rfl rfl r2 ?_
    go_wp2_with fail
    exact bodyPost_ret (v := .bool (eqG G fun _ => 0)) (by simp [results, Tryd.results51, go_sem]) rfl ⟨by rw [H1.out (by first | rfl | trivial)], B2⟩

set_option maxRecDepth 100000 in
set_option maxHeartbeats 1000000 in
theorem implOverlaps_any (hM : MergeC 1 8) (m : Option Addr) (n cap : Nat) (P Q R S : Nat → Int) (m' : Option Addr) (k cap' : Nat) (A B C D : Nat → Int) (w : World) (hn : n ≤ 1048576) (hcap : n ≤ cap) (hk : k ≤ 1048576) (hcap' : k ≤ cap') (hD : EnvW w) (hR : RectsIs w.heap.size w m n P Q R S) (hR' : RectsIs w.heap.size w m' k A B C D) :
    Calls Tryd.prog 52 #[.slice m n cap, .slice m' k cap'] w fun e w' => e = .returned (.bool (ovL P Q R S n A B C D k)) ∧ Below w.heap.size w w' := by
  have hz := zero59
  have hv : ovL P Q R S n A B C D k = !(if (okR P Q R S n && okR A B C D k) = true then decide ((canonL (opF 8 P Q R S n A B C D k)).length = 0) else true) := by
    unfold ovL
    cases okR P Q R S n && okR A B C D k with
    | false => rfl
    | true =>
      rw [if_pos rfl, Bool.true_and, Bool.eq_iff_iff, Bool.not_eq_true', decide_eq_true_eq, decide_eq_false_iff_not]
      omega
  go_enter Tryd.func52, Tryd.ntmps52
  go_wp2_with fail
  obtain ⟨wS, hwS⟩ : ∃ wS, wS = w.alloc (.cells #[.slice m' k cap'] 38) := ⟨_, rfl⟩
  have bS : Below w.heap.size w wS := by rw [hwS]; (repeat (first | (with_reducible exact Below.refl _ _) | (with_reducible refine Ext.drewN ?_ _) | (with_reducible refine Below.drew ?_) | (with_reducible refine Ext.alloc ?_ _) | (with_reducible refine Ext.setCell ?_ (by simp; try omega) _) | (with_reducible refine Ext.trans ?_ (by assumption)) | (with_reducible assumption) | exact Below.refl _ _))
  have cS : wS.cell? ⟨w.heap.size, 0, none⟩ = some (.slice m' k cap') := by rw [hwS]; simp [go_sem]
  rw [← hwS]
  clear hwS
  refine (merge_two hM m n cap P Q R S m' k cap' A B C D w.heap.size wS hn hcap hk hcap' (hD.ext bS) (hR.ext bS) (hR'.ext bS) cS).mono ?_
  rintro e w1 ⟨⟨G, rfl, hG⟩, bw1⟩
  rw [← hG] at hv
  have HV := Lib.hid hv
  clear hG hv
  obtain ⟨bo, hbo⟩ : ∃ bo, bo = (okR P Q R S n && okR A B C D k) := ⟨_, rfl⟩
  rw [← hbo]
  clear hbo
  have r1 := RowsAt.new w1 (fun _ => 0)
  have st1 := store59 G r1
  have sz1 := wArr_size G
  have b1 : Below w1.heap.size w1 ((w1.alloc (.cells (wArr fun _ => 0) 89)).setRow w1.heap.size (wArr G)) := ((Below.refl _ _).alloc (Nat.le_refl _) _).trans (below_setRow _ _ (Nat.le_refl _))
  have r2 := r1.setRow G
  have hq := fun w => eqRows G (fun _ => 0) w
  have B2 := (Ext.trans bS bw1).trans (b1.mono (Ext.trans bS bw1).size)
  go_upto_region 2 with fail
  refine wp_region_lit ?_
  unfold wpList
  rw [if_pos (by rfl)]
  refine .inl (op_load59 rfl rfl r2 ?_)
  go_wp2_with fail
  exact bodyPost_ret (v := .bool (!(eqG G fun _ => 0))) (by simp [results, Tryd.results52, go_sem]) rfl ⟨by rw [HV.out], B2⟩

/-- The whole chip as a region. -/
theorem full_has (y : Int) (hy : -40 ≤ y ∧ y ≤ 39) (x : Int) : hasB (fun _ => true) x y = (decide (-40 ≤ x) && decide (x ≤ 39)) := by
  by_cases hx : -40 ≤ x ∧ x ≤ 39
  · rw [hasB_in ⟨hx, hy⟩, decide_eq_true hx.1, decide_eq_true hx.2]; rfl
  · rw [hasB_out (fun h => hx h.1)]
    rw [eq_comm, Bool.and_eq_false_iff, decide_eq_false_iff_not, decide_eq_false_iff_not]
    omega
theorem full_runs (y : Int) (hy : -40 ≤ y ∧ y ≤ 39) : runsL (fun _ => true) y = [-40, 40] := by
  have hc : ∀ k : Nat, chg (fun _ => true) (-40 + (k : Int)) y = (decide (k = 0) || decide (k = 80)) := fun k => by
    unfold chg
    rw [full_has y hy, full_has y hy, Bool.eq_iff_iff]
    simp only [bne_iff_ne, ne_eq, Bool.or_eq_true, decide_eq_true_eq]
    rw [Bool.eq_iff_iff]
    simp only [Bool.and_eq_true, decide_eq_true_eq]
    omega
  have h1 : ∀ k : Nat, k < 80 → runsTo (fun _ => true) y (k + 1) = [-40] := fun k => by
    induction k with
    | zero => intro _; rw [runsTo, if_pos (by rw [hc]; rfl), runsTo]; rfl
    | succ k ih => intro hk; rw [runsTo, if_neg (by rw [hc]; simp; omega), ih (by omega)]
  unfold runsL
  rw [runsTo, if_pos (by rw [hc]; rfl), h1 79 (by omega)]
  rfl
theorem full_canon : canonL (fun _ => true) = [⟨-40, -40, 40, 40⟩] := by
  have hb : ∀ (n : Nat) (e : Int), -40 ≤ e → e ≤ 40 → 40 - e ≤ n → bandE (fun _ => true) (-40) n e = 40 := fun n => by
    induction n with
    | zero => intro e h1 h2 h3; rw [bandE]; omega
    | succ n ih =>
      intro e h1 h2 h3
      rw [bandE]
      by_cases h : e < 40
      · rw [if_pos ⟨h, by rw [full_runs e (by omega), full_runs (-40) (by omega)]⟩]
        exact ih (e + 1) (by omega) (by omega) (by omega)
      · rw [if_neg (fun h' => h h'.1)]; omega
  unfold canonL
  rw [canonF, if_pos (by omega), hb 80 (-40 + 1) (by omega) (by omega) (by omega), full_runs (-40) (by omega), canonF_end _ _ _ (by omega)]
  rfl
theorem chip_cov (i : Nat) (hi : i < 6400) : covF (fun _ => -40) (fun _ => -40) (fun _ => 40) (fun _ => 40) 1 i = true := by
  unfold covF
  rw [covB_t]
  exact ⟨0, by omega, by omega, by omega, by omega, by omega⟩
theorem chip_ok : okR (fun _ => -40) (fun _ => -40) (fun _ => 40) (fun _ => 40) 1 = true := by
  rw [okR_iff]
  refine ⟨fun i _ => by decide, ?_⟩
  rw [canonL_congr (g := fun _ => true) (fun k hk => chip_cov k hk), full_canon]
  rfl
theorem cm_mr (P Q R S : Nat → Int) (n : Nat) : mrL 4 (fun _ => -40) (fun _ => -40) (fun _ => 40) (fun _ => 40) 1 (fun _ => n) (fun _ => P) (fun _ => Q) (fun _ => R) (fun _ => S) 1 = cmL P Q R S n := by
  unfold mrL cmL
  rw [chip_ok, okA_one, Bool.true_and]
  cases okR P Q R S n with
  | false => rw [if_neg (by simp), if_neg (by simp)]
  | true =>
    rw [if_pos rfl, if_pos rfl]
    refine canonL_congr fun k hk => ?_
    simp only [mgA, opF]
    rw [chip_cov k hk]
    generalize covF P Q R S n k = b
    cases b <;> decide
set_option maxRecDepth 100000 in
set_option maxHeartbeats 1000000 in
theorem implComplementC_any (hM : MergeC 2 4) (m : Option Addr) (n cap : Nat) (P Q R S : Nat → Int) (w : World) (hn : n ≤ 1048576) (hcap : n ≤ cap) (hD : EnvW w) (hR : RectsIs w.heap.size w m n P Q R S) :
    Calls Tryd.prog 49 #[.slice m n cap] w fun e w' => LOwnC w.heap.size (cmL P Q R S n) e w' ∧ Below w.heap.size w w' := by
  rw [← cm_mr]
  obtain ⟨h0, h1, h2, h3⟩ := hD.chip
  go_enter Tryd.func49, Tryd.ntmps49
  go_wp2_with fail
  obtain ⟨wS, hwS⟩ : ∃ wS, wS = (w.alloc (.cells #[.int .i64 (-40), .int .i64 (-40), .int .i64 40, .int .i64 40] 25)).alloc (.cells #[.slice m n cap] 38) := ⟨_, rfl⟩
  have bS : Below w.heap.size w wS := by rw [hwS]; (repeat (first | (with_reducible exact Below.refl _ _) | (with_reducible refine Ext.drewN ?_ _) | (with_reducible refine Below.drew ?_) | (with_reducible refine Ext.alloc ?_ _) | (with_reducible refine Ext.setCell ?_ (by simp; try omega) _) | (with_reducible refine Ext.trans ?_ (by assumption)) | (with_reducible assumption) | exact Below.refl _ _))
  have sS : wS.heap.size = w.heap.size + 2 := by rw [hwS]; simp
  have cS : wS.cell? ⟨w.heap.size + 1, 0, none⟩ = some (.slice m n cap) := by rw [hwS]; simp [go_sem]
  have e0 : wS.cell? ⟨w.heap.size, 0, none⟩ = some (.int .i64 (-40)) := by rw [hwS]; simp [go_sem]
  have e1 : wS.cell? ⟨w.heap.size, 1, none⟩ = some (.int .i64 (-40)) := by rw [hwS]; simp [go_sem]
  have e2 : wS.cell? ⟨w.heap.size, 2, none⟩ = some (.int .i64 40) := by rw [hwS]; simp [go_sem]
  have e3 : wS.cell? ⟨w.heap.size, 3, none⟩ = some (.int .i64 40) := by rw [hwS]; simp [go_sem]
  have hC : RectsIs wS.heap.size wS (some ⟨w.heap.size, 0, none⟩) 1 (fun _ => -40) (fun _ => -40) (fun _ => 40) (fun _ => 40) := fun i hi => by
    obtain rfl : i = 0 := by omega
    exact ⟨w.heap.size, 0, rfl, by omega, e0, e1, e2, e3⟩
  rw [← hwS]
  clear hwS
  refine (mergedRegionC_any 2 4 hM (some ⟨w.heap.size, 0, none⟩) 1 1 (fun _ => -40) (fun _ => -40) (fun _ => 40) (fun _ => 40) (some ⟨w.heap.size + 1, 0, none⟩) 1 1 _ _ _ _ _ _ _ wS (by omega) (by omega) (by omega) (hD.ext bS) hC (listsOne cS hn hcap (hR.ext bS))).mono ?_
  rintro e w1 ⟨⟨a, c, rfl, hcc, ho⟩, bw1⟩
  have HO := Lib.hid ho
  clear ho
  go_wp2_with fail
  go_ret
  exact ⟨⟨a, c, rfl, hcc, HO.out.mono bS.size⟩, Ext.trans bS bw1⟩
theorem implComplement_any (hM : MergeC 2 4) (m : Option Addr) (n cap : Nat) (P Q R S : Nat → Int) (w : World) (hn : n ≤ 1048576) (hcap : n ≤ cap) (hD : EnvW w) (hR : RectsIs w.heap.size w m n P Q R S) :
    Calls Tryd.prog 49 #[.slice m n cap] w fun e w' => LOwn w.heap.size (cmL P Q R S n) e w' ∧ Below w.heap.size w w' :=
  (implComplementC_any hM m n cap P Q R S w hn hcap hD hR).mono fun _ _ h => ⟨h.1.weak, h.2⟩
end Go.Proofs.YtdcddneanbplpaaDoor

/- FnBoolean answers true. Conditions: the code's bytes are in memory; the variables that regions read hold their tables. -/
namespace Go.Proofs.YtdcddneanbplpaaDoor
open Go.RowKit
set_option linter.unusedVariables false
set_option linter.unusedSimpArgs false

theorem canon_of {l : List R4} (h : okR (pA l) (pB l) (pC l) (pD l) l.length = true) : l = canonL (covF (pA l) (pB l) (pC l) (pD l) l.length) := (listR_pA l).symm.trans (okR_list h)
theorem opL_eq (op : Nat) {l m : List R4} {f g : Nat → Bool} (hl : l = canonL f) (hm : m = canonL g) : opL op (pA l) (pB l) (pC l) (pD l) l.length (pA m) (pB m) (pC m) (pD m) m.length = canonL (fun k => tt op (f k) (g k)) := by
  subst hl hm; exact opL_canon op f g
theorem cmL_eq {l : List R4} {f : Nat → Bool} (hl : l = canonL f) : cmL (pA l) (pB l) (pC l) (pD l) l.length = canonL (fun k => !(f k)) := by
  subst hl; exact cmL_canon f
theorem canon_len {l : List R4} {f : Nat → Bool} (hl : l = canonL f) : l.length ≤ 3200 := by subst hl; exact canonL_len' f
theorem cvB_yes {l m : List R4} {f g : Nat → Bool} (hl : l = canonL f) (hm : m = canonL g) (h : ∀ k, tt 4 (g k) (f k) = false) : cvB (pA l) (pB l) (pC l) (pD l) l.length (pA m) (pB m) (pC m) (pD m) m.length = true := by
  subst hl hm
  unfold cvB
  rw [okR_canonL, okR_canonL, (canonL_none_iff _).2 fun k hk => by unfold opF; rw [cov_canonL_all f hk, cov_canonL_all g hk]; exact h k]
  rfl
theorem ovL_eq {l m z : List R4} {f g : Nat → Bool} (hl : l = canonL f) (hm : m = canonL g) (hz : z = canonL (fun k => tt 8 (f k) (g k))) : ovL (pA l) (pB l) (pC l) (pD l) l.length (pA m) (pB m) (pC m) (pD m) m.length = decide (0 < z.length) := by
  subst hl hm hz
  unfold ovL
  rw [okR_canonL, okR_canonL, show canonL (opF 8 (pA (canonL f)) (pB (canonL f)) (pC (canonL f)) (pD (canonL f)) (canonL f).length (pA (canonL g)) (pB (canonL g)) (pC (canonL g)) (pD (canonL g)) (canonL g).length) = canonL (fun k => tt 8 (f k) (g k)) from canonL_congr fun k hk => by unfold opF; rw [cov_canonL_all f hk, cov_canonL_all g hk]]
  rfl
set_option maxRecDepth 100000 in
set_option maxHeartbeats 4000000 in
theorem walkBoolean (a : Option Addr) (len cap : Nat) (w : World) (hlen : len ≤ maxLen) (hC : CodeIs w.heap.size w a len) (hD : EnvW w) :
    Calls Tryd.prog 12 #[.slice a len cap] w fun e w' => e = .returned (.bool true) ∧ Below w.heap.size w w' := by
  by_cases hbig : 4096 < len
  · have hb : decide (4096 < len) = true := decide_eq_true hbig
    go_enter Tryd.func12, Tryd.ntmps12
    go_wp2_with fail
    refine (lawBigB_any _ _ _ _).mono ?_
    rintro e w1 ⟨rfl, rfl⟩
    rw [hb]
    go_wp2_with fail
    go_ret
    exact ⟨rfl, Below.refl _ _⟩
  have hb : decide (4096 < len) = false := decide_eq_false hbig
  have HC := Lib.hid hC
  clear hC
  go_enter Tryd.func12, Tryd.ntmps12
  go_wp2_with fail
  refine (lawBigB_any _ _ _ _).mono ?_
  rintro e w1 ⟨rfl, rfl⟩
  rw [hb]
  go_wp2_with fail
  refine (drawUnion_any a len cap _ (by omega) HC.out).mono ?_
  rintro e w2 ⟨_, _, l1, l2, rfl, ⟨h1, c1, rfl, n1, i1⟩, ⟨h2, c2, rfl, n2, i2⟩, Bc⟩
  have I1 := Lib.hid i1
  have I2 := Lib.hid i2
  clear i1 i2 HC hbig hb
  go_wp2_with fail
  refine (specIsRegion_any (some ⟨h1, 0, none⟩) l1.length c1 (pA l1) (pB l1) (pC l1) (pD l1) _ (by omega) I1.out.rects).mono ?_
  rintro e w3 ⟨rfl, b3⟩
  have I1 := Lib.hid (I1.out.ext b3)
  have I2 := Lib.hid (I2.out.ext b3)
  have Bc := Ext.trans Bc b3
  clear b3
  cases hok1 : okR (pA l1) (pB l1) (pC l1) (pD l1) l1.length with
  | false =>
    go_wp2_with fail
    go_ret
    exact ⟨rfl, Bc⟩
  | true =>
  go_wp2_with fail
  refine (specIsRegion_any (some ⟨h2, 0, none⟩) l2.length c2 (pA l2) (pB l2) (pC l2) (pD l2) _ (by omega) I2.out.rects).mono ?_
  rintro e w4 ⟨rfl, b4⟩
  have I1 := Lib.hid (I1.out.ext b4)
  have I2 := Lib.hid (I2.out.ext b4)
  have Bc := Ext.trans Bc b4
  clear b4
  cases hok2 : okR (pA l2) (pB l2) (pC l2) (pD l2) l2.length with
  | false =>
    go_wp2_with fail
    go_ret
    exact ⟨rfl, Bc⟩
  | true =>
  have M14 : MergeC 0 14 := fun m n cap P Q R S mm k kc a' n' c' P' Q' R' S' w h1 h2 h3 h4 h5 h6 => merge14_any m n cap P Q R S mm k kc a' n' c' P' Q' R' S' w h1 h2 h3 h4 h5 h6
  have M8 : MergeC 1 8 := fun m n cap P Q R S mm k kc a' n' c' P' Q' R' S' w h1 h2 h3 h4 h5 h6 => merge8_any m n cap P Q R S mm k kc a' n' c' P' Q' R' S' w h1 h2 h3 h4 h5 h6
  have M4 : MergeC 2 4 := fun m n cap P Q R S mm k kc a' n' c' P' Q' R' S' w h1 h2 h3 h4 h5 h6 => merge4_any m n cap P Q R S mm k kc a' n' c' P' Q' R' S' w h1 h2 h3 h4 h5 h6
  have M6 : MergeC 3 6 := fun m n cap P Q R S mm k kc a' n' c' P' Q' R' S' w h1 h2 h3 h4 h5 h6 => merge6_any m n cap P Q R S mm k kc a' n' c' P' Q' R' S' w h1 h2 h3 h4 h5 h6
  obtain ⟨f1, hc1⟩ : ∃ f, l1 = canonL f := ⟨_, canon_of hok1⟩
  obtain ⟨f2, hc2⟩ : ∃ f, l2 = canonL f := ⟨_, canon_of hok2⟩
  obtain ⟨lU, hlU⟩ : ∃ l, l = opL 14 (pA l1) (pB l1) (pC l1) (pD l1) l1.length (pA l2) (pB l2) (pC l2) (pD l2) l2.length := ⟨_, rfl⟩
  have hcU := hlU.trans (opL_eq 14 hc1 hc2)
  have hnU := canon_len hcU
  obtain ⟨lJ, hlJ⟩ : ∃ l, l = opL 8 (pA l1) (pB l1) (pC l1) (pD l1) l1.length (pA l2) (pB l2) (pC l2) (pD l2) l2.length := ⟨_, rfl⟩
  have hcJ := hlJ.trans (opL_eq 8 hc1 hc2)
  have hnJ := canon_len hcJ
  obtain ⟨lX, hlX⟩ : ∃ l, l = opL 4 (pA l1) (pB l1) (pC l1) (pD l1) l1.length (pA l2) (pB l2) (pC l2) (pD l2) l2.length := ⟨_, rfl⟩
  have hcX := hlX.trans (opL_eq 4 hc1 hc2)
  have hnX := canon_len hcX
  obtain ⟨lY, hlY⟩ : ∃ l, l = opL 4 (pA l2) (pB l2) (pC l2) (pD l2) l2.length (pA l1) (pB l1) (pC l1) (pD l1) l1.length := ⟨_, rfl⟩
  have hcY := hlY.trans (opL_eq 4 hc2 hc1)
  have hnY := canon_len hcY
  obtain ⟨lCU, hlCU⟩ : ∃ l, l = cmL (pA lU) (pB lU) (pC lU) (pD lU) lU.length := ⟨_, rfl⟩
  have hcCU := hlCU.trans (cmL_eq hcU)
  have hnCU := canon_len hcCU
  obtain ⟨lCA, hlCA⟩ : ∃ l, l = cmL (pA l1) (pB l1) (pC l1) (pD l1) l1.length := ⟨_, rfl⟩
  have hcCA := hlCA.trans (cmL_eq hc1)
  have hnCA := canon_len hcCA
  obtain ⟨lCB, hlCB⟩ : ∃ l, l = cmL (pA l2) (pB l2) (pC l2) (pD l2) l2.length := ⟨_, rfl⟩
  have hcCB := hlCB.trans (cmL_eq hc2)
  have hnCB := canon_len hcCB
  obtain ⟨lMM, hlMM⟩ : ∃ l, l = opL 8 (pA lCA) (pB lCA) (pC lCA) (pD lCA) lCA.length (pA lCB) (pB lCB) (pC lCB) (pD lCB) lCB.length := ⟨_, rfl⟩
  have hcMM := hlMM.trans (opL_eq 8 hcCA hcCB)
  have hnMM := canon_len hcMM
  obtain ⟨lJX, hlJX⟩ : ∃ l, l = opL 14 (pA lJ) (pB lJ) (pC lJ) (pD lJ) lJ.length (pA lX) (pB lX) (pC lX) (pD lX) lX.length := ⟨_, rfl⟩
  have hcJX := hlJX.trans (opL_eq 14 hcJ hcX)
  have hnJX := canon_len hcJX
  obtain ⟨lXY, hlXY⟩ : ∃ l, l = opL 14 (pA lX) (pB lX) (pC lX) (pD lX) lX.length (pA lY) (pB lY) (pC lY) (pD lY) lY.length := ⟨_, rfl⟩
  have hcXY := hlXY.trans (opL_eq 14 hcX hcY)
  have hnXY := canon_len hcXY
  obtain ⟨lSD, hlSD⟩ : ∃ l, l = opL 6 (pA l1) (pB l1) (pC l1) (pD l1) l1.length (pA l2) (pB l2) (pC l2) (pD l2) l2.length := ⟨_, rfl⟩
  have hcSD := hlSD.trans (opL_eq 6 hc1 hc2)
  have hnSD := canon_len hcSD
  have Sa := Lib.hid (same_yes hcCU hcMM (fun k => by generalize f1 k = p; generalize f2 k = q; cases p <;> cases q <;> rfl))
  have Sb := Lib.hid (same_yes hcJX hc1 (fun k => by generalize f1 k = p; generalize f2 k = q; cases p <;> cases q <;> rfl))
  have Sc := Lib.hid (same_yes hcXY hcSD (fun k => by generalize f1 k = p; generalize f2 k = q; cases p <;> cases q <;> rfl))
  have Sd := Lib.hid (cvB_yes hcU hc1 (fun k => by generalize f1 k = p; generalize f2 k = q; cases p <;> cases q <;> rfl))
  have Se := Lib.hid (ovL_eq hc1 hc2 hcJ)
  have HLU := Lib.hid hlU
  have HLJ := Lib.hid hlJ
  have HLX := Lib.hid hlX
  have HLY := Lib.hid hlY
  have HLCU := Lib.hid hlCU
  have HLCA := Lib.hid hlCA
  have HLCB := Lib.hid hlCB
  have HLMM := Lib.hid hlMM
  have HLJX := Lib.hid hlJX
  have HLXY := Lib.hid hlXY
  have HLSD := Lib.hid hlSD
  clear hlU hcU hlJ hcJ hlX hcX hlY hcY hlCU hcCU hlCA hcCA hlCB hcCB hlMM hcMM hlJX hcJX hlXY hcXY hlSD hcSD hc1 hc2 hok1 hok2
  go_wp2_with fail
  refine (copyRects_any _ h1 c1 l1 _ (by omega) I1.out).mono ?_
  rintro e w3 ⟨h3, c3, rfl, k3, i3, b3⟩
  have i3 := Lib.hid i3
  have I1 := Lib.hid (I1.out.ext b3)
  have I2 := Lib.hid (I2.out.ext b3)
  have Bc := Ext.trans Bc b3
  clear b3
  have I3 := i3
  clear i3
  go_wp2_with fail
  refine (copyRects_any _ h2 c2 l2 _ (by omega) I2.out).mono ?_
  rintro e w4 ⟨h4, c4, rfl, k4, i4, b4⟩
  have i4 := Lib.hid i4
  have I1 := Lib.hid (I1.out.ext b4)
  have I2 := Lib.hid (I2.out.ext b4)
  have I3 := Lib.hid (I3.out.ext b4)
  have Bc := Ext.trans Bc b4
  clear b4
  have I4 := i4
  clear i4
  go_wp2_with fail
  refine (implUnionC_any M14 (some ⟨h3, 0, none⟩) l1.length c3 (pA l1) (pB l1) (pC l1) (pD l1) (some ⟨h4, 0, none⟩) l2.length c4 (pA l2) (pB l2) (pC l2) (pD l2) _ (by omega) k3 (by omega) k4 (hD.ext Bc) I3.out.rects I4.out.rects).mono ?_
  rintro e wU ⟨⟨aU, cU, rfl, kU, oU⟩, bU⟩
  rw [← HLU.out] at kU oU ⊢
  have oU := Lib.hid oU
  clear I3
  clear I4
  have I1 := Lib.hid (I1.out.ext bU)
  have I2 := Lib.hid (I2.out.ext bU)
  have Bc := Ext.trans Bc bU
  clear bU
  have OU := oU
  clear oU
  go_wp2_with fail
  refine (copyRects_any _ h1 c1 l1 _ (by omega) I1.out).mono ?_
  rintro e w5 ⟨h5, c5, rfl, k5, i5, b5⟩
  have i5 := Lib.hid i5
  have I1 := Lib.hid (I1.out.ext b5)
  have I2 := Lib.hid (I2.out.ext b5)
  have OU := Lib.hid (OU.out.below b5)
  have Bc := Ext.trans Bc b5
  clear b5
  have I5 := i5
  clear i5
  go_wp2_with fail
  refine (copyRects_any _ h2 c2 l2 _ (by omega) I2.out).mono ?_
  rintro e w6 ⟨h6, c6, rfl, k6, i6, b6⟩
  have i6 := Lib.hid i6
  have I1 := Lib.hid (I1.out.ext b6)
  have I2 := Lib.hid (I2.out.ext b6)
  have I5 := Lib.hid (I5.out.ext b6)
  have OU := Lib.hid (OU.out.below b6)
  have Bc := Ext.trans Bc b6
  clear b6
  have I6 := i6
  clear i6
  go_wp2_with fail
  refine (implIntersectionC_any M8 (some ⟨h5, 0, none⟩) l1.length c5 (pA l1) (pB l1) (pC l1) (pD l1) (some ⟨h6, 0, none⟩) l2.length c6 (pA l2) (pB l2) (pC l2) (pD l2) _ (by omega) k5 (by omega) k6 (hD.ext Bc) I5.out.rects I6.out.rects).mono ?_
  rintro e wJ ⟨⟨aJ, cJ, rfl, kJ, oJ⟩, bJ⟩
  rw [← HLJ.out] at kJ oJ ⊢
  have oJ := Lib.hid oJ
  clear I5
  clear I6
  have I1 := Lib.hid (I1.out.ext bJ)
  have I2 := Lib.hid (I2.out.ext bJ)
  have OU := Lib.hid (OU.out.below bJ)
  have Bc := Ext.trans Bc bJ
  clear bJ
  have OJ := oJ
  clear oJ
  go_wp2_with fail
  refine (copyRects_any _ h1 c1 l1 _ (by omega) I1.out).mono ?_
  rintro e w7 ⟨h7, c7, rfl, k7, i7, b7⟩
  have i7 := Lib.hid i7
  have I1 := Lib.hid (I1.out.ext b7)
  have I2 := Lib.hid (I2.out.ext b7)
  have OU := Lib.hid (OU.out.below b7)
  have OJ := Lib.hid (OJ.out.below b7)
  have Bc := Ext.trans Bc b7
  clear b7
  have I7 := i7
  clear i7
  go_wp2_with fail
  refine (copyRects_any _ h2 c2 l2 _ (by omega) I2.out).mono ?_
  rintro e w8 ⟨h8, c8, rfl, k8, i8, b8⟩
  have i8 := Lib.hid i8
  have I1 := Lib.hid (I1.out.ext b8)
  have I2 := Lib.hid (I2.out.ext b8)
  have I7 := Lib.hid (I7.out.ext b8)
  have OU := Lib.hid (OU.out.below b8)
  have OJ := Lib.hid (OJ.out.below b8)
  have Bc := Ext.trans Bc b8
  clear b8
  have I8 := i8
  clear i8
  go_wp2_with fail
  refine (implDifferenceC_any M4 (some ⟨h7, 0, none⟩) l1.length c7 (pA l1) (pB l1) (pC l1) (pD l1) (some ⟨h8, 0, none⟩) l2.length c8 (pA l2) (pB l2) (pC l2) (pD l2) _ (by omega) k7 (by omega) k8 (hD.ext Bc) I7.out.rects I8.out.rects).mono ?_
  rintro e wX ⟨⟨aX, cX, rfl, kX, oX⟩, bX⟩
  rw [← HLX.out] at kX oX ⊢
  have oX := Lib.hid oX
  clear I7
  clear I8
  have I1 := Lib.hid (I1.out.ext bX)
  have I2 := Lib.hid (I2.out.ext bX)
  have OU := Lib.hid (OU.out.below bX)
  have OJ := Lib.hid (OJ.out.below bX)
  have Bc := Ext.trans Bc bX
  clear bX
  have OX := oX
  clear oX
  go_wp2_with fail
  refine (copyRects_any _ h2 c2 l2 _ (by omega) I2.out).mono ?_
  rintro e w9 ⟨h9, c9, rfl, k9, i9, b9⟩
  have i9 := Lib.hid i9
  have I1 := Lib.hid (I1.out.ext b9)
  have I2 := Lib.hid (I2.out.ext b9)
  have OU := Lib.hid (OU.out.below b9)
  have OJ := Lib.hid (OJ.out.below b9)
  have OX := Lib.hid (OX.out.below b9)
  have Bc := Ext.trans Bc b9
  clear b9
  have I9 := i9
  clear i9
  go_wp2_with fail
  refine (copyRects_any _ h1 c1 l1 _ (by omega) I1.out).mono ?_
  rintro e w10 ⟨h10, c10, rfl, k10, i10, b10⟩
  have i10 := Lib.hid i10
  have I1 := Lib.hid (I1.out.ext b10)
  have I2 := Lib.hid (I2.out.ext b10)
  have I9 := Lib.hid (I9.out.ext b10)
  have OU := Lib.hid (OU.out.below b10)
  have OJ := Lib.hid (OJ.out.below b10)
  have OX := Lib.hid (OX.out.below b10)
  have Bc := Ext.trans Bc b10
  clear b10
  have I10 := i10
  clear i10
  go_wp2_with fail
  refine (implDifferenceC_any M4 (some ⟨h9, 0, none⟩) l2.length c9 (pA l2) (pB l2) (pC l2) (pD l2) (some ⟨h10, 0, none⟩) l1.length c10 (pA l1) (pB l1) (pC l1) (pD l1) _ (by omega) k9 (by omega) k10 (hD.ext Bc) I9.out.rects I10.out.rects).mono ?_
  rintro e wY ⟨⟨aY, cY, rfl, kY, oY⟩, bY⟩
  rw [← HLY.out] at kY oY ⊢
  have oY := Lib.hid oY
  clear I9
  clear I10
  have I1 := Lib.hid (I1.out.ext bY)
  have I2 := Lib.hid (I2.out.ext bY)
  have OU := Lib.hid (OU.out.below bY)
  have OJ := Lib.hid (OJ.out.below bY)
  have OX := Lib.hid (OX.out.below bY)
  have Bc := Ext.trans Bc bY
  clear bY
  have OY := oY
  clear oY
  go_wp2_with fail
  refine (implComplementC_any M4 aU lU.length cU (pA lU) (pB lU) (pC lU) (pD lU) _ (by omega) kU (hD.ext Bc) OU.out.rects).mono ?_
  rintro e wCU ⟨⟨aCU, cCU, rfl, kCU, oCU⟩, bCU⟩
  rw [← HLCU.out] at kCU oCU ⊢
  have oCU := Lib.hid oCU
  have I1 := Lib.hid (I1.out.ext bCU)
  have I2 := Lib.hid (I2.out.ext bCU)
  have OU := Lib.hid (OU.out.below bCU)
  have OJ := Lib.hid (OJ.out.below bCU)
  have OX := Lib.hid (OX.out.below bCU)
  have OY := Lib.hid (OY.out.below bCU)
  have Bc := Ext.trans Bc bCU
  clear bCU
  have OCU := oCU
  clear oCU
  go_wp2_with fail
  refine (copyRects_any _ h1 c1 l1 _ (by omega) I1.out).mono ?_
  rintro e w11 ⟨h11, c11, rfl, k11, i11, b11⟩
  have i11 := Lib.hid i11
  have I1 := Lib.hid (I1.out.ext b11)
  have I2 := Lib.hid (I2.out.ext b11)
  have OU := Lib.hid (OU.out.below b11)
  have OJ := Lib.hid (OJ.out.below b11)
  have OX := Lib.hid (OX.out.below b11)
  have OY := Lib.hid (OY.out.below b11)
  have OCU := Lib.hid (OCU.out.below b11)
  have Bc := Ext.trans Bc b11
  clear b11
  have I11 := i11
  clear i11
  go_wp2_with fail
  refine (implComplementC_any M4 (some ⟨h11, 0, none⟩) l1.length c11 (pA l1) (pB l1) (pC l1) (pD l1) _ (by omega) k11 (hD.ext Bc) I11.out.rects).mono ?_
  rintro e wCA ⟨⟨aCA, cCA, rfl, kCA, oCA⟩, bCA⟩
  rw [← HLCA.out] at kCA oCA ⊢
  have oCA := Lib.hid oCA
  clear I11
  have I1 := Lib.hid (I1.out.ext bCA)
  have I2 := Lib.hid (I2.out.ext bCA)
  have OU := Lib.hid (OU.out.below bCA)
  have OJ := Lib.hid (OJ.out.below bCA)
  have OX := Lib.hid (OX.out.below bCA)
  have OY := Lib.hid (OY.out.below bCA)
  have OCU := Lib.hid (OCU.out.below bCA)
  have Bc := Ext.trans Bc bCA
  clear bCA
  have OCA := oCA
  clear oCA
  go_wp2_with fail
  refine (copyRects_any _ h2 c2 l2 _ (by omega) I2.out).mono ?_
  rintro e w12 ⟨h12, c12, rfl, k12, i12, b12⟩
  have i12 := Lib.hid i12
  have I1 := Lib.hid (I1.out.ext b12)
  have I2 := Lib.hid (I2.out.ext b12)
  have OU := Lib.hid (OU.out.below b12)
  have OJ := Lib.hid (OJ.out.below b12)
  have OX := Lib.hid (OX.out.below b12)
  have OY := Lib.hid (OY.out.below b12)
  have OCU := Lib.hid (OCU.out.below b12)
  have OCA := Lib.hid (OCA.out.below b12)
  have Bc := Ext.trans Bc b12
  clear b12
  have I12 := i12
  clear i12
  go_wp2_with fail
  refine (implComplementC_any M4 (some ⟨h12, 0, none⟩) l2.length c12 (pA l2) (pB l2) (pC l2) (pD l2) _ (by omega) k12 (hD.ext Bc) I12.out.rects).mono ?_
  rintro e wCB ⟨⟨aCB, cCB, rfl, kCB, oCB⟩, bCB⟩
  rw [← HLCB.out] at kCB oCB ⊢
  have oCB := Lib.hid oCB
  clear I12
  have I1 := Lib.hid (I1.out.ext bCB)
  have I2 := Lib.hid (I2.out.ext bCB)
  have OU := Lib.hid (OU.out.below bCB)
  have OJ := Lib.hid (OJ.out.below bCB)
  have OX := Lib.hid (OX.out.below bCB)
  have OY := Lib.hid (OY.out.below bCB)
  have OCU := Lib.hid (OCU.out.below bCB)
  have OCA := Lib.hid (OCA.out.below bCB)
  have Bc := Ext.trans Bc bCB
  clear bCB
  have OCB := oCB
  clear oCB
  go_wp2_with fail
  refine (implIntersectionC_any M8 aCA lCA.length cCA (pA lCA) (pB lCA) (pC lCA) (pD lCA) aCB lCB.length cCB (pA lCB) (pB lCB) (pC lCB) (pD lCB) _ (by omega) kCA (by omega) kCB (hD.ext Bc) OCA.out.rects OCB.out.rects).mono ?_
  rintro e wMM ⟨⟨aMM, cMM, rfl, kMM, oMM⟩, bMM⟩
  rw [← HLMM.out] at kMM oMM ⊢
  have oMM := Lib.hid oMM
  clear OCA
  clear OCB
  have I1 := Lib.hid (I1.out.ext bMM)
  have I2 := Lib.hid (I2.out.ext bMM)
  have OU := Lib.hid (OU.out.below bMM)
  have OJ := Lib.hid (OJ.out.below bMM)
  have OX := Lib.hid (OX.out.below bMM)
  have OY := Lib.hid (OY.out.below bMM)
  have OCU := Lib.hid (OCU.out.below bMM)
  have Bc := Ext.trans Bc bMM
  clear bMM
  have OMM := oMM
  clear oMM
  go_wp2_with fail
  refine (sameRects_any aCU lCU.length cCU (pA lCU) (pB lCU) (pC lCU) (pD lCU) aMM lMM.length cMM (pA lMM) (pB lMM) (pC lMM) (pD lMM) _ (by omega) (by omega) OCU.out.rects OMM.out.rects).mono ?_
  rintro e va ⟨rfl, ba⟩
  rw [Sa.out]
  clear OCU
  clear OMM
  have I1 := Lib.hid (I1.out.ext ba)
  have I2 := Lib.hid (I2.out.ext ba)
  have OU := Lib.hid (OU.out.below ba)
  have OJ := Lib.hid (OJ.out.below ba)
  have OX := Lib.hid (OX.out.below ba)
  have OY := Lib.hid (OY.out.below ba)
  have Bc := Ext.trans Bc ba
  clear ba
  go_wp2_with fail
  refine (implUnionC_any M14 aJ lJ.length cJ (pA lJ) (pB lJ) (pC lJ) (pD lJ) aX lX.length cX (pA lX) (pB lX) (pC lX) (pD lX) _ (by omega) kJ (by omega) kX (hD.ext Bc) OJ.out.rects OX.out.rects).mono ?_
  rintro e wJX ⟨⟨aJX, cJX, rfl, kJX, oJX⟩, bJX⟩
  rw [← HLJX.out] at kJX oJX ⊢
  have oJX := Lib.hid oJX
  have I1 := Lib.hid (I1.out.ext bJX)
  have I2 := Lib.hid (I2.out.ext bJX)
  have OU := Lib.hid (OU.out.below bJX)
  have OJ := Lib.hid (OJ.out.below bJX)
  have OX := Lib.hid (OX.out.below bJX)
  have OY := Lib.hid (OY.out.below bJX)
  have Bc := Ext.trans Bc bJX
  clear bJX
  have OJX := oJX
  clear oJX
  go_wp2_with fail
  refine (sameRects_any aJX lJX.length cJX (pA lJX) (pB lJX) (pC lJX) (pD lJX) (some ⟨h1, 0, none⟩) l1.length c1 (pA l1) (pB l1) (pC l1) (pD l1) _ (by omega) (by omega) OJX.out.rects I1.out.rects).mono ?_
  rintro e vb ⟨rfl, bb⟩
  rw [Sb.out]
  clear OJX
  have I1 := Lib.hid (I1.out.ext bb)
  have I2 := Lib.hid (I2.out.ext bb)
  have OU := Lib.hid (OU.out.below bb)
  have OJ := Lib.hid (OJ.out.below bb)
  have OX := Lib.hid (OX.out.below bb)
  have OY := Lib.hid (OY.out.below bb)
  have Bc := Ext.trans Bc bb
  clear bb
  go_wp2_with fail
  refine (implUnionC_any M14 aX lX.length cX (pA lX) (pB lX) (pC lX) (pD lX) aY lY.length cY (pA lY) (pB lY) (pC lY) (pD lY) _ (by omega) kX (by omega) kY (hD.ext Bc) OX.out.rects OY.out.rects).mono ?_
  rintro e wXY ⟨⟨aXY, cXY, rfl, kXY, oXY⟩, bXY⟩
  rw [← HLXY.out] at kXY oXY ⊢
  have oXY := Lib.hid oXY
  clear OX
  clear OY
  have I1 := Lib.hid (I1.out.ext bXY)
  have I2 := Lib.hid (I2.out.ext bXY)
  have OU := Lib.hid (OU.out.below bXY)
  have OJ := Lib.hid (OJ.out.below bXY)
  have Bc := Ext.trans Bc bXY
  clear bXY
  have OXY := oXY
  clear oXY
  go_wp2_with fail
  refine (copyRects_any _ h1 c1 l1 _ (by omega) I1.out).mono ?_
  rintro e w13 ⟨h13, c13, rfl, k13, i13, b13⟩
  have i13 := Lib.hid i13
  have I1 := Lib.hid (I1.out.ext b13)
  have I2 := Lib.hid (I2.out.ext b13)
  have OU := Lib.hid (OU.out.below b13)
  have OJ := Lib.hid (OJ.out.below b13)
  have OXY := Lib.hid (OXY.out.below b13)
  have Bc := Ext.trans Bc b13
  clear b13
  have I13 := i13
  clear i13
  go_wp2_with fail
  refine (copyRects_any _ h2 c2 l2 _ (by omega) I2.out).mono ?_
  rintro e w14 ⟨h14, c14, rfl, k14, i14, b14⟩
  have i14 := Lib.hid i14
  have I1 := Lib.hid (I1.out.ext b14)
  have I2 := Lib.hid (I2.out.ext b14)
  have I13 := Lib.hid (I13.out.ext b14)
  have OU := Lib.hid (OU.out.below b14)
  have OJ := Lib.hid (OJ.out.below b14)
  have OXY := Lib.hid (OXY.out.below b14)
  have Bc := Ext.trans Bc b14
  clear b14
  have I14 := i14
  clear i14
  go_wp2_with fail
  refine (implSymmetricDifferenceC_any M6 (some ⟨h13, 0, none⟩) l1.length c13 (pA l1) (pB l1) (pC l1) (pD l1) (some ⟨h14, 0, none⟩) l2.length c14 (pA l2) (pB l2) (pC l2) (pD l2) _ (by omega) k13 (by omega) k14 (hD.ext Bc) I13.out.rects I14.out.rects).mono ?_
  rintro e wSD ⟨⟨aSD, cSD, rfl, kSD, oSD⟩, bSD⟩
  rw [← HLSD.out] at kSD oSD ⊢
  have oSD := Lib.hid oSD
  clear I13
  clear I14
  have I1 := Lib.hid (I1.out.ext bSD)
  have I2 := Lib.hid (I2.out.ext bSD)
  have OU := Lib.hid (OU.out.below bSD)
  have OJ := Lib.hid (OJ.out.below bSD)
  have OXY := Lib.hid (OXY.out.below bSD)
  have Bc := Ext.trans Bc bSD
  clear bSD
  have OSD := oSD
  clear oSD
  go_wp2_with fail
  refine (sameRects_any aXY lXY.length cXY (pA lXY) (pB lXY) (pC lXY) (pD lXY) aSD lSD.length cSD (pA lSD) (pB lSD) (pC lSD) (pD lSD) _ (by omega) (by omega) OXY.out.rects OSD.out.rects).mono ?_
  rintro e vc ⟨rfl, bc⟩
  rw [Sc.out]
  clear OXY
  clear OSD
  have I1 := Lib.hid (I1.out.ext bc)
  have I2 := Lib.hid (I2.out.ext bc)
  have OU := Lib.hid (OU.out.below bc)
  have OJ := Lib.hid (OJ.out.below bc)
  have Bc := Ext.trans Bc bc
  clear bc
  go_wp2_with fail
  refine (copyRects_any _ h1 c1 l1 _ (by omega) I1.out).mono ?_
  rintro e w15 ⟨h15, c15, rfl, k15, i15, b15⟩
  have i15 := Lib.hid i15
  have I1 := Lib.hid (I1.out.ext b15)
  have I2 := Lib.hid (I2.out.ext b15)
  have OU := Lib.hid (OU.out.below b15)
  have OJ := Lib.hid (OJ.out.below b15)
  have Bc := Ext.trans Bc b15
  clear b15
  have I15 := i15
  clear i15
  go_wp2_with fail
  refine (implCovers_any M4 aU lU.length cU (pA lU) (pB lU) (pC lU) (pD lU) (some ⟨h15, 0, none⟩) l1.length c15 (pA l1) (pB l1) (pC l1) (pD l1) _ (by omega) kU (by omega) k15 (hD.ext Bc) OU.out.rects I15.out.rects).mono ?_
  rintro e vd ⟨rfl, bd⟩
  rw [Sd.out]
  clear I15
  have I1 := Lib.hid (I1.out.ext bd)
  have I2 := Lib.hid (I2.out.ext bd)
  have OU := Lib.hid (OU.out.below bd)
  have OJ := Lib.hid (OJ.out.below bd)
  have Bc := Ext.trans Bc bd
  clear bd
  go_wp2_with fail
  refine (copyRects_any _ h1 c1 l1 _ (by omega) I1.out).mono ?_
  rintro e w16 ⟨h16, c16, rfl, k16, i16, b16⟩
  have i16 := Lib.hid i16
  have I1 := Lib.hid (I1.out.ext b16)
  have I2 := Lib.hid (I2.out.ext b16)
  have OU := Lib.hid (OU.out.below b16)
  have OJ := Lib.hid (OJ.out.below b16)
  have Bc := Ext.trans Bc b16
  clear b16
  have I16 := i16
  clear i16
  go_wp2_with fail
  refine (copyRects_any _ h2 c2 l2 _ (by omega) I2.out).mono ?_
  rintro e w17 ⟨h17, c17, rfl, k17, i17, b17⟩
  have i17 := Lib.hid i17
  have I1 := Lib.hid (I1.out.ext b17)
  have I2 := Lib.hid (I2.out.ext b17)
  have I16 := Lib.hid (I16.out.ext b17)
  have OU := Lib.hid (OU.out.below b17)
  have OJ := Lib.hid (OJ.out.below b17)
  have Bc := Ext.trans Bc b17
  clear b17
  have I17 := i17
  clear i17
  go_wp2_with fail
  refine (implOverlaps_any M8 (some ⟨h16, 0, none⟩) l1.length c16 (pA l1) (pB l1) (pC l1) (pD l1) (some ⟨h17, 0, none⟩) l2.length c17 (pA l2) (pB l2) (pC l2) (pD l2) _ (by omega) k16 (by omega) k17 (hD.ext Bc) I16.out.rects I17.out.rects).mono ?_
  rintro e ve ⟨rfl, be⟩
  rw [Se.out]
  clear I16
  clear I17
  have I1 := Lib.hid (I1.out.ext be)
  have I2 := Lib.hid (I2.out.ext be)
  have OU := Lib.hid (OU.out.below be)
  have OJ := Lib.hid (OJ.out.below be)
  have Bc := Ext.trans Bc be
  clear be
  go_wp2_with fail
  refine (specUnion_all (some ⟨h1, 0, none⟩) l1.length c1 (pA l1) (pB l1) (pC l1) (pD l1) (some ⟨h2, 0, none⟩) l2.length c2 (pA l2) (pB l2) (pC l2) (pD l2) _ (by omega) (by omega) I1.out.rects I2.out.rects).mono ?_
  rintro e ws ⟨⟨aq, cq, rfl, oq⟩, bs⟩
  rw [← HLU.out] at oq ⊢
  have oq := Lib.hid oq
  have I1 := Lib.hid (I1.out.ext bs)
  have I2 := Lib.hid (I2.out.ext bs)
  have OU := Lib.hid (OU.out.below bs)
  have OJ := Lib.hid (OJ.out.below bs)
  have Bc := Ext.trans Bc bs
  clear bs
  go_wp2_with fail
  refine (sameRects_any aU lU.length cU (pA lU) (pB lU) (pC lU) (pD lU) aq lU.length cq (pA lU) (pB lU) (pC lU) (pD lU) _ (by omega) (by omega) OU.out.rects oq.out).mono ?_
  rintro e vf ⟨rfl, bf⟩
  rw [decide_eq_true (Eq.refl (listR (pA lU) (pB lU) (pC lU) (pD lU) lU.length))]
  have Bc := Ext.trans Bc bf
  go_wp2_with fail
  go_ret
  exact ⟨rfl, Bc⟩
end Go.Proofs.YtdcddneanbplpaaDoor

/- For every input the law FnBoolean answers true and leaves its arguments as they were. Condition: the listed package-level variables hold what the program's text lays (the card ties them). -/
namespace Go.Proofs.YtdcddneanbplpaaDoor.fnBoolean
open Go.Proofs.YtdcddneanbplpaaDoor
open Go.ChangeShapes Go.WideShapes Go.ChangeAt Go.RowKit Go.Joins
open Go.ChangeMaps (open_string shut_string)
set_option linter.unusedVariables false

theorem addN0 (x : Addr) : x.add 0 = x := by simp [Addr.add]
theorem addNk (b o k : Nat) : (⟨b, o, none⟩ : Addr).add k = ⟨b, o + k, none⟩ := by
  unfold Addr.add
  split
  · rename_i h; subst h; rfl
  · rfl
theorem own : ownKnob Tryd.prog.godebug = none := by kernel_rfl
theorem laidOut : laidOutB Tryd.prog = true := by kernel_rfl

abbrev laid := Rows.fnBooleanRow.laid
set_option maxRecDepth 100000 in
theorem lifted (os : Os) (started : os.Started) (H : Type) (enc : TypeId × Value → H) :
    ReturnsInHanded {} Tryd.checked os 12 .any (fun w args => (Rows.fnBooleanSpec.pre enc Tryd.prog Tryd.f12 Rows.fnBooleanRow.domain false w args ∧ laidMetH Tryd.prog Rows.fnBooleanRow.laid w) ∧ sizedMet enc Tryd.prog Tryd.f12 (OpenSpec.ofChange Rows.fnBooleanSpec) false w args)
      (Rows.fnBooleanSpec.post enc Tryd.prog Tryd.f12 false true false false) := by
  refine returnsInHanded_of_change_and (C := Tryd.checked) (X := fun w _ => laidMetH Tryd.prog Rows.fnBooleanRow.laid w) (fun _ _ _ hh h => h.of_heap hh) own started (by kernel_rfl) Tryd.func12
    (ChangeSpec.witness_shaped (enc := enc) (C := Tryd.checked) (os := os) (X := fun w _ => laidMetH Tryd.prog Rows.fnBooleanRow.laid w) false (World.laidAll Tryd.prog os Rows.fnBooleanRow.laid) #[.slice none 0 0] 8 (World.laidAll_os _ _ _)
      (World.shaped_of_ZipB (by kernel_rfl) (by kernel_rfl)) (by kernel_rfl) (by kernel_rfl) (by kernel_rfl)
      (by rw [MakeChecks.laidMetH_plain _ _ _ (by kernel_rfl)]; exact laidMet_laidAll _ (by kernel_rfl) (by kernel_rfl))) ?_
  intro W base args ds gs before hval0 hW hcnd _ hL _
  have hval : ∀ (j : Nat) t v, Tryd.f12.params[j]? = some t → args[j]? = some v → Value.okWide Tryd.prog W .any base t v := hval0
  have hW' := hW
  obtain ⟨p, q, hA0, hV, rfl, hfz, hnd⟩ := hW
  have hA : DataW.TrodAll enc Tryd.prog W 0 (fun _ => true) true Tryd.f12.params.toList args.toList ds p := hA0
  rw [Tryd.params12] at hA hval
  obtain ⟨v0, vs0, d0, ds0, p0, q0, hargs, rfl, rfl, h0, r0⟩ := trodAll_cons hA
  obtain ⟨rfl, rfl, rfl⟩ := trodAll_nil r0
  obtain rfl : args = #[v0] := by cases args; simp_all
  obtain ⟨g0, gt0, gcs0, gf0, gd0, gp0, rfl, hg1, hg2, hg3, hg4, hg5⟩ := trodVars_one hV
  have k0 := h0
  have lt0 : ∀ x ∈ p0, x.block < W.heap.size := by obtain ⟨m, hm⟩ := k0; exact DataW.trod_lt m _ _ _ hm
  obtain ⟨a0, len0, cap0, rfl⟩ := okWide_slice Tryd.underlying50 (hval 0 50 v0 rfl rfl)
  have code0 : len0 ≤ maxLen ∧ CodeIs W.heap.size W a0 len0 := by
    obtain ⟨fuel, hf⟩ := h0
    rcases open_ints Tryd.underlying50 Tryd.underlying5 (by kernel_rfl) hf with ⟨hcs, _⟩ | ⟨x, l, c, zs, hcs, _, hl, hm, hz, _, hcell, hwz⟩
    · simp [Value.cells] at hcs
      obtain ⟨rfl, rfl, rfl⟩ := hcs
      exact ⟨Nat.zero_le _, fun k hk => absurd hk (by omega)⟩
    · simp [Value.cells] at hcs
      obtain ⟨rfl, rfl, rfl⟩ := hcs
      have hz' := hz
      simp at hz'
      refine ⟨by omega, fun k hk => ?_⟩
      have hk' : k < zs.length := by omega
      have hc0 := hcell 0 (by omega)
      have hc := hcell k hk'
      rw [addN0] at hc0
      have hsp : x.spot = none := Go.Proofs.cell_spot hc0
      have hw := hwz (zs.getD k 0) (by rw [List.getD, List.getElem?_eq_getElem hk']; exact List.getElem_mem hk')
      have hb := bounds_u8 hw
      obtain ⟨xb, xo, xs⟩ := x
      obtain rfl : xs = none := hsp
      rw [addNk] at hc
      exact ⟨xb, xo, zs.getD k 0, rfl, World.block_lt_of_cell? W ⟨xb, xo + k, none⟩ hc, hc, hb.1, hb.2⟩
  have hEnv : EnvW W := ⟨deb_of_laid hL (by kernel_rfl) (by simp [Rows.fnBooleanRow]), chip_of_laid hL (by kernel_rfl) (by simp [Rows.fnBooleanRow])⟩
  clear hA0 hval0
  refine (walkBoolean a0 len0 cap0 W code0.1 code0.2 hEnv).mono fun e W' ⟨he, bel⟩ => ?_
  subst he
  exact ⟨_, rfl, _, _, _, [], _, _, hW', trodAll_mk1 (shut_bool Tryd.underlying4 _), (trodAll_cons_mk (Below.trod laidOut (by kernel_rfl) (of_decide_eq_true (by kernel_rfl)) k0 bel lt0) trodAll_mk0), (Below.trodVars laidOut bel (by kernel_rfl) hV), bel.frame _, fun h => by cases h⟩

end Go.Proofs.YtdcddneanbplpaaDoor.fnBoolean
