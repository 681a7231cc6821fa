/- The laws' comparison of two lists. -/
import Derived.Test.YtdcddneanbplpaaDoorRgF
import Derived.Test.YtdcddneanbplpaaDoorSbA
import Derived.Test.YtdcddneanbplpaaDoorDrY
import Derived.Test.YtdcddneanbplpaaDoorSbH
import Derived.Test.YtdcddneanbplpaaDoorRiY
import Derived.Test.YtdcddneanbplpaaDoorSbM14
import Derived.Test.YtdcddneanbplpaaDoorSbM8
import Derived.Test.YtdcddneanbplpaaDoorDebTab
import Derived.ProofKit
import Derived.OpenShut
import Derived.ShutString
import Derived.ChangeOld
import Derived.Carry
import Derived.Below
import Derived.Lib.SmallJoins
import Derived.Lib.LaidU8
import Derived.Test.YtdcddneanbplpaaDoorFacts
import Derived.OpenVars
import Derived.LaidMore
import Derived.Stop.Joined
import Derived.SevenTiedAt
import Derived.Test.YtdcddneanbplpaaDoorTie
import Derived.Test.YtdcddneanbplpaaDoorCards
namespace Go.Proofs.YtdcddneanbplpaaDoor
open Go.RowKit
set_option linter.unusedVariables false
set_option linter.unusedSimpArgs false
attribute [local go_sem ↓] Go.wp_at_zero Go.wp_at_succ

set_option maxHeartbeats 8000000 in
set_option maxRecDepth 100000 in
theorem sameRects_any (m' : Option Addr) (n cap' : Nat) (A B C D : Nat → Int) (m : Option Addr) (len cap : Nat) (P Q R S : Nat → Int) (w : World) (hlen : len ≤ 1048576) (hl : n ≤ 1048576) (hA : RectsIs w.heap.size w m' n A B C D) (hR : RectsIs w.heap.size w m len P Q R S) :
    Calls Tryd.prog 48 #[.slice m' n cap', .slice m len cap] w fun e w' => e = .returned (.bool (decide (listR A B C D n = listR P Q R S len))) ∧ Below w.heap.size w w' := by
  have HA := Lib.hid hA
  have HR := Lib.hid hR
  clear hA hR
  by_cases hne : n = len
  · subst hne
    have e0 : ((n : Int) != (n : Int)) = false := by simp
    go_enter Tryd.func48, Tryd.ntmps48
    go_wp2_with fail
    go_loopw [5] (fun s wr => ∃ k : Nat, k ≤ n ∧ s = .int .i64 k ∧ Below w.heap.size w wr ∧ ∀ j, j < k → R4.mk (A j) (B j) (C j) (D j) = R4.mk (P j) (Q j) (R j) (S j)) (fun s _ => n - (intOf s).toNat)
    case atStart => exact ⟨0, by omega, rfl, Below.refl _ _, fun j hj => by omega⟩
    case round =>
      obtain ⟨k, hk, rfl, hW, heq⟩ := hrel
      have HQ := Lib.hid heq
      clear heq
      by_cases hlt : k < n
      · obtain ⟨b1, o1, rfl, hb1, c0, c1, c2, c3⟩ := HR.out k hlt
        obtain ⟨b2, o2, rfl, hb2, a0, a1, a2, a3⟩ := HA.out k hlt
        have q1 : (k : Int) < (n : Int) := by omega
        have q0 : (0 : Int) ≤ (k : Int) := by omega
        have x0 := keepC hW a0
        have x1 := keepC hW a1
        have x2 := keepC hW a2
        have x3 := keepC hW a3
        have y0 := keepC hW c0
        have y1 := keepC hW c1
        have y2 := keepC hW c2
        have y3 := keepC hW c3
        clear a0 a1 a2 a3 c0 c1 c2 c3
        have hcmp := fun W : World => eqRc (A k) (B k) (C k) (D k) (P k) (Q k) (R k) (S k) W
        cases hv : eqRB (A k) (B k) (C k) (D k) (P k) (Q k) (R k) (S k) with
        | true =>
          rw [hv] at hcmp
          have HV := Lib.hid hv
          clear hv
          go_wp2_with fail
          go_region_held3 (fun w' => Below wr.heap.size wr w' ∧ w'.cell? ⟨b2, o2 + k * 4, none⟩ = some (.int .i64 (A k)) ∧ w'.cell? ⟨b2, o2 + k * 4 + 1, none⟩ = some (.int .i64 (B k)) ∧ w'.cell? ⟨b2, o2 + k * 4 + 2, none⟩ = some (.int .i64 (C k)) ∧ w'.cell? ⟨b2, o2 + k * 4 + 3, none⟩ = some (.int .i64 (D k)) ∧ w'.cell? ⟨b1, o1 + k * 4, none⟩ = some (.int .i64 (P k)) ∧ w'.cell? ⟨b1, o1 + k * 4 + 1, none⟩ = some (.int .i64 (Q k)) ∧ w'.cell? ⟨b1, o1 + k * 4 + 2, none⟩ = some (.int .i64 (R k)) ∧ w'.cell? ⟨b1, o1 + k * 4 + 3, none⟩ = some (.int .i64 (S k)))
            (first | ((try dsimp only); go_split_ands; (repeat' (with_reducible refine And.intro ?_ ?_)) <;> first | ((repeat (with_reducible refine keepS ?_ (by simp; try omega) _)); (first | (with_reducible assumption) | (with_reducible exact keepC (by assumption) (by assumption)) | (with_reducible exact keepA (by assumption) _) | (with_reducible exact keepR (by assumption) (by omega) _))) | ((try simp only [World.size_alloc, World.size_setCell, World.size_drew]); omega) | (refine Mats.below hM ?_ hM.size; (repeat (first | (with_reducible exact Below.refl _ _) | (with_reducible refine Ext.drewN ?_ _) | (with_reducible refine Below.drew ?_) | (with_reducible refine Ext.alloc ?_ _) | (with_reducible refine Ext.setCell ?_ (by simp; try omega) _) | (with_reducible refine Ext.trans ?_ (by assumption)) | (with_reducible assumption) | exact Below.refl _ _)); done) | ((repeat (first | (with_reducible exact Below.refl _ _) | (with_reducible refine Ext.drewN ?_ _) | (with_reducible refine Below.drew ?_) | (with_reducible refine Ext.alloc ?_ _) | (with_reducible refine Ext.setCell ?_ (by simp; try omega) _) | (with_reducible refine Ext.trans ?_ (by assumption)) | (with_reducible assumption) | exact Below.refl _ _)); done) | (go_keep; done)))
            (fail)
          go_wp2_with fail
          go_roundw
          case rel => exact ⟨k + 1, by omega, by go_num, by (repeat (first | (with_reducible exact Below.refl _ _) | (with_reducible refine Ext.drewN ?_ _) | (with_reducible refine Below.drew ?_) | (with_reducible refine Ext.alloc ?_ _) | (with_reducible refine Ext.setCell ?_ (by simp; try omega) _) | (with_reducible refine Ext.trans ?_ (by assumption)) | (with_reducible assumption) | exact Below.refl _ _)), fun j hj => by
            by_cases e : j = k
            · subst e
              have hv := HV.out
              unfold eqRB at hv
              simp only [Bool.and_eq_true, beq_iff_eq] at hv
              exact R4.ext' hv.1 hv.2.1 hv.2.2.1 hv.2.2.2
            · exact HQ.out j (by omega)⟩
          case measure => simp [intOf]; omega
        | false =>
          rw [hv] at hcmp
          have hres : decide (listR A B C D n = listR P Q R S n) = false := decide_eq_false (fun e => by
            have h1 := listR_getD A B C D n k hlt
            rw [e, listR_getD P Q R S n k hlt] at h1
            injection h1 with e1 e2 e3 e4
            rw [e1, e2, e3, e4] at hv
            simp [eqRB] at hv)
          have HRES := Lib.hid hres
          clear hres hv
          go_wp2_with fail
          go_region_held3 (fun w' => Below wr.heap.size wr w' ∧ w'.cell? ⟨b2, o2 + k * 4, none⟩ = some (.int .i64 (A k)) ∧ w'.cell? ⟨b2, o2 + k * 4 + 1, none⟩ = some (.int .i64 (B k)) ∧ w'.cell? ⟨b2, o2 + k * 4 + 2, none⟩ = some (.int .i64 (C k)) ∧ w'.cell? ⟨b2, o2 + k * 4 + 3, none⟩ = some (.int .i64 (D k)) ∧ w'.cell? ⟨b1, o1 + k * 4, none⟩ = some (.int .i64 (P k)) ∧ w'.cell? ⟨b1, o1 + k * 4 + 1, none⟩ = some (.int .i64 (Q k)) ∧ w'.cell? ⟨b1, o1 + k * 4 + 2, none⟩ = some (.int .i64 (R k)) ∧ w'.cell? ⟨b1, o1 + k * 4 + 3, none⟩ = some (.int .i64 (S k)))
            (first | ((try dsimp only); go_split_ands; (repeat' (with_reducible refine And.intro ?_ ?_)) <;> first | ((repeat (with_reducible refine keepS ?_ (by simp; try omega) _)); (first | (with_reducible assumption) | (with_reducible exact keepC (by assumption) (by assumption)) | (with_reducible exact keepA (by assumption) _) | (with_reducible exact keepR (by assumption) (by omega) _))) | ((try simp only [World.size_alloc, World.size_setCell, World.size_drew]); omega) | (refine Mats.below hM ?_ hM.size; (repeat (first | (with_reducible exact Below.refl _ _) | (with_reducible refine Ext.drewN ?_ _) | (with_reducible refine Below.drew ?_) | (with_reducible refine Ext.alloc ?_ _) | (with_reducible refine Ext.setCell ?_ (by simp; try omega) _) | (with_reducible refine Ext.trans ?_ (by assumption)) | (with_reducible assumption) | exact Below.refl _ _)); done) | ((repeat (first | (with_reducible exact Below.refl _ _) | (with_reducible refine Ext.drewN ?_ _) | (with_reducible refine Below.drew ?_) | (with_reducible refine Ext.alloc ?_ _) | (with_reducible refine Ext.setCell ?_ (by simp; try omega) _) | (with_reducible refine Ext.trans ?_ (by assumption)) | (with_reducible assumption) | exact Below.refl _ _)); done) | (go_keep; done)))
            (fail)
          go_wp2_with fail
          go_ret
          exact ⟨ret_bool HRES.out.symm, by (repeat (first | (with_reducible exact Below.refl _ _) | (with_reducible refine Ext.drewN ?_ _) | (with_reducible refine Below.drew ?_) | (with_reducible refine Ext.alloc ?_ _) | (with_reducible refine Ext.setCell ?_ (by simp; try omega) _) | (with_reducible refine Ext.trans ?_ (by assumption)) | (with_reducible assumption) | exact Below.refl _ _))⟩
      · have q1 : ¬ (k : Int) < (n : Int) := by omega
        obtain rfl : k = n := by omega
        have hres : decide (listR A B C D k = listR P Q R S k) = true := decide_eq_true (ext_R4 (by rw [listR_len, listR_len]) (fun j hj => by
          rw [listR_len] at hj
          rw [listR_getD A B C D k j hj, listR_getD P Q R S k j hj]
          exact HQ.out j hj))
        have HRES := Lib.hid hres
        clear hres
        go_wp2_with fail
        go_ret
        exact ⟨ret_bool HRES.out.symm, hW⟩
  · have e0 : ((n : Int) != (len : Int)) = true := by simp; omega
    have hres : decide (listR A B C D n = listR P Q R S len) = false := decide_eq_false (fun e => hne (by
      have := congrArg List.length e
      rwa [listR_len, listR_len] at this))
    have HRES := Lib.hid hres
    clear hres
    go_enter Tryd.func48, Tryd.ntmps48
    go_wp2_with fail
    go_ret
    exact ⟨ret_bool HRES.out.symm, Below.refl _ _⟩
theorem lawBigB_any (a : Option Addr) (len cap : Nat) (w : World) : Calls Tryd.prog 41 #[.slice a len cap] w fun e w' => e = .returned (.bool (decide (4096 < len))) ∧ w = w' := by
  by_cases h : 4096 < len
  all_goals
    go_enter Tryd.func41, Tryd.ntmps41
    go_wp2
    go_ret
    exact ⟨ret_bool (by simp [h]; try omega), rfl⟩
/-- Two lists with the same cells. -/
theorem same_yes {l m : List R4} {f g : Nat → Bool} (hl : l = canonL f) (hm : m = canonL g) (h : ∀ k, f k = g k) : decide (listR (pA l) (pB l) (pC l) (pD l) l.length = listR (pA m) (pB m) (pC m) (pD m) m.length) = true := by
  rw [show f = g from funext h] at hl
  rw [hl, hm]
  exact decide_eq_true rfl
end Go.Proofs.YtdcddneanbplpaaDoor

/- Another code. -/
namespace Go.Proofs.YtdcddneanbplpaaDoor
open Go.RowKit
set_option linter.unusedVariables false
set_option linter.unusedSimpArgs false
theorem CodeIs.up {B C : Nat} {w : World} {a : Option Addr} {len : Nat} (h : CodeIs B w a len) (hBC : B ≤ C) : CodeIs C w a len := fun k hk => by
  obtain ⟨b, off, v, h1, h2, h3⟩ := h k hk
  exact ⟨b, off, v, h1, Nat.lt_of_lt_of_le h2 hBC, h3⟩
theorem infoU8 : (Tryd.prog.info? 5).map (fun i => (i.zero, i.size, i.bytes)) = some (some (.int .u8 0), 1, 1) := by kernel_rfl
theorem adN (b o k : Nat) : (⟨b, o, none⟩ : Addr).add k = ⟨b, o + k, none⟩ := by
  by_cases h : k = 0
  · subst h; simp [Addr.add]
  · simp [Addr.add, h]
def byteV (v : Value) : Prop := ∃ x : Int, v = .int .u8 x ∧ 0 ≤ x ∧ x ≤ 255
theorem code_news {B : Nat} {w : World} {ad : Addr} {len : Nat} (h : CodeIs B w (some ad) len) : ∃ news : List Value, news.length = len ∧ (∀ j u, news[j]? = some u → w.cell? (ad.add j) = some u) ∧ ∀ u ∈ news, byteV u := by
  have H : ∀ k, k < len → ∃ v : Int, w.cell? (ad.add k) = some (.int .u8 v) ∧ 0 ≤ v ∧ v ≤ 255 := fun k hk => by
    obtain ⟨b, off, v, h1, h2, h3, h4⟩ := h k hk
    injection h1 with e
    subst e
    exact ⟨v, by rw [adN]; exact h3, h4⟩
  refine ⟨(List.range len).map fun k => .int .u8 (if hk : k < len then Classical.choose (H k hk) else 0), by simp, fun j u hj => ?_, fun u hu => ?_⟩
  · have hjl : j < len := by
      have := (List.getElem?_eq_some_iff.1 hj).1
      simpa using this
    rw [List.getElem?_map, List.getElem?_range hjl] at hj
    simp only [Option.map_some, Option.some.injEq, dif_pos hjl] at hj
    subst hj
    exact (Classical.choose_spec (H j hjl)).1
  · obtain ⟨k, hk, rfl⟩ := List.mem_map.1 hu
    have hkl := List.mem_range.1 hk
    refine ⟨_, rfl, ?_⟩
    simp only [dif_pos hkl]
    exact (Classical.choose_spec (H k hkl)).2
theorem own_code {w : World} {B n : Nat} {v : Value} {xs : List Value} (h : w.ownsRow B 5 1 v n xs) (hv : v ≠ .slice none 0 0) (hx : ∀ u ∈ xs, byteV u) : ∃ h c, v = .slice (some ⟨h, 0, none⟩) n c ∧ CodeIs w.heap.size w (some ⟨h, 0, none⟩) n := by
  have hl := h.1
  rcases h.2 with ⟨rfl, _⟩ | ⟨g, cap, cur, rfl, _, hg, _, _⟩
  · exact absurd rfl hv
  · refine ⟨g, cap, rfl, fun k hk => ?_⟩
    obtain ⟨u, hu⟩ : ∃ u, xs[k]? = some u := ⟨xs[k]'(by omega), List.getElem?_eq_getElem (by omega)⟩
    obtain ⟨x, rfl, h0, h1⟩ := hx u (List.mem_of_getElem? hu)
    exact ⟨g, 0, x, rfl, (Array.getElem?_eq_some_iff.1 hg).1, by have := h.cells (g := g) rfl k _ hu; rwa [adN] at this, h0, h1⟩
set_option maxHeartbeats 4000000 in
theorem other_any (a : Option Addr) (len cap : Nat) (w : World) (hlen : len ≤ 4096) (hC : CodeIs w.heap.size w a len) :
    Calls Tryd.prog 55 #[.slice a len cap, .int .u8 5] w fun e w' => (∃ (h c : Nat), e = .returned (.slice (some ⟨h, 0, none⟩) (3 + len) c) ∧ CodeIs w'.heap.size w' (some ⟨h, 0, none⟩) (3 + len)) ∧ Below w.heap.size w w' := by
  obtain ⟨i0, hi, hz0, hz1, hz2⟩ := info_parts infoU8
  obtain ⟨wz, hwz⟩ : ∃ wz, wz = w.alloc (.cells #[.int .u8 5, .int .u8 12, .int .u8 15] 5) := ⟨_, rfl⟩
  have bz : Below w.heap.size w wz := by rw [hwz]; (repeat (first | (with_reducible exact Below.refl _ _) | (with_reducible refine Ext.drewN ?_ _) | (with_reducible refine Below.drew ?_) | (with_reducible refine Ext.alloc ?_ _) | (with_reducible refine Ext.setCell ?_ (by simp; try omega) _) | (with_reducible refine Ext.trans ?_ (by assumption)) | (with_reducible assumption) | exact Below.refl _ _))
  have sz : wz.heap.size = w.heap.size + 1 := by rw [hwz]; simp
  have OZ : Hid (wz.ownsRow w.heap.size 5 1 (.slice (some ⟨w.heap.size, 0, none⟩) 3 3) 3 [.int .u8 5, .int .u8 12, .int .u8 15]) := Lib.hid (by
    rw [hwz]
    exact ⟨rfl, .inr ⟨w.heap.size, 3, #[.int .u8 5, .int .u8 12, .int .u8 15], rfl, Nat.le_refl _, heap_alloc_new w _, Nat.le_refl _, by unfold maxLen; decide, rfl, rfl⟩⟩)
  have hb3 : ∀ u ∈ [Value.int .u8 5, .int .u8 12, .int .u8 15], byteV u := fun u hu => by
    simp only [List.mem_cons, List.not_mem_nil, or_false] at hu
    rcases hu with rfl | rfl | rfl
    · exact ⟨5, rfl, by omega, by omega⟩
    · exact ⟨12, rfl, by omega, by omega⟩
    · exact ⟨15, rfl, by omega, by omega⟩
  cases a with
  | none =>
    obtain rfl : len = 0 := by
      by_cases h : len = 0
      · exact h
      · obtain ⟨b, off, v, h1, _⟩ := hC 0 (by omega)
        cases h1
    go_enter Tryd.func55, Tryd.ntmps55
    go_wp2_with fail
    simp [Sem.run_pure, Result.andThen_ok, storeCells]
    rw [← hwz]
    obtain ⟨g, c, he, hcode⟩ := own_code OZ.out (by intro e; cases e) hb3
    cases he
    go_ret
    exact ⟨⟨_, ⟨_, rfl⟩, hcode⟩, bz⟩
  | some ad =>
    obtain ⟨news, hnl, hnc, hnb⟩ := code_news (CodeIs.below hC bz)
    have HB := Lib.hid hnb
    have HNC := Lib.hid hnc
    clear hnb hnc
    go_enter Tryd.func55, Tryd.ntmps55
    go_wp2_with (at_builtin; rw [← hwz]; refine wpList_append_own _ rfl _ _ 50 rfl w.heap.size 5 i0 (.int .u8 0) 1 1 Tryd.underlying50 hi hz0 hz1 hz2 rfl (by decide) _ _ _ rfl OZ.out ad len cap news rfl (by omega) HNC.out (fun u hu => by obtain ⟨x, rfl, _⟩ := HB.out u hu; rfl) (by unfold maxLen; omega) (by omega) (by omega) ?_; intro v' w4 hown4 hgrow hnil)
    have hnn : v' ≠ .slice none 0 0 := fun e => by have := (hnil.1 e).1; cases this
    have hall : ∀ u ∈ [Value.int .u8 5, .int .u8 12, .int .u8 15] ++ news, byteV u := fun u hu => by
      rcases List.mem_append.1 hu with h | h
      · exact hb3 u h
      · exact HB.out u h
    obtain ⟨g, c, rfl, hcode⟩ := own_code hown4 hnn hall
    have HI := Lib.hid hcode
    have b4 : Below w.heap.size w w4 := bz.grown hgrow bz.size (fun j hj => (OZ.out.lt j hj).1)
    clear hown4 hgrow hnil hnn hcode hall hb3
    go_wp2_with fail
    go_ret
    exact ⟨⟨g, c, rfl, HI.out⟩, b4⟩
end Go.Proofs.YtdcddneanbplpaaDoor

/- The model's and the program's UnionAll. Conditions: the lists' cells are in memory; the variables that regions read hold their tables. -/
namespace Go.Proofs.YtdcddneanbplpaaDoor
open Go.RowKit Go.Shelf
set_option linter.unusedVariables false
set_option linter.unusedSimpArgs false
attribute [local go_sem ↓] Go.wp_at_zero Go.wp_at_succ

/-- What UnionAll answers. -/
def uaB (n : Nat → Nat) (P Q R S : Nat → Nat → Int) (k : Nat) : Bool := decide (k ≤ 64) && okA n P Q R S k
def uaL (n : Nat → Nat) (P Q R S : Nat → Nat → Int) (k : Nat) : List R4 := if uaB n P Q R S k = true then canonL (mgA 14 (fun _ => false) n P Q R S k) else []
theorem uaL_len (n : Nat → Nat) (P Q R S : Nat → Nat → Int) (k : Nat) : (uaL n P Q R S k).length ≤ 3280 := by
  unfold uaL; split
  · exact canonL_len _
  · simp
theorem uaL_no {n : Nat → Nat} {P Q R S : Nat → Nat → Int} {k : Nat} (h : uaB n P Q R S k = false) : uaL n P Q R S k = [] := by unfold uaL; rw [if_neg (by simp [h])]
theorem uaL_yes {n : Nat → Nat} {P Q R S : Nat → Nat → Int} {k : Nat} (h : uaB n P Q R S k = true) : uaL n P Q R S k = canonL (mgA 14 (fun _ => false) n P Q R S k) := by unfold uaL; rw [if_pos h]
theorem none_ok (P Q R S : Nat → Int) : okR P Q R S 0 = true := by
  rw [okR_iff]
  refine ⟨fun i hi => by omega, ?_⟩
  have e : covF P Q R S 0 = fun _ => false := rfl
  rw [e, canonL_none]
  rfl
theorem mr_ua (P0 Q0 R0 S0 : Nat → Int) (n : Nat → Nat) (P Q R S : Nat → Nat → Int) (k : Nat) (hk : k ≤ 64) : mrL 14 P0 Q0 R0 S0 0 n P Q R S k = uaL n P Q R S k := by
  unfold mrL uaL uaB
  have e : covF P0 Q0 R0 S0 0 = fun _ => false := rfl
  rw [none_ok, decide_eq_true hk, e]
set_option maxRecDepth 100000 in
set_option maxHeartbeats 1000000 in
theorem implUnionAll_any (hM : MergeC 0 14) (mm : Option Addr) (k kc : Nat) (a : Nat → Option Addr) (n c : Nat → Nat) (P Q R S : Nat → Nat → Int) (w : World) (hk : k ≤ 1048576) (hD : EnvW w) (hL : ListsIs w.heap.size w mm k a n c P Q R S) :
    Calls Tryd.prog 56 #[.slice mm k kc] w fun e w' => LOwn w.heap.size (uaL n P Q R S k) e w' ∧ Below w.heap.size w w' := by
  by_cases h : k ≤ 64
  · have q1 : ¬ (k : Int) > 64 := by omega
    have q2 : ¬ (64 : Int) < (k : Int) := by omega
    rw [← mr_ua (fun _ => 0) (fun _ => 0) (fun _ => 0) (fun _ => 0) n P Q R S k h]
    go_enter Tryd.func56, Tryd.ntmps56
    go_wp2_with fail
    refine (mergedRegion_any 0 14 hM none 0 0 (fun _ => 0) (fun _ => 0) (fun _ => 0) (fun _ => 0) mm k kc a n c P Q R S w (by omega) (by omega) hk hD RectsIs.zero hL).mono ?_
    rintro e w1 ⟨⟨a1, c1, rfl, ho⟩, bw1⟩
    have HO := Lib.hid ho
    clear ho
    go_wp2_with fail
    go_ret
    exact ⟨⟨a1, c1, rfl, HO.out⟩, bw1⟩
  · have q1 : (k : Int) > 64 := by omega
    have q2 : (64 : Int) < (k : Int) := by omega
    rw [uaL_no (by unfold uaB; rw [decide_eq_false h]; rfl)]
    go_enter Tryd.func56, Tryd.ntmps56
    go_wp2_with fail
    go_ret
    exact ⟨⟨none, 0, rfl, .inl rfl⟩, Below.refl _ _⟩

end Go.Proofs.YtdcddneanbplpaaDoor

/- FnDistributive answers true. Conditions: the code's bytes are in memory; the variables that regions read hold their tables. -/
namespace Go.Proofs.YtdcddneanbplpaaDoor
open Go.RowKit
set_option linter.unusedVariables false
set_option linter.unusedSimpArgs false

theorem canon_of {l : List R4} (h : okR (pA l) (pB l) (pC l) (pD l) l.length = true) : l = canonL (covF (pA l) (pB l) (pC l) (pD l) l.length) := (listR_pA l).symm.trans (okR_list h)
theorem opL_eq (op : Nat) {l m : List R4} {f g : Nat → Bool} (hl : l = canonL f) (hm : m = canonL g) : opL op (pA l) (pB l) (pC l) (pD l) l.length (pA m) (pB m) (pC m) (pD m) m.length = canonL (fun k => tt op (f k) (g k)) := by
  subst hl hm; exact opL_canon op f g
theorem canon_len {l : List R4} {f : Nat → Bool} (hl : l = canonL f) : l.length ≤ 3200 := by subst hl; exact canonL_len' f
/-- The first, second, third, any other. -/
def pick4 {α : Type} (x y z t : α) (i : Nat) : α := if i = 0 then x else if i = 1 then y else if i = 2 then z else t
theorem uaL_eq {l1 l2 l3 l4 : List R4} {f1 f2 f3 f4 : Nat → Bool} (h1 : l1 = canonL f1) (h2 : l2 = canonL f2) (h3 : l3 = canonL f3) (h4 : l4 = canonL f4) :
    uaL (pick4 l1.length l2.length l3.length l4.length) (pick4 (pA l1) (pA l2) (pA l3) (pA l4)) (pick4 (pB l1) (pB l2) (pB l3) (pB l4)) (pick4 (pC l1) (pC l2) (pC l3) (pC l4)) (pick4 (pD l1) (pD l2) (pD l3) (pD l4)) 4 = canonL (fun k => tt 14 (tt 14 (tt 14 (tt 14 false (f1 k)) (f2 k)) (f3 k)) (f4 k)) := by
  subst h1 h2 h3 h4
  have hok : uaB (pick4 (canonL f1).length (canonL f2).length (canonL f3).length (canonL f4).length) (pick4 (pA (canonL f1)) (pA (canonL f2)) (pA (canonL f3)) (pA (canonL f4))) (pick4 (pB (canonL f1)) (pB (canonL f2)) (pB (canonL f3)) (pB (canonL f4))) (pick4 (pC (canonL f1)) (pC (canonL f2)) (pC (canonL f3)) (pC (canonL f4))) (pick4 (pD (canonL f1)) (pD (canonL f2)) (pD (canonL f3)) (pD (canonL f4))) 4 = true := by
    unfold uaB
    rw [okA, okA, okA, okA, okA]
    simp only [pick4]
    simp [okR_canonL]
  unfold uaL
  rw [if_pos hok]
  refine canonL_congr fun k hk => ?_
  rw [mgA, mgA, mgA, mgA, mgA]
  simp only [pick4]
  simp [cov_canonL_all _ hk]
set_option maxRecDepth 100000 in
set_option maxHeartbeats 4000000 in
theorem walkDistributive (a : Option Addr) (len cap : Nat) (w : World) (hlen : len ≤ maxLen) (hC : CodeIs w.heap.size w a len) (hD : EnvW w) :
    Calls Tryd.prog 13 #[.slice a len cap] w fun e w' => e = .returned (.bool true) ∧ Below w.heap.size w w' := by
  by_cases hbig : 4096 < len
  · have hb : decide (4096 < len) = true := decide_eq_true hbig
    go_enter Tryd.func13, Tryd.ntmps13
    go_wp2_with fail
    refine (lawBigB_any _ _ _ _).mono ?_
    rintro e w1 ⟨rfl, rfl⟩
    rw [hb]
    go_wp2_with fail
    go_ret
    exact ⟨rfl, Below.refl _ _⟩
  have hb : decide (4096 < len) = false := decide_eq_false hbig
  have HC := Lib.hid hC
  clear hC
  go_enter Tryd.func13, Tryd.ntmps13
  go_wp2_with fail
  refine (lawBigB_any _ _ _ _).mono ?_
  rintro e w1 ⟨rfl, rfl⟩
  rw [hb]
  go_wp2_with fail
  refine (drawUnion_any a len cap _ (by omega) HC.out).mono ?_
  rintro e w2 ⟨_, _, l1, l2, rfl, ⟨h1, c1, rfl, n1, i1⟩, ⟨h2, c2, rfl, n2, i2⟩, Bc⟩
  have I1 := Lib.hid i1
  have I2 := Lib.hid i2
  clear i1 i2
  go_wp2_with fail
  refine (other_any a len cap _ (by omega) ((HC.out.below Bc).up Bc.size)).mono ?_
  rintro e wo ⟨⟨ho, co, rfl, hcode⟩, bo⟩
  have HC2 := Lib.hid hcode
  have I1 := Lib.hid (I1.out.ext bo)
  have I2 := Lib.hid (I2.out.ext bo)
  have Bc := Ext.trans Bc bo
  clear bo hcode HC hb
  go_wp2_with fail
  refine (drawIntersection_any _ (3 + len) co _ (by omega) HC2.out).mono ?_
  rintro e wi ⟨_, _, l3, l4, rfl, ⟨h3, c3, rfl, n3, i3⟩, ⟨h4, c4, rfl, n4, i4⟩, bi⟩
  have I3 := Lib.hid i3
  have I4 := Lib.hid i4
  have I1 := Lib.hid (I1.out.ext bi)
  have I2 := Lib.hid (I2.out.ext bi)
  have Bc := Ext.trans Bc bi
  clear i3 i4 HC2 hbig bi
  go_wp2_with fail
  refine (specIsRegion_any (some ⟨h1, 0, none⟩) l1.length c1 (pA l1) (pB l1) (pC l1) (pD l1) _ (by omega) I1.out.rects).mono ?_
  rintro e wr1 ⟨rfl, br1⟩
  have I1 := Lib.hid (I1.out.ext br1)
  have I2 := Lib.hid (I2.out.ext br1)
  have I3 := Lib.hid (I3.out.ext br1)
  have I4 := Lib.hid (I4.out.ext br1)
  have Bc := Ext.trans Bc br1
  clear br1
  cases hok1 : okR (pA l1) (pB l1) (pC l1) (pD l1) l1.length with
  | false =>
    go_wp2_with fail
    go_ret
    exact ⟨rfl, Bc⟩
  | true =>
  go_wp2_with fail
  refine (specIsRegion_any (some ⟨h2, 0, none⟩) l2.length c2 (pA l2) (pB l2) (pC l2) (pD l2) _ (by omega) I2.out.rects).mono ?_
  rintro e wr2 ⟨rfl, br2⟩
  have I1 := Lib.hid (I1.out.ext br2)
  have I2 := Lib.hid (I2.out.ext br2)
  have I3 := Lib.hid (I3.out.ext br2)
  have I4 := Lib.hid (I4.out.ext br2)
  have Bc := Ext.trans Bc br2
  clear br2
  cases hok2 : okR (pA l2) (pB l2) (pC l2) (pD l2) l2.length with
  | false =>
    go_wp2_with fail
    go_ret
    exact ⟨rfl, Bc⟩
  | true =>
  go_wp2_with fail
  refine (specIsRegion_any (some ⟨h3, 0, none⟩) l3.length c3 (pA l3) (pB l3) (pC l3) (pD l3) _ (by omega) I3.out.rects).mono ?_
  rintro e wr3 ⟨rfl, br3⟩
  have I1 := Lib.hid (I1.out.ext br3)
  have I2 := Lib.hid (I2.out.ext br3)
  have I3 := Lib.hid (I3.out.ext br3)
  have I4 := Lib.hid (I4.out.ext br3)
  have Bc := Ext.trans Bc br3
  clear br3
  cases hok3 : okR (pA l3) (pB l3) (pC l3) (pD l3) l3.length with
  | false =>
    go_wp2_with fail
    go_ret
    exact ⟨rfl, Bc⟩
  | true =>
  go_wp2_with fail
  refine (specIsRegion_any (some ⟨h4, 0, none⟩) l4.length c4 (pA l4) (pB l4) (pC l4) (pD l4) _ (by omega) I4.out.rects).mono ?_
  rintro e wr4 ⟨rfl, br4⟩
  have I1 := Lib.hid (I1.out.ext br4)
  have I2 := Lib.hid (I2.out.ext br4)
  have I3 := Lib.hid (I3.out.ext br4)
  have I4 := Lib.hid (I4.out.ext br4)
  have Bc := Ext.trans Bc br4
  clear br4
  cases hok4 : okR (pA l4) (pB l4) (pC l4) (pD l4) l4.length with
  | false =>
    go_wp2_with fail
    go_ret
    exact ⟨rfl, Bc⟩
  | true =>
  have M14 : MergeC 0 14 := fun m n cap P Q R S mm k kc a' n' c' P' Q' R' S' w h1 h2 h3 h4 h5 h6 => merge14_any m n cap P Q R S mm k kc a' n' c' P' Q' R' S' w h1 h2 h3 h4 h5 h6
  have M8 : MergeC 1 8 := fun m n cap P Q R S mm k kc a' n' c' P' Q' R' S' w h1 h2 h3 h4 h5 h6 => merge8_any m n cap P Q R S mm k kc a' n' c' P' Q' R' S' w h1 h2 h3 h4 h5 h6
  obtain ⟨f1, hc1⟩ : ∃ f, l1 = canonL f := ⟨_, canon_of hok1⟩
  obtain ⟨f2, hc2⟩ : ∃ f, l2 = canonL f := ⟨_, canon_of hok2⟩
  obtain ⟨f3, hc3⟩ : ∃ f, l3 = canonL f := ⟨_, canon_of hok3⟩
  obtain ⟨f4, hc4⟩ : ∃ f, l4 = canonL f := ⟨_, canon_of hok4⟩
  obtain ⟨lU, hlU⟩ : ∃ l, l = opL 14 (pA l1) (pB l1) (pC l1) (pD l1) l1.length (pA l2) (pB l2) (pC l2) (pD l2) l2.length := ⟨_, rfl⟩
  have hcU := hlU.trans (opL_eq 14 hc1 hc2)
  have hnU := canon_len hcU
  obtain ⟨lLE, hlLE⟩ : ∃ l, l = opL 8 (pA l3) (pB l3) (pC l3) (pD l3) l3.length (pA lU) (pB lU) (pC lU) (pD lU) lU.length := ⟨_, rfl⟩
  have hcLE := hlLE.trans (opL_eq 8 hc3 hcU)
  have hnLE := canon_len hcLE
  obtain ⟨lCA, hlCA⟩ : ∃ l, l = opL 8 (pA l3) (pB l3) (pC l3) (pD l3) l3.length (pA l1) (pB l1) (pC l1) (pD l1) l1.length := ⟨_, rfl⟩
  have hcCA := hlCA.trans (opL_eq 8 hc3 hc1)
  have hnCA := canon_len hcCA
  obtain ⟨lCB, hlCB⟩ : ∃ l, l = opL 8 (pA l3) (pB l3) (pC l3) (pD l3) l3.length (pA l2) (pB l2) (pC l2) (pD l2) l2.length := ⟨_, rfl⟩
  have hcCB := hlCB.trans (opL_eq 8 hc3 hc2)
  have hnCB := canon_len hcCB
  obtain ⟨lRI, hlRI⟩ : ∃ l, l = opL 14 (pA lCA) (pB lCA) (pC lCA) (pD lCA) lCA.length (pA lCB) (pB lCB) (pC lCB) (pD lCB) lCB.length := ⟨_, rfl⟩
  have hcRI := hlRI.trans (opL_eq 14 hcCA hcCB)
  have hnRI := canon_len hcRI
  obtain ⟨lV, hlV⟩ : ∃ l, l = opL 14 (pA l3) (pB l3) (pC l3) (pD l3) l3.length (pA l4) (pB l4) (pC l4) (pD l4) l4.length := ⟨_, rfl⟩
  have hcV := hlV.trans (opL_eq 14 hc3 hc4)
  have hnV := canon_len hcV
  obtain ⟨lPR, hlPR⟩ : ∃ l, l = opL 14 (pA lU) (pB lU) (pC lU) (pD lU) lU.length (pA lV) (pB lV) (pC lV) (pD lV) lV.length := ⟨_, rfl⟩
  have hcPR := hlPR.trans (opL_eq 14 hcU hcV)
  have hnPR := canon_len hcPR
  obtain ⟨lAL, hlAL⟩ : ∃ l, l = uaL (pick4 l1.length l2.length l3.length l4.length) (pick4 (pA l1) (pA l2) (pA l3) (pA l4)) (pick4 (pB l1) (pB l2) (pB l3) (pB l4)) (pick4 (pC l1) (pC l2) (pC l3) (pC l4)) (pick4 (pD l1) (pD l2) (pD l3) (pD l4)) 4 := ⟨_, rfl⟩
  have hcAL := hlAL.trans (uaL_eq hc1 hc2 hc3 hc4)
  have hnAL := canon_len hcAL
  have Sa := Lib.hid (same_yes hcLE hcRI (fun k => by generalize f1 k = p; generalize f2 k = q; generalize f3 k = r; cases p <;> cases q <;> cases r <;> rfl))
  have Sb := Lib.hid (same_yes hcAL hcPR (fun k => by generalize f1 k = p; generalize f2 k = q; generalize f3 k = r; generalize f4 k = s; cases p <;> cases q <;> cases r <;> cases s <;> rfl))
  have HLU := Lib.hid hlU
  have HLLE := Lib.hid hlLE
  have HLCA := Lib.hid hlCA
  have HLCB := Lib.hid hlCB
  have HLRI := Lib.hid hlRI
  have HLV := Lib.hid hlV
  have HLPR := Lib.hid hlPR
  have HLAL := Lib.hid hlAL
  clear hlU hcU hlLE hcLE hlCA hcCA hlCB hcCB hlRI hcRI hlV hcV hlPR hcPR hlAL hcAL hc1 hc2 hc3 hc4 hok1 hok2 hok3 hok4
  go_wp2_with fail
  refine (copyRects_any _ h3 c3 l3 _ (by omega) I3.out).mono ?_
  rintro e w5 ⟨h5, c5, rfl, k5, i5, b5⟩
  have i5 := Lib.hid i5
  have I1 := Lib.hid (I1.out.ext b5)
  have I2 := Lib.hid (I2.out.ext b5)
  have I3 := Lib.hid (I3.out.ext b5)
  have I4 := Lib.hid (I4.out.ext b5)
  have Bc := Ext.trans Bc b5
  clear b5
  have I5 := i5
  clear i5
  go_wp2_with fail
  refine (copyRects_any _ h1 c1 l1 _ (by omega) I1.out).mono ?_
  rintro e w6 ⟨h6, c6, rfl, k6, i6, b6⟩
  have i6 := Lib.hid i6
  have I1 := Lib.hid (I1.out.ext b6)
  have I2 := Lib.hid (I2.out.ext b6)
  have I3 := Lib.hid (I3.out.ext b6)
  have I4 := Lib.hid (I4.out.ext b6)
  have I5 := Lib.hid (I5.out.ext b6)
  have Bc := Ext.trans Bc b6
  clear b6
  have I6 := i6
  clear i6
  go_wp2_with fail
  refine (copyRects_any _ h2 c2 l2 _ (by omega) I2.out).mono ?_
  rintro e w7 ⟨h7, c7, rfl, k7, i7, b7⟩
  have i7 := Lib.hid i7
  have I1 := Lib.hid (I1.out.ext b7)
  have I2 := Lib.hid (I2.out.ext b7)
  have I3 := Lib.hid (I3.out.ext b7)
  have I4 := Lib.hid (I4.out.ext b7)
  have I5 := Lib.hid (I5.out.ext b7)
  have I6 := Lib.hid (I6.out.ext b7)
  have Bc := Ext.trans Bc b7
  clear b7
  have I7 := i7
  clear i7
  go_wp2_with fail
  refine (implUnionC_any M14 (some ⟨h6, 0, none⟩) l1.length c6 (pA l1) (pB l1) (pC l1) (pD l1) (some ⟨h7, 0, none⟩) l2.length c7 (pA l2) (pB l2) (pC l2) (pD l2) _ (by omega) k6 (by omega) k7 (hD.ext Bc) I6.out.rects I7.out.rects).mono ?_
  rintro e wU ⟨⟨aU, cU, rfl, kU, oU⟩, bU⟩
  rw [← HLU.out] at kU oU ⊢
  have oU := Lib.hid oU
  clear I6
  clear I7
  have I1 := Lib.hid (I1.out.ext bU)
  have I2 := Lib.hid (I2.out.ext bU)
  have I3 := Lib.hid (I3.out.ext bU)
  have I4 := Lib.hid (I4.out.ext bU)
  have I5 := Lib.hid (I5.out.ext bU)
  have Bc := Ext.trans Bc bU
  clear bU
  have OU := oU
  clear oU
  go_wp2_with fail
  refine (implIntersectionC_any M8 (some ⟨h5, 0, none⟩) l3.length c5 (pA l3) (pB l3) (pC l3) (pD l3) aU lU.length cU (pA lU) (pB lU) (pC lU) (pD lU) _ (by omega) k5 (by omega) kU (hD.ext Bc) I5.out.rects OU.out.rects).mono ?_
  rintro e wLE ⟨⟨aLE, cLE, rfl, kLE, oLE⟩, bLE⟩
  rw [← HLLE.out] at kLE oLE ⊢
  have oLE := Lib.hid oLE
  clear I5
  clear OU
  have I1 := Lib.hid (I1.out.ext bLE)
  have I2 := Lib.hid (I2.out.ext bLE)
  have I3 := Lib.hid (I3.out.ext bLE)
  have I4 := Lib.hid (I4.out.ext bLE)
  have Bc := Ext.trans Bc bLE
  clear bLE
  have OLE := oLE
  clear oLE
  go_wp2_with fail
  refine (copyRects_any _ h3 c3 l3 _ (by omega) I3.out).mono ?_
  rintro e w8 ⟨h8, c8, rfl, k8, i8, b8⟩
  have i8 := Lib.hid i8
  have I1 := Lib.hid (I1.out.ext b8)
  have I2 := Lib.hid (I2.out.ext b8)
  have I3 := Lib.hid (I3.out.ext b8)
  have I4 := Lib.hid (I4.out.ext b8)
  have OLE := Lib.hid (OLE.out.below b8)
  have Bc := Ext.trans Bc b8
  clear b8
  have I8 := i8
  clear i8
  go_wp2_with fail
  refine (copyRects_any _ h1 c1 l1 _ (by omega) I1.out).mono ?_
  rintro e w9 ⟨h9, c9, rfl, k9, i9, b9⟩
  have i9 := Lib.hid i9
  have I1 := Lib.hid (I1.out.ext b9)
  have I2 := Lib.hid (I2.out.ext b9)
  have I3 := Lib.hid (I3.out.ext b9)
  have I4 := Lib.hid (I4.out.ext b9)
  have I8 := Lib.hid (I8.out.ext b9)
  have OLE := Lib.hid (OLE.out.below b9)
  have Bc := Ext.trans Bc b9
  clear b9
  have I9 := i9
  clear i9
  go_wp2_with fail
  refine (implIntersectionC_any M8 (some ⟨h8, 0, none⟩) l3.length c8 (pA l3) (pB l3) (pC l3) (pD l3) (some ⟨h9, 0, none⟩) l1.length c9 (pA l1) (pB l1) (pC l1) (pD l1) _ (by omega) k8 (by omega) k9 (hD.ext Bc) I8.out.rects I9.out.rects).mono ?_
  rintro e wCA ⟨⟨aCA, cCA, rfl, kCA, oCA⟩, bCA⟩
  rw [← HLCA.out] at kCA oCA ⊢
  have oCA := Lib.hid oCA
  clear I8
  clear I9
  have I1 := Lib.hid (I1.out.ext bCA)
  have I2 := Lib.hid (I2.out.ext bCA)
  have I3 := Lib.hid (I3.out.ext bCA)
  have I4 := Lib.hid (I4.out.ext bCA)
  have OLE := Lib.hid (OLE.out.below bCA)
  have Bc := Ext.trans Bc bCA
  clear bCA
  have OCA := oCA
  clear oCA
  go_wp2_with fail
  refine (copyRects_any _ h3 c3 l3 _ (by omega) I3.out).mono ?_
  rintro e w10 ⟨h10, c10, rfl, k10, i10, b10⟩
  have i10 := Lib.hid i10
  have I1 := Lib.hid (I1.out.ext b10)
  have I2 := Lib.hid (I2.out.ext b10)
  have I3 := Lib.hid (I3.out.ext b10)
  have I4 := Lib.hid (I4.out.ext b10)
  have OLE := Lib.hid (OLE.out.below b10)
  have OCA := Lib.hid (OCA.out.below b10)
  have Bc := Ext.trans Bc b10
  clear b10
  have I10 := i10
  clear i10
  go_wp2_with fail
  refine (copyRects_any _ h2 c2 l2 _ (by omega) I2.out).mono ?_
  rintro e w11 ⟨h11, c11, rfl, k11, i11, b11⟩
  have i11 := Lib.hid i11
  have I1 := Lib.hid (I1.out.ext b11)
  have I2 := Lib.hid (I2.out.ext b11)
  have I3 := Lib.hid (I3.out.ext b11)
  have I4 := Lib.hid (I4.out.ext b11)
  have I10 := Lib.hid (I10.out.ext b11)
  have OLE := Lib.hid (OLE.out.below b11)
  have OCA := Lib.hid (OCA.out.below b11)
  have Bc := Ext.trans Bc b11
  clear b11
  have I11 := i11
  clear i11
  go_wp2_with fail
  refine (implIntersectionC_any M8 (some ⟨h10, 0, none⟩) l3.length c10 (pA l3) (pB l3) (pC l3) (pD l3) (some ⟨h11, 0, none⟩) l2.length c11 (pA l2) (pB l2) (pC l2) (pD l2) _ (by omega) k10 (by omega) k11 (hD.ext Bc) I10.out.rects I11.out.rects).mono ?_
  rintro e wCB ⟨⟨aCB, cCB, rfl, kCB, oCB⟩, bCB⟩
  rw [← HLCB.out] at kCB oCB ⊢
  have oCB := Lib.hid oCB
  clear I10
  clear I11
  have I1 := Lib.hid (I1.out.ext bCB)
  have I2 := Lib.hid (I2.out.ext bCB)
  have I3 := Lib.hid (I3.out.ext bCB)
  have I4 := Lib.hid (I4.out.ext bCB)
  have OLE := Lib.hid (OLE.out.below bCB)
  have OCA := Lib.hid (OCA.out.below bCB)
  have Bc := Ext.trans Bc bCB
  clear bCB
  have OCB := oCB
  clear oCB
  go_wp2_with fail
  refine (implUnionC_any M14 aCA lCA.length cCA (pA lCA) (pB lCA) (pC lCA) (pD lCA) aCB lCB.length cCB (pA lCB) (pB lCB) (pC lCB) (pD lCB) _ (by omega) kCA (by omega) kCB (hD.ext Bc) OCA.out.rects OCB.out.rects).mono ?_
  rintro e wRI ⟨⟨aRI, cRI, rfl, kRI, oRI⟩, bRI⟩
  rw [← HLRI.out] at kRI oRI ⊢
  have oRI := Lib.hid oRI
  clear OCA
  clear OCB
  have I1 := Lib.hid (I1.out.ext bRI)
  have I2 := Lib.hid (I2.out.ext bRI)
  have I3 := Lib.hid (I3.out.ext bRI)
  have I4 := Lib.hid (I4.out.ext bRI)
  have OLE := Lib.hid (OLE.out.below bRI)
  have Bc := Ext.trans Bc bRI
  clear bRI
  have ORI := oRI
  clear oRI
  go_wp2_with fail
  refine (copyRects_any _ h1 c1 l1 _ (by omega) I1.out).mono ?_
  rintro e w12 ⟨h12, c12, rfl, k12, i12, b12⟩
  have i12 := Lib.hid i12
  have I1 := Lib.hid (I1.out.ext b12)
  have I2 := Lib.hid (I2.out.ext b12)
  have I3 := Lib.hid (I3.out.ext b12)
  have I4 := Lib.hid (I4.out.ext b12)
  have OLE := Lib.hid (OLE.out.below b12)
  have ORI := Lib.hid (ORI.out.below b12)
  have Bc := Ext.trans Bc b12
  clear b12
  have I12 := i12
  clear i12
  go_wp2_with fail
  refine (copyRects_any _ h2 c2 l2 _ (by omega) I2.out).mono ?_
  rintro e w13 ⟨h13, c13, rfl, k13, i13, b13⟩
  have i13 := Lib.hid i13
  have I1 := Lib.hid (I1.out.ext b13)
  have I2 := Lib.hid (I2.out.ext b13)
  have I3 := Lib.hid (I3.out.ext b13)
  have I4 := Lib.hid (I4.out.ext b13)
  have I12 := Lib.hid (I12.out.ext b13)
  have OLE := Lib.hid (OLE.out.below b13)
  have ORI := Lib.hid (ORI.out.below b13)
  have Bc := Ext.trans Bc b13
  clear b13
  have I13 := i13
  clear i13
  go_wp2_with fail
  refine (copyRects_any _ h3 c3 l3 _ (by omega) I3.out).mono ?_
  rintro e w14 ⟨h14, c14, rfl, k14, i14, b14⟩
  have i14 := Lib.hid i14
  have I1 := Lib.hid (I1.out.ext b14)
  have I2 := Lib.hid (I2.out.ext b14)
  have I3 := Lib.hid (I3.out.ext b14)
  have I4 := Lib.hid (I4.out.ext b14)
  have I12 := Lib.hid (I12.out.ext b14)
  have I13 := Lib.hid (I13.out.ext b14)
  have OLE := Lib.hid (OLE.out.below b14)
  have ORI := Lib.hid (ORI.out.below b14)
  have Bc := Ext.trans Bc b14
  clear b14
  have I14 := i14
  clear i14
  go_wp2_with fail
  refine (copyRects_any _ h4 c4 l4 _ (by omega) I4.out).mono ?_
  rintro e w15 ⟨h15, c15, rfl, k15, i15, b15⟩
  have i15 := Lib.hid i15
  have I1 := Lib.hid (I1.out.ext b15)
  have I2 := Lib.hid (I2.out.ext b15)
  have I3 := Lib.hid (I3.out.ext b15)
  have I4 := Lib.hid (I4.out.ext b15)
  have I12 := Lib.hid (I12.out.ext b15)
  have I13 := Lib.hid (I13.out.ext b15)
  have I14 := Lib.hid (I14.out.ext b15)
  have OLE := Lib.hid (OLE.out.below b15)
  have ORI := Lib.hid (ORI.out.below b15)
  have Bc := Ext.trans Bc b15
  clear b15
  have I15 := i15
  clear i15
  obtain ⟨wz, hwz⟩ : ∃ wz, wz = w15.alloc (.cells #[.slice (some ⟨h12, 0, none⟩) l1.length c12, .slice (some ⟨h13, 0, none⟩) l2.length c13, .slice (some ⟨h14, 0, none⟩) l3.length c14, .slice (some ⟨h15, 0, none⟩) l4.length c15] 38) := ⟨_, rfl⟩
  have bz : Below w15.heap.size w15 wz := by rw [hwz]; (repeat (first | (with_reducible exact Below.refl _ _) | (with_reducible refine Ext.drewN ?_ _) | (with_reducible refine Below.drew ?_) | (with_reducible refine Ext.alloc ?_ _) | (with_reducible refine Ext.setCell ?_ (by simp; try omega) _) | (with_reducible refine Ext.trans ?_ (by assumption)) | (with_reducible assumption) | exact Below.refl _ _))
  have sz : wz.heap.size = w15.heap.size + 1 := by rw [hwz]; simp
  have cz : Hid (∀ i, i < 4 → wz.cell? ⟨w15.heap.size, 0 + i, none⟩ = some (.slice (pick4 (some ⟨h12, 0, none⟩) (some ⟨h13, 0, none⟩) (some ⟨h14, 0, none⟩) (some ⟨h15, 0, none⟩) i) (pick4 l1.length l2.length l3.length l4.length i) (pick4 c12 c13 c14 c15 i))) := Lib.hid (fun i hi => by
    rw [hwz]
    obtain rfl | rfl | rfl | rfl : i = 0 ∨ i = 1 ∨ i = 2 ∨ i = 3 := by omega
    all_goals simp [go_sem, pick4])
  have I1 := Lib.hid (I1.out.ext bz)
  have I2 := Lib.hid (I2.out.ext bz)
  have I3 := Lib.hid (I3.out.ext bz)
  have I4 := Lib.hid (I4.out.ext bz)
  have I12 := Lib.hid (I12.out.ext bz)
  have I13 := Lib.hid (I13.out.ext bz)
  have I14 := Lib.hid (I14.out.ext bz)
  have I15 := Lib.hid (I15.out.ext bz)
  have OLE := Lib.hid (OLE.out.below bz)
  have ORI := Lib.hid (ORI.out.below bz)
  have Bc := Ext.trans Bc bz
  clear bz
  go_wp2_with fail
  rw [← hwz]
  clear hwz
  refine (implUnionAll_any M14 (some ⟨w15.heap.size, 0, none⟩) 4 4 (pick4 (some ⟨h12, 0, none⟩) (some ⟨h13, 0, none⟩) (some ⟨h14, 0, none⟩) (some ⟨h15, 0, none⟩)) (pick4 l1.length l2.length l3.length l4.length) (pick4 c12 c13 c14 c15) (pick4 (pA l1) (pA l2) (pA l3) (pA l4)) (pick4 (pB l1) (pB l2) (pB l3) (pB l4)) (pick4 (pC l1) (pC l2) (pC l3) (pC l4)) (pick4 (pD l1) (pD l2) (pD l3) (pD l4)) wz (by omega) (hD.ext Bc) (fun i hi => ?_)).mono ?_
  · refine ⟨⟨_, 0, rfl, by omega, cz.out i hi⟩, ?_⟩
    obtain rfl | rfl | rfl | rfl : i = 0 ∨ i = 1 ∨ i = 2 ∨ i = 3 := by omega
    · exact ⟨by show l1.length ≤ _; omega, k12, I12.out.rects⟩
    · exact ⟨by show l2.length ≤ _; omega, k13, I13.out.rects⟩
    · exact ⟨by show l3.length ≤ _; omega, k14, I14.out.rects⟩
    · exact ⟨by show l4.length ≤ _; omega, k15, I15.out.rects⟩
  clear cz
  rintro e wAL ⟨⟨aAL, cAL, rfl, oAL⟩, bAL⟩
  rw [← HLAL.out] at oAL ⊢
  have oAL := Lib.hid oAL
  clear I12
  clear I13
  clear I14
  clear I15
  have I1 := Lib.hid (I1.out.ext bAL)
  have I2 := Lib.hid (I2.out.ext bAL)
  have I3 := Lib.hid (I3.out.ext bAL)
  have I4 := Lib.hid (I4.out.ext bAL)
  have OLE := Lib.hid (OLE.out.below bAL)
  have ORI := Lib.hid (ORI.out.below bAL)
  have Bc := Ext.trans Bc bAL
  clear bAL
  have OAL := oAL
  clear oAL
  go_wp2_with fail
  refine (copyRects_any _ h1 c1 l1 _ (by omega) I1.out).mono ?_
  rintro e w16 ⟨h16, c16, rfl, k16, i16, b16⟩
  have i16 := Lib.hid i16
  have I1 := Lib.hid (I1.out.ext b16)
  have I2 := Lib.hid (I2.out.ext b16)
  have I3 := Lib.hid (I3.out.ext b16)
  have I4 := Lib.hid (I4.out.ext b16)
  have OLE := Lib.hid (OLE.out.below b16)
  have ORI := Lib.hid (ORI.out.below b16)
  have OAL := Lib.hid (OAL.out.below b16)
  have Bc := Ext.trans Bc b16
  clear b16
  have I16 := i16
  clear i16
  go_wp2_with fail
  refine (copyRects_any _ h2 c2 l2 _ (by omega) I2.out).mono ?_
  rintro e w17 ⟨h17, c17, rfl, k17, i17, b17⟩
  have i17 := Lib.hid i17
  have I1 := Lib.hid (I1.out.ext b17)
  have I2 := Lib.hid (I2.out.ext b17)
  have I3 := Lib.hid (I3.out.ext b17)
  have I4 := Lib.hid (I4.out.ext b17)
  have I16 := Lib.hid (I16.out.ext b17)
  have OLE := Lib.hid (OLE.out.below b17)
  have ORI := Lib.hid (ORI.out.below b17)
  have OAL := Lib.hid (OAL.out.below b17)
  have Bc := Ext.trans Bc b17
  clear b17
  have I17 := i17
  clear i17
  go_wp2_with fail
  refine (implUnionC_any M14 (some ⟨h16, 0, none⟩) l1.length c16 (pA l1) (pB l1) (pC l1) (pD l1) (some ⟨h17, 0, none⟩) l2.length c17 (pA l2) (pB l2) (pC l2) (pD l2) _ (by omega) k16 (by omega) k17 (hD.ext Bc) I16.out.rects I17.out.rects).mono ?_
  rintro e wU ⟨⟨aU, cU, rfl, kU, oU⟩, bU⟩
  rw [← HLU.out] at kU oU ⊢
  have oU := Lib.hid oU
  clear I16
  clear I17
  have I1 := Lib.hid (I1.out.ext bU)
  have I2 := Lib.hid (I2.out.ext bU)
  have I3 := Lib.hid (I3.out.ext bU)
  have I4 := Lib.hid (I4.out.ext bU)
  have OLE := Lib.hid (OLE.out.below bU)
  have ORI := Lib.hid (ORI.out.below bU)
  have OAL := Lib.hid (OAL.out.below bU)
  have Bc := Ext.trans Bc bU
  clear bU
  have OU := oU
  clear oU
  go_wp2_with fail
  refine (copyRects_any _ h3 c3 l3 _ (by omega) I3.out).mono ?_
  rintro e w18 ⟨h18, c18, rfl, k18, i18, b18⟩
  have i18 := Lib.hid i18
  have I1 := Lib.hid (I1.out.ext b18)
  have I2 := Lib.hid (I2.out.ext b18)
  have I3 := Lib.hid (I3.out.ext b18)
  have I4 := Lib.hid (I4.out.ext b18)
  have OLE := Lib.hid (OLE.out.below b18)
  have ORI := Lib.hid (ORI.out.below b18)
  have OAL := Lib.hid (OAL.out.below b18)
  have OU := Lib.hid (OU.out.below b18)
  have Bc := Ext.trans Bc b18
  clear b18
  have I18 := i18
  clear i18
  go_wp2_with fail
  refine (copyRects_any _ h4 c4 l4 _ (by omega) I4.out).mono ?_
  rintro e w19 ⟨h19, c19, rfl, k19, i19, b19⟩
  have i19 := Lib.hid i19
  have I1 := Lib.hid (I1.out.ext b19)
  have I2 := Lib.hid (I2.out.ext b19)
  have I3 := Lib.hid (I3.out.ext b19)
  have I4 := Lib.hid (I4.out.ext b19)
  have I18 := Lib.hid (I18.out.ext b19)
  have OLE := Lib.hid (OLE.out.below b19)
  have ORI := Lib.hid (ORI.out.below b19)
  have OAL := Lib.hid (OAL.out.below b19)
  have OU := Lib.hid (OU.out.below b19)
  have Bc := Ext.trans Bc b19
  clear b19
  have I19 := i19
  clear i19
  go_wp2_with fail
  refine (implUnionC_any M14 (some ⟨h18, 0, none⟩) l3.length c18 (pA l3) (pB l3) (pC l3) (pD l3) (some ⟨h19, 0, none⟩) l4.length c19 (pA l4) (pB l4) (pC l4) (pD l4) _ (by omega) k18 (by omega) k19 (hD.ext Bc) I18.out.rects I19.out.rects).mono ?_
  rintro e wV ⟨⟨aV, cV, rfl, kV, oV⟩, bV⟩
  rw [← HLV.out] at kV oV ⊢
  have oV := Lib.hid oV
  clear I18
  clear I19
  have I1 := Lib.hid (I1.out.ext bV)
  have I2 := Lib.hid (I2.out.ext bV)
  have I3 := Lib.hid (I3.out.ext bV)
  have I4 := Lib.hid (I4.out.ext bV)
  have OLE := Lib.hid (OLE.out.below bV)
  have ORI := Lib.hid (ORI.out.below bV)
  have OAL := Lib.hid (OAL.out.below bV)
  have OU := Lib.hid (OU.out.below bV)
  have Bc := Ext.trans Bc bV
  clear bV
  have OV := oV
  clear oV
  go_wp2_with fail
  refine (implUnionC_any M14 aU lU.length cU (pA lU) (pB lU) (pC lU) (pD lU) aV lV.length cV (pA lV) (pB lV) (pC lV) (pD lV) _ (by omega) kU (by omega) kV (hD.ext Bc) OU.out.rects OV.out.rects).mono ?_
  rintro e wPR ⟨⟨aPR, cPR, rfl, kPR, oPR⟩, bPR⟩
  rw [← HLPR.out] at kPR oPR ⊢
  have oPR := Lib.hid oPR
  clear OU
  clear OV
  have I1 := Lib.hid (I1.out.ext bPR)
  have I2 := Lib.hid (I2.out.ext bPR)
  have I3 := Lib.hid (I3.out.ext bPR)
  have I4 := Lib.hid (I4.out.ext bPR)
  have OLE := Lib.hid (OLE.out.below bPR)
  have ORI := Lib.hid (ORI.out.below bPR)
  have OAL := Lib.hid (OAL.out.below bPR)
  have Bc := Ext.trans Bc bPR
  clear bPR
  have OPR := oPR
  clear oPR
  go_wp2_with fail
  refine (sameRects_any aLE lLE.length cLE (pA lLE) (pB lLE) (pC lLE) (pD lLE) aRI lRI.length cRI (pA lRI) (pB lRI) (pC lRI) (pD lRI) _ (by omega) (by omega) OLE.out.rects ORI.out.rects).mono ?_
  rintro e va ⟨rfl, ba⟩
  rw [Sa.out]
  clear ORI
  have I1 := Lib.hid (I1.out.ext ba)
  have I2 := Lib.hid (I2.out.ext ba)
  have I3 := Lib.hid (I3.out.ext ba)
  have I4 := Lib.hid (I4.out.ext ba)
  have OLE := Lib.hid (OLE.out.below ba)
  have OAL := Lib.hid (OAL.out.below ba)
  have OPR := Lib.hid (OPR.out.below ba)
  have Bc := Ext.trans Bc ba
  clear ba
  go_wp2_with fail
  refine (sameRects_any aAL lAL.length cAL (pA lAL) (pB lAL) (pC lAL) (pD lAL) aPR lPR.length cPR (pA lPR) (pB lPR) (pC lPR) (pD lPR) _ (by omega) (by omega) OAL.out.rects OPR.out.rects).mono ?_
  rintro e vb ⟨rfl, bb⟩
  rw [Sb.out]
  clear OAL
  clear OPR
  have I1 := Lib.hid (I1.out.ext bb)
  have I2 := Lib.hid (I2.out.ext bb)
  have I3 := Lib.hid (I3.out.ext bb)
  have I4 := Lib.hid (I4.out.ext bb)
  have OLE := Lib.hid (OLE.out.below bb)
  have Bc := Ext.trans Bc bb
  clear bb
  go_wp2_with fail
  refine (specUnion_all (some ⟨h1, 0, none⟩) l1.length c1 (pA l1) (pB l1) (pC l1) (pD l1) (some ⟨h2, 0, none⟩) l2.length c2 (pA l2) (pB l2) (pC l2) (pD l2) _ (by omega) (by omega) I1.out.rects I2.out.rects).mono ?_
  rintro e ws ⟨⟨aq, cq, rfl, oq⟩, bs⟩
  rw [← HLU.out] at oq ⊢
  have oq := Lib.hid oq
  have I1 := Lib.hid (I1.out.ext bs)
  have I2 := Lib.hid (I2.out.ext bs)
  have I3 := Lib.hid (I3.out.ext bs)
  have I4 := Lib.hid (I4.out.ext bs)
  have OLE := Lib.hid (OLE.out.below bs)
  have Bc := Ext.trans Bc bs
  clear bs
  go_wp2_with fail
  refine (specIntersection_all (some ⟨h3, 0, none⟩) l3.length c3 (pA l3) (pB l3) (pC l3) (pD l3) aq lU.length cq (pA lU) (pB lU) (pC lU) (pD lU) _ (by omega) (by omega) I3.out.rects oq.out).mono ?_
  rintro e wt ⟨⟨at1, ct, rfl, ot⟩, bt⟩
  rw [← HLLE.out] at ot ⊢
  have ot := Lib.hid ot
  clear oq
  have I1 := Lib.hid (I1.out.ext bt)
  have I2 := Lib.hid (I2.out.ext bt)
  have I3 := Lib.hid (I3.out.ext bt)
  have I4 := Lib.hid (I4.out.ext bt)
  have OLE := Lib.hid (OLE.out.below bt)
  have Bc := Ext.trans Bc bt
  clear bt
  go_wp2_with fail
  refine (sameRects_any aLE lLE.length cLE (pA lLE) (pB lLE) (pC lLE) (pD lLE) at1 lLE.length ct (pA lLE) (pB lLE) (pC lLE) (pD lLE) _ (by omega) (by omega) OLE.out.rects ot.out).mono ?_
  rintro e vf ⟨rfl, bf⟩
  rw [decide_eq_true (Eq.refl (listR (pA lLE) (pB lLE) (pC lLE) (pD lLE) lLE.length))]
  have Bc := Ext.trans Bc bf
  go_wp2_with fail
  go_ret
  exact ⟨rfl, Bc⟩
end Go.Proofs.YtdcddneanbplpaaDoor

/- For every input the law FnDistributive answers true and leaves its arguments as they were. Condition: the listed package-level variables hold what the program's text lays (the card ties them). -/
namespace Go.Proofs.YtdcddneanbplpaaDoor.fnDistributive
open Go.Proofs.YtdcddneanbplpaaDoor
open Go.ChangeShapes Go.WideShapes Go.ChangeAt Go.RowKit Go.Joins
open Go.ChangeMaps (open_string shut_string)
set_option linter.unusedVariables false

theorem addN0 (x : Addr) : x.add 0 = x := by simp [Addr.add]
theorem addNk (b o k : Nat) : (⟨b, o, none⟩ : Addr).add k = ⟨b, o + k, none⟩ := by
  unfold Addr.add
  split
  · rename_i h; subst h; rfl
  · rfl
theorem own : ownKnob Tryd.prog.godebug = none := by kernel_rfl
theorem laidOut : laidOutB Tryd.prog = true := by kernel_rfl

abbrev laid := Rows.fnDistributiveRow.laid
set_option maxRecDepth 100000 in
theorem lifted (os : Os) (started : os.Started) (H : Type) (enc : TypeId × Value → H) :
    ReturnsInHanded {} Tryd.checked os 13 .any (fun w args => (Rows.fnDistributiveSpec.pre enc Tryd.prog Tryd.f13 Rows.fnDistributiveRow.domain false w args ∧ laidMetH Tryd.prog Rows.fnDistributiveRow.laid w) ∧ sizedMet enc Tryd.prog Tryd.f13 (OpenSpec.ofChange Rows.fnDistributiveSpec) false w args)
      (Rows.fnDistributiveSpec.post enc Tryd.prog Tryd.f13 false true false false) := by
  refine returnsInHanded_of_change_and (C := Tryd.checked) (X := fun w _ => laidMetH Tryd.prog Rows.fnDistributiveRow.laid w) (fun _ _ _ hh h => h.of_heap hh) own started (by kernel_rfl) Tryd.func13
    (ChangeSpec.witness_shaped (enc := enc) (C := Tryd.checked) (os := os) (X := fun w _ => laidMetH Tryd.prog Rows.fnDistributiveRow.laid w) false (World.laidAll Tryd.prog os Rows.fnDistributiveRow.laid) #[.slice none 0 0] 8 (World.laidAll_os _ _ _)
      (World.shaped_of_ZipB (by kernel_rfl) (by kernel_rfl)) (by kernel_rfl) (by kernel_rfl) (by kernel_rfl)
      (by rw [MakeChecks.laidMetH_plain _ _ _ (by kernel_rfl)]; exact laidMet_laidAll _ (by kernel_rfl) (by kernel_rfl))) ?_
  intro W base args ds gs before hval0 hW hcnd _ hL _
  have hval : ∀ (j : Nat) t v, Tryd.f13.params[j]? = some t → args[j]? = some v → Value.okWide Tryd.prog W .any base t v := hval0
  have hW' := hW
  obtain ⟨p, q, hA0, hV, rfl, hfz, hnd⟩ := hW
  have hA : DataW.TrodAll enc Tryd.prog W 0 (fun _ => true) true Tryd.f13.params.toList args.toList ds p := hA0
  rw [Tryd.params13] at hA hval
  obtain ⟨v0, vs0, d0, ds0, p0, q0, hargs, rfl, rfl, h0, r0⟩ := trodAll_cons hA
  obtain ⟨rfl, rfl, rfl⟩ := trodAll_nil r0
  obtain rfl : args = #[v0] := by cases args; simp_all
  obtain ⟨g0, gt0, gcs0, gf0, gd0, gp0, rfl, hg1, hg2, hg3, hg4, hg5⟩ := trodVars_one hV
  have k0 := h0
  have lt0 : ∀ x ∈ p0, x.block < W.heap.size := by obtain ⟨m, hm⟩ := k0; exact DataW.trod_lt m _ _ _ hm
  obtain ⟨a0, len0, cap0, rfl⟩ := okWide_slice Tryd.underlying50 (hval 0 50 v0 rfl rfl)
  have code0 : len0 ≤ maxLen ∧ CodeIs W.heap.size W a0 len0 := by
    obtain ⟨fuel, hf⟩ := h0
    rcases open_ints Tryd.underlying50 Tryd.underlying5 (by kernel_rfl) hf with ⟨hcs, _⟩ | ⟨x, l, c, zs, hcs, _, hl, hm, hz, _, hcell, hwz⟩
    · simp [Value.cells] at hcs
      obtain ⟨rfl, rfl, rfl⟩ := hcs
      exact ⟨Nat.zero_le _, fun k hk => absurd hk (by omega)⟩
    · simp [Value.cells] at hcs
      obtain ⟨rfl, rfl, rfl⟩ := hcs
      have hz' := hz
      simp at hz'
      refine ⟨by omega, fun k hk => ?_⟩
      have hk' : k < zs.length := by omega
      have hc0 := hcell 0 (by omega)
      have hc := hcell k hk'
      rw [addN0] at hc0
      have hsp : x.spot = none := Go.Proofs.cell_spot hc0
      have hw := hwz (zs.getD k 0) (by rw [List.getD, List.getElem?_eq_getElem hk']; exact List.getElem_mem hk')
      have hb := bounds_u8 hw
      obtain ⟨xb, xo, xs⟩ := x
      obtain rfl : xs = none := hsp
      rw [addNk] at hc
      exact ⟨xb, xo, zs.getD k 0, rfl, World.block_lt_of_cell? W ⟨xb, xo + k, none⟩ hc, hc, hb.1, hb.2⟩
  have hEnv : EnvW W := ⟨deb_of_laid hL (by kernel_rfl) (by simp [Rows.fnDistributiveRow]), chip_of_laid hL (by kernel_rfl) (by simp [Rows.fnDistributiveRow])⟩
  clear hA0 hval0
  refine (walkDistributive a0 len0 cap0 W code0.1 code0.2 hEnv).mono fun e W' ⟨he, bel⟩ => ?_
  subst he
  exact ⟨_, rfl, _, _, _, [], _, _, hW', trodAll_mk1 (shut_bool Tryd.underlying4 _), (trodAll_cons_mk (Below.trod laidOut (by kernel_rfl) (of_decide_eq_true (by kernel_rfl)) k0 bel lt0) trodAll_mk0), (Below.trodVars laidOut bel (by kernel_rfl) hV), bel.frame _, fun h => by cases h⟩

end Go.Proofs.YtdcddneanbplpaaDoor.fnDistributive
