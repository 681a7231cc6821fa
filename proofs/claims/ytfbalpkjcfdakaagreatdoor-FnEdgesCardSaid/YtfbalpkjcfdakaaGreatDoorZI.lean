/- RegionFromEdges: lists of edges copied and compared; the model's and the program's. Conditions: the edges' cells are in memory; the tables are in memory. -/
import Derived.Test.YtfbalpkjcfdakaaGreatDoorZE
import Derived.Test.YtfbalpkjcfdakaaGreatDoorZB
import Derived.Test.YtfbalpkjcfdakaaGreatDoorZA
import Derived.Test.YtfbalpkjcfdakaaGreatDoorZF
import Derived.Test.YtfbalpkjcfdakaaGreatDoorZH
import Derived.Test.YtfbalpkjcfdakaaGreatDoorQT
import Derived.Test.YtfbalpkjcfdakaaGreatDoorQC
import Derived.Test.YtfbalpkjcfdakaaGreatDoorQH
namespace Go.Proofs.YtfbalpkjcfdakaaGreatDoor
open Go.RowKit Go.Shelf
set_option linter.unusedVariables false
set_option linter.unusedSimpArgs false
attribute [local go_sem ↓] Go.wp_at_zero Go.wp_at_succ

theorem szEdgeS_any (a : Option Addr) (len cap : Nat) (l : Int) (w : World) (h0 : 0 ≤ l) (h1 : l ≤ 1048576) (hlen : len ≤ maxLen) : Calls Tryz.prog 26 #[.slice a len cap, .int .i64 l] w fun e w' => e = .returned (.int .i64 (if (len : Int) ≤ l then l - len else -1)) ∧ w = w' := by
  unfold maxLen at hlen
  by_cases h : (len : Int) ≤ l
  · rw [if_pos h]
    have h2 : ¬ (l - (len : Int) < 0) := by omega
    go_enter Tryz.func26, Tryz.ntmps26
    go_wp2
    go_ret
    exact ⟨rfl, rfl⟩
  · rw [if_neg h]
    have h2 : l - (len : Int) < 0 := by omega
    go_enter Tryz.func26, Tryz.ntmps26
    go_wp2
    go_ret
    exact ⟨rfl, rfl⟩
set_option maxHeartbeats 4000000 in
theorem toEdgeS_any (a : Option Addr) (len cap : Nat) (P Q R S : Nat → Int) (w : World) (hlen : len ≤ 1048576) (hP : RectsIs w.heap.size w a len P Q R S) :
    Calls Tryz.prog 28 #[.slice a len cap] w (CopiedR w len P Q R S) := by
  obtain ⟨i0, hi, hz0, hz1, hz2⟩ := info_parts Tryz.infoE
  go_enter Tryz.func28, Tryz.ntmps28
  go_wp2_with (at_make; refine wpList_make_full _ rfl _ _ 47 rfl w.heap.size 55 i0 (.agg #[.int .i64 0, .int .i64 0, .int .i64 0, .int .i64 0]) 4 Tryz.underlying47 hi hz0 hz1 .i64 .i64 len len len rfl rfl rfl rfl (by rw [hz2]; omega) (by unfold maxLen; omega) (Nat.le_refl _) ?_; intro w1 own1 grow1)
  have hB1 : Below w.heap.size w w1 := (Below.refl _ _).grown grow1 (Nat.le_refl _) (fun k hk => by cases hk)
  have hlt1 := (own1.lt w.heap.size rfl).2
  have hF1 : FillR w.heap.size len 0 w1 P Q R S := fun k hk => by
    refine ⟨⟨?_, ?_, ?_, ?_⟩, own1.frozenAt _, own1.frozenAt _, own1.frozenAt _, own1.frozenAt _⟩
    all_goals
      rw [own1.cellAt _ (by omega)]
      exact made4 _ _ (by omega)
  clear own1 grow1 hi hz0 hz1 hz2
  go_loopw [4] (fun s4 wr => ∃ i : Nat, i ≤ len ∧ s4 = .int .i64 i ∧ w.heap.size < wr.heap.size ∧ Below w.heap.size w wr ∧ FillR w.heap.size len i wr P Q R S) (fun s4 _ => len - (intOf s4).toNat)
  case atStart => exact ⟨0, by omega, rfl, hlt1, hB1, hF1⟩
  case round =>
    obtain ⟨i, hi, rfl, hsz, hW, hF⟩ := hrel
    clear hF1 hB1 hlt1
    by_cases hlt : i < len
    · obtain ⟨b, off, rfl, hb, c0, c1, c2, c3⟩ := hP.below hW i hlt
      have q1 : (i : Int) < (len : Int) := by omega
      have q0 : (0 : Int) ≤ (i : Int) := by omega
      go_wp2_with fail
      refine (toEdge_any _ _ _ _ _).mono ?_
      rintro e w2 ⟨rfl, bw2⟩
      have hF2 := hF.below bw2 hsz
      have hs2 := bw2.size
      obtain ⟨⟨d0, d1, d2, d3⟩, f0, f1, f2, f3⟩ := hF2 i hlt
      have HF := hF2.step hlt
      go_wp2_with fail
      go_roundw
      case rel => exact ⟨i + 1, by omega, by go_num, by simp; omega, by (repeat (first | (with_reducible exact Below.refl _ _) | (with_reducible refine Ext.drewN ?_ _) | (with_reducible refine Below.drew ?_) | (with_reducible refine Ext.alloc ?_ _) | (with_reducible refine Ext.setCell ?_ (by simp; try omega) _) | (with_reducible refine Ext.trans ?_ (by assumption)) | (with_reducible assumption) | exact Below.refl _ _)), HF⟩
      case measure => simp [intOf]; omega
    · have q1 : ¬ (i : Int) < (len : Int) := by omega
      obtain rfl : i = len := by omega
      go_wp2_with fail
      go_ret
      exact ⟨w.heap.size, Nat.le_refl _, hsz, rfl, hW, fun k hk => by
        obtain ⟨⟨c0, c1, c2, c3⟩, f0, f1, f2, f3⟩ := hF k hk
        rw [if_pos hk] at c0 c1 c2 c3
        exact ⟨w.heap.size, 0, rfl, hsz, by simpa using c0, by simpa using c1, by simpa using c2, by simpa using c3⟩⟩
set_option maxHeartbeats 4000000 in
theorem toEdgeS_row (a : Option Addr) (len cap : Nat) (P Q R S : Nat → Int) (w : World) (hlen : len ≤ 1048576) (hP : RectsIs w.heap.size w a len P Q R S) :
    Calls Tryz.prog 28 #[.slice a len cap] w (CopyRow w len P Q R S) := by
  obtain ⟨i0, hi, hz0, hz1, hz2⟩ := info_parts Tryz.infoE
  go_enter Tryz.func28, Tryz.ntmps28
  go_wp2_with (at_make; refine wpList_make_full _ rfl _ _ 47 rfl w.heap.size 55 i0 (.agg #[.int .i64 0, .int .i64 0, .int .i64 0, .int .i64 0]) 4 Tryz.underlying47 hi hz0 hz1 .i64 .i64 len len len rfl rfl rfl rfl (by rw [hz2]; omega) (by unfold maxLen; omega) (Nat.le_refl _) ?_; intro w1 own1 grow1)
  have hB1 : Below w.heap.size w w1 := (Below.refl _ _).grown grow1 (Nat.le_refl _) (fun k hk => by cases hk)
  have hlt1 := (own1.lt w.heap.size rfl).2
  have hF1 : FillR w.heap.size len 0 w1 P Q R S := fun k hk => by
    refine ⟨⟨?_, ?_, ?_, ?_⟩, own1.frozenAt _, own1.frozenAt _, own1.frozenAt _, own1.frozenAt _⟩
    all_goals
      rw [own1.cellAt _ (by omega)]
      exact made4 _ _ (by omega)
  clear own1 grow1 hi hz0 hz1 hz2
  go_loopw [4] (fun s4 wr => ∃ i : Nat, i ≤ len ∧ s4 = .int .i64 i ∧ w.heap.size < wr.heap.size ∧ Below w.heap.size w wr ∧ FillR w.heap.size len i wr P Q R S) (fun s4 _ => len - (intOf s4).toNat)
  case atStart => exact ⟨0, by omega, rfl, hlt1, hB1, hF1⟩
  case round =>
    obtain ⟨i, hi, rfl, hsz, hW, hF⟩ := hrel
    clear hF1 hB1 hlt1
    by_cases hlt : i < len
    · obtain ⟨b, off, rfl, hb, c0, c1, c2, c3⟩ := hP.below hW i hlt
      have q1 : (i : Int) < (len : Int) := by omega
      have q0 : (0 : Int) ≤ (i : Int) := by omega
      go_wp2_with fail
      refine (toEdge_any _ _ _ _ _).mono ?_
      rintro e w2 ⟨rfl, bw2⟩
      have hF2 := hF.below bw2 hsz
      have hs2 := bw2.size
      obtain ⟨⟨d0, d1, d2, d3⟩, f0, f1, f2, f3⟩ := hF2 i hlt
      have HF := hF2.step hlt
      go_wp2_with fail
      go_roundw
      case rel => exact ⟨i + 1, by omega, by go_num, by simp; omega, by (repeat (first | (with_reducible exact Below.refl _ _) | (with_reducible refine Ext.drewN ?_ _) | (with_reducible refine Below.drew ?_) | (with_reducible refine Ext.alloc ?_ _) | (with_reducible refine Ext.setCell ?_ (by simp; try omega) _) | (with_reducible refine Ext.trans ?_ (by assumption)) | (with_reducible assumption) | exact Below.refl _ _)), HF⟩
      case measure => simp [intOf]; omega
    · have q1 : ¬ (i : Int) < (len : Int) := by omega
      obtain rfl : i = len := by omega
      have HF := Lib.hid hF
      clear hF
      go_wp2_with fail
      go_ret
      exact ⟨w.heap.size, Nat.le_refl _, hsz, rfl, hW, fun k hk => by
        obtain ⟨⟨c0, c1, c2, c3⟩, f0, f1, f2, f3⟩ := HF.out k hk
        rw [if_pos hk] at c0 c1 c2 c3
        exact ⟨⟨c0, c1, c2, c3⟩, f0, f1, f2, f3⟩⟩

theorem IsEdge.congr {f g : Nat → Bool} (h : ∀ k, k < 6400 → f k = g k) {e : R4} (he : IsEdge f e) : IsEdge g e := by
  have hh : ∀ x y, hasB f x y = hasB g x y := fun x y => by
    by_cases hx : (-40 ≤ x ∧ x ≤ 39) ∧ (-40 ≤ y ∧ y ≤ 39)
    · rw [hasB_in hx, hasB_in hx, h _ (cIx_lt hx.1.1 hx.1.2 hx.2.1 hx.2.2)]
    · rw [hasB_out hx, hasB_out hx]
  have hg : ∀ o c t, gS f o c t = gS g o c t := fun o c t => by unfold gS; simp only [hh]
  obtain ⟨o, c, lo, hi, ho, hm, rfl⟩ := he
  refine ⟨o, c, lo, hi, ho, ?_, rfl⟩
  rw [show gS g o c = gS f o c from funext fun t => (hg o c t).symm]
  exact hm
theorem EdgesOf.congr {f g : Nat → Bool} (h : ∀ k, k < 6400 → f k = g k) {L : List R4} (hL : EdgesOf f L) : EdgesOf g L :=
  ⟨hL.1, fun e => (hL.2 e).trans ⟨fun he => he.congr h, fun he => he.congr fun k hk => (h k hk).symm⟩⟩
theorem fill_iff (L : List R4) : EdgesOf (fillF L) L ↔ EdgesOf (fillR L) L := by
  constructor
  · intro h
    exact h.congr fun k hk => (edges_fillR h k hk).symm
  · intro h
    exact h.congr fun k hk => (edges_fill h k hk).symm
theorem fill_same {L : List R4} (h : EdgesOf (fillF L) L) : canonL (fillR L) = canonL (fillF L) := canonL_congr fun k hk => edges_fillR h k hk
open Classical in
/-- Are they the edges of a set? -/
noncomputable def rfB (P Q R S : Nat → Int) (n : Nat) : Bool := if n ≤ 12800 ∧ elsB P Q R S n = true ∧ EdgesOf (fillF (listR P Q R S n)) (listR P Q R S n) then true else false
noncomputable def rfL (P Q R S : Nat → Int) (n : Nat) : List R4 := if rfB P Q R S n = true then canonL (fillF (listR P Q R S n)) else []
theorem rfB_f {P Q R S : Nat → Int} {n : Nat} (h : ¬ (n ≤ 12800 ∧ elsB P Q R S n = true ∧ EdgesOf (fillF (listR P Q R S n)) (listR P Q R S n))) : rfB P Q R S n = false ∧ rfL P Q R S n = [] := by
  have : rfB P Q R S n = false := by unfold rfB; exact if_neg h
  exact ⟨this, by unfold rfL; rw [if_neg (by simp [this])]⟩
theorem rfB_t {P Q R S : Nat → Int} {n : Nat} (h1 : n ≤ 12800) (h2 : elsB P Q R S n = true) (h3 : EdgesOf (fillF (listR P Q R S n)) (listR P Q R S n)) : rfB P Q R S n = true ∧ rfL P Q R S n = canonL (fillF (listR P Q R S n)) := by
  have : rfB P Q R S n = true := by unfold rfB; exact if_pos ⟨h1, h2, h3⟩
  exact ⟨this, by unfold rfL; rw [if_pos this]⟩
theorem rfL_len (P Q R S : Nat → Int) (n : Nat) : (rfL P Q R S n).length ≤ 3280 := by
  unfold rfL; split
  · exact canonL_len _
  · simp

/-- Are two lists of edges equal, as far as n? -/
theorem list_eq {L : List R4} {P Q R S : Nat → Int} (h : ∀ i, i < L.length → eqRB (pA L i) (pB L i) (pC L i) (pD L i) (P i) (Q i) (R i) (S i) = true) : L = listR P Q R S L.length := by
  apply List.ext_getElem?
  intro i
  by_cases hi : i < L.length
  · rw [listR_get _ _ _ _ _ _ hi, getD_get hi]
    have := h i hi
    unfold pA pB pC pD at this
    have e := (eqRB_iff (L.getD i default) ⟨P i, Q i, R i, S i⟩).symm.trans this
    rw [of_decide_eq_true e]
  · rw [List.getElem?_eq_none (by omega), List.getElem?_eq_none (by rw [listR_len]; omega)]
theorem list_ne {L : List R4} {P Q R S : Nat → Int} {n i : Nat} (hi : i < L.length) (hn : i < n) (h : eqRB (pA L i) (pB L i) (pC L i) (pD L i) (P i) (Q i) (R i) (S i) = false) : L ≠ listR P Q R S n := by
  intro e
  have h1 := getD_get hi
  have h2 := listR_get P Q R S n i hn
  rw [← e, h1] at h2
  have h3 : L.getD i default = ⟨P i, Q i, R i, S i⟩ := Option.some.inj h2
  have : eqRB (pA L i) (pB L i) (pC L i) (pD L i) (P i) (Q i) (R i) (S i) = true := by
    unfold pA pB pC pD
    rw [h3]
    unfold eqRB
    simp
  rw [this] at h; cases h
theorem len_ne {L : List R4} {P Q R S : Nat → Int} {n : Nat} (h : L.length ≠ n) : L ≠ listR P Q R S n := fun e => h (by rw [e, listR_len])

set_option maxHeartbeats 4000000 in
theorem equalE_any (a b : Option Addr) (L : List R4) (n c1 c2 : Nat) (P Q R S : Nat → Int) (w : World) (hl : L.length ≤ 1048576) (hn : n ≤ 1048576) (hA : RectsIs w.heap.size w a L.length (pA L) (pB L) (pC L) (pD L)) (hB : RectsIs w.heap.size w b n P Q R S) :
    Calls Tryz.prog 70 #[.slice a L.length c1, .slice b n c2] w fun e w' => e = .returned (.bool (decide (L = listR P Q R S n))) ∧ Below w.heap.size w w' := by
  by_cases hne : L.length = n
  case neg =>
    rw [decide_eq_false (len_ne hne)]
    have h' : ¬ (L.length : Int) = (n : Int) := by omega
    go_enter Tryz.func70, Tryz.ntmps70
    go_wp2_with fail
    go_ret
    exact ⟨rfl, by (repeat (first | (with_reducible exact Below.refl _ _) | (with_reducible refine Ext.drewN ?_ _) | (with_reducible refine Below.drew ?_) | (with_reducible refine Ext.alloc ?_ _) | (with_reducible refine Ext.setCell ?_ (by simp; try omega) _) | (with_reducible refine Ext.trans ?_ (by assumption)) | (with_reducible assumption) | exact Below.refl _ _))⟩
  obtain ⟨m, hm⟩ : ∃ m, m = L.length := ⟨_, rfl⟩
  have HM := Lib.hid hm
  rw [← hm] at hne hA ⊢
  clear hm
  subst hne
  have HA := Lib.hid hA
  have HB := Lib.hid hB
  clear hA hB
  go_enter Tryz.func70, Tryz.ntmps70
  go_wp2_with fail
  go_loopw [13] (fun s wr => ∃ i : Nat, i ≤ m ∧ s = .int .i64 i ∧ Below w.heap.size w wr ∧ Hid (∀ k, k < i → eqRB (pA L k) (pB L k) (pC L k) (pD L k) (P k) (Q k) (R k) (S k) = true)) (fun s _ => m - (intOf s).toNat)
  case atStart => exact ⟨0, by omega, rfl, by (repeat (first | (with_reducible exact Below.refl _ _) | (with_reducible refine Ext.drewN ?_ _) | (with_reducible refine Below.drew ?_) | (with_reducible refine Ext.alloc ?_ _) | (with_reducible refine Ext.setCell ?_ (by simp; try omega) _) | (with_reducible refine Ext.trans ?_ (by assumption)) | (with_reducible assumption) | exact Below.refl _ _)), Lib.hid fun k hk => absurd hk (by omega)⟩
  case round =>
    obtain ⟨i, hi, rfl, hW, HE⟩ := hrel
    by_cases hlt : i < m
    · obtain ⟨b1, o1, rfl, hb1, c0, c1', c2', c3⟩ := HA.out.below hW i hlt
      obtain ⟨b2, o2, rfl, hb2, d0, d1, d2, d3⟩ := HB.out.below hW i hlt
      have q1 : (i : Int) < (m : Int) := by omega
      have q0 : (0 : Int) ≤ (i : Int) := by omega
      cases he : eqRB (pA L i) (pB L i) (pC L i) (pD L i) (P i) (Q i) (R i) (S i) with
      | true =>
        have hE : ∀ w, (Op.equalIn 10000 55 (.agg #[.int .i64 (pA L i), .int .i64 (pB L i), .int .i64 (pC L i), .int .i64 (pD L i)]) (.agg #[.int .i64 (P i), .int .i64 (Q i), .int .i64 (R i), .int .i64 (S i)])).run Tryz.prog w = .ok true w := fun w => by rw [eqEc, he]
        have HEE := Lib.hid he
        clear he
        go_wp2_with fail
        go_region
        all_goals
          go_wp2_with fail
          go_roundw
          case rel => exact ⟨i + 1, by omega, by go_num, by first | assumption | (repeat (first | (with_reducible exact Below.refl _ _) | (with_reducible refine Ext.drewN ?_ _) | (with_reducible refine Below.drew ?_) | (with_reducible refine Ext.alloc ?_ _) | (with_reducible refine Ext.setCell ?_ (by simp; try omega) _) | (with_reducible refine Ext.trans ?_ (by assumption)) | (with_reducible assumption) | exact Below.refl _ _)), Lib.hid fun k hk => by
            by_cases e : k = i
            · rw [e]; exact HEE.out
            · exact HE.out k (by omega)⟩
          case measure => simp [intOf]; omega
      | false =>
        have hE : ∀ w, (Op.equalIn 10000 55 (.agg #[.int .i64 (pA L i), .int .i64 (pB L i), .int .i64 (pC L i), .int .i64 (pD L i)]) (.agg #[.int .i64 (P i), .int .i64 (Q i), .int .i64 (R i), .int .i64 (S i)])).run Tryz.prog w = .ok false w := fun w => by rw [eqEc, he]
        have HEE := Lib.hid he
        clear he
        go_wp2_with fail
        go_region
        all_goals
          go_wp2_with fail
          go_ret
          exact ⟨ret_bool (decide_eq_false (list_ne (by rw [← HM.out]; exact hlt) hlt HEE.out)).symm, by first | assumption | (repeat (first | (with_reducible exact Below.refl _ _) | (with_reducible refine Ext.drewN ?_ _) | (with_reducible refine Below.drew ?_) | (with_reducible refine Ext.alloc ?_ _) | (with_reducible refine Ext.setCell ?_ (by simp; try omega) _) | (with_reducible refine Ext.trans ?_ (by assumption)) | (with_reducible assumption) | exact Below.refl _ _))⟩
    · have q1 : ¬ (i : Int) < (m : Int) := by omega
      obtain rfl : i = m := by omega
      have hL : L = listR P Q R S i := by
        have := list_eq (L := L) (P := P) (Q := Q) (R := R) (S := S) (by rw [← HM.out]; exact HE.out)
        rwa [← HM.out] at this
      have HL := Lib.hid hL
      clear hL
      go_wp2_with fail
      go_ret
      exact ⟨ret_bool (decide_eq_true HL.out).symm, hW⟩
end Go.Proofs.YtfbalpkjcfdakaaGreatDoor

namespace Go.Proofs.YtfbalpkjcfdakaaGreatDoor
open Go.RowKit Go.Shelf
set_option linter.unusedVariables false
set_option linter.unusedSimpArgs false
attribute [local go_sem ↓] Go.wp_at_zero Go.wp_at_succ

set_option maxHeartbeats 4000000 in
theorem l06Same_any (a b : Option Addr) (L : List R4) (n c1 c2 : Nat) (P Q R S : Nat → Int) (w : World) (hl : L.length ≤ 1048576) (hn : n ≤ 1048576) (hA : RectsIs w.heap.size w a L.length (pA L) (pB L) (pC L) (pD L)) (hB : RectsIs w.heap.size w b n P Q R S) :
    Calls Tryz.prog 67 #[.slice a L.length c1, .slice b n c2] w fun e w' => e = .returned (.bool (decide (L = listR P Q R S n))) ∧ Below w.heap.size w w' := by
  by_cases hne : L.length = n
  case neg =>
    rw [decide_eq_false (len_ne hne)]
    have h' : ¬ (L.length : Int) = (n : Int) := by omega
    go_enter Tryz.func67, Tryz.ntmps67
    go_wp2_with fail
    go_ret
    exact ⟨rfl, by (repeat (first | (with_reducible exact Below.refl _ _) | (with_reducible refine Ext.drewN ?_ _) | (with_reducible refine Below.drew ?_) | (with_reducible refine Ext.alloc ?_ _) | (with_reducible refine Ext.setCell ?_ (by simp; try omega) _) | (with_reducible refine Ext.trans ?_ (by assumption)) | (with_reducible assumption) | exact Below.refl _ _))⟩
  obtain ⟨m, hm⟩ : ∃ m, m = L.length := ⟨_, rfl⟩
  have HM := Lib.hid hm
  rw [← hm] at hne hA ⊢
  clear hm
  subst hne
  have HA := Lib.hid hA
  have HB := Lib.hid hB
  clear hA hB
  go_enter Tryz.func67, Tryz.ntmps67
  go_wp2_with fail
  go_loopw [5] (fun s wr => ∃ i : Nat, i ≤ m ∧ s = .int .i64 i ∧ Below w.heap.size w wr ∧ Hid (∀ k, k < i → eqRB (pA L k) (pB L k) (pC L k) (pD L k) (P k) (Q k) (R k) (S k) = true)) (fun s _ => m - (intOf s).toNat)
  case atStart => exact ⟨0, by omega, rfl, by (repeat (first | (with_reducible exact Below.refl _ _) | (with_reducible refine Ext.drewN ?_ _) | (with_reducible refine Below.drew ?_) | (with_reducible refine Ext.alloc ?_ _) | (with_reducible refine Ext.setCell ?_ (by simp; try omega) _) | (with_reducible refine Ext.trans ?_ (by assumption)) | (with_reducible assumption) | exact Below.refl _ _)), Lib.hid fun k hk => absurd hk (by omega)⟩
  case round =>
    obtain ⟨i, hi, rfl, hW, HE⟩ := hrel
    by_cases hlt : i < m
    · obtain ⟨b1, o1, rfl, hb1, c0, c1', c2', c3⟩ := HA.out.below hW i hlt
      obtain ⟨b2, o2, rfl, hb2, d0, d1, d2, d3⟩ := HB.out.below hW i hlt
      have q1 : (i : Int) < (m : Int) := by omega
      have q0 : (0 : Int) ≤ (i : Int) := by omega
      cases he : eqRB (pA L i) (pB L i) (pC L i) (pD L i) (P i) (Q i) (R i) (S i) with
      | true =>
        have hE : ∀ w, (Op.equalIn 10000 55 (.agg #[.int .i64 (pA L i), .int .i64 (pB L i), .int .i64 (pC L i), .int .i64 (pD L i)]) (.agg #[.int .i64 (P i), .int .i64 (Q i), .int .i64 (R i), .int .i64 (S i)])).run Tryz.prog w = .ok true w := fun w => by rw [eqEc, he]
        have HEE := Lib.hid he
        clear he
        go_wp2_with fail
        go_region
        all_goals
          go_wp2_with fail
          go_roundw
          case rel => exact ⟨i + 1, by omega, by go_num, by first | assumption | (repeat (first | (with_reducible exact Below.refl _ _) | (with_reducible refine Ext.drewN ?_ _) | (with_reducible refine Below.drew ?_) | (with_reducible refine Ext.alloc ?_ _) | (with_reducible refine Ext.setCell ?_ (by simp; try omega) _) | (with_reducible refine Ext.trans ?_ (by assumption)) | (with_reducible assumption) | exact Below.refl _ _)), Lib.hid fun k hk => by
            by_cases e : k = i
            · rw [e]; exact HEE.out
            · exact HE.out k (by omega)⟩
          case measure => simp [intOf]; omega
      | false =>
        have hE : ∀ w, (Op.equalIn 10000 55 (.agg #[.int .i64 (pA L i), .int .i64 (pB L i), .int .i64 (pC L i), .int .i64 (pD L i)]) (.agg #[.int .i64 (P i), .int .i64 (Q i), .int .i64 (R i), .int .i64 (S i)])).run Tryz.prog w = .ok false w := fun w => by rw [eqEc, he]
        have HEE := Lib.hid he
        clear he
        go_wp2_with fail
        go_region
        all_goals
          go_wp2_with fail
          go_ret
          exact ⟨ret_bool (decide_eq_false (list_ne (by rw [← HM.out]; exact hlt) hlt HEE.out)).symm, by first | assumption | (repeat (first | (with_reducible exact Below.refl _ _) | (with_reducible refine Ext.drewN ?_ _) | (with_reducible refine Below.drew ?_) | (with_reducible refine Ext.alloc ?_ _) | (with_reducible refine Ext.setCell ?_ (by simp; try omega) _) | (with_reducible refine Ext.trans ?_ (by assumption)) | (with_reducible assumption) | exact Below.refl _ _))⟩
    · have q1 : ¬ (i : Int) < (m : Int) := by omega
      obtain rfl : i = m := by omega
      have hL : L = listR P Q R S i := by
        have := list_eq (L := L) (P := P) (Q := Q) (R := R) (S := S) (by rw [← HM.out]; exact HE.out)
        rwa [← HM.out] at this
      have HL := Lib.hid hL
      clear hL
      go_wp2_with fail
      go_ret
      exact ⟨ret_bool (decide_eq_true HL.out).symm, hW⟩

set_option maxRecDepth 100000 in
set_option maxHeartbeats 8000000 in
theorem specRegionFromEdges_any (a : Option Addr) (n cap : Nat) (P Q R S : Nat → Int) (w : World) (hn : n ≤ 1048576) (hR : RectsIs w.heap.size w a n P Q R S) :
    Calls Tryz.prog 27 #[.slice a n cap] w fun e w' => LRes2 (rfL P Q R S n) (rfB P Q R S n) e w' ∧ Below w.heap.size w w' := by
  by_cases h1 : n ≤ 12800
  case neg =>
    obtain ⟨e1, e2⟩ := rfB_f (P := P) (Q := Q) (R := R) (S := S) (n := n) (fun k => h1 k.1)
    rw [e1, e2]
    have q1 : (n : Int) > 12800 := by omega
    have q1' : 12800 < (n : Int) := by omega
    go_enter Tryz.func27, Tryz.ntmps27
    go_wp2_with fail
    go_ret2
    exact ⟨⟨none, 0, rfl, RectsL.nil _ _ _⟩, by (repeat (first | (with_reducible exact Below.refl _ _) | (with_reducible refine Ext.drewN ?_ _) | (with_reducible refine Below.drew ?_) | (with_reducible refine Ext.alloc ?_ _) | (with_reducible refine Ext.setCell ?_ (by simp; try omega) _) | (with_reducible refine Ext.trans ?_ (by assumption)) | (with_reducible assumption) | exact Below.refl _ _))⟩
  have q1 : ¬ (n : Int) > 12800 := by omega
  have q1' : ¬ 12800 < (n : Int) := by omega
  have HR := Lib.hid hR
  clear hR
  go_enter Tryz.func27, Tryz.ntmps27
  go_wp2_with fail
  go_loopw [4] (fun s wr => ∃ i : Nat, i ≤ n ∧ s = .int .i64 i ∧ Below w.heap.size w wr ∧ Hid (∀ k, k < i → elB (P k) (Q k) (R k) (S k) = true)) (fun s _ => n - (intOf s).toNat)
  case atStart => exact ⟨0, by omega, rfl, by (repeat (first | (with_reducible exact Below.refl _ _) | (with_reducible refine Ext.drewN ?_ _) | (with_reducible refine Below.drew ?_) | (with_reducible refine Ext.alloc ?_ _) | (with_reducible refine Ext.setCell ?_ (by simp; try omega) _) | (with_reducible refine Ext.trans ?_ (by assumption)) | (with_reducible assumption) | exact Below.refl _ _)), Lib.hid fun k hk => absurd hk (by omega)⟩
  case round =>
    obtain ⟨i, hi, rfl, hW, HA⟩ := hrel
    by_cases hlt : i < n
    · obtain ⟨b1, o1, rfl, hb1, c0, c1, c2, c3⟩ := HR.out.below hW i hlt
      have q2 : (i : Int) < (n : Int) := by omega
      have q0 : (0 : Int) ≤ (i : Int) := by omega
      have hE := fun w => specEdgeLength_any (P i) (Q i) (R i) (S i) w
      cases hel : elB (P i) (Q i) (R i) (S i) with
      | false =>
        rw [elV_f hel] at hE
        have hb := Lib.hid (rfB_f (P := P) (Q := Q) (R := R) (S := S) (n := n) fun k => by have := elsB_at k.2.1 hlt; rw [hel] at this; cases this)
        clear hel
        go_wp2_with (go_at_call 65; refine (hE _).mono ?_; rintro e w1 ⟨rfl, bw1⟩)
        have hBw : Below w.heap.size w w1 := Ext.trans hW bw1
        exact bodyPost_ret (v := .tuple #[.slice none 0 0, .bool false]) (by simp [results, Tryz.results27, go_sem]) rfl ⟨by rw [hb.out.1, hb.out.2]; exact ⟨none, 0, rfl, RectsL.nil _ _ _⟩, hBw⟩
      | true =>
        have hz : ¬ elV (P i) (Q i) (R i) (S i) < 0 := by rw [elV_t hel]; omega
        generalize elV (P i) (Q i) (R i) (S i) = z at hE hz
        have HEL := Lib.hid hel
        clear hel
        go_wp2_with (go_at_call 65; refine (hE _).mono ?_; rintro e w1 ⟨rfl, bw1⟩)
        go_roundw
        case rel => exact ⟨i + 1, by omega, by go_num, Ext.trans hW bw1, Lib.hid fun k hk => by
          by_cases e : k = i
          · rw [e]; exact HEL.out
          · exact HA.out k (by omega)⟩
        case measure => simp [intOf]; omega
    · have q2 : ¬ (i : Int) < (n : Int) := by omega
      obtain rfl : i = n := by omega
      obtain ⟨f, hf⟩ : ∃ f, f = fillF (listR P Q R S i) := ⟨_, rfl⟩
      have HFF := Lib.hid hf
      clear hf
      go_wp2_with (first | (go_at_call 66; refine (l06Fill_any _ i _ _ _ _ _ _ hn (HR.out.ext hW) HA.out).mono ?_; rintro e w3 ⟨⟨g3, rfl, hg3, B3⟩, bw3⟩; have B3' : BitsIs w3 g3 f := (by rw [HFF.out]; exact B3)) | (go_at_call 45; refine (l06Edges_any g3 _ f _ B3').mono ?_; rintro e w4 ⟨⟨L, h4, c4, rfl, hl4, hc4, hI4, hE4⟩, bw4⟩; have hE4 := Lib.hid hE4; have hI4 := Lib.hid hI4))
      have BW4 : Below w.heap.size w w4 := by (repeat (first | (with_reducible exact Below.refl _ _) | (with_reducible refine Ext.drewN ?_ _) | (with_reducible refine Below.drew ?_) | (with_reducible refine Ext.alloc ?_ _) | (with_reducible refine Ext.setCell ?_ (by simp; try omega) _) | (with_reducible refine Ext.trans ?_ (by assumption)) | (with_reducible assumption) | exact Below.refl _ _))
      have B4 := Lib.hid (B3'.below bw4)
      have hUn : EdgesOf (fillF (listR P Q R S i)) L := by rw [← HFF.out]; exact hE4.out
      have HEA := HA.out
      by_cases hEq : L = listR P Q R S i
      · have hSm := fun w' hA' hB' => l06Same_any (some ⟨h4, 0, none⟩) a L i c4 cap P Q R S w' (by omega) hn hA' hB'
        rw [decide_eq_true hEq] at hSm
        have hb := Lib.hid (rfB_t (by omega) (elsB_t HEA) (hEq ▸ hUn))
        clear hEq hUn HEA
        refine (hSm _ hI4.out.rects (HR.out.ext BW4)).mono ?_
        rintro e w5 ⟨rfl, bw5⟩
        have B5 := Lib.hid (B4.out.below bw5)
        have BW5 := Ext.trans BW4 bw5
        clear bw3 bw4 bw5
        go_wp2_with (go_at_call 68; refine (l03Canon_any g3 _ f _ B5.out).mono ?_; rintro e w6 ⟨⟨g6, c6, rfl, hI6⟩, bw6⟩)
        have hI6 := Lib.hid hI6
        exact bodyPost_ret (v := .tuple #[.slice (some ⟨g6, 0, none⟩) (canonL f).length c6, .bool true]) (by simp [results, Tryz.results27, go_sem]) rfl ⟨by rw [hb.out.1, hb.out.2, ← HFF.out]; exact ⟨_, c6, rfl, hI6.out.rects⟩, Ext.trans BW5 bw6⟩
      · have hSm := fun w' hA' hB' => l06Same_any (some ⟨h4, 0, none⟩) a L i c4 cap P Q R S w' (by omega) hn hA' hB'
        rw [decide_eq_false hEq] at hSm
        have hb := Lib.hid (rfB_f (P := P) (Q := Q) (R := R) (S := S) (n := i) fun k => hEq (hUn.uniq k.2.2))
        clear hEq hUn HEA
        refine (hSm _ hI4.out.rects (HR.out.ext BW4)).mono ?_
        rintro e w5 ⟨rfl, bw5⟩
        have BW5 := Ext.trans BW4 bw5
        clear bw3 bw4 bw5
        go_wp2_with fail
        exact bodyPost_ret (v := .tuple #[.slice none 0 0, .bool false]) (by simp [results, Tryz.results27, go_sem]) rfl ⟨by rw [hb.out.1, hb.out.2]; exact ⟨none, 0, rfl, RectsL.nil _ _ _⟩, BW5⟩
end Go.Proofs.YtfbalpkjcfdakaaGreatDoor

namespace Go.Proofs.YtfbalpkjcfdakaaGreatDoor
open Go.RowKit Go.Shelf
set_option linter.unusedVariables false
set_option linter.unusedSimpArgs false
attribute [local go_sem ↓] Go.wp_at_zero Go.wp_at_succ

/-- The edges of a filled set's region. -/
theorem be_fill {g : Nat → Bool} {E : List R4} (h : EdgesOf (covF (pA (canonL g)) (pB (canonL g)) (pC (canonL g)) (pD (canonL g)) (canonL g).length) E) : EdgesOf g E := h.congr fun k hk => cov_canonL_all g hk

set_option maxRecDepth 100000 in
set_option maxHeartbeats 8000000 in
theorem implRegionFromEdges_any (b off n cap : Nat) (P Q R S : Nat → Int) (w : World) (hn : n ≤ 1048576) (hD : EnvW w) (hM : Mats w) (hR : RectsIs w.heap.size w (some ⟨b, off, none⟩) n P Q R S) :
    Calls Tryz.prog 29 #[.slice (some ⟨b, off, none⟩) n cap] w fun e w' => LOwn2 w.heap.size (rfL P Q R S n) (rfB P Q R S n) e w' ∧ Below w.heap.size w w' := by
  have hz := zero59
  by_cases h1 : n ≤ 12800
  case neg =>
    obtain ⟨e1, e2⟩ := rfB_f (P := P) (Q := Q) (R := R) (S := S) (n := n) (fun k => h1 k.1)
    rw [e1, e2]
    have q1 : (n : Int) > 12800 := by omega
    have q1' : 12800 < (n : Int) := by omega
    go_enter Tryz.func29, Tryz.ntmps29
    go_wp2_with fail
    exact bodyPost_ret (v := .tuple #[.slice none 0 0, .bool false]) (by simp [results, Tryz.results29, go_sem]) rfl ⟨⟨none, 0, rfl, .inl rfl⟩, by (repeat (first | (with_reducible exact Below.refl _ _) | (with_reducible refine Ext.drewN ?_ _) | (with_reducible refine Below.drew ?_) | (with_reducible refine Ext.alloc ?_ _) | (with_reducible refine Ext.setCell ?_ (by simp; try omega) _) | (with_reducible refine Ext.trans ?_ (by assumption)) | (with_reducible assumption) | exact Below.refl _ _))⟩
  have q1 : ¬ (n : Int) > 12800 := by omega
  have q1' : ¬ 12800 < (n : Int) := by omega
  cases hels : elsB P Q R S n with
  | false =>
    obtain ⟨e1, e2⟩ := rfB_f (P := P) (Q := Q) (R := R) (S := S) (n := n) (fun k => by rw [hels] at k; cases k.2.1)
    rw [e1, e2]
    clear e1 e2
    go_enter Tryz.func29, Tryz.ntmps29
    go_wp2_with (go_at_call 59; refine (rowsBetween_any b off n cap P Q R S _ hn (hR.ext (by (repeat (first | (with_reducible exact Below.refl _ _) | (with_reducible refine Ext.drewN ?_ _) | (with_reducible refine Below.drew ?_) | (with_reducible refine Ext.alloc ?_ _) | (with_reducible refine Ext.setCell ?_ (by simp; try omega) _) | (with_reducible refine Ext.trans ?_ (by assumption)) | (with_reducible assumption) | exact Below.refl _ _))))).mono ?_; rintro e w3 ⟨⟨G, rfl, hG⟩, bw3⟩; rw [hels]; have r3 := RowsAt.new w3 (fun _ => 0); have st3 := store59 G r3; have st4 := storeAt59 G r3; have sz3 := wArr_size G; have hb3 : Below w3.heap.size w3 ((w3.alloc (.cells (wArr fun _ => 0) 86)).setRow w3.heap.size (wArr G)) := ((Below.refl _ _).alloc (Nat.le_refl _) _).trans (below_setRow _ _ (Nat.le_refl _)))
    have bw : Below w.heap.size w w3 := by (repeat (first | (with_reducible exact Below.refl _ _) | (with_reducible refine Ext.drewN ?_ _) | (with_reducible refine Below.drew ?_) | (with_reducible refine Ext.alloc ?_ _) | (with_reducible refine Ext.setCell ?_ (by simp; try omega) _) | (with_reducible refine Ext.trans ?_ (by assumption)) | (with_reducible assumption) | exact Below.refl _ _))
    exact bodyPost_ret (v := .tuple #[.slice none 0 0, .bool false]) (by simp [results, Tryz.results29, go_sem]) rfl ⟨⟨none, 0, rfl, .inl rfl⟩, Ext.trans bw hb3⟩
  | true =>
    obtain ⟨f, hf⟩ : ∃ f, f = fillR (listR P Q R S n) := ⟨_, rfl⟩
    have HFF := Lib.hid hf
    have hpr : Hid (∀ G, RowsOK (fillR (listR P Q R S n)) G → RowsOK f G) := Lib.hid fun G h => by rw [hf]; exact h
    have HELS := Lib.hid hels
    have HR := Lib.hid hR
    clear hf hR
    go_enter Tryz.func29, Tryz.ntmps29
    go_wp2_with (first | (go_at_call 59; refine (rowsBetween_any b off n cap P Q R S _ hn (HR.out.ext (by (repeat (first | (with_reducible exact Below.refl _ _) | (with_reducible refine Ext.drewN ?_ _) | (with_reducible refine Below.drew ?_) | (with_reducible refine Ext.alloc ?_ _) | (with_reducible refine Ext.setCell ?_ (by simp; try omega) _) | (with_reducible refine Ext.trans ?_ (by assumption)) | (with_reducible assumption) | exact Below.refl _ _))))).mono ?_; rintro e w3 ⟨⟨G, rfl, hG⟩, bw3⟩; rw [hels]; have hok := Lib.hid (hpr.out G (hG hels)); clear hG; have r3 := RowsAt.new w3 (fun _ => 0); have st3 := store59 G r3; have st4 := storeAt59 G r3; have sz3 := wArr_size G; have hb3 : Below w3.heap.size w3 ((w3.alloc (.cells (wArr fun _ => 0) 86)).setRow w3.heap.size (wArr G)) := ((Below.refl _ _).alloc (Nat.le_refl _) _).trans (below_setRow _ _ (Nat.le_refl _))) | (go_at_call 62; refine (region_any _ _).mono ?_; rintro e w4 ⟨rfl, hw4⟩; subst hw4))
    have bw : Below w.heap.size w w3 := by (repeat (first | (with_reducible exact Below.refl _ _) | (with_reducible refine Ext.drewN ?_ _) | (with_reducible refine Below.drew ?_) | (with_reducible refine Ext.alloc ?_ _) | (with_reducible refine Ext.setCell ?_ (by simp; try omega) _) | (with_reducible refine Ext.trans ?_ (by assumption)) | (with_reducible assumption) | exact Below.refl _ _))
    have r4 := r3.setRow G
    obtain ⟨w4, hw4⟩ : ∃ w4, w4 = (w3.alloc (.cells (wArr fun _ => 0) 86)).setRow w3.heap.size (wArr G) := ⟨_, rfl⟩
    rw [← hw4] at hb3 r4 ⊢
    have s4 : w4.heap.size = w3.heap.size + 1 := by rw [hw4, setRow_size]; simp
    have B4 := Ext.trans bw hb3
    obtain ⟨wS, hwS⟩ : ∃ wS, wS = w4.alloc (.cells #[.pointer (some ⟨w3.heap.size, 0, none⟩)] 143) := ⟨_, rfl⟩
    have bS : Below w4.heap.size w4 wS := by rw [hwS]; (repeat (first | (with_reducible exact Below.refl _ _) | (with_reducible refine Ext.drewN ?_ _) | (with_reducible refine Below.drew ?_) | (with_reducible refine Ext.alloc ?_ _) | (with_reducible refine Ext.setCell ?_ (by simp; try omega) _) | (with_reducible refine Ext.trans ?_ (by assumption)) | (with_reducible assumption) | exact Below.refl _ _))
    have cS : wS.cell? ⟨w4.heap.size, 0, none⟩ = some (.pointer (some ⟨w3.heap.size, 0, none⟩)) := by rw [hwS]; simp [go_sem]
    have BS := Ext.trans B4 bS
    rw [s4] at cS
    have r5 := r4.ext bS
    rw [← hwS]
    clear hwS hw4 st3 st4 sz3 r3 r4 bw3
    refine (collect_any (w3.heap.size + 1) w3.heap.size f G wS cS r5 hok.out (hD.deb.ext BS)).mono ?_
    rintro e w5 ⟨⟨v, rfl, hv⟩, bw5⟩
    obtain ⟨a', c, rfl, hkc, ho⟩ := ownsL_ownC hv
    have HO := Lib.hid ho
    have BW5 := Ext.trans BS bw5
    have hll : (canonL f).length ≤ 3280 := canonL_len f
    have hbe := fun w' hD' hM' hR' => implBoundaryEdges2_any a' (canonL f).length c (pA (canonL f)) (pB (canonL f)) (pC (canonL f)) (pD (canonL f)) w' (by omega) hkc hD' hM' hR'
    have hok2 := okR_canonL f
    have hEl := beL_len (pA (canonL f)) (pB (canonL f)) (pC (canonL f)) (pD (canonL f)) (canonL f).length
    have hEd : Hid (∀ E, (okR (pA (canonL f)) (pB (canonL f)) (pC (canonL f)) (pD (canonL f)) (canonL f).length = true → EdgesOf (covF (pA (canonL f)) (pB (canonL f)) (pC (canonL f)) (pD (canonL f)) (canonL f).length) E) → EdgesOf (fillR (listR P Q R S n)) E) := Lib.hid fun E h => by rw [← HFF.out]; exact be_fill (h hok2)
    generalize hE0 : beL (pA (canonL f)) (pB (canonL f)) (pC (canonL f)) (pD (canonL f)) (canonL f).length = E at hbe hEl
    have HE0 := Lib.hid hE0
    obtain ⟨l, hl⟩ : ∃ l, l = canonL f := ⟨_, rfl⟩
    have HL := Lib.hid hl
    rw [← hl] at hbe hll hkc HO hEd ⊢
    clear hl hE0 hok2 ho hv bw5 bS hb3
    go_wp2_with (go_at_call 34; refine (hbe _ (hD.ext BW5) (hM.below BW5 hM.size) HO.out.rects).mono ?_; rintro e w6 ⟨⟨a6, c6, rfl, O6⟩, hE6, bw6⟩; have O6 := Lib.hid O6; have HE6 := Lib.hid (hEd.out E hE6); clear hE6)
    have BW6 := Ext.trans BW5 bw6
    by_cases hEq : E = listR P Q R S n
    · have hEqq := fun w' hA' hB' => equalE_any a6 (some ⟨b, off, none⟩) E n c6 cap P Q R S w' (by omega) hn hA' hB'
      rw [decide_eq_true hEq] at hEqq
      have hfe : EdgesOf (fillF (listR P Q R S n)) (listR P Q R S n) := (fill_iff _).2 (hEq ▸ HE6.out)
      have hb := Lib.hid (rfB_t h1 HELS.out hfe)
      have hls : Hid (l = canonL (fillF (listR P Q R S n))) := Lib.hid (by rw [HL.out, HFF.out]; exact fill_same hfe)
      clear hEq hfe
      go_wp2_with (go_at_call 70; refine (hEqq _ O6.out.rects (HR.out.ext BW6)).mono ?_; rintro e w7 ⟨rfl, bw7⟩)
      exact bodyPost_ret (v := .tuple #[.slice a' l.length c, .bool true]) (by simp [results, Tryz.results29, go_sem]) rfl ⟨by rw [hb.out.1, hb.out.2, ← hls.out]; exact ⟨a', c, rfl, ((HO.out.mono BS.size).below bw6).below bw7⟩, Ext.trans BW6 bw7⟩
    · have hEqq := fun w' hA' hB' => equalE_any a6 (some ⟨b, off, none⟩) E n c6 cap P Q R S w' (by omega) hn hA' hB'
      rw [decide_eq_false hEq] at hEqq
      have hb := Lib.hid (rfB_f (P := P) (Q := Q) (R := R) (S := S) (n := n) fun k => hEq (HE6.out.uniq ((fill_iff _).1 k.2.2)))
      clear hEq
      go_wp2_with (go_at_call 70; refine (hEqq _ O6.out.rects (HR.out.ext BW6)).mono ?_; rintro e w7 ⟨rfl, bw7⟩)
      exact bodyPost_ret (v := .tuple #[.slice none 0 0, .bool false]) (by simp [results, Tryz.results29, go_sem]) rfl ⟨by rw [hb.out.1, hb.out.2]; exact ⟨none, 0, rfl, .inl rfl⟩, Ext.trans BW6 bw7⟩
end Go.Proofs.YtfbalpkjcfdakaaGreatDoor
