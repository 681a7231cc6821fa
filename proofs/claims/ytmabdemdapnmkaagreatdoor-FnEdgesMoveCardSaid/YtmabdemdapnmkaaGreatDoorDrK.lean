/- The program's RegionOf, with its result's capacity. Conditions: the elements' cells are in memory; the tables are in memory. -/
import Derived.Test.YtmabdemdapnmkaaGreatDoorQI
import Derived.Test.YtmabdemdapnmkaaGreatDoorQH
namespace Go.Proofs.YtmabdemdapnmkaaGreatDoor
open Go.RowKit Go.Shelf
set_option linter.unusedVariables false
set_option linter.unusedSimpArgs false
attribute [local go_sem] Oper.semAt_some

/-- .. in memory of its own, with room. -/
def LOwn2C (B : Nat) (l : List R4) (b : Bool) (e : Ending) (w : World) : Prop := ∃ a c, e = .returned (.tuple #[.slice a l.length c, .bool b]) ∧ l.length ≤ c ∧ OwnsL B w a l
theorem ownsL_ownC {w : World} {B : Nat} {v : Value} {l : List R4} (h : w.ownsRow B 82 4 v l.length (recCells l)) : ∃ a c, v = .slice a l.length c ∧ l.length ≤ c ∧ OwnsL B w a l := by
  have hh := h
  rcases h.2 with ⟨rfl, h0⟩ | ⟨g, cap, cur, rfl, h1, h2, h3, h9⟩
  · have hl : l = [] := List.eq_nil_of_length_eq_zero h0
    subst hl
    exact ⟨none, 0, rfl, Nat.le_refl _, .inl rfl⟩
  · have hr := rec_own hh
    refine ⟨_, cap, rfl, h3, .inr ⟨g, rfl, h1, hr.2.1, fun k hk => ?_⟩⟩
    obtain ⟨c0, c1, c2, c3⟩ := hr.2.2 k _ (getD_get hk)
    exact ⟨⟨c0, c1, c2, c3⟩, frozen_of_row _ _ _ _ _ h2, frozen_of_row _ _ _ _ _ h2, frozen_of_row _ _ _ _ _ h2, frozen_of_row _ _ _ _ _ h2⟩
set_option maxRecDepth 100000 in
set_option maxHeartbeats 4000000 in
theorem regionOfC_any (m : Option Addr) (n cap : Nat) (P Q R S : Nat → Int) (w : World) (hn : n ≤ 1048576) (hcap : n ≤ cap) (hD : EnvW w) (hR : RectsIs w.heap.size w m n P Q R S) :
    Calls Tryz.prog 123 #[.slice m n cap] w fun e w' => LOwn2C w.heap.size (roL P Q R S n) (okV P Q R S n) e w' ∧ Below w.heap.size w w' := by
  have hz := zero59
  unfold roL
  rw [okV_N]
  cases hok : okN P Q R S n with
  | false =>
    rw [if_neg (by simp)]
    go_enter Tryz.func123, Tryz.ntmps123
    go_wp2_with (first | (go_at_call 121; refine (cells_any m n cap P Q R S _ (hD.chip.ext (by (repeat (first | (with_reducible exact Below.refl _ _) | (with_reducible refine Ext.drewN ?_ _) | (with_reducible refine Below.drew ?_) | (with_reducible refine Ext.alloc ?_ _) | (with_reducible refine Ext.setCell ?_ (by simp; try omega) _) | (with_reducible refine Ext.trans ?_ (by assumption)) | (with_reducible assumption) | exact Below.refl _ _)))) hn hcap (hR.ext (by (repeat (first | (with_reducible exact Below.refl _ _) | (with_reducible refine Ext.drewN ?_ _) | (with_reducible refine Below.drew ?_) | (with_reducible refine Ext.alloc ?_ _) | (with_reducible refine Ext.setCell ?_ (by simp; try omega) _) | (with_reducible refine Ext.trans ?_ (by assumption)) | (with_reducible assumption) | exact Below.refl _ _))))).mono ?_; rintro e w1 ⟨rfl, bw1⟩; rw [hok]; have r3 := RowsAt.new w1 (fun _ => 0); have st3 := store59 (cellsG P Q R S n) r3; have st4 := storeAt59 (cellsG P Q R S n) r3; have sz3 := wArr_size (cellsG P Q R S n); have hb3 : Below w1.heap.size w1 ((w1.alloc (.cells (wArr fun _ => 0) 78)).setRow w1.heap.size (wArr (cellsG P Q R S n))) := ((Below.refl _ _).alloc (Nat.le_refl _) _).trans (below_setRow _ _ (Nat.le_refl _))))
    have bw : Below w.heap.size w w1 := by (repeat (first | (with_reducible exact Below.refl _ _) | (with_reducible refine Ext.drewN ?_ _) | (with_reducible refine Below.drew ?_) | (with_reducible refine Ext.alloc ?_ _) | (with_reducible refine Ext.setCell ?_ (by simp; try omega) _) | (with_reducible refine Ext.trans ?_ (by assumption)) | (with_reducible assumption) | exact Below.refl _ _))
    exact bodyPost_ret (v := .tuple #[.slice none 0 0, .bool false]) (by simp [results, Tryz.results123, go_sem]) rfl ⟨⟨none, 0, rfl, Nat.le_refl _, .inl rfl⟩, Ext.trans bw hb3⟩
  | true =>
    rw [if_pos rfl]
    have hcg : cellsG P Q R S n = rowsG (rowsQ n P Q R S n) := by unfold cellsG; rw [hok]; rfl
    have hv : ∀ i, i < n → rvB (P i) (Q i) (R i) (S i) = true := fun i hi => by
      unfold okN at hok
      simp only [Bool.and_eq_true] at hok
      exact allV_at hok.2 hi
    have HCG := Lib.hid hcg
    have HV := Lib.hid hv
    clear hcg hv
    go_enter Tryz.func123, Tryz.ntmps123
    go_wp2_with (first | (go_at_call 121; refine (cells_any m n cap P Q R S _ (hD.chip.ext (by (repeat (first | (with_reducible exact Below.refl _ _) | (with_reducible refine Ext.drewN ?_ _) | (with_reducible refine Below.drew ?_) | (with_reducible refine Ext.alloc ?_ _) | (with_reducible refine Ext.setCell ?_ (by simp; try omega) _) | (with_reducible refine Ext.trans ?_ (by assumption)) | (with_reducible assumption) | exact Below.refl _ _)))) hn hcap (hR.ext (by (repeat (first | (with_reducible exact Below.refl _ _) | (with_reducible refine Ext.drewN ?_ _) | (with_reducible refine Below.drew ?_) | (with_reducible refine Ext.alloc ?_ _) | (with_reducible refine Ext.setCell ?_ (by simp; try omega) _) | (with_reducible refine Ext.trans ?_ (by assumption)) | (with_reducible assumption) | exact Below.refl _ _))))).mono ?_; rintro e w1 ⟨rfl, bw1⟩; rw [hok]; have r3 := RowsAt.new w1 (fun _ => 0); have st3 := store59 (cellsG P Q R S n) r3; have st4 := storeAt59 (cellsG P Q R S n) r3; have sz3 := wArr_size (cellsG P Q R S n); have hb3 : Below w1.heap.size w1 ((w1.alloc (.cells (wArr fun _ => 0) 78)).setRow w1.heap.size (wArr (cellsG P Q R S n))) := ((Below.refl _ _).alloc (Nat.le_refl _) _).trans (below_setRow _ _ (Nat.le_refl _))) | (go_at_call 53; refine (region_any _ _).mono ?_; rintro e w4 ⟨rfl, hw4⟩; subst hw4))
    have bw : Below w.heap.size w w1 := by (repeat (first | (with_reducible exact Below.refl _ _) | (with_reducible refine Ext.drewN ?_ _) | (with_reducible refine Below.drew ?_) | (with_reducible refine Ext.alloc ?_ _) | (with_reducible refine Ext.setCell ?_ (by simp; try omega) _) | (with_reducible refine Ext.trans ?_ (by assumption)) | (with_reducible assumption) | exact Below.refl _ _))
    have r4 := r3.setRow (cellsG P Q R S n)
    obtain ⟨w3, hw3⟩ : ∃ w3, w3 = (w1.alloc (.cells (wArr fun _ => 0) 78)).setRow w1.heap.size (wArr (cellsG P Q R S n)) := ⟨_, rfl⟩
    rw [← hw3] at hb3 r4 ⊢
    have s3 : w3.heap.size = w1.heap.size + 1 := by rw [hw3, setRow_size]; simp
    have B3 := Ext.trans bw hb3
    obtain ⟨wS, hwS⟩ : ∃ wS, wS = w3.alloc (.cells #[.pointer (some ⟨w1.heap.size, 0, none⟩)] 134) := ⟨_, rfl⟩
    have bS : Below w3.heap.size w3 wS := by rw [hwS]; (repeat (first | (with_reducible exact Below.refl _ _) | (with_reducible refine Ext.drewN ?_ _) | (with_reducible refine Below.drew ?_) | (with_reducible refine Ext.alloc ?_ _) | (with_reducible refine Ext.setCell ?_ (by simp; try omega) _) | (with_reducible refine Ext.trans ?_ (by assumption)) | (with_reducible assumption) | exact Below.refl _ _))
    have cS : wS.cell? ⟨w3.heap.size, 0, none⟩ = some (.pointer (some ⟨w1.heap.size, 0, none⟩)) := by rw [hwS]; simp [go_sem]
    have BS := Ext.trans B3 bS
    rw [s3] at cS
    have r5 := r4.ext bS
    rw [← hwS]
    clear hwS hw3 st3 st4 sz3 r3 r4 bw1
    refine (collect_any (w1.heap.size + 1) w1.heap.size (covF P Q R S n) (cellsG P Q R S n) wS cS r5 (by rw [HCG.out]; exact rows_of_list (Nat.le_refl _) HV.out) (hD.deb.ext BS)).mono ?_
    rintro e w5 ⟨⟨v, rfl, hv⟩, bw5⟩
    obtain ⟨a, c, rfl, hkc, ho⟩ := ownsL_ownC hv
    have HO := Lib.hid ho
    clear ho hv
    go_wp2_with fail
    exact bodyPost_ret (v := .tuple #[.slice a (canonL (covF P Q R S n)).length c, .bool true]) (by simp [results, Tryz.results123, go_sem]) rfl ⟨⟨a, c, rfl, hkc, HO.out.mono BS.size⟩, Ext.trans BS bw5⟩
end Go.Proofs.YtmabdemdapnmkaaGreatDoor
