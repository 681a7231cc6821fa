/- The program's PolygonRegion and PolygonContains. Conditions: the points' cells are in memory; the variables that regions read hold their tables. -/
import Derived.Test.YtfbalpkjcfdakaaDoorPhE
import Derived.Test.YtfbalpkjcfdakaaDoorPhD
import Derived.Test.YtfbalpkjcfdakaaDoorQH
import Derived.Test.YtfbalpkjcfdakaaDoorQT
namespace Go.Proofs.YtfbalpkjcfdakaaDoor
open Go.RowKit Go.Shelf
set_option linter.unusedVariables false
set_option linter.unusedSimpArgs false
attribute [local go_sem ↓] Go.wp_at_zero Go.wp_at_succ

theorem poly_rows {X Y : Nat → Int} {n : Nat} (h : polyB X Y n = true) {G : Nat → Nat} (hG : RowsOK (fillR (listR X Y (fun i => X ((i + 1) % n)) (fun i => Y ((i + 1) % n)) n)) G) : RowsOK (sdF X Y n) G :=
  hG.congr fun k _ => (poly_fill h k).symm
theorem poly_els {X Y : Nat → Int} {n : Nat} (h : polyB X Y n = true) : elsB X Y (fun i => X ((i + 1) % n)) (fun i => Y ((i + 1) % n)) n = true := elsB_t fun i hi => poly_sides h hi
set_option maxRecDepth 100000 in
set_option maxHeartbeats 4000000 in
theorem implPolygonRegion_any (a : Option Addr) (n cap : Nat) (X Y : Nat → Int) (w : World) (hn : n ≤ 1048576) (hD : DebW w) (hP : PtsIs w.heap.size w a n X Y) :
    Calls Tryd.prog 21 #[.slice a n cap] w fun e w' => LOwn2C w.heap.size (prL X Y n) (polyB X Y n) e w' ∧ Below w.heap.size w w' := by
  have hz := zero59
  have hV := fun w' hP' => implIsValidPolygon_any a n cap X Y w' hn hP'
  cases hp : polyB X Y n with
  | false =>
    rw [show prL X Y n = [] by unfold prL; rw [if_neg (by simp [hp])]]
    rw [hp] at hV
    go_enter Tryd.func21, Tryd.ntmps21
    go_wp2_with (go_at_call 54; refine (hV _ (hP.ext (by (repeat (first | (with_reducible exact Below.refl _ _) | (with_reducible refine Ext.drewN ?_ _) | (with_reducible refine Below.drew ?_) | (with_reducible refine Ext.alloc ?_ _) | (with_reducible refine Ext.setCell ?_ (by simp; try omega) _) | (with_reducible refine Ext.trans ?_ (by assumption)) | (with_reducible assumption) | exact Below.refl _ _))))).mono ?_; rintro e w1 ⟨rfl, bw1⟩)
    exact bodyPost_ret (v := .tuple #[.slice none 0 0, .bool false]) (by simp [results, Tryd.results21, go_sem]) rfl ⟨⟨none, 0, rfl, Nat.le_refl _, .inl rfl⟩, by (repeat (first | (with_reducible exact Below.refl _ _) | (with_reducible refine Ext.drewN ?_ _) | (with_reducible refine Below.drew ?_) | (with_reducible refine Ext.alloc ?_ _) | (with_reducible refine Ext.setCell ?_ (by simp; try omega) _) | (with_reducible refine Ext.trans ?_ (by assumption)) | (with_reducible assumption) | exact Below.refl _ _))⟩
  | true =>
    rw [show prL X Y n = canonL (sdF X Y n) by unfold prL; rw [if_pos hp]]
    rw [hp] at hV
    have hS := fun w' hP' => sidesOf_any a n cap X Y w' hn hP'
    have hels := poly_els hp
    have hpr : Hid (∀ G, RowsOK (fillR (listR X Y (fun i => X ((i + 1) % n)) (fun i => Y ((i + 1) % n)) n)) G → RowsOK (sdF X Y n) G) := Lib.hid fun G h => poly_rows hp h
    clear hp
    obtain ⟨f, hf⟩ : ∃ f, f = sdF X Y n := ⟨_, rfl⟩
    rw [← hf] at hpr ⊢
    clear hf
    go_enter Tryd.func21, Tryd.ntmps21
    go_wp2_with (first | (go_at_call 54; refine (hV _ (hP.ext (by (repeat (first | (with_reducible exact Below.refl _ _) | (with_reducible refine Ext.drewN ?_ _) | (with_reducible refine Below.drew ?_) | (with_reducible refine Ext.alloc ?_ _) | (with_reducible refine Ext.setCell ?_ (by simp; try omega) _) | (with_reducible refine Ext.trans ?_ (by assumption)) | (with_reducible assumption) | exact Below.refl _ _))))).mono ?_; rintro e w1 ⟨rfl, bw1⟩) | (go_at_call 66; refine (hS _ (hP.ext (by (repeat (first | (with_reducible exact Below.refl _ _) | (with_reducible refine Ext.drewN ?_ _) | (with_reducible refine Below.drew ?_) | (with_reducible refine Ext.alloc ?_ _) | (with_reducible refine Ext.setCell ?_ (by simp; try omega) _) | (with_reducible refine Ext.trans ?_ (by assumption)) | (with_reducible assumption) | exact Below.refl _ _))))).mono ?_; rintro e w2 ⟨g2, hg2, hg2', rfl, bw2, R2⟩) | (go_at_call 65; refine (rowsBetween_any g2 0 n n _ _ _ _ _ hn R2).mono ?_; rintro e w3 ⟨⟨G, rfl, hG⟩, bw3⟩; rw [hels]; have hok := Lib.hid (hpr.out G (hG hels)); clear hG; have r3 := RowsAt.new w3 (fun _ => 0); have st3 := store59 G r3; have st4 := storeAt59 G r3; have sz3 := wArr_size G; have hb3 : Below w3.heap.size w3 ((w3.alloc (.cells (wArr fun _ => 0) 87)).setRow w3.heap.size (wArr G)) := ((Below.refl _ _).alloc (Nat.le_refl _) _).trans (below_setRow _ _ (Nat.le_refl _))) | (go_at_call 68; refine (region_any _ _).mono ?_; rintro e w4 ⟨rfl, hw4⟩; subst hw4))
    have bw : Below w.heap.size w w3 := by (repeat (first | (with_reducible exact Below.refl _ _) | (with_reducible refine Ext.drewN ?_ _) | (with_reducible refine Below.drew ?_) | (with_reducible refine Ext.alloc ?_ _) | (with_reducible refine Ext.setCell ?_ (by simp; try omega) _) | (with_reducible refine Ext.trans ?_ (by assumption)) | (with_reducible assumption) | exact Below.refl _ _))
    have r4 := r3.setRow G
    obtain ⟨w4, hw4⟩ : ∃ w4, w4 = (w3.alloc (.cells (wArr fun _ => 0) 87)).setRow w3.heap.size (wArr G) := ⟨_, rfl⟩
    rw [← hw4] at hb3 r4 ⊢
    have s4 : w4.heap.size = w3.heap.size + 1 := by rw [hw4, setRow_size]; simp
    have B4 := Ext.trans bw hb3
    obtain ⟨wS, hwS⟩ : ∃ wS, wS = w4.alloc (.cells #[.pointer (some ⟨w3.heap.size, 0, none⟩)] 144) := ⟨_, rfl⟩
    have bS : Below w4.heap.size w4 wS := by rw [hwS]; (repeat (first | (with_reducible exact Below.refl _ _) | (with_reducible refine Ext.drewN ?_ _) | (with_reducible refine Below.drew ?_) | (with_reducible refine Ext.alloc ?_ _) | (with_reducible refine Ext.setCell ?_ (by simp; try omega) _) | (with_reducible refine Ext.trans ?_ (by assumption)) | (with_reducible assumption) | exact Below.refl _ _))
    have cS : wS.cell? ⟨w4.heap.size, 0, none⟩ = some (.pointer (some ⟨w3.heap.size, 0, none⟩)) := by rw [hwS]; simp [go_sem]
    have BS := Ext.trans B4 bS
    rw [s4] at cS
    have r5 := r4.ext bS
    rw [← hwS]
    clear hwS hw4 st3 st4 sz3 r3 r4 bw1 bw2 bw3 R2
    refine (collect_any (w3.heap.size + 1) w3.heap.size f G wS cS r5 hok.out (hD.ext BS)).mono ?_
    rintro e w5 ⟨⟨v, rfl, hv⟩, bw5⟩
    obtain ⟨a', c, rfl, hkc, ho⟩ := ownsL_ownC hv
    have HO := Lib.hid ho
    clear ho hv
    go_wp2_with fail
    exact bodyPost_ret (v := .tuple #[.slice a' (canonL f).length c, .bool true]) (by simp [results, Tryd.results21, go_sem]) rfl ⟨⟨a', c, rfl, hkc, HO.out.mono BS.size⟩, Ext.trans BS bw5⟩
end Go.Proofs.YtfbalpkjcfdakaaDoor
