/- The program's RegionRow; FnExactRegionRow answers true. Conditions: the rectangles' cells are in memory; the table of math/bits is in memory. -/
import Derived.Test.YtpbijohdnocleaaDoorRiT
import Derived.Test.YtpbijohdnocleaaDoorRiP
import Derived.Test.YtpbijohdnocleaaDoorRiW
import Derived.Test.YtpbijohdnocleaaDoorRgS
import Derived.Test.YtpbijohdnocleaaDoorDebTab
namespace Go.Proofs.YtpbijohdnocleaaDoor
open Go.RowKit Go.Shelf
set_option linter.unusedVariables false
set_option linter.unusedSimpArgs false
attribute [local go_sem] Oper.semAt_some

theorem IntsIs.own {B : Nat} {w : World} {h : Nat} {l : List Int} (hI : IntsIs B w h l) : OwnsI B w (some ⟨h, 0, none⟩) l := by
  refine .inr ⟨h, rfl, hI.1, hI.lt, fun k hk => ?_⟩
  have hk' : l[k]? = some (l.getD k 0) := by simp [List.getD, hk]
  refine ⟨hI.2.2 k _ hk', ?_⟩
  obtain ⟨cur, e⟩ := hI.2.1
  simp [World.frozen?, e]

theorem IntsIs.step {B n : Nat} {T : TypeId → Prop} {w w' : World} {h : Nat} {l : List Int} (hI : IntsIs B w h l) (hs : StepX n T w w') (hT : ¬ T 2) : IntsIs B w' h l := by
  obtain ⟨h1, ⟨cur, e⟩, h3⟩ := hI
  have hb := hs.cells h cur _ hT e
  exact ⟨h1, ⟨cur, hb.trans e⟩, fun k x hk => by rw [World.cell?_of_block (w := w) hb]; exact h3 k x hk⟩
theorem IntsIs.lower {B C : Nat} {w : World} {h : Nat} {l : List Int} (hI : IntsIs B w h l) (hB : C ≤ B) : IntsIs C w h l := ⟨Nat.le_trans hB hI.1, hI.2⟩
theorem IntsIs.same {B : Nat} {w w' : World} {h : Nat} {l : List Int} (hI : IntsIs B w h l) (hb : w'.heap[h]? = w.heap[h]?) : IntsIs B w' h l := by
  obtain ⟨h1, ⟨cur, e⟩, h3⟩ := hI
  exact ⟨h1, ⟨cur, hb.trans e⟩, fun k x hk => by rw [World.cell?_of_block (w := w) hb]; exact h3 k x hk⟩

theorem rr_no {P Q R S : Nat → Int} {n : Nat} {y : Int} (hok : okR P Q R S n = true) (hno : ∀ e, e ∈ rowsQ n P Q R S n → e.1 ≠ y) : rrL P Q R S n y = [] := by
  unfold rrL
  split
  · exact runsL_of _ _ [] (by simp [incL]) (by simp) rfl (fun x _ _ => by rw [rowsQ_all hok y hno x]; simp [inP])
  · rfl
theorem rr_yes {P Q R S : Nat → Int} {n : Nat} {y : Int} (hok : okR P Q R S n = true) (h1 : -40 ≤ y) (h2 : y ≤ 39) : rrL P Q R S n y = runsL (covF P Q R S n) y := by
  unfold rrL
  rw [hok, if_pos (by simp [inB]; omega)]

set_option maxRecDepth 100000 in
set_option maxHeartbeats 8000000 in
theorem implRegionRow : ImplRegionRow := by
  intro m n cap P Q R S y w hn hcap hD hR
  refine calls_of_marks Tryd.func36 rfl ?_
  simp only [Tryd.ntmps36, List.size_toArray, List.length_cons, List.length_nil, Nat.reduceAdd, Nat.reduceSub, Array.replicate_succ, Array.replicate_zero, List.push_toArray, List.append_toArray, List.nil_append, List.cons_append]
  cases hok : okR P Q R S n with
  | false =>
    have hrr : rrL P Q R S n y = [] := by unfold rrL; rw [hok]; rfl
    rw [hrr]
    go_wp2_with (first | (go_at_call 22; refine (isRegion_any m n cap P Q R S _ hn hcap (hD.ext (by (repeat (first | (with_reducible exact Below.refl _ _) | (with_reducible refine Ext.drewN ?_ _) | (with_reducible refine Below.drew ?_) | (with_reducible refine Ext.alloc ?_ _) | (with_reducible refine Ext.setCell ?_ (by simp; try omega) _) | (with_reducible refine Ext.trans ?_ (by assumption)) | (with_reducible assumption) | exact Below.refl _ _)))) (hR.ext (by (repeat (first | (with_reducible exact Below.refl _ _) | (with_reducible refine Ext.drewN ?_ _) | (with_reducible refine Below.drew ?_) | (with_reducible refine Ext.alloc ?_ _) | (with_reducible refine Ext.setCell ?_ (by simp; try omega) _) | (with_reducible refine Ext.trans ?_ (by assumption)) | (with_reducible assumption) | exact Below.refl _ _))))).mono ?_; rintro e w1 ⟨rfl, bw1⟩; rw [hok]; have l1 : w.heap.size + 1 < w1.heap.size := (by have := bw1.size; simp at this; omega); have c3 : w1.cell? ⟨w.heap.size + 1, 0, none⟩ = some (.slice none 0 0) := keepC bw1 (by simp [go_sem]); have f3 : w1.frozen? ⟨w.heap.size + 1, 0, none⟩ = false := (bw1.frozen (p := ⟨w.heap.size + 1, 0, none⟩) (by simp)).trans (by simp [go_sem])))
    refine ⟨.slice none 0 0, by simp [*, results, Tryd.results36, go_sem], ⟨none, 0, rfl, .inl rfl⟩, ?_⟩
    exact (Below.trans (by (repeat (first | (with_reducible exact Below.refl _ _) | (with_reducible refine Ext.drewN ?_ _) | (with_reducible refine Below.drew ?_) | (with_reducible refine Ext.alloc ?_ _) | (with_reducible refine Ext.setCell ?_ (by simp; try omega) _) | (with_reducible refine Ext.trans ?_ (by assumption)) | (with_reducible assumption) | exact Below.refl _ _))) (bw1.mono (by simp))).trans ((Below.refl _ _).setCell (p := ⟨w.heap.size + 1, 0, none⟩) (Nat.le_succ _) _)
  | true =>
    obtain ⟨RL, hRL⟩ : ∃ RL, RL = rrL P Q R S n y := ⟨_, rfl⟩
    rw [← hRL]
    have HRL := Lib.hid hRL
    clear hRL
    go_wp2_with (first | (go_at_call 22; refine (isRegion_any m n cap P Q R S _ hn hcap (hD.ext (by (repeat (first | (with_reducible exact Below.refl _ _) | (with_reducible refine Ext.drewN ?_ _) | (with_reducible refine Below.drew ?_) | (with_reducible refine Ext.alloc ?_ _) | (with_reducible refine Ext.setCell ?_ (by simp; try omega) _) | (with_reducible refine Ext.trans ?_ (by assumption)) | (with_reducible assumption) | exact Below.refl _ _)))) (hR.ext (by (repeat (first | (with_reducible exact Below.refl _ _) | (with_reducible refine Ext.drewN ?_ _) | (with_reducible refine Below.drew ?_) | (with_reducible refine Ext.alloc ?_ _) | (with_reducible refine Ext.setCell ?_ (by simp; try omega) _) | (with_reducible refine Ext.trans ?_ (by assumption)) | (with_reducible assumption) | exact Below.refl _ _))))).mono ?_; rintro e w1 ⟨rfl, bw1⟩; rw [hok]) | (go_at_call 84; refine (rowsOf_any _ _ _ _).mono ?_; rintro e w2 ⟨rfl, hw2⟩; subst hw2))
    have l1 : w.heap.size + 1 < w1.heap.size := by have := bw1.size; simp at this; omega
    have bw : Below w.heap.size w w1 := Below.trans (by (repeat (first | (with_reducible exact Below.refl _ _) | (with_reducible refine Ext.drewN ?_ _) | (with_reducible refine Below.drew ?_) | (with_reducible refine Ext.alloc ?_ _) | (with_reducible refine Ext.setCell ?_ (by simp; try omega) _) | (with_reducible refine Ext.trans ?_ (by assumption)) | (with_reducible assumption) | exact Below.refl _ _))) (bw1.mono (by simp))
    obtain ⟨wS, hwS⟩ : ∃ wS, wS = w1.alloc (.cells #[.slice m n cap] 25) := ⟨_, rfl⟩
    have bS : Below w1.heap.size w1 wS := by rw [hwS]; (repeat (first | (with_reducible exact Below.refl _ _) | (with_reducible refine Ext.drewN ?_ _) | (with_reducible refine Below.drew ?_) | (with_reducible refine Ext.alloc ?_ _) | (with_reducible refine Ext.setCell ?_ (by simp; try omega) _) | (with_reducible refine Ext.trans ?_ (by assumption)) | (with_reducible assumption) | exact Below.refl _ _))
    have sS : wS.heap.size = w1.heap.size + 1 := by rw [hwS]; simp
    have cS : wS.cell? ⟨w1.heap.size, 0, none⟩ = some (.slice m n cap) := by rw [hwS]; simp [go_sem]
    have cy : wS.cell? ⟨w.heap.size, 0, none⟩ = some (.int .i64 y) := keepC bS (keepC bw1 (by simp [go_sem]))
    have cr : wS.cell? ⟨w.heap.size + 1, 0, none⟩ = some (.slice none 0 0) := keepC bS (keepC bw1 (by simp [go_sem]))
    have fr : wS.frozen? ⟨w.heap.size + 1, 0, none⟩ = false := (bS.frozen (p := ⟨w.heap.size + 1, 0, none⟩) l1).trans ((bw1.frozen (p := ⟨w.heap.size + 1, 0, none⟩) (by simp)).trans (by simp [go_sem]))
    have bwS : Below w.heap.size w wS := bw.trans (bS.mono (by omega))
    have RS := Lib.hid (hR.ext bwS)
    have HOK := Lib.hid hok
    have hdz := hD.deb.size
    rw [← hwS]
    clear hwS hok bw1
    refine rangeY2 (gf := 113) (lb := #[.pointer (some ⟨w1.heap.size, 0, none⟩)]) rfl (enters_of Tryd.func113 (by kernel_rfl) rfl) (encs := fun e : RowE => #[.int .i64 e.1, colV e.2.1 e.2.2]) (L := rowsQ n P Q R S n) (fun k => k = w.heap.size + 1) (fun k hk => by omega) (fun _ => False) ?hseq (fun _ => rfl)
      (fun ps V => (∀ e, e ∈ ps → e.1 ≠ y) ∧ V.cell? ⟨w.heap.size, 0, none⟩ = some (.int .i64 y) ∧ V.cell? ⟨w.heap.size + 1, 0, none⟩ = some (.slice none 0 0) ∧ V.frozen? ⟨w.heap.size + 1, 0, none⟩ = false ∧ Below w.heap.size w V)
      (fun c ps V => c = .ret ∧ (∃ h cc, V.cell? ⟨w.heap.size + 1, 0, none⟩ = some (.slice (some ⟨h, 0, none⟩) RL.length cc) ∧ IntsIs (wS.heap.size + 2) V h RL) ∧ Below w.heap.size w V)
      (fun s A B hs hb => ⟨hs.1, (hb.below.cell (p := ⟨w.heap.size, 0, none⟩) (show w.heap.size < wS.heap.size by omega)).trans hs.2.1, (hb.below.cell (p := ⟨w.heap.size + 1, 0, none⟩) (show w.heap.size + 1 < wS.heap.size by omega)).trans hs.2.2.1, (hb.below.frozen (p := ⟨w.heap.size + 1, 0, none⟩) (show w.heap.size + 1 < wS.heap.size by omega)).trans hs.2.2.2.1, hs.2.2.2.2.trans (hb.below.mono (by omega))⟩)
      (fun c s A B hs hb => by
        obtain ⟨rfl, ⟨h, cc, t1, t2⟩, t3⟩ := hs
        exact ⟨rfl, ⟨h, cc, (hb.below.cell (p := ⟨w.heap.size + 1, 0, none⟩) (show w.heap.size + 1 < wS.heap.size by omega)).trans t1, t2.step hb (fun h => h)⟩, t3.trans (hb.below.mono (by omega))⟩)
      ⟨fun e he => by simp at he, cy, cr, fr, bwS⟩
      (fun T e Bx => (((T.setIfInBounds 12 (.int .i64 e.1)).setIfInBounds 13 (colV e.2.1 e.2.2)).setIfInBounds 5 (.int .i64 e.1)).setIfInBounds 6 (.pointer (some ⟨Bx, 0, none⟩))) (fun e => .cells #[.int .u64 (e.2.1 : Int), .int .u64 (e.2.2 : Int)] 68) ?assign ?body ?done ?stop
    case hseq =>
      intro V hV hVs
      exact rowsOf_seqY _ w1.heap.size m n cap n P Q R S V ((hV.cell (p := ⟨w1.heap.size, 0, none⟩) (show w1.heap.size < wS.heap.size by omega)).trans cS) (by omega) (fun k hk => by omega) hn hcap (Nat.le_refl _) (RS.out.ext hV) (fun h0 b off e => by
        obtain ⟨b1, o1, e1, h1, -⟩ := hR 0 h0
        rw [e1] at e
        cases e
        omega) (okR_all HOK.out)
    case assign =>
      intro l e V K hK
      gi_wp2
      exact hK
    case body =>
      rintro l ps e post Bx V hL hBx hVB ⟨i1, i2, i3, i4, i5⟩
      have hmem : e ∈ rowsQ n P Q R S n := by rw [hL]; simp
      obtain ⟨⟨v1, v2⟩, v3, v4⟩ := rowsQ_ok n P Q R S n (okR_all HOK.out) e hmem
      have c0 : V.cell? ⟨Bx, 0, none⟩ = some (.int .u64 (e.2.1 : Int)) := by rw [cell_of_row _ _ 0 _ _ _ hVB]; rfl
      have c1 : V.cell? ⟨Bx, 1, none⟩ = some (.int .u64 (e.2.2 : Int)) := by rw [cell_of_row _ _ 1 _ _ _ hVB]; rfl
      have hVs : Bx < V.heap.size := (Array.getElem?_eq_some_iff.1 hVB).1
      have hDV : DebW V := hD.deb.below i5 hD.deb.size
      have HVB := Lib.hid hVB
      have HI1 := Lib.hid i1
      have HL := Lib.hid hL
      clear hVB i1 hL
      by_cases he : e.1 = y
      · have hb1 : ((e.1 : Int) == y) = true := by simp [he]
        have hcol : ∀ c : Nat, c < 80 → colB e.2.1 e.2.2 c = hasB (covF P Q R S n) ((c : Int) - 40) y := fun c hc => by rw [rowsQ_has HOK.out e hmem c hc, he]
        have hrr : rrL P Q R S n y = runsL (covF P Q R S n) y := rr_yes HOK.out (by omega) (by omega)
        have HCOL := Lib.hid hcol
        have HRR := Lib.hid hrr
        have HMEM := Lib.hid hmem
        clear hcol hrr hmem
        dsimp only
        gi_wp2_with (refine ⟨trivial, ?_⟩; gi_at_call 85; refine (CallsIn.inRound l (callsIn_wide.2 (runs_any e.2.1 e.2.2 _ v3 v4 (by first | exact hDV | exact hDV.ext (by (repeat (first | (with_reducible exact Below.refl _ _) | (with_reducible refine Ext.drewN ?_ _) | (with_reducible refine Below.drew ?_) | (with_reducible refine Ext.alloc ?_ _) | (with_reducible refine Ext.setCell ?_ (by simp; try omega) _) | (with_reducible refine Ext.trans ?_ (by assumption)) | (with_reducible assumption) | exact Below.refl _ _)))) (covF P Q R S n) y HCOL.out))).mono ?_; rintro e9 W9 ⟨⟨h, cc, rfl, k1, k2⟩, bw9⟩; rw [← HRR.out, ← HRL.out] at k1 k2 ⊢; have cr9 : W9.cell? ⟨w.heap.size + 1, 0, none⟩ = some (.slice none 0 0) := keepC bw9 (by simpa [go_sem] using i3); have fr9 : W9.frozen? ⟨w.heap.size + 1, 0, none⟩ = false := (bw9.frozen (p := ⟨w.heap.size + 1, 0, none⟩) (by simp; omega)).trans (by simpa [go_sem] using i4))
        have hh : wS.heap.size + 2 ≤ V.heap.size := by omega
        have hne : h ≠ w.heap.size + 1 := by have := k1.1; omega
        exact ⟨(Kept.of_below bw9).setCell (X := fun k => k = w.heap.size + 1) (p := ⟨w.heap.size + 1, 0, none⟩) rfl _, rfl, ⟨h, cc, by simp [go_sem, cr9], (k1.lower hh).same (Below.heap_setCell _ _ _ _ hne)⟩, (i5.trans (bw9.mono (by omega))).setCell (p := ⟨w.heap.size + 1, 0, none⟩) (Nat.le_succ _) _⟩
      · have hb1 : ((e.1 : Int) == y) = false := by simp [he]
        dsimp only
        gi_wp2
        have hnx : ∀ e9, e9 ∈ ps ++ [e] → e9.1 ≠ y := fun e9 h9 => by
          rcases List.mem_append.1 h9 with h9 | h9
          · exact HI1.out e9 h9
          · rw [List.mem_singleton.1 h9]; exact he
        first
          | exact ⟨Kept.refl _ _, hnx, i2, i3, i4, i5⟩
          | exact ⟨(Kept.refl _ _).drew, hnx, by simpa [go_sem] using i2, by simpa [go_sem] using i3, by simpa [go_sem] using i4, i5.drew⟩
    case done =>
      rintro D V hDq ⟨i1, i2, i3, i4, i5⟩ hDV
      have hrr := rr_no HOK.out i1
      rw [hrr] at HRL
      have HN := HRL.out
      subst HN
      clear i1 hrr
      have hD0 : D ≠ w.heap.size + 1 := by omega
      dsimp only
      go_wp2_with fail
      have hDV2 : (V.setCell ⟨w.heap.size + 1, 0, none⟩ (.slice none 0 0)).heap[D]? = some (.deferred (some [])) := (Below.heap_setCell _ _ _ _ hD0).trans hDV
      refine leaves_one (D := D) (v := .slice none 0 0) hDV2 (fun w' hw' => ?_)
      have c9 : w'.cell? ⟨w.heap.size + 1, 0, none⟩ = some (.slice none 0 0) := by
        rw [hw', World.cell?_of_block (w := V.setCell ⟨w.heap.size + 1, 0, none⟩ (.slice none 0 0)) (World.putObj_heap_other (Ne.symm hD0))]
        simp [go_sem, i3]
      refine ⟨by clear hw' bwS bw i5; simp [*, results, Tryd.results36, go_sem], ⟨none, 0, rfl, .inl rfl⟩, ?_⟩
      rw [hw']
      exact (i5.setCell (p := ⟨w.heap.size + 1, 0, none⟩) (Nat.le_succ _) _).trans (below_putObj _ _ (by omega))
    case stop =>
      rintro D c ps V hDq hps ⟨rfl, ⟨h, cc, t1, t2⟩, t3⟩ hDV
      have hD0 : D ≠ w.heap.size + 1 := by omega
      have hDh : D ≠ h := fun e => by
        obtain ⟨_, ⟨cur, e2⟩, _⟩ := t2
        rw [← e, hDV] at e2
        cases e2
      dsimp only
      go_wp2_with fail
      refine leaves_one (D := D) (v := .slice (some ⟨h, 0, none⟩) RL.length cc) hDV (fun w' hw' => ?_)
      have c9 : w'.cell? ⟨w.heap.size + 1, 0, none⟩ = some (.slice (some ⟨h, 0, none⟩) RL.length cc) := by
        rw [hw', World.cell?_of_block (w := V) (World.putObj_heap_other (Ne.symm hD0))]
        exact t1
      have t9 : IntsIs (wS.heap.size + 2) w' h RL := by
        rw [hw']
        exact t2.same (World.putObj_heap_other (Ne.symm hDh))
      refine ⟨by clear hw' bwS bw t3; simp [*, results, Tryd.results36, go_sem], ⟨_, cc, rfl, (t9.lower (by omega)).own⟩, ?_⟩
      rw [hw']
      exact t3.trans (below_putObj _ _ (by omega))

theorem walkRegionRow' (a : Option Addr) (n c1 : Nat) (y : Int) (w : World) (hn : n ≤ maxLen) (hPe : ∃ P Q R S, RectsIs w.heap.size w a n P Q R S) (hDb : EnvW w) :
    Calls Tryd.prog 8 #[.slice a n c1, .int .i64 y] w fun e w' => e = .returned (.bool true) ∧ Below w.heap.size w w' :=
  walkRegionRow implRegionRow a n c1 y w hn hPe hDb
end Go.Proofs.YtpbijohdnocleaaDoor
