/- The model's canonical list of the cells that are set. -/
import Derived.Test.YtciodcknobccdaaDoorRgD
import Derived.Deep.RegionHeld3
import Derived.Deep.AppendLies
namespace Go.Proofs.YtciodcknobccdaaDoor
open Go.RowKit
set_option linter.unusedVariables false
set_option linter.unusedSimpArgs false
attribute [local go_sem ↓] Go.wp_at_zero Go.wp_at_succ

/-- A list of rectangles lies at the head of block h. -/
def RecIs (B : Nat) (w : World) (h : Nat) (l : List R4) : Prop := B ≤ h ∧ h < w.heap.size ∧ ∀ i r, l[i]? = some r → w.cell? ⟨h, i * 4, none⟩ = some (.int .i64 r.a) ∧ w.cell? ⟨h, i * 4 + 1, none⟩ = some (.int .i64 r.b) ∧ w.cell? ⟨h, i * 4 + 2, none⟩ = some (.int .i64 r.c) ∧ w.cell? ⟨h, i * 4 + 3, none⟩ = some (.int .i64 r.d)
def RecRes (B : Nat) (l : List R4) (e : Ending) (w : World) : Prop := ∃ h c, e = .returned (.slice (some ⟨h, 0, none⟩) l.length c) ∧ RecIs B w h l
theorem rec_own {w : World} {B g n cap : Nat} {l : List R4} (h : w.ownsRow B 142 4 (.slice (some ⟨g, 0, none⟩) n cap) n (recCells l)) : RecIs B w g l := by
  have hl := h.lt g rfl
  refine ⟨hl.1, hl.2, fun i r hr => ?_⟩
  obtain ⟨h0, h1, h2, h3⟩ := recCells_at l i r hr
  have c0 := h.cells (g := g) rfl _ _ h0
  have c1 := h.cells (g := g) rfl _ _ h1
  have c2 := h.cells (g := g) rfl _ _ h2
  have c3 := h.cells (g := g) rfl _ _ h3
  rw [addG] at c0 c1 c2 c3
  exact ⟨c0, c1, c2, c3⟩
theorem rec_next {W : World} {B : Nat} {v : Value} {n : Nat} {l : List R4} {r : R4} (hn : n = l.length) (h : W.ownsRow B 142 4 v (n + 1) (recCells l ++ r4cells r)) :
    ∃ g cap, v = .slice (some ⟨g, 0, none⟩) (l ++ [r]).length cap ∧ W.ownsRow B 142 4 (.slice (some ⟨g, 0, none⟩) (l ++ [r]).length cap) (l ++ [r]).length (recCells (l ++ [r])) := by
  subst hn
  have e : (l ++ [r]).length = l.length + 1 := by simp
  rw [e, recCells_snoc]
  rcases h.2 with ⟨_, h0⟩ | ⟨g, cap, cur, rfl, _⟩
  · omega
  · exact ⟨g, cap, rfl, h⟩
theorem rows_ne {W : World} {B B' n cap : Nat} {g h m : Nat} {xs : List Value} {l : List Int} (hown : W.ownsRow B 142 4 (.slice (some ⟨h, 0, none⟩) m cap) n xs) (hI : IntsIs B' W g l) : g ≠ h := by
  rintro rfl
  obtain ⟨cur, e⟩ := own_row hown
  obtain ⟨_, ⟨cur', e'⟩, _⟩ := hI
  rw [e] at e'
  cases e'
theorem take_succ_get {l : List R4} {j : Nat} {r : R4} (h : l[j]? = some r) : l.take (j + 1) = l.take j ++ [r] := by rw [List.take_add_one, h]; rfl

set_option maxHeartbeats 16000000 in
set_option maxRecDepth 100000 in
theorem l03Canon_any (g c : Nat) (f : Nat → Bool) (w : World) (hB : BitsIs w g f) :
    Calls Tryd.prog 104 #[.slice (some ⟨g, 0, none⟩) 6400 c] w fun e w' => RecRes w.heap.size (canonL f) e w' ∧ Below w.heap.size w w' := by
  obtain ⟨i0, hi, hz0, hz1, hz2⟩ := info_parts Tryd.infoR
  have HB := Lib.hid hB
  clear hB
  go_enter Tryd.func104, Tryd.ntmps104
  go_wp2_with fail
  go_loopw [3, 4] (fun v s wr => ∃ (y : Int) (done : List R4) (n h c' : Nat), -40 ≤ y ∧ y ≤ 40 ∧ s = .int .i64 y ∧ v = .slice (some ⟨h, 0, none⟩) done.length c' ∧ wr.ownsRow w.heap.size 142 4 (.slice (some ⟨h, 0, none⟩) done.length c') done.length (recCells done) ∧ Below w.heap.size w wr ∧ 40 - y ≤ n ∧ done ++ canonF f n y = canonL f ∧ (done.length : Int) ≤ 41 * (y + 40)) (fun _ s _ => (40 - intOf s).toNat)
  case atStart =>
    refine ⟨-40, [], 80, _, _, by omega, by omega, rfl, rfl, ?_, by (repeat (first | (with_reducible exact Below.refl _ _) | (with_reducible refine Ext.drewN ?_ _) | (with_reducible refine Below.drew ?_) | (with_reducible refine Ext.alloc ?_ _) | (with_reducible refine Ext.setCell ?_ (by simp; try omega) _) | (with_reducible refine Ext.trans ?_ (by assumption)) | (with_reducible assumption) | exact Below.refl _ _)), by omega, (by unfold canonL; exact List.nil_append _), by simp⟩
    exact World.ownsRow_made w #[] 0 (Nat.le_refl _) (by unfold maxLen; decide) rfl
  case round =>
    obtain ⟨y, done, n, h, c', y0, y1, rfl, rfl, hown, hb, hn, hcan, hdl⟩ := hrel
    have HC := Lib.hid hcan
    clear hcan
    by_cases hy : y < 40
    · have HW := Lib.hid (HB.out.below hb)
      have hrl : (runsL f y).length ≤ 81 := runsTo_len f y 81
      have HO := Lib.hid hown
      clear hown
      go_wp2_with (go_at_call 128; refine (l03Runs_any g c f y _ HW.out).mono ?_; rintro e w1 ⟨⟨h1, c1, rfl, hI⟩, bw1⟩; have HI := Lib.hid hI; clear hI)
      obtain ⟨B1, hB1⟩ : ∃ B1, B1 = wr.heap.size := ⟨_, rfl⟩
      rw [← hB1] at HI
      have HB1 := Lib.hid hB1
      clear hB1
      have BW1 : Below w.heap.size w w1 := hb.trans (bw1.mono hb.size)
      go_loopw [6] (fun s we => ∃ (ee : Int) (m : Nat), y + 1 ≤ ee ∧ ee ≤ 40 ∧ s = .int .i64 ee ∧ Below w1.heap.size w1 we ∧ 40 - ee ≤ m ∧ bandE f y m ee = bandE f y 80 (y + 1)) (fun s _ => (40 - intOf s).toNat)
      case atStart => exact ⟨y + 1, 80, by omega, by omega, rfl, Below.refl _ _, by omega, rfl⟩
      case round =>
        obtain ⟨ee, m, e0, e1, rfl, hE, hm, hbe⟩ := hrel
        have HBE := Lib.hid hbe
        clear hbe
        have HWe := Lib.hid (HB.out.below (BW1.trans (hE.mono BW1.size)))
        have HIe := Lib.hid (HI.out.below hE)
        have hrl2 : (runsL f ee).length ≤ 81 := runsTo_len f ee 81
        by_cases hx : ee < 40
        · by_cases hr : runsL f ee = runsL f y
          · have hdec : decide (runsL f ee = runsL f y) = true := decide_eq_true hr
            obtain ⟨m', hm', hst⟩ := bandE_step f y m ee hx hr hm
            have HST := Lib.hid hst
            clear hst
            have HRR := Lib.hid hr
            clear hr
            go_wp2_with (first | (go_at_call 128; refine (l03Runs_any g c f ee _ HWe.out).mono ?_; rintro e w2 ⟨⟨h2, c2, rfl, hI2⟩, bw2⟩; have HI2 := Lib.hid hI2; clear hI2) | (go_at_call 129; refine (l03Equal_any _ _ h2 h1 c2 c1 (runsL f ee) (runsL f y) _ HI2.out (HIe.out.below bw2) (by omega) (by omega)).mono ?_; rintro e w3 ⟨rfl, bw3⟩; rw [hdec]))
            go_roundw
            case rel => exact ⟨ee + 1, m', by omega, by omega, by go_num, (hE.trans (bw2.mono hE.size)).trans (bw3.mono (Nat.le_trans hE.size bw2.size)), hm', by rw [← HST.out, HBE.out]⟩
            case measure => simp [intOf]; omega
          · have hdec : decide (runsL f ee = runsL f y) = false := decide_eq_false hr
            have hend : bandE f y 80 (y + 1) = ee := by rw [← HBE.out]; exact bandE_stop f y m ee (fun h => hr h.2)
            clear hr
            go_wp2_with (first | (go_at_call 128; refine (l03Runs_any g c f ee _ HWe.out).mono ?_; rintro e w2 ⟨⟨h2, c2, rfl, hI2⟩, bw2⟩; have HI2 := Lib.hid hI2; clear hI2) | (go_at_call 129; refine (l03Equal_any _ _ h2 h1 c2 c1 (runsL f ee) (runsL f y) _ HI2.out (HIe.out.below bw2) (by omega) (by omega)).mono ?_; rintro e w3 ⟨rfl, bw3⟩; rw [hdec]))
            have E3 : Below w1.heap.size w1 w3 := (hE.trans (bw2.mono hE.size)).trans (bw3.mono (Nat.le_trans hE.size bw2.size))
            clear HI2 bw2 bw3
            have B3 : Below w.heap.size w w3 := BW1.trans (E3.mono BW1.size)
            have O3 := Lib.hid (own_keep HO.out (bw1.trans (E3.mono bw1.size)))
            have HI3 := Lib.hid (HI.out.below E3)
            have hstep := canonF_step f n y hy hn
            rw [hend] at hstep
            have HSTEP := Lib.hid hstep
            clear hstep hend HI HIe HO
            have hpl := pairsR_len y ee (runsL f y)
            have hpl2 : (pairsR y ee (runsL f y)).length ≤ 40 := by omega
            go_loopw [3, 7] (fun v s wi => ∃ (j i h' cc : Nat) (cur : List R4), s = .int .i64 (i : Int) ∧ Hid (i = 2 * j ∧ j ≤ (runsL f y).length / 2 ∧ cur = done ++ (pairsR y ee (runsL f y)).take j) ∧ v = .slice (some ⟨h', 0, none⟩) cur.length cc ∧ Hid (wi.ownsRow w.heap.size 142 4 (.slice (some ⟨h', 0, none⟩) cur.length cc) cur.length (recCells cur)) ∧ Below w.heap.size w wi ∧ Hid (IntsIs B1 wi h1 (runsL f y))) (fun _ s _ => (runsL f y).length + 2 - (intOf s).toNat)
            case atStart => exact ⟨0, 0, h, c', done, rfl, Lib.hid ⟨rfl, Nat.zero_le _, by rw [List.take_zero, List.append_nil]⟩, rfl, O3, B3, HI3⟩
            case round =>
              obtain ⟨j, i, h', cc, cur, rfl, hcur, rfl, OC, hWi, HIi⟩ := hrel
              have hcl : cur.length ≤ 4000 := by
                have h1 := hcur.out.2.2
                rw [h1, List.length_append, List.length_take]; omega
              have hij := hcur.out.1
              have hjl := hcur.out.2.1
              by_cases hlt : i + 1 < (runsL f y).length
              · have q1 : (i : Int) + 1 < ((runsL f y).length : Int) := by omega
                have q0 : (0 : Int) ≤ (i : Int) := by omega
                have q2 : (i : Int) < ((runsL f y).length : Int) := by omega
                have a1 := HIi.out.at (k := i) (by omega)
                have a2 := HIi.out.at (k := i + 1) (by omega)
                have hg := pairsR_get y ee (runsL f y) j (by omega)
                rw [← hij] at hg
                have HG := Lib.hid hg
                clear hg
                generalize (runsL f y).getD i 0 = ra at a1 HG
                generalize (runsL f y).getD (i + 1) 0 = rb at a2 HG
                have hne : h1 ≠ h' := rows_ne OC.out HIi.out
                have ag : some h1 ≠ (Value.slice (some ⟨h', 0, none⟩) cur.length cc).ownBlock := by
                  intro e
                  exact hne (Option.some.inj e)
                have lt1 := HIi.out.lt
                have hbs := hWi.size
                have HIJ := Lib.hid hij
                have HJL := Lib.hid hjl
                obtain ⟨i2, hi2⟩ : ∃ i2, i2 = i + 1 := ⟨_, rfl⟩
                rw [← hi2] at a2
                have wr2 : IntKind.i64.wrap ((i : Int) + 1) = (i2 : Int) := by rw [IntKind.wrap_i64]; omega
                have q3 : (0 : Int) ≤ (i2 : Int) := by omega
                have q4 : (i2 : Int) < ((runsL f y).length : Int) := by omega
                have HI2X := Lib.hid hi2
                clear hi2
                clear hne hij hjl hpl hpl2
                go_wp2_with fail
                go_region_held3 (fun w' => w'.cell? ⟨h1, i, none⟩ = some (.int .i64 ra) ∧ w'.cell? ⟨h1, i2, none⟩ = some (.int .i64 rb))
                  (first
                    | ((first | ((try dsimp only); go_split_ands; (repeat' (with_reducible refine And.intro ?_ ?_)) <;> first | ((repeat (with_reducible refine keepS ?_ (by simp; try omega) _)); (first | (with_reducible assumption) | (with_reducible exact keepC (by assumption) (by assumption)) | (with_reducible exact keepA (by assumption) _) | (with_reducible exact keepR (by assumption) (by omega) _))) | ((try simp only [World.size_alloc, World.size_setCell, World.size_drew]); omega) | (refine Mats.below hM ?_ hM.size; (repeat (first | (with_reducible exact Below.refl _ _) | (with_reducible refine Ext.drewN ?_ _) | (with_reducible refine Below.drew ?_) | (with_reducible refine Ext.alloc ?_ _) | (with_reducible refine Ext.setCell ?_ (by simp; try omega) _) | (with_reducible refine Ext.trans ?_ (by assumption)) | (with_reducible assumption) | exact Below.refl _ _)); done) | ((repeat (first | (with_reducible exact Below.refl _ _) | (with_reducible refine Ext.drewN ?_ _) | (with_reducible refine Below.drew ?_) | (with_reducible refine Ext.alloc ?_ _) | (with_reducible refine Ext.setCell ?_ (by simp; try omega) _) | (with_reducible refine Ext.trans ?_ (by assumption)) | (with_reducible assumption) | exact Below.refl _ _)); done) | (go_keep; done))); done)
                    | (go_split_ands
                       refine ⟨?_, ?_⟩
                       · (rw [hgrow.cell_far _ (by simp; omega) ag]; assumption)
                       · (rw [hgrow.cell_far _ (by simp; omega) ag]; assumption)))
                  ((refine step_append_lies _ (by rfl) _ _ _ (by rfl) w.heap.size 142 i0 _ 4 32 Tryd.underlying105 hi hz0 hz1 hz2 rfl (by omega) (.slice (some ⟨h', 0, none⟩) cur.length cc) cur.length (recCells cur) (by rfl) ((OC.out.alloc _).drew) ⟨wr.heap.size, 0, none⟩ 1 1 [.int .i64 ra, .int .i64 y, .int .i64 rb, .int .i64 ee] (by rfl) (by rfl) (World.news_of_block (cs := #[.int .i64 ra, .int .i64 y, .int .i64 rb, .int .i64 ee]) (t := 142) (fr := (0, 0)) (heap_alloc_new wr _)) (by simp [Value.oneCell']) (by omega) (by unfold maxLen; omega) (by omega) (by simp; omega) (wr.heap.size + 1) (by simp) ?_; intro gg cap w4 hown1 hgrow hat hlt4))
                have B4 : Below w.heap.size w w4 := ((hWi.alloc hWi.size _).drew).grown hgrow (by have := hWi.size; simp; omega) (fun k hk => (OC.out.lt k hk).1)
                have I0 : IntsIs B1 ((wr.alloc (.cells #[.int .i64 ra, .int .i64 y, .int .i64 rb, .int .i64 ee] 142)).drew) h1 (runsL f y) := HIi.out.below (((Below.refl _ _).alloc (Nat.le_refl _) _).drew)
                have I4 := Lib.hid (I0.grown hgrow ag)
                clear I0
                have O4 : w4.ownsRow w.heap.size 142 4 (.slice (some ⟨gg, 0, none⟩) (cur ++ [(R4.mk ra y rb ee)]).length cap) (cur ++ [(R4.mk ra y rb ee)]).length (recCells (cur ++ [(R4.mk ra y rb ee)])) := by
                  rw [List.length_append, recCells_snoc]; exact hown1
                have O5 := Lib.hid O4
                clear hown1 O4 hgrow hat
                go_wp2_with fail
                go_roundw
                case rel =>
                  refine ⟨j + 1, i + 2, gg, cap, cur ++ [(R4.mk ra y rb ee)], by go_num, Lib.hid ⟨?_, ?_, ?_⟩, by rw [List.length_append]; rfl, O5, B4, I4⟩
                  · have := HIJ.out; omega
                  · have := HIJ.out; have := HI2X.out; omega
                  · rw [hcur.out.2.2, List.append_assoc, take_succ_get HG.out]
                case measure => simp [intOf]; omega
              · have q1 : ¬ ((i : Int) + 1 < ((runsL f y).length : Int)) := by omega
                have q0 : (0 : Int) ≤ (i : Int) := by omega
                have qb : (i : Int) ≤ 200 := by omega
                have hall : (pairsR y ee (runsL f y)).take j = pairsR y ee (runsL f y) := List.take_of_length_le (by omega)
                have hcur2 : cur = done ++ pairsR y ee (runsL f y) := by rw [hcur.out.2.2, hall]
                obtain ⟨n', hn', hcan'⟩ := HSTEP.out
                have hfin : cur ++ canonF f n' ee = canonL f := by rw [hcur2, List.append_assoc, ← hcan']; exact HC.out
                have HFIN := Lib.hid hfin
                have hlen : (cur.length : Int) ≤ 41 * (ee + 40) := by
                  rw [hcur2, List.length_append]; omega
                clear hfin hall hcur2 hcan' hij hjl
                go_wp2_with fail
                go_roundw
                case rel => exact ⟨ee, cur, n', h', cc, by omega, by omega, rfl, rfl, OC.out, hWi, hn', HFIN.out, hlen⟩
                case measure => simp [intOf]; omega
        · have hend : bandE f y 80 (y + 1) = ee := by rw [← HBE.out]; exact bandE_stop f y m ee (fun h => hx h.1)
          go_wp2_with fail
          rename World => w3
          have E3 := hE
          have B3 : Below w.heap.size w w3 := BW1.trans (E3.mono BW1.size)
          have O3 := Lib.hid (own_keep HO.out (bw1.trans (E3.mono bw1.size)))
          have HI3 := Lib.hid (HI.out.below E3)
          have hstep := canonF_step f n y hy hn
          rw [hend] at hstep
          have HSTEP := Lib.hid hstep
          clear hstep hend HI HIe HO
          have hpl := pairsR_len y ee (runsL f y)
          have hpl2 : (pairsR y ee (runsL f y)).length ≤ 40 := by omega
          go_loopw [3, 7] (fun v s wi => ∃ (j i h' cc : Nat) (cur : List R4), s = .int .i64 (i : Int) ∧ Hid (i = 2 * j ∧ j ≤ (runsL f y).length / 2 ∧ cur = done ++ (pairsR y ee (runsL f y)).take j) ∧ v = .slice (some ⟨h', 0, none⟩) cur.length cc ∧ Hid (wi.ownsRow w.heap.size 142 4 (.slice (some ⟨h', 0, none⟩) cur.length cc) cur.length (recCells cur)) ∧ Below w.heap.size w wi ∧ Hid (IntsIs B1 wi h1 (runsL f y))) (fun _ s _ => (runsL f y).length + 2 - (intOf s).toNat)
          case atStart => exact ⟨0, 0, h, c', done, rfl, Lib.hid ⟨rfl, Nat.zero_le _, by rw [List.take_zero, List.append_nil]⟩, rfl, O3, B3, HI3⟩
          case round =>
            obtain ⟨j, i, h', cc, cur, rfl, hcur, rfl, OC, hWi, HIi⟩ := hrel
            have hcl : cur.length ≤ 4000 := by
              have h1 := hcur.out.2.2
              rw [h1, List.length_append, List.length_take]; omega
            have hij := hcur.out.1
            have hjl := hcur.out.2.1
            by_cases hlt : i + 1 < (runsL f y).length
            · have q1 : (i : Int) + 1 < ((runsL f y).length : Int) := by omega
              have q0 : (0 : Int) ≤ (i : Int) := by omega
              have q2 : (i : Int) < ((runsL f y).length : Int) := by omega
              have a1 := HIi.out.at (k := i) (by omega)
              have a2 := HIi.out.at (k := i + 1) (by omega)
              have hg := pairsR_get y ee (runsL f y) j (by omega)
              rw [← hij] at hg
              have HG := Lib.hid hg
              clear hg
              generalize (runsL f y).getD i 0 = ra at a1 HG
              generalize (runsL f y).getD (i + 1) 0 = rb at a2 HG
              have hne : h1 ≠ h' := rows_ne OC.out HIi.out
              have ag : some h1 ≠ (Value.slice (some ⟨h', 0, none⟩) cur.length cc).ownBlock := by
                intro e
                exact hne (Option.some.inj e)
              have lt1 := HIi.out.lt
              have hbs := hWi.size
              have HIJ := Lib.hid hij
              have HJL := Lib.hid hjl
              obtain ⟨i2, hi2⟩ : ∃ i2, i2 = i + 1 := ⟨_, rfl⟩
              rw [← hi2] at a2
              have wr2 : IntKind.i64.wrap ((i : Int) + 1) = (i2 : Int) := by rw [IntKind.wrap_i64]; omega
              have q3 : (0 : Int) ≤ (i2 : Int) := by omega
              have q4 : (i2 : Int) < ((runsL f y).length : Int) := by omega
              have HI2X := Lib.hid hi2
              clear hi2
              clear hne hij hjl hpl hpl2
              go_wp2_with fail
              go_region_held3 (fun w' => w'.cell? ⟨h1, i, none⟩ = some (.int .i64 ra) ∧ w'.cell? ⟨h1, i2, none⟩ = some (.int .i64 rb))
                (first
                  | ((first | ((try dsimp only); go_split_ands; (repeat' (with_reducible refine And.intro ?_ ?_)) <;> first | ((repeat (with_reducible refine keepS ?_ (by simp; try omega) _)); (first | (with_reducible assumption) | (with_reducible exact keepC (by assumption) (by assumption)) | (with_reducible exact keepA (by assumption) _) | (with_reducible exact keepR (by assumption) (by omega) _))) | ((try simp only [World.size_alloc, World.size_setCell, World.size_drew]); omega) | (refine Mats.below hM ?_ hM.size; (repeat (first | (with_reducible exact Below.refl _ _) | (with_reducible refine Ext.drewN ?_ _) | (with_reducible refine Below.drew ?_) | (with_reducible refine Ext.alloc ?_ _) | (with_reducible refine Ext.setCell ?_ (by simp; try omega) _) | (with_reducible refine Ext.trans ?_ (by assumption)) | (with_reducible assumption) | exact Below.refl _ _)); done) | ((repeat (first | (with_reducible exact Below.refl _ _) | (with_reducible refine Ext.drewN ?_ _) | (with_reducible refine Below.drew ?_) | (with_reducible refine Ext.alloc ?_ _) | (with_reducible refine Ext.setCell ?_ (by simp; try omega) _) | (with_reducible refine Ext.trans ?_ (by assumption)) | (with_reducible assumption) | exact Below.refl _ _)); done) | (go_keep; done))); done)
                  | (go_split_ands
                     refine ⟨?_, ?_⟩
                     · (rw [hgrow.cell_far _ (by simp; omega) ag]; assumption)
                     · (rw [hgrow.cell_far _ (by simp; omega) ag]; assumption)))
                ((refine step_append_lies _ (by rfl) _ _ _ (by rfl) w.heap.size 142 i0 _ 4 32 Tryd.underlying105 hi hz0 hz1 hz2 rfl (by omega) (.slice (some ⟨h', 0, none⟩) cur.length cc) cur.length (recCells cur) (by rfl) ((OC.out.alloc _).drew) ⟨wr.heap.size, 0, none⟩ 1 1 [.int .i64 ra, .int .i64 y, .int .i64 rb, .int .i64 ee] (by rfl) (by rfl) (World.news_of_block (cs := #[.int .i64 ra, .int .i64 y, .int .i64 rb, .int .i64 ee]) (t := 142) (fr := (0, 0)) (heap_alloc_new wr _)) (by simp [Value.oneCell']) (by omega) (by unfold maxLen; omega) (by omega) (by simp; omega) (wr.heap.size + 1) (by simp) ?_; intro gg cap w4 hown1 hgrow hat hlt4))
              have B4 : Below w.heap.size w w4 := ((hWi.alloc hWi.size _).drew).grown hgrow (by have := hWi.size; simp; omega) (fun k hk => (OC.out.lt k hk).1)
              have I0 : IntsIs B1 ((wr.alloc (.cells #[.int .i64 ra, .int .i64 y, .int .i64 rb, .int .i64 ee] 142)).drew) h1 (runsL f y) := HIi.out.below (((Below.refl _ _).alloc (Nat.le_refl _) _).drew)
              have I4 := Lib.hid (I0.grown hgrow ag)
              clear I0
              have O4 : w4.ownsRow w.heap.size 142 4 (.slice (some ⟨gg, 0, none⟩) (cur ++ [(R4.mk ra y rb ee)]).length cap) (cur ++ [(R4.mk ra y rb ee)]).length (recCells (cur ++ [(R4.mk ra y rb ee)])) := by
                rw [List.length_append, recCells_snoc]; exact hown1
              have O5 := Lib.hid O4
              clear hown1 O4 hgrow hat
              go_wp2_with fail
              go_roundw
              case rel =>
                refine ⟨j + 1, i + 2, gg, cap, cur ++ [(R4.mk ra y rb ee)], by go_num, Lib.hid ⟨?_, ?_, ?_⟩, by rw [List.length_append]; rfl, O5, B4, I4⟩
                · have := HIJ.out; omega
                · have := HIJ.out; have := HI2X.out; omega
                · rw [hcur.out.2.2, List.append_assoc, take_succ_get HG.out]
              case measure => simp [intOf]; omega
            · have q1 : ¬ ((i : Int) + 1 < ((runsL f y).length : Int)) := by omega
              have q0 : (0 : Int) ≤ (i : Int) := by omega
              have qb : (i : Int) ≤ 200 := by omega
              have hall : (pairsR y ee (runsL f y)).take j = pairsR y ee (runsL f y) := List.take_of_length_le (by omega)
              have hcur2 : cur = done ++ pairsR y ee (runsL f y) := by rw [hcur.out.2.2, hall]
              obtain ⟨n', hn', hcan'⟩ := HSTEP.out
              have hfin : cur ++ canonF f n' ee = canonL f := by rw [hcur2, List.append_assoc, ← hcan']; exact HC.out
              have HFIN := Lib.hid hfin
              have hlen : (cur.length : Int) ≤ 41 * (ee + 40) := by
                rw [hcur2, List.length_append]; omega
              clear hfin hall hcur2 hcan' hij hjl
              go_wp2_with fail
              go_roundw
              case rel => exact ⟨ee, cur, n', h', cc, by omega, by omega, rfl, rfl, OC.out, hWi, hn', HFIN.out, hlen⟩
              case measure => simp [intOf]; omega
    · have hyy : y = 40 := by omega
      have hfin : done = canonL f := by rw [← HC.out, canonF_end f n y hy, List.append_nil]
      have HF := Lib.hid hfin
      have HO := Lib.hid hown
      clear hown hfin
      go_wp2_with fail
      go_ret
      exact ⟨⟨h, c', by rw [← HF.out]; rfl, by rw [← HF.out]; exact rec_own HO.out⟩, hb⟩
end Go.Proofs.YtciodcknobccdaaDoor
