/- The model's canonical list of the cells that are set. -/
import Derived.Test.YtfbalpkjcfdakaaGreatDoorQB
import Derived.Deep.RegionHeld3
import Derived.Deep.AppendLies
import Derived.Test.YtfbalpkjcfdakaaGreatDoorQA
namespace Go.Proofs.YtfbalpkjcfdakaaGreatDoor
open Go.RowKit
set_option linter.unusedVariables false
set_option linter.unusedSimpArgs false
attribute [local go_sem ↓] Go.wp_at_zero Go.wp_at_succ

/-- A list of rectangles lies at the head of block h. -/
def RecIs (B : Nat) (w : World) (h : Nat) (l : List R4) : Prop := B ≤ h ∧ h < w.heap.size ∧ ∀ i r, l[i]? = some r → w.cell? ⟨h, i * 4, none⟩ = some (.int .i64 r.a) ∧ w.cell? ⟨h, i * 4 + 1, none⟩ = some (.int .i64 r.b) ∧ w.cell? ⟨h, i * 4 + 2, none⟩ = some (.int .i64 r.c) ∧ w.cell? ⟨h, i * 4 + 3, none⟩ = some (.int .i64 r.d)
def RecRes (B : Nat) (l : List R4) (e : Ending) (w : World) : Prop := ∃ h c, e = .returned (.slice (some ⟨h, 0, none⟩) l.length c) ∧ RecIs B w h l
theorem rec_own {w : World} {B g n cap : Nat} {l : List R4} (h : w.ownsRow B 65 4 (.slice (some ⟨g, 0, none⟩) n cap) n (recCells l)) : RecIs B w g l := by
  have hl := h.lt g rfl
  refine ⟨hl.1, hl.2, fun i r hr => ?_⟩
  obtain ⟨h0, h1, h2, h3⟩ := recCells_at l i r hr
  have c0 := h.cells (g := g) rfl _ _ h0
  have c1 := h.cells (g := g) rfl _ _ h1
  have c2 := h.cells (g := g) rfl _ _ h2
  have c3 := h.cells (g := g) rfl _ _ h3
  rw [addG] at c0 c1 c2 c3
  exact ⟨c0, c1, c2, c3⟩
theorem rec_next {W : World} {B : Nat} {v : Value} {n : Nat} {l : List R4} {r : R4} (hn : n = l.length) (h : W.ownsRow B 65 4 v (n + 1) (recCells l ++ r4cells r)) :
    ∃ g cap, v = .slice (some ⟨g, 0, none⟩) (l ++ [r]).length cap ∧ W.ownsRow B 65 4 (.slice (some ⟨g, 0, none⟩) (l ++ [r]).length cap) (l ++ [r]).length (recCells (l ++ [r])) := by
  subst hn
  have e : (l ++ [r]).length = l.length + 1 := by simp
  rw [e, recCells_snoc]
  rcases h.2 with ⟨_, h0⟩ | ⟨g, cap, cur, rfl, _⟩
  · omega
  · exact ⟨g, cap, rfl, h⟩
theorem rows_ne {W : World} {B B' n cap : Nat} {g h m : Nat} {xs : List Value} {l : List Int} (hown : W.ownsRow B 65 4 (.slice (some ⟨h, 0, none⟩) m cap) n xs) (hI : IntsIs B' W g l) : g ≠ h := by
  rintro rfl
  obtain ⟨cur, e⟩ := own_row hown
  obtain ⟨_, ⟨cur', e'⟩, _⟩ := hI
  rw [e] at e'
  cases e'
theorem take_succ_get {l : List R4} {j : Nat} {r : R4} (h : l[j]? = some r) : l.take (j + 1) = l.take j ++ [r] := by rw [List.take_add_one, h]; rfl

set_option maxHeartbeats 16000000 in
set_option maxRecDepth 100000 in
theorem l03Canon_any (g c : Nat) (f : Nat → Bool) (w : World) (hB : BitsIs w g f) :
    Calls Tryz.prog 68 #[.slice (some ⟨g, 0, none⟩) 6400 c] w fun e w' => RecRes w.heap.size (canonL f) e w' ∧ Below w.heap.size w w' := by
  obtain ⟨i0, hi, hz0, hz1, hz2⟩ := info_parts Tryz.infoR
  have HB := Lib.hid hB
  clear hB
  go_enter Tryz.func68, Tryz.ntmps68
  go_wp2_with fail
  go_loopw [3, 4] (fun v s wr => ∃ (y : Int) (done : List R4) (n h c' : Nat), -40 ≤ y ∧ y ≤ 40 ∧ s = .int .i64 y ∧ v = .slice (some ⟨h, 0, none⟩) done.length c' ∧ wr.ownsRow w.heap.size 65 4 (.slice (some ⟨h, 0, none⟩) done.length c') done.length (recCells done) ∧ Below w.heap.size w wr ∧ 40 - y ≤ n ∧ done ++ canonF f n y = canonL f ∧ (done.length : Int) ≤ 41 * (y + 40)) (fun _ s _ => (40 - intOf s).toNat)
  case atStart =>
    refine ⟨-40, [], 80, _, _, by omega, by omega, rfl, rfl, ?_, by (repeat (first | (with_reducible exact Below.refl _ _) | (with_reducible refine Ext.drewN ?_ _) | (with_reducible refine Below.drew ?_) | (with_reducible refine Ext.alloc ?_ _) | (with_reducible refine Ext.setCell ?_ (by simp; try omega) _) | (with_reducible refine Ext.trans ?_ (by assumption)) | (with_reducible assumption) | exact Below.refl _ _)), by omega, (by unfold canonL; exact List.nil_append _), by simp⟩
    exact World.ownsRow_made w #[] 0 (Nat.le_refl _) (by unfold maxLen; decide) rfl
  case round =>
    obtain ⟨y, done, n, h, c', y0, y1, rfl, rfl, hown, hb, hn, hcan, hdl⟩ := hrel
    have HC := Lib.hid hcan
    clear hcan
    by_cases hy : y < 40
    · have HW := Lib.hid (HB.out.below hb)
      have hrl : (runsL f y).length ≤ 81 := runsTo_len f y 81
      have HO := Lib.hid hown
      clear hown
      go_wp2_with (go_at_call 117; refine (l03Runs_any g c f y _ HW.out).mono ?_; rintro e w1 ⟨⟨h1, c1, rfl, hI⟩, bw1⟩; have HI := Lib.hid hI; clear hI)
      obtain ⟨B1, hB1⟩ : ∃ B1, B1 = wr.heap.size := ⟨_, rfl⟩
      rw [← hB1] at HI
      have HB1 := Lib.hid hB1
      clear hB1
      have BW1 : Below w.heap.size w w1 := hb.trans (bw1.mono hb.size)
      go_loopw [6] (fun s we => ∃ (ee : Int) (m : Nat), y + 1 ≤ ee ∧ ee ≤ 40 ∧ s = .int .i64 ee ∧ Below w1.heap.size w1 we ∧ 40 - ee ≤ m ∧ bandE f y m ee = bandE f y 80 (y + 1)) (fun s _ => (40 - intOf s).toNat)
      case atStart => exact ⟨y + 1, 80, by omega, by omega, rfl, Below.refl _ _, by omega, rfl⟩
      case round =>
        obtain ⟨ee, m, e0, e1, rfl, hE, hm, hbe⟩ := hrel
        have HBE := Lib.hid hbe
        clear hbe
        have HWe := Lib.hid (HB.out.below (BW1.trans (hE.mono BW1.size)))
        have HIe := Lib.hid (HI.out.below hE)
        have hrl2 : (runsL f ee).length ≤ 81 := runsTo_len f ee 81
        by_cases hx : ee < 40
        · by_cases hr : runsL f ee = runsL f y
          · have hdec : decide (runsL f ee = runsL f y) = true := decide_eq_true hr
            obtain ⟨m', hm', hst⟩ := bandE_step f y m ee hx hr hm
            have HST := Lib.hid hst
            clear hst
            have HRR := Lib.hid hr
            clear hr
            go_wp2_with (first | (go_at_call 117; refine (l03Runs_any g c f ee _ HWe.out).mono ?_; rintro e w2 ⟨⟨h2, c2, rfl, hI2⟩, bw2⟩; have HI2 := Lib.hid hI2; clear hI2) | (go_at_call 118; refine (l03Equal_any _ _ h2 h1 c2 c1 (runsL f ee) (runsL f y) _ HI2.out (HIe.out.below bw2) (by omega) (by omega)).mono ?_; rintro e w3 ⟨rfl, bw3⟩; rw [hdec]))
            go_roundw
            case rel => exact ⟨ee + 1, m', by omega, by omega, by go_num, (hE.trans (bw2.mono hE.size)).trans (bw3.mono (Nat.le_trans hE.size bw2.size)), hm', by rw [← HST.out, HBE.out]⟩
            case measure => simp [intOf]; omega
          · have hdec : decide (runsL f ee = runsL f y) = false := decide_eq_false hr
            have hend : bandE f y 80 (y + 1) = ee := by rw [← HBE.out]; exact bandE_stop f y m ee (fun h => hr h.2)
            clear hr
            go_wp2_with (first | (go_at_call 117; refine (l03Runs_any g c f ee _ HWe.out).mono ?_; rintro e w2 ⟨⟨h2, c2, rfl, hI2⟩, bw2⟩; have HI2 := Lib.hid hI2; clear hI2) | (go_at_call 118; refine (l03Equal_any _ _ h2 h1 c2 c1 (runsL f ee) (runsL f y) _ HI2.out (HIe.out.below bw2) (by omega) (by omega)).mono ?_; rintro e w3 ⟨rfl, bw3⟩; rw [hdec]))
            have E3 : Below w1.heap.size w1 w3 := (hE.trans (bw2.mono hE.size)).trans (bw3.mono (Nat.le_trans hE.size bw2.size))
            clear HI2 bw2 bw3
            have B3 : Below w.heap.size w w3 := BW1.trans (E3.mono BW1.size)
            have O3 := Lib.hid (own_keep HO.out (bw1.trans (E3.mono bw1.size)))
            have HI3 := Lib.hid (HI.out.below E3)
            have hstep := canonF_step f n y hy hn
            rw [hend] at hstep
            have HSTEP := Lib.hid hstep
            clear hstep hend HI HIe HO
            have hpl := pairsR_len y ee (runsL f y)
            have hpl2 : (pairsR y ee (runsL f y)).length ≤ 40 := by omega
            go_loopw [3, 7] (fun v s wi => ∃ (j i h' cc : Nat) (cur : List R4), s = .int .i64 (i : Int) ∧ Hid (i = 2 * j ∧ j ≤ (runsL f y).length / 2 ∧ cur = done ++ (pairsR y ee (runsL f y)).take j) ∧ v = .slice (some ⟨h', 0, none⟩) cur.length cc ∧ Hid (wi.ownsRow w.heap.size 65 4 (.slice (some ⟨h', 0, none⟩) cur.length cc) cur.length (recCells cur)) ∧ Below w.heap.size w wi ∧ Hid (IntsIs B1 wi h1 (runsL f y))) (fun _ s _ => (runsL f y).length + 2 - (intOf s).toNat)
            case atStart => exact ⟨0, 0, h, c', done, rfl, Lib.hid ⟨rfl, Nat.zero_le _, by rw [List.take_zero, List.append_nil]⟩, rfl, O3, B3, HI3⟩
            case round =>
              obtain ⟨j, i, h', cc, cur, rfl, hcur, rfl, OC, hWi, HIi⟩ := hrel
              have hcl : cur.length ≤ 4000 := by
                have h1 := hcur.out.2.2
                rw [h1, List.length_append, List.length_take]; omega
              have hij := hcur.out.1
              have hjl := hcur.out.2.1
              by_cases hlt : i + 1 < (runsL f y).length
              · have q1 : (i : Int) + 1 < ((runsL f y).length : Int) := by omega
                have q0 : (0 : Int) ≤ (i : Int) := by omega
                have q2 : (i : Int) < ((runsL f y).length : Int) := by omega
                have a1 := HIi.out.at (k := i) (by omega)
                have a2 := HIi.out.at (k := i + 1) (by omega)
                have hg := pairsR_get y ee (runsL f y) j (by omega)
                rw [← hij] at hg
                have HG := Lib.hid hg
                clear hg
                generalize (runsL f y).getD i 0 = ra at a1 HG
                generalize (runsL f y).getD (i + 1) 0 = rb at a2 HG
                have hne : h1 ≠ h' := rows_ne OC.out HIi.out
                have ag : some h1 ≠ (Value.slice (some ⟨h', 0, none⟩) cur.length cc).ownBlock := by
                  intro e
                  exact hne (Option.some.inj e)
                have lt1 := HIi.out.lt
                have hbs := hWi.size
                have HIJ := Lib.hid hij
                have HJL := Lib.hid hjl
                obtain ⟨i2, hi2⟩ : ∃ i2, i2 = i + 1 := ⟨_, rfl⟩
                rw [← hi2] at a2
                have wr2 : IntKind.i64.wrap ((i : Int) + 1) = (i2 : Int) := by rw [IntKind.wrap_i64]; omega
                have q3 : (0 : Int) ≤ (i2 : Int) := by omega
                have q4 : (i2 : Int) < ((runsL f y).length : Int) := by omega
                have HI2X := Lib.hid hi2
                clear hi2
                clear hne hij hjl hpl hpl2
                go_wp2_with fail
                go_region_held3 (fun w' => w'.cell? ⟨h1, i, none⟩ = some (.int .i64 ra) ∧ w'.cell? ⟨h1, i2, none⟩ = some (.int .i64 rb))
                  (first
                    | ((first | ((try dsimp only); go_split_ands; (repeat' (with_reducible refine And.intro ?_ ?_)) <;> first | ((repeat (with_reducible refine keepS ?_ (by simp; try omega) _)); (first | (with_reducible assumption) | (with_reducible exact keepC (by assumption) (by assumption)) | (with_reducible exact keepA (by assumption) _) | (with_reducible exact keepR (by assumption) (by omega) _))) | ((try simp only [World.size_alloc, World.size_setCell, World.size_drew]); omega) | (refine Mats.below hM ?_ hM.size; (repeat (first | (with_reducible exact Below.refl _ _) | (with_reducible refine Ext.drewN ?_ _) | (with_reducible refine Below.drew ?_) | (with_reducible refine Ext.alloc ?_ _) | (with_reducible refine Ext.setCell ?_ (by simp; try omega) _) | (with_reducible refine Ext.trans ?_ (by assumption)) | (with_reducible assumption) | exact Below.refl _ _)); done) | ((repeat (first | (with_reducible exact Below.refl _ _) | (with_reducible refine Ext.drewN ?_ _) | (with_reducible refine Below.drew ?_) | (with_reducible refine Ext.alloc ?_ _) | (with_reducible refine Ext.setCell ?_ (by simp; try omega) _) | (with_reducible refine Ext.trans ?_ (by assumption)) | (with_reducible assumption) | exact Below.refl _ _)); done) | (go_keep; done))); done)
                    | (go_split_ands
                       refine ⟨?_, ?_⟩
                       · (rw [hgrow.cell_far _ (by simp; omega) ag]; assumption)
                       · (rw [hgrow.cell_far _ (by simp; omega) ag]; assumption)))
                  ((refine step_append_lies _ (by rfl) _ _ _ (by rfl) w.heap.size 65 i0 _ 4 32 Tryz.underlying26 hi hz0 hz1 hz2 rfl (by omega) (.slice (some ⟨h', 0, none⟩) cur.length cc) cur.length (recCells cur) (by rfl) ((OC.out.alloc _).drew) ⟨wr.heap.size, 0, none⟩ 1 1 [.int .i64 ra, .int .i64 y, .int .i64 rb, .int .i64 ee] (by rfl) (by rfl) (World.news_of_block (cs := #[.int .i64 ra, .int .i64 y, .int .i64 rb, .int .i64 ee]) (t := 65) (fr := (0, 0)) (heap_alloc_new wr _)) (by simp [Value.oneCell']) (by omega) (by unfold maxLen; omega) (by omega) (by simp; omega) (wr.heap.size + 1) (by simp) ?_; intro gg cap w4 hown1 hgrow hat hlt4))
                have B4 : Below w.heap.size w w4 := ((hWi.alloc hWi.size _).drew).grown hgrow (by have := hWi.size; simp; omega) (fun k hk => (OC.out.lt k hk).1)
                have I0 : IntsIs B1 ((wr.alloc (.cells #[.int .i64 ra, .int .i64 y, .int .i64 rb, .int .i64 ee] 65)).drew) h1 (runsL f y) := HIi.out.below (((Below.refl _ _).alloc (Nat.le_refl _) _).drew)
                have I4 := Lib.hid (I0.grown hgrow ag)
                clear I0
                have O4 : w4.ownsRow w.heap.size 65 4 (.slice (some ⟨gg, 0, none⟩) (cur ++ [(R4.mk ra y rb ee)]).length cap) (cur ++ [(R4.mk ra y rb ee)]).length (recCells (cur ++ [(R4.mk ra y rb ee)])) := by
                  rw [List.length_append, recCells_snoc]; exact hown1
                have O5 := Lib.hid O4
                clear hown1 O4 hgrow hat
                go_wp2_with fail
                go_roundw
                case rel =>
                  refine ⟨j + 1, i + 2, gg, cap, cur ++ [(R4.mk ra y rb ee)], by go_num, Lib.hid ⟨?_, ?_, ?_⟩, by rw [List.length_append]; rfl, O5, B4, I4⟩
                  · have := HIJ.out; omega
                  · have := HIJ.out; have := HI2X.out; omega
                  · rw [hcur.out.2.2, List.append_assoc, take_succ_get HG.out]
                case measure => simp [intOf]; omega
              · have q1 : ¬ ((i : Int) + 1 < ((runsL f y).length : Int)) := by omega
                have q0 : (0 : Int) ≤ (i : Int) := by omega
                have qb : (i : Int) ≤ 200 := by omega
                have hall : (pairsR y ee (runsL f y)).take j = pairsR y ee (runsL f y) := List.take_of_length_le (by omega)
                have hcur2 : cur = done ++ pairsR y ee (runsL f y) := by rw [hcur.out.2.2, hall]
                obtain ⟨n', hn', hcan'⟩ := HSTEP.out
                have hfin : cur ++ canonF f n' ee = canonL f := by rw [hcur2, List.append_assoc, ← hcan']; exact HC.out
                have HFIN := Lib.hid hfin
                have hlen : (cur.length : Int) ≤ 41 * (ee + 40) := by
                  rw [hcur2, List.length_append]; omega
                clear hfin hall hcur2 hcan' hij hjl
                go_wp2_with fail
                go_roundw
                case rel => exact ⟨ee, cur, n', h', cc, by omega, by omega, rfl, rfl, OC.out, hWi, hn', HFIN.out, hlen⟩
                case measure => simp [intOf]; omega
        · have hend : bandE f y 80 (y + 1) = ee := by rw [← HBE.out]; exact bandE_stop f y m ee (fun h => hx h.1)
          go_wp2_with fail
          rename World => w3
          have E3 := hE
          have B3 : Below w.heap.size w w3 := BW1.trans (E3.mono BW1.size)
          have O3 := Lib.hid (own_keep HO.out (bw1.trans (E3.mono bw1.size)))
          have HI3 := Lib.hid (HI.out.below E3)
          have hstep := canonF_step f n y hy hn
          rw [hend] at hstep
          have HSTEP := Lib.hid hstep
          clear hstep hend HI HIe HO
          have hpl := pairsR_len y ee (runsL f y)
          have hpl2 : (pairsR y ee (runsL f y)).length ≤ 40 := by omega
          go_loopw [3, 7] (fun v s wi => ∃ (j i h' cc : Nat) (cur : List R4), s = .int .i64 (i : Int) ∧ Hid (i = 2 * j ∧ j ≤ (runsL f y).length / 2 ∧ cur = done ++ (pairsR y ee (runsL f y)).take j) ∧ v = .slice (some ⟨h', 0, none⟩) cur.length cc ∧ Hid (wi.ownsRow w.heap.size 65 4 (.slice (some ⟨h', 0, none⟩) cur.length cc) cur.length (recCells cur)) ∧ Below w.heap.size w wi ∧ Hid (IntsIs B1 wi h1 (runsL f y))) (fun _ s _ => (runsL f y).length + 2 - (intOf s).toNat)
          case atStart => exact ⟨0, 0, h, c', done, rfl, Lib.hid ⟨rfl, Nat.zero_le _, by rw [List.take_zero, List.append_nil]⟩, rfl, O3, B3, HI3⟩
          case round =>
            obtain ⟨j, i, h', cc, cur, rfl, hcur, rfl, OC, hWi, HIi⟩ := hrel
            have hcl : cur.length ≤ 4000 := by
              have h1 := hcur.out.2.2
              rw [h1, List.length_append, List.length_take]; omega
            have hij := hcur.out.1
            have hjl := hcur.out.2.1
            by_cases hlt : i + 1 < (runsL f y).length
            · have q1 : (i : Int) + 1 < ((runsL f y).length : Int) := by omega
              have q0 : (0 : Int) ≤ (i : Int) := by omega
              have q2 : (i : Int) < ((runsL f y).length : Int) := by omega
              have a1 := HIi.out.at (k := i) (by omega)
              have a2 := HIi.out.at (k := i + 1) (by omega)
              have hg := pairsR_get y ee (runsL f y) j (by omega)
              rw [← hij] at hg
              have HG := Lib.hid hg
              clear hg
              generalize (runsL f y).getD i 0 = ra at a1 HG
              generalize (runsL f y).getD (i + 1) 0 = rb at a2 HG
              have hne : h1 ≠ h' := rows_ne OC.out HIi.out
              have ag : some h1 ≠ (Value.slice (some ⟨h', 0, none⟩) cur.length cc).ownBlock := by
                intro e
                exact hne (Option.some.inj e)
              have lt1 := HIi.out.lt
              have hbs := hWi.size
              have HIJ := Lib.hid hij
              have HJL := Lib.hid hjl
              obtain ⟨i2, hi2⟩ : ∃ i2, i2 = i + 1 := ⟨_, rfl⟩
              rw [← hi2] at a2
              have wr2 : IntKind.i64.wrap ((i : Int) + 1) = (i2 : Int) := by rw [IntKind.wrap_i64]; omega
              have q3 : (0 : Int) ≤ (i2 : Int) := by omega
              have q4 : (i2 : Int) < ((runsL f y).length : Int) := by omega
              have HI2X := Lib.hid hi2
              clear hi2
              clear hne hij hjl hpl hpl2
              go_wp2_with fail
              go_region_held3 (fun w' => w'.cell? ⟨h1, i, none⟩ = some (.int .i64 ra) ∧ w'.cell? ⟨h1, i2, none⟩ = some (.int .i64 rb))
                (first
                  | ((first | ((try dsimp only); go_split_ands; (repeat' (with_reducible refine And.intro ?_ ?_)) <;> first | ((repeat (with_reducible refine keepS ?_ (by simp; try omega) _)); (first | (with_reducible assumption) | (with_reducible exact keepC (by assumption) (by assumption)) | (with_reducible exact keepA (by assumption) _) | (with_reducible exact keepR (by assumption) (by omega) _))) | ((try simp only [World.size_alloc, World.size_setCell, World.size_drew]); omega) | (refine Mats.below hM ?_ hM.size; (repeat (first | (with_reducible exact Below.refl _ _) | (with_reducible refine Ext.drewN ?_ _) | (with_reducible refine Below.drew ?_) | (with_reducible refine Ext.alloc ?_ _) | (with_reducible refine Ext.setCell ?_ (by simp; try omega) _) | (with_reducible refine Ext.trans ?_ (by assumption)) | (with_reducible assumption) | exact Below.refl _ _)); done) | ((repeat (first | (with_reducible exact Below.refl _ _) | (with_reducible refine Ext.drewN ?_ _) | (with_reducible refine Below.drew ?_) | (with_reducible refine Ext.alloc ?_ _) | (with_reducible refine Ext.setCell ?_ (by simp; try omega) _) | (with_reducible refine Ext.trans ?_ (by assumption)) | (with_reducible assumption) | exact Below.refl _ _)); done) | (go_keep; done))); done)
                  | (go_split_ands
                     refine ⟨?_, ?_⟩
                     · (rw [hgrow.cell_far _ (by simp; omega) ag]; assumption)
                     · (rw [hgrow.cell_far _ (by simp; omega) ag]; assumption)))
                ((refine step_append_lies _ (by rfl) _ _ _ (by rfl) w.heap.size 65 i0 _ 4 32 Tryz.underlying26 hi hz0 hz1 hz2 rfl (by omega) (.slice (some ⟨h', 0, none⟩) cur.length cc) cur.length (recCells cur) (by rfl) ((OC.out.alloc _).drew) ⟨wr.heap.size, 0, none⟩ 1 1 [.int .i64 ra, .int .i64 y, .int .i64 rb, .int .i64 ee] (by rfl) (by rfl) (World.news_of_block (cs := #[.int .i64 ra, .int .i64 y, .int .i64 rb, .int .i64 ee]) (t := 65) (fr := (0, 0)) (heap_alloc_new wr _)) (by simp [Value.oneCell']) (by omega) (by unfold maxLen; omega) (by omega) (by simp; omega) (wr.heap.size + 1) (by simp) ?_; intro gg cap w4 hown1 hgrow hat hlt4))
              have B4 : Below w.heap.size w w4 := ((hWi.alloc hWi.size _).drew).grown hgrow (by have := hWi.size; simp; omega) (fun k hk => (OC.out.lt k hk).1)
              have I0 : IntsIs B1 ((wr.alloc (.cells #[.int .i64 ra, .int .i64 y, .int .i64 rb, .int .i64 ee] 65)).drew) h1 (runsL f y) := HIi.out.below (((Below.refl _ _).alloc (Nat.le_refl _) _).drew)
              have I4 := Lib.hid (I0.grown hgrow ag)
              clear I0
              have O4 : w4.ownsRow w.heap.size 65 4 (.slice (some ⟨gg, 0, none⟩) (cur ++ [(R4.mk ra y rb ee)]).length cap) (cur ++ [(R4.mk ra y rb ee)]).length (recCells (cur ++ [(R4.mk ra y rb ee)])) := by
                rw [List.length_append, recCells_snoc]; exact hown1
              have O5 := Lib.hid O4
              clear hown1 O4 hgrow hat
              go_wp2_with fail
              go_roundw
              case rel =>
                refine ⟨j + 1, i + 2, gg, cap, cur ++ [(R4.mk ra y rb ee)], by go_num, Lib.hid ⟨?_, ?_, ?_⟩, by rw [List.length_append]; rfl, O5, B4, I4⟩
                · have := HIJ.out; omega
                · have := HIJ.out; have := HI2X.out; omega
                · rw [hcur.out.2.2, List.append_assoc, take_succ_get HG.out]
              case measure => simp [intOf]; omega
            · have q1 : ¬ ((i : Int) + 1 < ((runsL f y).length : Int)) := by omega
              have q0 : (0 : Int) ≤ (i : Int) := by omega
              have qb : (i : Int) ≤ 200 := by omega
              have hall : (pairsR y ee (runsL f y)).take j = pairsR y ee (runsL f y) := List.take_of_length_le (by omega)
              have hcur2 : cur = done ++ pairsR y ee (runsL f y) := by rw [hcur.out.2.2, hall]
              obtain ⟨n', hn', hcan'⟩ := HSTEP.out
              have hfin : cur ++ canonF f n' ee = canonL f := by rw [hcur2, List.append_assoc, ← hcan']; exact HC.out
              have HFIN := Lib.hid hfin
              have hlen : (cur.length : Int) ≤ 41 * (ee + 40) := by
                rw [hcur2, List.length_append]; omega
              clear hfin hall hcur2 hcan' hij hjl
              go_wp2_with fail
              go_roundw
              case rel => exact ⟨ee, cur, n', h', cc, by omega, by omega, rfl, rfl, OC.out, hWi, hn', HFIN.out, hlen⟩
              case measure => simp [intOf]; omega
    · have hyy : y = 40 := by omega
      have hfin : done = canonL f := by rw [← HC.out, canonF_end f n y hy, List.append_nil]
      have HF := Lib.hid hfin
      have HO := Lib.hid hown
      clear hown hfin
      go_wp2_with fail
      go_ret
      exact ⟨⟨h, c', by rw [← HF.out]; rfl, by rw [← HF.out]; exact rec_own HO.out⟩, hb⟩
end Go.Proofs.YtfbalpkjcfdakaaGreatDoor

namespace Go.Proofs.YtfbalpkjcfdakaaGreatDoor
open Go.RowKit
set_option linter.unusedVariables false
set_option linter.unusedSimpArgs false
attribute [local go_sem ↓] Go.wp_at_zero Go.wp_at_succ

theorem R4.ext' {r s : R4} (h1 : r.a = s.a) (h2 : r.b = s.b) (h3 : r.c = s.c) (h4 : r.d = s.d) : r = s := by
  cases r; cases s; simp_all
theorem ext_R4 {l l' : List R4} (h : l.length = l'.length) (hg : ∀ j, j < l.length → l.getD j default = l'.getD j default) : l = l' := by
  refine List.ext_getElem h fun i h1 h2 => ?_
  have := hg i h1
  rw [List.getD, List.getD, List.getElem?_eq_getElem h1, List.getElem?_eq_getElem h2] at this
  exact this
theorem getD_get {l : List R4} {j : Nat} (h : j < l.length) : l[j]? = some (l.getD j default) := by
  rw [List.getD, List.getElem?_eq_getElem h]; rfl
theorem listR_getD (P Q R S : Nat → Int) (n i : Nat) (h : i < n) : (listR P Q R S n).getD i default = R4.mk (P i) (Q i) (R i) (S i) := by
  rw [List.getD, listR_get P Q R S n i h]; rfl

set_option maxHeartbeats 8000000 in
set_option maxRecDepth 100000 in
theorem l03Same_any (B g c : Nat) (l : List R4) (m : Option Addr) (len cap : Nat) (P Q R S : Nat → Int) (w : World) (hlen : len ≤ 1048576) (hl : l.length ≤ 1048576) (hA : RecIs B w g l) (hR : RectsIs w.heap.size w m len P Q R S) :
    Calls Tryz.prog 94 #[.slice (some ⟨g, 0, none⟩) l.length c, .slice m len cap] w fun e w' => e = .returned (.bool (decide (l = listR P Q R S len))) ∧ Below w.heap.size w w' := by
  have HA := Lib.hid hA
  have HR := Lib.hid hR
  clear hA hR
  obtain ⟨n, hn⟩ : ∃ n, n = l.length := ⟨_, rfl⟩
  have HN := Lib.hid hn
  rw [← hn]
  rw [← hn] at hl
  clear hn
  by_cases hne : n = len
  · subst hne
    have e0 : ((n : Int) != (n : Int)) = false := by simp
    go_enter Tryz.func94, Tryz.ntmps94
    go_wp2_with fail
    go_loopw [5] (fun s wr => ∃ k : Nat, k ≤ n ∧ s = .int .i64 k ∧ Below w.heap.size w wr ∧ ∀ j, j < k → l.getD j default = R4.mk (P j) (Q j) (R j) (S j)) (fun s _ => n - (intOf s).toNat)
    case atStart => exact ⟨0, by omega, rfl, Below.refl _ _, fun j hj => by omega⟩
    case round =>
      obtain ⟨k, hk, rfl, hW, heq⟩ := hrel
      have HQ := Lib.hid heq
      clear heq
      by_cases hlt : k < n
      · obtain ⟨b1, o1, rfl, hb1, c0, c1, c2, c3⟩ := HR.out k hlt
        obtain ⟨a0, a1, a2, a3⟩ := HA.out.2.2 k _ (getD_get (by have := HN.out; omega))
        have q1 : (k : Int) < (n : Int) := by omega
        have q0 : (0 : Int) ≤ (k : Int) := by omega
        obtain ⟨r, hr⟩ : ∃ r, r = l.getD k default := ⟨_, rfl⟩
        rw [← hr] at a0 a1 a2 a3
        have HRR := Lib.hid hr
        clear hr
        have x0 := keepC hW a0
        have x1 := keepC hW a1
        have x2 := keepC hW a2
        have x3 := keepC hW a3
        have y0 := keepC hW c0
        have y1 := keepC hW c1
        have y2 := keepC hW c2
        have y3 := keepC hW c3
        clear a0 a1 a2 a3 c0 c1 c2 c3
        have hcmp := fun W : World => eqRc r.a r.b r.c r.d (P k) (Q k) (R k) (S k) W
        cases hv : eqRB r.a r.b r.c r.d (P k) (Q k) (R k) (S k) with
        | true =>
          rw [hv] at hcmp
          have HV := Lib.hid hv
          clear hv
          go_wp2_with fail
          go_region_held3 (fun w' => Below wr.heap.size wr w' ∧ w'.cell? ⟨g, k * 4, none⟩ = some (.int .i64 r.a) ∧ w'.cell? ⟨g, k * 4 + 1, none⟩ = some (.int .i64 r.b) ∧ w'.cell? ⟨g, k * 4 + 2, none⟩ = some (.int .i64 r.c) ∧ w'.cell? ⟨g, k * 4 + 3, none⟩ = some (.int .i64 r.d) ∧ w'.cell? ⟨b1, o1 + k * 4, none⟩ = some (.int .i64 (P k)) ∧ w'.cell? ⟨b1, o1 + k * 4 + 1, none⟩ = some (.int .i64 (Q k)) ∧ w'.cell? ⟨b1, o1 + k * 4 + 2, none⟩ = some (.int .i64 (R k)) ∧ w'.cell? ⟨b1, o1 + k * 4 + 3, none⟩ = some (.int .i64 (S k)))
            (first | ((try dsimp only); go_split_ands; (repeat' (with_reducible refine And.intro ?_ ?_)) <;> first | ((repeat (with_reducible refine keepS ?_ (by simp; try omega) _)); (first | (with_reducible assumption) | (with_reducible exact keepC (by assumption) (by assumption)) | (with_reducible exact keepA (by assumption) _) | (with_reducible exact keepR (by assumption) (by omega) _))) | ((try simp only [World.size_alloc, World.size_setCell, World.size_drew]); omega) | (refine Mats.below hM ?_ hM.size; (repeat (first | (with_reducible exact Below.refl _ _) | (with_reducible refine Ext.drewN ?_ _) | (with_reducible refine Below.drew ?_) | (with_reducible refine Ext.alloc ?_ _) | (with_reducible refine Ext.setCell ?_ (by simp; try omega) _) | (with_reducible refine Ext.trans ?_ (by assumption)) | (with_reducible assumption) | exact Below.refl _ _)); done) | ((repeat (first | (with_reducible exact Below.refl _ _) | (with_reducible refine Ext.drewN ?_ _) | (with_reducible refine Below.drew ?_) | (with_reducible refine Ext.alloc ?_ _) | (with_reducible refine Ext.setCell ?_ (by simp; try omega) _) | (with_reducible refine Ext.trans ?_ (by assumption)) | (with_reducible assumption) | exact Below.refl _ _)); done) | (go_keep; done)))
            (fail)
          go_wp2_with fail
          go_roundw
          case rel => exact ⟨k + 1, by omega, by go_num, by (repeat (first | (with_reducible exact Below.refl _ _) | (with_reducible refine Ext.drewN ?_ _) | (with_reducible refine Below.drew ?_) | (with_reducible refine Ext.alloc ?_ _) | (with_reducible refine Ext.setCell ?_ (by simp; try omega) _) | (with_reducible refine Ext.trans ?_ (by assumption)) | (with_reducible assumption) | exact Below.refl _ _)), fun j hj => by
            by_cases e : j = k
            · subst e
              rw [← HRR.out]
              have hv := HV.out
              unfold eqRB at hv
              simp only [Bool.and_eq_true, beq_iff_eq] at hv
              exact R4.ext' hv.1 hv.2.1 hv.2.2.1 hv.2.2.2
            · exact HQ.out j (by omega)⟩
          case measure => simp [intOf]; omega
        | false =>
          rw [hv] at hcmp
          have hres : decide (l = listR P Q R S n) = false := decide_eq_false (fun e => by
            have h1 := HRR.out
            rw [e, listR_getD P Q R S n k hlt] at h1
            rw [h1] at hv
            simp [eqRB] at hv)
          clear hv
          go_wp2_with fail
          go_region_held3 (fun w' => Below wr.heap.size wr w' ∧ w'.cell? ⟨g, k * 4, none⟩ = some (.int .i64 r.a) ∧ w'.cell? ⟨g, k * 4 + 1, none⟩ = some (.int .i64 r.b) ∧ w'.cell? ⟨g, k * 4 + 2, none⟩ = some (.int .i64 r.c) ∧ w'.cell? ⟨g, k * 4 + 3, none⟩ = some (.int .i64 r.d) ∧ w'.cell? ⟨b1, o1 + k * 4, none⟩ = some (.int .i64 (P k)) ∧ w'.cell? ⟨b1, o1 + k * 4 + 1, none⟩ = some (.int .i64 (Q k)) ∧ w'.cell? ⟨b1, o1 + k * 4 + 2, none⟩ = some (.int .i64 (R k)) ∧ w'.cell? ⟨b1, o1 + k * 4 + 3, none⟩ = some (.int .i64 (S k)))
            (first | ((try dsimp only); go_split_ands; (repeat' (with_reducible refine And.intro ?_ ?_)) <;> first | ((repeat (with_reducible refine keepS ?_ (by simp; try omega) _)); (first | (with_reducible assumption) | (with_reducible exact keepC (by assumption) (by assumption)) | (with_reducible exact keepA (by assumption) _) | (with_reducible exact keepR (by assumption) (by omega) _))) | ((try simp only [World.size_alloc, World.size_setCell, World.size_drew]); omega) | (refine Mats.below hM ?_ hM.size; (repeat (first | (with_reducible exact Below.refl _ _) | (with_reducible refine Ext.drewN ?_ _) | (with_reducible refine Below.drew ?_) | (with_reducible refine Ext.alloc ?_ _) | (with_reducible refine Ext.setCell ?_ (by simp; try omega) _) | (with_reducible refine Ext.trans ?_ (by assumption)) | (with_reducible assumption) | exact Below.refl _ _)); done) | ((repeat (first | (with_reducible exact Below.refl _ _) | (with_reducible refine Ext.drewN ?_ _) | (with_reducible refine Below.drew ?_) | (with_reducible refine Ext.alloc ?_ _) | (with_reducible refine Ext.setCell ?_ (by simp; try omega) _) | (with_reducible refine Ext.trans ?_ (by assumption)) | (with_reducible assumption) | exact Below.refl _ _)); done) | (go_keep; done)))
            (fail)
          go_wp2_with fail
          go_ret
          exact ⟨ret_bool hres.symm, by (repeat (first | (with_reducible exact Below.refl _ _) | (with_reducible refine Ext.drewN ?_ _) | (with_reducible refine Below.drew ?_) | (with_reducible refine Ext.alloc ?_ _) | (with_reducible refine Ext.setCell ?_ (by simp; try omega) _) | (with_reducible refine Ext.trans ?_ (by assumption)) | (with_reducible assumption) | exact Below.refl _ _))⟩
      · have q1 : ¬ (k : Int) < (n : Int) := by omega
        obtain rfl : k = n := by omega
        have hres : decide (l = listR P Q R S k) = true := decide_eq_true (ext_R4 (by rw [listR_len, ← HN.out]) (fun j hj => by
          have := HN.out
          rw [HQ.out j (by omega), listR_getD P Q R S k j (by omega)]))
        have HRES := Lib.hid hres
        clear hres
        go_wp2_with fail
        go_ret
        exact ⟨ret_bool HRES.out.symm, hW⟩
  · have e0 : ((n : Int) != (len : Int)) = true := by simp; omega
    have hres : decide (l = listR P Q R S len) = false := decide_eq_false (fun e => hne (by rw [HN.out, e, listR_len]))
    have HRES := Lib.hid hres
    clear hres
    go_enter Tryz.func94, Tryz.ntmps94
    go_wp2_with fail
    go_ret
    exact ⟨ret_bool HRES.out.symm, Below.refl _ _⟩

/-- The sum of the first n areas. -/
def sumA (P Q R S : Nat → Int) : Nat → Int
  | 0 => 0
  | n + 1 => sumA P Q R S n + areaV (P n) (Q n) (R n) (S n)
theorem areaV_bd {a b c d : Int} (h : rvB a b c d = true) : 0 ≤ areaV a b c d ∧ areaV a b c d ≤ 6400 := by
  obtain ⟨h1, h2, h3, h4, h5, h6⟩ := rvB_t h
  unfold areaV
  rw [if_pos h]
  have e1 : 0 ≤ c - a := by omega
  have e2 : c - a ≤ 80 := by omega
  have e3 : 0 ≤ d - b := by omega
  have e4 : d - b ≤ 80 := by omega
  refine ⟨Int.mul_nonneg e1 e3, ?_⟩
  calc (c - a) * (d - b) ≤ 80 * (d - b) := Int.mul_le_mul_of_nonneg_right e2 e3
    _ ≤ 80 * 80 := Int.mul_le_mul_of_nonneg_left e4 (by decide)
theorem sumA_bd (P Q R S : Nat → Int) : ∀ n, (∀ i, i < n → rvB (P i) (Q i) (R i) (S i) = true) → 0 ≤ sumA P Q R S n ∧ sumA P Q R S n ≤ 6400 * n
  | 0, _ => by simp [sumA]
  | n + 1, h => by
    have h1 := sumA_bd P Q R S n fun i hi => h i (by omega)
    have h2 := areaV_bd (h n (by omega))
    rw [sumA]; omega
/-- Is a list a region? -/
def okR (P Q R S : Nat → Int) (n : Nat) : Bool := okV P Q R S n && decide (sumA P Q R S n ≤ 6400) && decide (canonL (covF P Q R S n) = listR P Q R S n)

end Go.Proofs.YtfbalpkjcfdakaaGreatDoor

namespace Go.Proofs.YtfbalpkjcfdakaaGreatDoor
open Go.RowKit
set_option linter.unusedVariables false
set_option linter.unusedSimpArgs false
attribute [local go_sem ↓] Go.wp_at_zero Go.wp_at_succ

theorem canonF_len (f : Nat → Bool) : ∀ (n : Nat) (y : Int), (canonF f n y).length ≤ 41 * n
  | 0, y => by simp [canonF]
  | n + 1, y => by
    have h1 := canonF_len f n (bandE f y 80 (y + 1))
    have h2 := pairsR_len y (bandE f y 80 (y + 1)) (runsL f y)
    have h3 : (runsL f y).length ≤ 81 := runsTo_len f y 81
    rw [canonF]
    split
    · rw [List.length_append]; omega
    · simp
theorem canonL_len (f : Nat → Bool) : (canonL f).length ≤ 3280 := canonF_len f 80 (-40)

set_option maxHeartbeats 8000000 in
set_option maxRecDepth 100000 in
theorem l03Ok_any (m : Option Addr) (len cap : Nat) (P Q R S : Nat → Int) (w : World) (hlen : len ≤ 1048576) (hR : RectsIs w.heap.size w m len P Q R S) :
    Calls Tryz.prog 43 #[.slice m len cap] w fun e w' => e = .returned (.bool (okR P Q R S len)) ∧ Below w.heap.size w w' := by
  have HR := Lib.hid hR
  clear hR
  cases hv : okV P Q R S len with
  | false =>
    have hres : okR P Q R S len = false := by unfold okR; rw [hv]; rfl
    have HRES := Lib.hid hres
    clear hres
    go_enter Tryz.func43, Tryz.ntmps43
    go_wp2_with (go_at_call 92; refine (l03Valid_any m len cap P Q R S _ hlen HR.out).mono ?_; rintro e w1 ⟨rfl, bw1⟩; rw [hv])
    go_ret
    exact ⟨ret_bool HRES.out.symm, bw1⟩
  | true =>
    have hall : ∀ i, i < len → rvB (P i) (Q i) (R i) (S i) = true := by
      unfold okV at hv
      rw [Bool.and_eq_true] at hv
      exact fun i hi => allV_at hv.2 hi
    have hl3 : len ≤ 3200 := by
      unfold okV at hv
      rw [Bool.and_eq_true] at hv
      exact of_decide_eq_true hv.1
    have hres : okR P Q R S len = (decide (sumA P Q R S len ≤ 6400) && decide (canonL (covF P Q R S len) = listR P Q R S len)) := by unfold okR; rw [hv]; rfl
    have HRES := Lib.hid hres
    have HALL := Lib.hid hall
    clear hres hall
    go_enter Tryz.func43, Tryz.ntmps43
    go_wp2_with (go_at_call 92; refine (l03Valid_any m len cap P Q R S _ hlen HR.out).mono ?_; rintro e w1 ⟨rfl, bw1⟩; rw [hv])
    go_loopw [3, 4] (fun s t wr => ∃ i : Nat, i ≤ len ∧ t = .int .i64 i ∧ s = .int .i64 (sumA P Q R S i) ∧ Below w.heap.size w wr) (fun _ t _ => len - (intOf t).toNat)
    case atStart => exact ⟨0, by omega, rfl, rfl, bw1⟩
    case round =>
      obtain ⟨i, hi, rfl, rfl, hW⟩ := hrel
      by_cases hlt : i < len
      · obtain ⟨b1, o1, rfl, hb1, c0, c1, c2, c3⟩ := HR.out i hlt
        have q1 : (i : Int) < (len : Int) := by omega
        have q0 : (0 : Int) ≤ (i : Int) := by omega
        have d0 := keepC hW c0
        have d1 := keepC hW c1
        have d2 := keepC hW c2
        have d3 := keepC hW c3
        clear c0 c1 c2 c3
        have hs1 := sumA_bd P Q R S i (fun j hj => HALL.out j (by omega))
        have hs2 := areaV_bd (HALL.out i hlt)
        have hs3 : sumA P Q R S (i + 1) = sumA P Q R S i + areaV (P i) (Q i) (R i) (S i) := rfl
        have HS3 := Lib.hid hs3
        clear hs3
        generalize hz : sumA P Q R S i = z at hs1 HS3 ⊢
        generalize hu : areaV (P i) (Q i) (R i) (S i) = u at hs2 HS3
        obtain ⟨z0, z1⟩ := hs1
        obtain ⟨u0, u1⟩ := hs2
        have HU := Lib.hid hu
        clear hz hu
        go_wp2_with (go_at_call 93; refine (specRectArea_any _ _ _ _ _).mono ?_; rintro e w2 ⟨rfl, bw2⟩; rw [HU.out])
        go_roundw
        case rel => exact ⟨i + 1, by omega, by go_num, by rw [HS3.out], by (repeat (first | (with_reducible exact Below.refl _ _) | (with_reducible refine Ext.drewN ?_ _) | (with_reducible refine Below.drew ?_) | (with_reducible refine Ext.alloc ?_ _) | (with_reducible refine Ext.setCell ?_ (by simp; try omega) _) | (with_reducible refine Ext.trans ?_ (by assumption)) | (with_reducible assumption) | exact Below.refl _ _))⟩
        case measure => simp [intOf]; omega
      · have q1 : ¬ (i : Int) < (len : Int) := by omega
        obtain rfl : i = len := by omega
        by_cases ha : sumA P Q R S i ≤ 6400
        · have hcl := canonL_len (covF P Q R S i)
          have hres2 : okR P Q R S i = decide (canonL (covF P Q R S i) = listR P Q R S i) := by rw [HRES.out, decide_eq_true ha]; rfl
          have HR2 := Lib.hid hres2
          clear hres2
          generalize sumA P Q R S i = z at ha ⊢
          go_wp2_with (first | (go_at_call 46; refine (l03Bits_any m i cap P Q R S _ hlen (HR.out.ext hW) HALL.out).mono ?_; rintro e w2 ⟨⟨g, rfl, hg0, hg⟩, bw2⟩; have HG := Lib.hid hg; clear hg) | (go_at_call 68; refine (l03Canon_any g 6400 (covF P Q R S i) _ HG.out).mono ?_; rintro e w3 ⟨⟨h, c, rfl, hI⟩, bw3⟩; have HI := Lib.hid hI; clear hI; have B3 : Below w.heap.size w w3 := (hW.trans (bw2.mono hW.size)).trans (bw3.mono (Nat.le_trans hW.size bw2.size))) | (go_at_call 94; refine (l03Same_any _ h c (canonL (covF P Q R S i)) m i cap P Q R S _ hlen (by omega) HI.out (HR.out.ext B3)).mono ?_; rintro e w4 ⟨rfl, bw4⟩))
          go_ret
          exact ⟨ret_bool HR2.out.symm, B3.trans (bw4.mono B3.size)⟩
        · have hres2 : okR P Q R S i = false := by rw [HRES.out, decide_eq_false ha]; rfl
          have HR2 := Lib.hid hres2
          clear hres2
          generalize sumA P Q R S i = z at ha ⊢
          go_wp2_with fail
          go_ret
          exact ⟨ret_bool HR2.out.symm, hW⟩
end Go.Proofs.YtfbalpkjcfdakaaGreatDoor

namespace Go.Proofs.YtfbalpkjcfdakaaGreatDoor
open Go.RowKit
set_option linter.unusedVariables false
set_option linter.unusedSimpArgs false
attribute [local go_sem ↓] Go.wp_at_zero Go.wp_at_succ

def sh (f : Nat → Int) (k : Nat) : Int := f (k + 1)

end Go.Proofs.YtfbalpkjcfdakaaGreatDoor

namespace Go.Proofs.YtfbalpkjcfdakaaGreatDoor
open Go.RowKit
set_option linter.unusedVariables false
set_option linter.unusedSimpArgs false
attribute [local go_sem ↓] Go.wp_at_zero Go.wp_at_succ

theorem okV_all {P Q R S : Nat → Int} {n : Nat} (h : okV P Q R S n = true) : ∀ i, i < n → rvB (P i) (Q i) (R i) (S i) = true := by
  unfold okV at h
  rw [Bool.and_eq_true] at h
  exact fun i hi => allV_at h.2 hi
theorem okR_all {P Q R S : Nat → Int} {n : Nat} (h : okR P Q R S n = true) : ∀ i, i < n → rvB (P i) (Q i) (R i) (S i) = true := by
  unfold okR at h
  rw [Bool.and_eq_true, Bool.and_eq_true] at h
  exact okV_all h.1.1

/-- How many of the first n flags are set. -/
def cntF (f : Nat → Bool) : Nat → Int
  | 0 => 0
  | n + 1 => cntF f n + if f n = true then 1 else 0
theorem cntF_bd (f : Nat → Bool) : ∀ n, 0 ≤ cntF f n ∧ cntF f n ≤ n
  | 0 => by simp [cntF]
  | n + 1 => by
    have := cntF_bd f n
    rw [cntF]; split <;> omega

set_option maxHeartbeats 8000000 in
theorem l03Count_any (g c : Nat) (f : Nat → Bool) (w : World) (hB : BitsIs w g f) : Calls Tryz.prog 64 #[.slice (some ⟨g, 0, none⟩) 6400 c] w fun e w' => e = .returned (.int .i64 (cntF f 6400)) ∧ Below w.heap.size w w' := by
  have HB := Lib.hid hB
  clear hB
  go_enter Tryz.func64, Tryz.ntmps64
  go_wp2_with fail
  go_loopw [3, 4] (fun s t wr => ∃ i : Nat, i ≤ 6400 ∧ t = .int .i64 i ∧ s = .int .i64 (cntF f i) ∧ wr = w) (fun _ t _ => 6400 - (intOf t).toNat)
  case atStart => exact ⟨0, by omega, rfl, rfl, rfl⟩
  case round =>
    obtain ⟨i, hi, rfl, rfl, rfl⟩ := hrel
    by_cases hlt : i < 6400
    · have q1 : (i : Int) < 6400 := by omega
      have q0 : (0 : Int) ≤ (i : Int) := by omega
      have hc := (HB.out i hlt).1
      obtain ⟨b0, b1⟩ := cntF_bd f i
      cases hf : f i with
      | true =>
        have hn : cntF f (i + 1) = cntF f i + 1 := by rw [cntF, if_pos hf]
        have HN := Lib.hid hn
        rw [hf] at hc
        clear hn hf
        generalize cntF f i = z at b0 b1 HN ⊢
        go_wp2_with fail
        go_roundw
        case rel => exact ⟨i + 1, by omega, by go_num, by rw [HN.out], by trivial⟩
        case measure => simp [intOf]; omega
      | false =>
        have hn : cntF f (i + 1) = cntF f i := by rw [cntF, if_neg (by simp [hf])]; omega
        have HN := Lib.hid hn
        rw [hf] at hc
        clear hn hf
        generalize cntF f i = z at b0 b1 HN ⊢
        go_wp2_with fail
        go_roundw
        case rel => exact ⟨i + 1, by omega, by go_num, by rw [HN.out], by trivial⟩
        case measure => simp [intOf]; omega
    · have q1 : ¬ (i : Int) < 6400 := by omega
      obtain rfl : i = 6400 := by omega
      obtain ⟨z, hz⟩ : ∃ z, z = cntF f 6400 := ⟨_, rfl⟩
      rw [← hz]
      have HZ := Lib.hid hz
      clear hz
      go_wp2_with fail
      go_ret
      exact ⟨ret_int HZ.out, Below.refl _ _⟩

section
variable (m : Option Addr) (len cap : Nat) (P Q R S : Nat → Int) (w : World) (hlen : len ≤ 1048576) (hR : RectsIs w.heap.size w m len P Q R S)
include hlen hR

theorem specIsRegion_any : Calls Tryz.prog 19 #[.slice m len cap] w fun e w' => e = .returned (.bool (okR P Q R S len)) ∧ Below w.heap.size w w' := by
  have HR := Lib.hid hR
  go_enter Tryz.func19, Tryz.ntmps19
  go_wp2_with (go_at_call 43; refine (l03Ok_any m len cap P Q R S _ hlen HR.out).mono ?_; rintro e w1 ⟨rfl, bw1⟩)
  go_ret
  exact ⟨rfl, bw1⟩

/-- A call that hands back a list of rectangles and true. -/
def RecRes2 (B : Nat) (l : List R4) (e : Ending) (w : World) : Prop := ∃ h c, e = .returned (.tuple #[.slice (some ⟨h, 0, none⟩) l.length c, .bool true]) ∧ RecIs B w h l

/-- The area of a region, or -1. -/
def areaR (P Q R S : Nat → Int) (n : Nat) : Int := if okR P Q R S n = true then cntF (covF P Q R S n) 6400 else -1
theorem specRegionArea_any : Calls Tryz.prog 25 #[.slice m len cap] w fun e w' => e = .returned (.int .i64 (areaR P Q R S len)) ∧ Below w.heap.size w w' := by
  have HR := Lib.hid hR
  clear hR
  cases hok : okR P Q R S len with
  | false =>
    have HRES := Lib.hid (show areaR P Q R S len = -1 by unfold areaR; rw [if_neg (by simp [hok])])
    go_enter Tryz.func25, Tryz.ntmps25
    go_wp2_with (go_at_call 43; refine (l03Ok_any m len cap P Q R S _ hlen HR.out).mono ?_; rintro e w1 ⟨rfl, bw1⟩; rw [hok])
    go_ret
    exact ⟨ret_int HRES.out.symm, bw1⟩
  | true =>
    have HRES := Lib.hid (show areaR P Q R S len = cntF (covF P Q R S len) 6400 by unfold areaR; rw [if_pos hok])
    have HALL := Lib.hid (okR_all hok)
    go_enter Tryz.func25, Tryz.ntmps25
    go_wp2_with (first | (go_at_call 43; refine (l03Ok_any m len cap P Q R S _ hlen HR.out).mono ?_; rintro e w1 ⟨rfl, bw1⟩; rw [hok]) | (go_at_call 46; refine (l03Bits_any m len cap P Q R S _ hlen (HR.out.ext bw1) HALL.out).mono ?_; rintro e w2 ⟨⟨g, rfl, hg0, hg⟩, bw2⟩; have HG := Lib.hid hg; clear hg) | (go_at_call 64; refine (l03Count_any g 6400 (covF P Q R S len) _ HG.out).mono ?_; rintro e w3 ⟨rfl, bw3⟩))
    go_ret
    exact ⟨ret_int HRES.out.symm, (bw1.trans (bw2.mono bw1.size)).trans (bw3.mono (Nat.le_trans bw1.size bw2.size))⟩

end
end Go.Proofs.YtfbalpkjcfdakaaGreatDoor

namespace Go.Proofs.YtfbalpkjcfdakaaGreatDoor
open Go.RowKit
set_option linter.unusedVariables false
set_option linter.unusedSimpArgs false
attribute [local go_sem ↓] Go.wp_at_zero Go.wp_at_succ

section
variable (m : Option Addr) (len cap : Nat) (P Q R S : Nat → Int) (w : World) (hlen : len ≤ 1048576) (hR : RectsIs w.heap.size w m len P Q R S)
include hlen hR

end

theorem BitsIs.put {w : World} {g j : Nat} {f : Nat → Bool} (h : BitsIs w g f) (hj : j < 6400) (v : Bool) : BitsIs (w.setCell ⟨g, j, none⟩ (.bool v)) g (fun i => if i = j then v else f i) := fun i hi => by
  refine ⟨?_, by simpa using (h i hi).2⟩
  by_cases e : i = j
  · subst e
    exact (World.cell?_setCell_same _ _ _ (h i hi).1).trans (by simp)
  · rw [World.cell?_setCell_other _ _ _ _ (by simp <;> omega)]
    rw [(h i hi).1]; simp [e]
theorem BitsIs.other {w : World} {g g' j : Nat} {f : Nat → Bool} (h : BitsIs w g f) (hne : g' ≠ g) (v : Value) : BitsIs (w.setCell ⟨g', j, none⟩ v) g f := fun i hi =>
  ⟨by rw [World.cell?_setCell_other _ _ _ _ (by simp <;> (intro e; exact absurd e hne))]; exact (h i hi).1, by simpa using (h i hi).2⟩

/-- Flags of f in rows b .. y-1 of the box; then in columns a .. x-1 of row y. -/
def fC (f : Nat → Bool) (a b c : Int) (y : Int) (i : Nat) : Bool := f i && (decide (a ≤ (i % 80 : Nat) - 40) && decide (((i % 80 : Nat) : Int) - 40 < c) && decide (b ≤ (i / 80 : Nat) - 40) && decide (((i / 80 : Nat) : Int) - 40 < y))
def fCI (f : Nat → Bool) (a b c : Int) (y x : Int) (i : Nat) : Bool := fC f a b c y i || (f i && (decide (((i / 80 : Nat) : Int) - 40 = y) && decide (a ≤ (i % 80 : Nat) - 40) && decide (((i % 80 : Nat) : Int) - 40 < x)))
theorem fC_start (f : Nat → Bool) (a b c : Int) (i : Nat) : false = fC f a b c b i := by
  unfold fC
  have h : (decide (b ≤ ((i / 80 : Nat) : Int) - 40) && decide (((i / 80 : Nat) : Int) - 40 < b)) = false := by rw [Bool.and_eq_false_iff, decide_eq_false_iff_not, decide_eq_false_iff_not]; omega
  rw [Bool.and_assoc (decide _ && decide _), h]; simp
theorem fCI_start (f : Nat → Bool) (a b c y : Int) (i : Nat) : fC f a b c y i = fCI f a b c y a i := by
  unfold fCI
  have h : (decide (a ≤ ((i % 80 : Nat) : Int) - 40) && decide (((i % 80 : Nat) : Int) - 40 < a)) = false := by rw [Bool.and_eq_false_iff, decide_eq_false_iff_not, decide_eq_false_iff_not]; omega
  rw [Bool.and_assoc (decide _), h]; simp
theorem fCI_end (f : Nat → Bool) (a b c y : Int) (h : b ≤ y) (i : Nat) : fCI f a b c y c i = fC f a b c (y + 1) i := by
  unfold fCI fC
  cases f i
  · simp
  · rw [Bool.eq_iff_iff]
    simp only [Bool.or_eq_true, Bool.and_eq_true, decide_eq_true_eq, Bool.true_and]; omega
theorem fCI_step (f : Nat → Bool) (a b c y x : Int) (h1 : -40 ≤ x) (h2 : x ≤ 39) (h3 : -40 ≤ y) (h4 : y ≤ 39) (hp : a ≤ x) (i : Nat) : (if i = cIx x y then f (cIx x y) else fCI f a b c y x i) = fCI f a b c y (x + 1) i := by
  have e := cIx_back h1 h2 h3 h4
  by_cases hi : i = cIx x y
  · rw [if_pos hi, hi]
    unfold fCI
    rw [e.1, e.2]
    have e1 : (decide (y = y) && decide (a ≤ x) && decide (x < x + 1)) = true := by simp; omega
    rw [e1]
    unfold fC
    cases f (cIx x y) <;> simp
  · rw [if_neg hi]
    unfold fCI
    have hne : ¬ (((i / 80 : Nat) : Int) - 40 = y ∧ ((i % 80 : Nat) : Int) - 40 = x) := by
      intro h
      refine hi ?_
      unfold cIx
      omega
    congr 2
    rw [Bool.eq_iff_iff]
    simp only [Bool.and_eq_true, decide_eq_true_eq]; omega
/-- The flags of f in the box. -/
def clipF (f : Nat → Bool) (a b c d : Int) : Nat → Bool := fC f a b c d

end Go.Proofs.YtfbalpkjcfdakaaGreatDoor
