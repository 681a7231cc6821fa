/- The model's sides and edges as lists. Condition: the flags are in memory. -/
import Derived.Test.YtmabdemdapnmkaaGreatDoorEgD
namespace Go.Proofs.YtmabdemdapnmkaaGreatDoor
open Go.RowKit
set_option linter.unusedVariables false
set_option linter.unusedSimpArgs false
attribute [local go_sem ↓] Go.wp_at_zero Go.wp_at_succ

theorem e1_newsV {w1 : World} {t : TypeId} (a b c d : Int) : ∀ j u, ([.int .i64 a, .int .i64 b, .int .i64 c, .int .i64 d] : List Value)[j]? = some u → (w1.alloc (.cells #[.int .i64 a, .int .i64 b, .int .i64 c, .int .i64 d] t)).cell? ((⟨w1.heap.size, 0, none⟩ : Addr).add j) = some u := by
  intro j u hj
  match j, hj with
  | 0, hj => simp at hj; subst hj; rw [addG]; simp [go_sem]
  | 1, hj => simp at hj; subst hj; rw [addG]; simp [go_sem]
  | 2, hj => simp at hj; subst hj; rw [addG]; simp [go_sem]
  | 3, hj => simp at hj; subst hj; rw [addG]; simp [go_sem]
  | (k + 4), hj => simp at hj
theorem ints_one4 (a b c d : Int) : ∀ u ∈ ([.int .i64 a, .int .i64 b, .int .i64 c, .int .i64 d] : List Value), u.oneCell' = true := fun u hu => by
  simp at hu
  rcases hu with rfl | rfl | rfl | rfl <;> rfl
theorem recCells_app (l l' : List R4) : recCells (l ++ l') = recCells l ++ recCells l' := by unfold recCells; rw [List.flatMap_append]

set_option maxRecDepth 100000 in
set_option maxHeartbeats 8000000 in
theorem l06Sides_any (g c : Nat) (f : Nat → Bool) (w : World) (hB : BitsIs w g f) :
    Calls Tryz.prog 55 #[.slice (some ⟨g, 0, none⟩) 6400 c] w fun r w' => RecRes w.heap.size (sidesU f 80) r w' ∧ Below w.heap.size w w' := by
  obtain ⟨i0, hin, hz0, hz1, hz2⟩ := info_parts infoEd
  have HB := Lib.hid hB
  clear hB
  go_enter Tryz.func55, Tryz.ntmps55
  go_wp2_with fail
  go_loopw [3, 4] (fun s3 s4 wr => ∃ (j n h c' : Nat), j ≤ 80 ∧ s4 = .int .i64 (-40 + (j : Int)) ∧ s3 = .slice (some ⟨h, 0, none⟩) n c' ∧ Hid (wr.ownsRow w.heap.size 32 4 (.slice (some ⟨h, 0, none⟩) n c') n (recCells (sidesU f j))) ∧ Hid (n = (sidesU f j).length) ∧ Below w.heap.size w wr) (fun _ s4 _ => (40 - intOf s4).toNat)
  case atStart => exact ⟨0, 0, _, _, by omega, by simp, rfl, Lib.hid (World.ownsRow_made (base := w.heap.size) (size := 4) (e := 32) w #[] 0 (Nat.le_refl _) (by unfold maxLen; decide) rfl), Lib.hid (by simp [sidesU]), by (repeat (first | (with_reducible exact Below.refl _ _) | (with_reducible refine Ext.drewN ?_ _) | (with_reducible refine Below.drew ?_) | (with_reducible refine Ext.alloc ?_ _) | (with_reducible refine Ext.setCell ?_ (by simp; try omega) _) | (with_reducible refine Ext.trans ?_ (by assumption)) | (with_reducible assumption) | exact Below.refl _ _))⟩
  case round =>
    obtain ⟨j, n, h, c', hj, rfl, rfl, HO, HN, hW⟩ := hrel
    by_cases hj8 : j < 80
    · have q1 : -40 + (j : Int) < 40 := by omega
      go_wp2_with fail
      go_loopw [3, 5] (fun s3 s5 wq => ∃ (k n h c' : Nat), k ≤ 80 ∧ s5 = .int .i64 (-40 + (k : Int)) ∧ s3 = .slice (some ⟨h, 0, none⟩) n c' ∧ Hid (wq.ownsRow w.heap.size 32 4 (.slice (some ⟨h, 0, none⟩) n c') n (recCells (sidesU f j ++ sidesR f (-40 + (j : Int)) k))) ∧ Hid (n = (sidesU f j ++ sidesR f (-40 + (j : Int)) k).length) ∧ Below w.heap.size w wq) (fun _ s5 _ => (40 - intOf s5).toNat)
      case atStart => exact ⟨0, n, h, c', by omega, by simp, rfl, Lib.hid (by simpa [sidesR] using HO.out), Lib.hid (by simpa [sidesR] using HN.out), hW⟩
      case round =>
        rename World => wq
        clear HO HN
        obtain ⟨k, n1, h1, c1, hk, rfl, rfl, OC, HN, hW1⟩ := hrel
        by_cases hk8 : k < 80
        · have q2 : -40 + (k : Int) < 40 := by omega
          have hnb : n1 ≤ 25600 := by
            have h1 := HN.out
            have h2 := sidesU_len f j
            have h3 := sidesR_len f (-40 + (j : Int)) k
            rw [List.length_append] at h1
            omega
          obtain ⟨x, hx⟩ : ∃ x : Int, x = -40 + (k : Int) := ⟨_, rfl⟩
          obtain ⟨y, hy⟩ : ∃ y : Int, y = -40 + (j : Int) := ⟨_, rfl⟩
          have hxb : -40 ≤ x ∧ x ≤ 39 := by omega
          have hyb : -40 ≤ y ∧ y ≤ 39 := by omega
          have HX := Lib.hid hx
          have HY := Lib.hid hy
          have hsr := sidesR_succ f (-40 + (j : Int)) k
          rw [← hx, ← hy] at hsr
          have HSR := Lib.hid hsr
          rw [← hy] at OC HN
          simp only [← hx, ← hy]
          clear hx hy hsr
          obtain ⟨x1, x2⟩ := hxb
          obtain ⟨y1, y2⟩ := hyb
          have HBq := Lib.hid (HB.out.below hW1)
          have e1 : IntKind.i64.wrap (x - 1) = x - 1 := by rw [IntKind.wrap_i64]; omega
          have e2 : IntKind.i64.wrap (y - 1) = y - 1 := by rw [IntKind.wrap_i64]; omega
          have e3 : IntKind.i64.wrap (x + 1) = x + 1 := by rw [IntKind.wrap_i64]; omega
          have e4 : IntKind.i64.wrap (y + 1) = y + 1 := by rw [IntKind.wrap_i64]; omega
          have hWc := hW1
          cases hp : hasB f x y with
          | false =>
            go_wp2_with (first | (go_at_call 102; refine (l03Has_any g c f _ _ _ (HB.out.below hWc)).mono ?_; rintro e w1 ⟨rfl, rfl⟩; first | rw [hp] | rw [h0] | rw [h1'] | rw [h2] | rw [h3]))
            go_roundw
            case rel => exact ⟨k + 1, _, _, _, by omega, by (have hx9 := HX.out); go_num, rfl, Lib.hid (by have h9 := OC.out; rw [HSR.out]; simpa [sidesAt, gS, mkE, hp, recCells, r4cells, List.append_assoc] using h9), Lib.hid (by have h9 := HN.out; rw [HSR.out]; simp [sidesAt, gS, mkE, hp]; simp at h9; omega), hWc⟩
            case measure => (have hx9 := HX.out); simp [intOf]; omega
          | true =>
            cases h0 : hasB f x (y - 1)
            all_goals
              cases h1' : hasB f (x + 1) y
              all_goals
                cases h2 : hasB f x (y + 1)
                all_goals
                  cases h3 : hasB f (x - 1) y
                  all_goals
                    go_wp2_with (first | (go_at_call 102; refine (l03Has_any g c f _ _ _ (HB.out.below hWc)).mono ?_; rintro e w1 ⟨rfl, rfl⟩; first | rw [hp] | rw [h0] | rw [h1'] | rw [h2] | rw [h3]) | (at_builtin; refine wpList_append_own _ rfl _ _ 27 rfl w.heap.size 32 i0 (.agg #[.int .i64 0, .int .i64 0, .int .i64 0, .int .i64 0]) 4 32 Tryz.underlying27 hin hz0 hz1 hz2 rfl (by decide) _ _ _ rfl (OC.out.alloc _) ⟨_, 0, none⟩ 1 1 [.int .i64 _, .int .i64 _, .int .i64 _, .int .i64 _] rfl rfl (e1_newsV _ _ _ _) (ints_one4 _ _ _ _) (by unfold maxLen; omega) (by omega) (by (try simp only [World.size_alloc]); have := hWc.size; omega) ?_; intro v' w' hown' hgrow hnil; have hnn : v' ≠ .slice none 0 0 := (fun e => by have := (hnil.1 e).2; omega); obtain ⟨h', c', rfl, hc', hown2⟩ := eown_n hown' hnn; have hWn := (hWc.alloc hWc.size _).grown hgrow (by have := hWc.size; simp; omega) (fun j hj => (OC.out.lt j hj).1); have OC := Lib.hid hown2; have hWc := hWn; clear hown' hown2 hgrow hnil hnn hWn))
                    go_roundw
                    case rel => exact ⟨k + 1, _, _, _, by omega, by (have hx9 := HX.out); go_num, rfl, Lib.hid (by have h9 := OC.out; rw [HSR.out]; simpa [sidesAt, gS, mkE, hp, h0, h1', h2, h3, recCells, r4cells, List.append_assoc] using h9), Lib.hid (by have h9 := HN.out; rw [HSR.out]; simp [sidesAt, gS, mkE, hp, h0, h1', h2, h3]; simp at h9; omega), hWc⟩
                    case measure => (have hx9 := HX.out); simp [intOf]; omega
        · have q2 : ¬ -40 + (k : Int) < 40 := by omega
          obtain rfl : k = 80 := by omega
          go_wp2_with fail
          go_roundw
          case rel => exact ⟨j + 1, n1, h1, c1, by omega, by go_num, rfl, Lib.hid (by rw [sidesU_succ]; exact OC.out), Lib.hid (by rw [sidesU_succ]; exact HN.out), hW1⟩
          case measure => simp [intOf]; omega
    · have q1 : ¬ -40 + (j : Int) < 40 := by omega
      obtain rfl : j = 80 := by omega
      have HI := Lib.hid (erec_own HO.out)
      go_wp2_with fail
      refine bodyPost_ret (results_tmp rfl _ _ _) rfl ⟨⟨h, c', ?_, HI.out⟩, hW⟩
      show Ending.returned (Value.slice (some ⟨h, 0, none⟩) n c') = _
      rw [HN.out]

end Go.Proofs.YtmabdemdapnmkaaGreatDoor
