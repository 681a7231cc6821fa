/- The model's sizing of flags: rows, columns, grown, shrunk; Grow, Shrink, Opening, Closing, Outline. Condition: the rectangles' cells are in memory. -/
import Derived.Test.YtepfnnhmplaocaaDoorQU
import Derived.Test.YtepfnnhmplaocaaDoorQJ
namespace Go.Proofs.YtepfnnhmplaocaaDoor
open Go.RowKit
set_option linter.unusedVariables false
set_option linter.unusedSimpArgs false
attribute [local go_sem ↓] Go.wp_at_zero Go.wp_at_succ

/-- Flags while cell i is looked at: those before it are done, n distances have been tried. -/
def rG (f : Nat → Bool) (ac : Bool) (k i : Nat) (x y : Int) (n : Nat) (j : Nat) : Bool := (decide (j < i) && rF f ac k j) || (decide (j = i) && anyD f ac x y k n)
theorem rG_yes {f : Nat → Bool} {ac : Bool} {k i n : Nat} {x y : Int} (h : rowH f ac x y (-(k : Int) + n) = true) (j : Nat) : (rG f ac k i x y n j || decide (j = i)) = rG f ac k i x y (n + 1) j := by
  unfold rG
  rw [anyD, h, Bool.or_true]
  by_cases e : j = i
  · rw [decide_eq_true e]; simp
  · rw [decide_eq_false e]; simp
theorem rG_no {f : Nat → Bool} {ac : Bool} {k i n : Nat} {x y : Int} (h : rowH f ac x y (-(k : Int) + n) = false) (j : Nat) : rG f ac k i x y n j = rG f ac k i x y (n + 1) j := by
  unfold rG
  rw [anyD, h, Bool.or_false]
theorem rG_start (f : Nat → Bool) (ac : Bool) (k i : Nat) (x y : Int) (j : Nat) : (decide (j < i) && rF f ac k j) = rG f ac k i x y 0 j := by
  unfold rG
  rw [anyD, Bool.and_false, Bool.or_false]
theorem rG_end {f : Nat → Bool} {ac : Bool} {k i : Nat} {x y : Int} (hx : ((i % 80 : Nat) : Int) - 40 = x) (hy : ((i / 80 : Nat) : Int) - 40 = y) (j : Nat) : rG f ac k i x y (2 * k + 1) j = (decide (j < i + 1) && rF f ac k j) := by
  unfold rG
  by_cases e : j = i
  · subst e
    rw [decide_eq_false (Nat.lt_irrefl j), decide_eq_true rfl, decide_eq_true (Nat.lt_succ_self j)]
    unfold rF
    rw [hx, hy]
    simp
  · rw [decide_eq_false e]
    by_cases h : j < i
    · rw [decide_eq_true h, decide_eq_true (by omega : j < i + 1)]; simp
    · rw [decide_eq_false h, decide_eq_false (by omega : ¬ j < i + 1)]; simp
theorem rowH_ac (f : Nat → Bool) (x y d : Int) : rowH f true x y d = hasB f (x + d) y := by unfold rowH; rw [if_pos rfl]
theorem rowH_dn (f : Nat → Bool) (x y d : Int) : rowH f false x y d = hasB f x (y + d) := by unfold rowH; rw [if_neg (by simp)]

set_option maxHeartbeats 8000000 in
set_option maxRecDepth 100000 in
theorem l05Row_ac (g c : Nat) (f : Nat → Bool) (k : Nat) (hk : k ≤ 10) (w : World) (hF : BitsIs w g f) :
    Calls Tryd.prog 112 #[.slice (some ⟨g, 0, none⟩) 6400 c, .int .i64 (k : Int), .bool true] w fun e w' => BitsRes w.heap.size (acF f k k) e w' ∧ Below w.heap.size w w' := by
  have HF := Lib.hid hF
  clear hF
  obtain ⟨i0, hi, hz0, hz1, hz2⟩ := info_parts infoB
  go_enter Tryd.func112, Tryd.ntmps112
  go_wp2_with (at_make; refine wpList_make_full _ rfl _ _ 50 rfl w.heap.size 4 i0 (.bool false) 1 Tryd.underlying50 hi hz0 hz1 .i64 .i64 6400 6400 6400 rfl rfl rfl rfl (by rw [hz2]; omega) (by unfold maxLen; omega) (Nat.le_refl _) ?_; intro w1 own1 grow1)
  have hB1 : Below w.heap.size w w1 := (Below.refl _ _).grown grow1 (Nat.le_refl _) (fun k hk => by cases hk)
  have HF1 := Lib.hid (bits_made own1)
  clear own1 grow1 hi hz0 hz1 hz2
  go_wp2_with fail
  go_loopw [8] (fun s wr => ∃ r : Nat, r ≤ 80 ∧ s = .int .i64 ((r : Int) - 40) ∧ Below w.heap.size w wr ∧ Hid (BitsIs wr w.heap.size (fun j => decide (j < r * 80) && rF f true k j))) (fun s _ => (40 - intOf s).toNat)
  case atStart => exact ⟨0, by omega, rfl, hB1, Lib.hid (HF1.out.congr fun j _ => by simp)⟩
  case round =>
    obtain ⟨r, hr, rfl, hW, HG⟩ := hrel
    obtain ⟨y, hy⟩ : ∃ y : Int, y = (r : Int) - 40 := ⟨_, rfl⟩
    have q0 : -40 ≤ y := by omega
    by_cases hlt : r < 80
    · have q1 : y < 40 := by omega
      have q2 : y ≤ 39 := by omega
      rw [← hy]
      have HY := Lib.hid hy
      clear hy
      go_wp2_with fail
      go_loopw [9] (fun s wx => ∃ i : Nat, r * 80 ≤ i ∧ i ≤ r * 80 + 80 ∧ s = .int .i64 ((i : Int) - r * 80 - 40) ∧ Below w.heap.size w wx ∧ Hid (BitsIs wx w.heap.size (fun j => decide (j < i) && rF f true k j))) (fun s _ => (40 - intOf s).toNat)
      case atStart => exact ⟨r * 80, by omega, by omega, by go_num, hW, HG⟩
      case round =>
        obtain ⟨i, hi0, hi1, rfl, hX, HH⟩ := hrel
        obtain ⟨x, hx⟩ : ∃ x : Int, x = (i : Int) - r * 80 - 40 := ⟨_, rfl⟩
        have p0 : -40 ≤ x := by omega
        by_cases hil : i < r * 80 + 80
        · have p1 : x < 40 := by omega
          have p2 : x ≤ 39 := by omega
          have hix : ((i % 80 : Nat) : Int) - 40 = x := by omega
          have hiy : ((i / 80 : Nat) : Int) - 40 = y := by have := HY.out; omega
          have hci : cIx x y = i := by unfold cIx; have := HY.out; omega
          have HIX := Lib.hid hix
          have HIY := Lib.hid hiy
          have HCI := Lib.hid hci
          have hi6 : i < 6400 := by omega
          rw [← hx]
          have HX := Lib.hid hx
          clear hx hix hiy hci
          go_wp2_with fail
          go_loopw [10] (fun s wd => ∃ n : Nat, n ≤ 2 * k + 1 ∧ s = .int .i64 (-(k : Int) + n) ∧ Below w.heap.size w wd ∧ Hid (BitsIs wd w.heap.size (rG f true k i x y n))) (fun s _ => ((k : Int) + 1 - intOf s).toNat)
          case atStart => exact ⟨0, by omega, by go_num, hX, Lib.hid (HH.out.congr fun j _ => rG_start f true k i x y j)⟩
          case round =>
            obtain ⟨n, hn, rfl, hD, HD⟩ := hrel
            obtain ⟨d, hd⟩ : ∃ d : Int, d = -(k : Int) + n := ⟨_, rfl⟩
            have d0 : -10 ≤ d := by omega
            by_cases hnl : n < 2 * k + 1
            · have d1 : d ≤ (k : Int) := by omega
              have d2 : d ≤ 10 := by omega
              have HFw := Lib.hid (HF.out.below hD)
              have hb : rowH f true x y (-(k : Int) + n) = hasB f (x + d) y := by rw [rowH_ac, ← hd]
              have HB := Lib.hid hb
              rw [← hd]
              have HDd := Lib.hid hd
              clear hd hb
              have c1 := (HD.out i hi6).1
              have f1 := (HD.out i hi6).2
              have r0 : (0 : Int) ≤ (i : Int) := by omega
              have r1 : (i : Int) < 6400 := by omega
              cases hh : hasB f (x + d) y with
              | true =>
                have HN := Lib.hid ((HD.out.set hi6).congr fun j _ => rG_yes (f := f) (ac := true) (k := k) (i := i) (n := n) (x := x) (y := y) (HB.out.trans hh) j)
                have HHH := Lib.hid hh
                clear hh
                go_wp2_with (first | (go_at_call 59; refine (l03Has_any g c f (x + d) y _ HFw.out).mono ?_; rintro e wz ⟨rfl, rfl⟩; rw [HHH.out]) | (go_at_call 99; refine (l03At_any x y _ (by omega) (by omega) (by omega) (by omega)).mono ?_; rintro e wz ⟨rfl, rfl⟩; rw [HCI.out]))
                go_roundw
                case rel => exact ⟨n + 1, by omega, by rw [HDd.out]; go_num, hD.setCell (Nat.le_refl _) _, HN⟩
                case measure => simp [intOf]; omega
              | false =>
                have HN := Lib.hid (HD.out.congr fun j _ => rG_no (f := f) (ac := true) (k := k) (i := i) (n := n) (x := x) (y := y) (HB.out.trans hh) j)
                have HHH := Lib.hid hh
                clear hh c1 f1
                go_wp2_with (first | (go_at_call 59; refine (l03Has_any g c f (x + d) y _ HFw.out).mono ?_; rintro e wz ⟨rfl, rfl⟩; rw [HHH.out]))
                go_roundw
                case rel => exact ⟨n + 1, by omega, by rw [HDd.out]; go_num, hD, HN⟩
                case measure => simp [intOf]; omega
            · obtain rfl : n = 2 * k + 1 := by omega
              have d1 : ¬ d ≤ (k : Int) := by omega
              rw [← hd]
              clear hd
              have HE := Lib.hid (HD.out.congr fun j _ => rG_end (f := f) (ac := true) (k := k) HIX.out HIY.out j)
              go_wp2_with fail
              go_roundw
              case rel => exact ⟨i + 1, by omega, by omega, by rw [HX.out]; go_num, hD, HE⟩
              case measure => simp [intOf]; omega
        · have p1 : ¬ x < 40 := by omega
          obtain rfl : i = r * 80 + 80 := by omega
          rw [← hx]
          clear hx
          go_wp2_with fail
          go_roundw
          case rel => exact ⟨r + 1, by omega, by rw [HY.out]; go_num, hX, Lib.hid (HH.out.congr fun j _ => by rw [show (r + 1) * 80 = r * 80 + 80 by omega])⟩
          case measure => simp [intOf]; omega
    · have q1 : ¬ y < 40 := by omega
      obtain rfl : r = 80 := by omega
      rw [← hy]
      clear hy
      have HE := Lib.hid (HG.out.congr fun j hj => show (decide (j < 80 * 80) && rF f true k j) = acF f k k j by rw [decide_eq_true (by omega : j < 80 * 80), Bool.true_and, rF_ac f k hj])
      go_wp2_with fail
      go_ret
      exact ⟨⟨w.heap.size, rfl, Nat.le_refl _, HE.out⟩, hW⟩

set_option maxHeartbeats 8000000 in
set_option maxRecDepth 100000 in
theorem l05Row_dn (g c : Nat) (f : Nat → Bool) (k : Nat) (hk : k ≤ 10) (w : World) (hF : BitsIs w g f) :
    Calls Tryd.prog 112 #[.slice (some ⟨g, 0, none⟩) 6400 c, .int .i64 (k : Int), .bool false] w fun e w' => BitsRes w.heap.size (dnF f k k) e w' ∧ Below w.heap.size w w' := by
  have HF := Lib.hid hF
  clear hF
  obtain ⟨i0, hi, hz0, hz1, hz2⟩ := info_parts infoB
  go_enter Tryd.func112, Tryd.ntmps112
  go_wp2_with (at_make; refine wpList_make_full _ rfl _ _ 50 rfl w.heap.size 4 i0 (.bool false) 1 Tryd.underlying50 hi hz0 hz1 .i64 .i64 6400 6400 6400 rfl rfl rfl rfl (by rw [hz2]; omega) (by unfold maxLen; omega) (Nat.le_refl _) ?_; intro w1 own1 grow1)
  have hB1 : Below w.heap.size w w1 := (Below.refl _ _).grown grow1 (Nat.le_refl _) (fun k hk => by cases hk)
  have HF1 := Lib.hid (bits_made own1)
  clear own1 grow1 hi hz0 hz1 hz2
  go_wp2_with fail
  go_loopw [8] (fun s wr => ∃ r : Nat, r ≤ 80 ∧ s = .int .i64 ((r : Int) - 40) ∧ Below w.heap.size w wr ∧ Hid (BitsIs wr w.heap.size (fun j => decide (j < r * 80) && rF f false k j))) (fun s _ => (40 - intOf s).toNat)
  case atStart => exact ⟨0, by omega, rfl, hB1, Lib.hid (HF1.out.congr fun j _ => by simp)⟩
  case round =>
    obtain ⟨r, hr, rfl, hW, HG⟩ := hrel
    obtain ⟨y, hy⟩ : ∃ y : Int, y = (r : Int) - 40 := ⟨_, rfl⟩
    have q0 : -40 ≤ y := by omega
    by_cases hlt : r < 80
    · have q1 : y < 40 := by omega
      have q2 : y ≤ 39 := by omega
      rw [← hy]
      have HY := Lib.hid hy
      clear hy
      go_wp2_with fail
      go_loopw [9] (fun s wx => ∃ i : Nat, r * 80 ≤ i ∧ i ≤ r * 80 + 80 ∧ s = .int .i64 ((i : Int) - r * 80 - 40) ∧ Below w.heap.size w wx ∧ Hid (BitsIs wx w.heap.size (fun j => decide (j < i) && rF f false k j))) (fun s _ => (40 - intOf s).toNat)
      case atStart => exact ⟨r * 80, by omega, by omega, by go_num, hW, HG⟩
      case round =>
        obtain ⟨i, hi0, hi1, rfl, hX, HH⟩ := hrel
        obtain ⟨x, hx⟩ : ∃ x : Int, x = (i : Int) - r * 80 - 40 := ⟨_, rfl⟩
        have p0 : -40 ≤ x := by omega
        by_cases hil : i < r * 80 + 80
        · have p1 : x < 40 := by omega
          have p2 : x ≤ 39 := by omega
          have hix : ((i % 80 : Nat) : Int) - 40 = x := by omega
          have hiy : ((i / 80 : Nat) : Int) - 40 = y := by have := HY.out; omega
          have hci : cIx x y = i := by unfold cIx; have := HY.out; omega
          have HIX := Lib.hid hix
          have HIY := Lib.hid hiy
          have HCI := Lib.hid hci
          have hi6 : i < 6400 := by omega
          rw [← hx]
          have HX := Lib.hid hx
          clear hx hix hiy hci
          go_wp2_with fail
          go_loopw [10] (fun s wd => ∃ n : Nat, n ≤ 2 * k + 1 ∧ s = .int .i64 (-(k : Int) + n) ∧ Below w.heap.size w wd ∧ Hid (BitsIs wd w.heap.size (rG f false k i x y n))) (fun s _ => ((k : Int) + 1 - intOf s).toNat)
          case atStart => exact ⟨0, by omega, by go_num, hX, Lib.hid (HH.out.congr fun j _ => rG_start f false k i x y j)⟩
          case round =>
            obtain ⟨n, hn, rfl, hD, HD⟩ := hrel
            obtain ⟨d, hd⟩ : ∃ d : Int, d = -(k : Int) + n := ⟨_, rfl⟩
            have d0 : -10 ≤ d := by omega
            by_cases hnl : n < 2 * k + 1
            · have d1 : d ≤ (k : Int) := by omega
              have d2 : d ≤ 10 := by omega
              have HFw := Lib.hid (HF.out.below hD)
              have hb : rowH f false x y (-(k : Int) + n) = hasB f x (y + d) := by rw [rowH_dn, ← hd]
              have HB := Lib.hid hb
              rw [← hd]
              have HDd := Lib.hid hd
              clear hd hb
              have c1 := (HD.out i hi6).1
              have f1 := (HD.out i hi6).2
              have r0 : (0 : Int) ≤ (i : Int) := by omega
              have r1 : (i : Int) < 6400 := by omega
              cases hh : hasB f x (y + d) with
              | true =>
                have HN := Lib.hid ((HD.out.set hi6).congr fun j _ => rG_yes (f := f) (ac := false) (k := k) (i := i) (n := n) (x := x) (y := y) (HB.out.trans hh) j)
                have HHH := Lib.hid hh
                clear hh
                go_wp2_with (first | (go_at_call 59; refine (l03Has_any g c f x (y + d) _ HFw.out).mono ?_; rintro e wz ⟨rfl, rfl⟩; rw [HHH.out]) | (go_at_call 99; refine (l03At_any x y _ (by omega) (by omega) (by omega) (by omega)).mono ?_; rintro e wz ⟨rfl, rfl⟩; rw [HCI.out]))
                go_roundw
                case rel => exact ⟨n + 1, by omega, by rw [HDd.out]; go_num, hD.setCell (Nat.le_refl _) _, HN⟩
                case measure => simp [intOf]; omega
              | false =>
                have HN := Lib.hid (HD.out.congr fun j _ => rG_no (f := f) (ac := false) (k := k) (i := i) (n := n) (x := x) (y := y) (HB.out.trans hh) j)
                have HHH := Lib.hid hh
                clear hh c1 f1
                go_wp2_with (first | (go_at_call 59; refine (l03Has_any g c f x (y + d) _ HFw.out).mono ?_; rintro e wz ⟨rfl, rfl⟩; rw [HHH.out]))
                go_roundw
                case rel => exact ⟨n + 1, by omega, by rw [HDd.out]; go_num, hD, HN⟩
                case measure => simp [intOf]; omega
            · obtain rfl : n = 2 * k + 1 := by omega
              have d1 : ¬ d ≤ (k : Int) := by omega
              rw [← hd]
              clear hd
              have HE := Lib.hid (HD.out.congr fun j _ => rG_end (f := f) (ac := false) (k := k) HIX.out HIY.out j)
              go_wp2_with fail
              go_roundw
              case rel => exact ⟨i + 1, by omega, by omega, by rw [HX.out]; go_num, hD, HE⟩
              case measure => simp [intOf]; omega
        · have p1 : ¬ x < 40 := by omega
          obtain rfl : i = r * 80 + 80 := by omega
          rw [← hx]
          clear hx
          go_wp2_with fail
          go_roundw
          case rel => exact ⟨r + 1, by omega, by rw [HY.out]; go_num, hX, Lib.hid (HH.out.congr fun j _ => by rw [show (r + 1) * 80 = r * 80 + 80 by omega])⟩
          case measure => simp [intOf]; omega
    · have q1 : ¬ y < 40 := by omega
      obtain rfl : r = 80 := by omega
      rw [← hy]
      clear hy
      have HE := Lib.hid (HG.out.congr fun j hj => show (decide (j < 80 * 80) && rF f false k j) = dnF f k k j by rw [decide_eq_true (by omega : j < 80 * 80), Bool.true_and, rF_dn f k hj])
      go_wp2_with fail
      go_ret
      exact ⟨⟨w.heap.size, rfl, Nat.le_refl _, HE.out⟩, hW⟩

set_option maxHeartbeats 8000000 in
set_option maxRecDepth 100000 in
theorem l05Not_any (g c : Nat) (f : Nat → Bool) (w : World) (hF : BitsIs w g f) :
    Calls Tryd.prog 118 #[.slice (some ⟨g, 0, none⟩) 6400 c] w fun e w' => BitsRes w.heap.size (fun j => !f j) e w' ∧ Below w.heap.size w w' := by
  have HF := Lib.hid hF
  clear hF
  obtain ⟨i0, hi, hz0, hz1, hz2⟩ := info_parts infoB
  go_enter Tryd.func118, Tryd.ntmps118
  go_wp2_with (at_make; refine wpList_make_full _ rfl _ _ 50 rfl w.heap.size 4 i0 (.bool false) 1 Tryd.underlying50 hi hz0 hz1 .i64 .i64 6400 6400 6400 rfl rfl rfl rfl (by rw [hz2]; omega) (by unfold maxLen; omega) (Nat.le_refl _) ?_; intro w1 own1 grow1)
  have hB1 : Below w.heap.size w w1 := (Below.refl _ _).grown grow1 (Nat.le_refl _) (fun k hk => by cases hk)
  have HF1 := Lib.hid (bits_made own1)
  clear own1 grow1 hi hz0 hz1 hz2
  go_wp2_with fail
  go_loopw [4] (fun s wr => ∃ i : Nat, i ≤ 6400 ∧ s = .int .i64 i ∧ Below w.heap.size w wr ∧ Hid (BitsIs wr w.heap.size (fun j => decide (j < i) && !f j))) (fun s _ => 6400 - (intOf s).toNat)
  case atStart => exact ⟨0, by omega, rfl, hB1, Lib.hid (HF1.out.congr fun j _ => by simp)⟩
  case round =>
    obtain ⟨i, hi, rfl, hW, HG⟩ := hrel
    by_cases hlt : i < 6400
    · have q1 : (i : Int) < 6400 := by omega
      have q0 : (0 : Int) ≤ (i : Int) := by omega
      have u0 := keepC hW (HF.out i hlt).1
      have t0 := (HG.out i hlt).1
      have t1 := (HG.out i hlt).2
      have HP := Lib.hid ((HG.out.put hlt (!f i)).congr fun j _ => comb_step (fun j => !f j) i j (!f i) rfl)
      clear HG
      go_wp2_with fail
      go_roundw
      case rel => exact ⟨i + 1, by omega, by go_num, hW.setCell (Nat.le_refl _) _, HP⟩
      case measure => simp [intOf]; omega
    · have q1 : ¬ (i : Int) < 6400 := by omega
      obtain rfl : i = 6400 := by omega
      have HE := Lib.hid (HG.out.congr fun j hj => show (decide (j < 6400) && !f j) = !f j by rw [decide_eq_true hj, Bool.true_and])
      clear HG
      go_wp2_with fail
      go_ret
      exact ⟨⟨w.heap.size, rfl, Nat.le_refl _, HE.out⟩, hW⟩

theorem l05GrowBits_any (g c : Nat) (f : Nat → Bool) (k : Nat) (hk : k ≤ 10) (w : World) (hF : BitsIs w g f) :
    Calls Tryd.prog 71 #[.slice (some ⟨g, 0, none⟩) 6400 c, .int .i64 (k : Int)] w fun e w' => BitsRes w.heap.size (seeF f k k) e w' ∧ Below w.heap.size w w' := by
  have HF := Lib.hid hF
  clear hF
  go_enter Tryd.func71, Tryd.ntmps71
  go_wp2_with fail
  refine (l05Row_ac g c f k hk _ HF.out).mono ?_
  rintro e w1 ⟨⟨g1, rfl, hg1, hb1⟩, bw1⟩
  have H1 := Lib.hid hb1
  clear hb1
  go_wp2_with fail
  refine (l05Row_dn g1 6400 _ k hk _ H1.out).mono ?_
  rintro e w2 ⟨⟨g2, rfl, hg2, hb2⟩, bw2⟩
  have H2 := Lib.hid hb2
  clear hb2
  go_wp2_with fail
  go_ret
  exact ⟨⟨g2, rfl, Nat.le_trans bw1.size hg2, H2.out⟩, Ext.trans bw1 bw2⟩
/-- What sizing by F answers. -/
def szL (F : (Nat → Bool) → Nat → Nat → Bool) (P Q R S : Nat → Int) (n : Nat) (k : Int) : List R4 := if (okR P Q R S n && inB k 0 10) = true then canonL (F (covF P Q R S n) k.toNat) else []
theorem szL_len (F : (Nat → Bool) → Nat → Nat → Bool) (P Q R S : Nat → Int) (n : Nat) (k : Int) : (szL F P Q R S n k).length ≤ 3280 := by
  unfold szL; split
  · exact canonL_len _
  · simp
theorem szL_no {F : (Nat → Bool) → Nat → Nat → Bool} {P Q R S : Nat → Int} {n : Nat} {k : Int} {e : Ending} {w : World} (h : (okR P Q R S n && inB k 0 10) = false) (he : e = .returned (.slice none 0 0)) : LRes (szL F P Q R S n k) e w := by
  have e0 : szL F P Q R S n k = [] := by unfold szL; rw [if_neg (by simp [h])]
  rw [e0]
  exact ⟨none, 0, he, RectsL.nil _ _ _⟩
theorem szL_yes {F : (Nat → Bool) → Nat → Nat → Bool} {P Q R S : Nat → Int} {n : Nat} {k : Int} {B0 h c : Nat} {e : Ending} {w : World} (hok : (okR P Q R S n && inB k 0 10) = true) (hI : RecIs B0 w h (canonL (F (covF P Q R S n) k.toNat))) (he : e = .returned (.slice (some ⟨h, 0, none⟩) (canonL (F (covF P Q R S n) k.toNat)).length c)) : LRes (szL F P Q R S n k) e w := by
  have e0 : szL F P Q R S n k = canonL (F (covF P Q R S n) k.toNat) := by unfold szL; rw [if_pos hok]
  rw [e0]
  exact ⟨_, c, he, hI.rects⟩
def grF (f : Nat → Bool) (k : Nat) : Nat → Bool := seeF f k k
def srF (f : Nat → Bool) (k : Nat) : Nat → Bool := shF f k k
def opnF (f : Nat → Bool) (k : Nat) : Nat → Bool := seeF (shF f k k) k k
def clsF (f : Nat → Bool) (k : Nat) : Nat → Bool := shF (seeF f k k) k k
def outF (f : Nat → Bool) (k j : Nat) : Bool := tt 4 (f j) (shF f k k j)

end Go.Proofs.YtepfnnhmplaocaaDoor
