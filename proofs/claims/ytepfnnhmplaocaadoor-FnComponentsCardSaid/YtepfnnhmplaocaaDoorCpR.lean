/- The program's LargestComponent. Conditions: the rectangles' cells are in memory; the tables are in memory. -/
import Derived.Test.YtepfnnhmplaocaaDoorCpQ
import Derived.Test.YtepfnnhmplaocaaDoorQT
import Derived.Test.YtepfnnhmplaocaaDoorCpK
namespace Go.Proofs.YtepfnnhmplaocaaDoor
open Go.RowKit
set_option linter.unusedVariables false
set_option linter.unusedSimpArgs false
attribute [local go_sem ↓] Go.wp_at_zero Go.wp_at_succ

theorem cntF_pos {F : Nat → Bool} {k : Nat} (h : F k = true) : ∀ n, k < n → 0 < cntF F n
  | 0, hk => by omega
  | n + 1, hk => by
    rw [cntF]
    by_cases e : k = n
    · subst e
      have := (cntF_bd F k).1
      rw [if_pos h]; omega
    · have := cntF_pos h n (by omega)
      split <;> omega
theorem cntL_canon (g : Nat → Bool) : cntL (canonL g) = cntF g 6400 := cntF_congr 6400 fun k hk => cov_canonL_all g hk
theorem cntL_pos {l : List R4} {g : Nat → Bool} (h : l = canonL g) (hl : 0 < l.length) : 0 < cntL l := by
  subst h
  rw [cntL_canon]
  have : ¬ ∀ k, k < 6400 → g k = false := fun hn => by have := (canonL_none_iff g).2 hn; omega
  have : ∃ k, k < 6400 ∧ g k = true := Classical.byContradiction fun hn => this fun k hk => by
    cases e : g k with
    | false => rfl
    | true => exact absurd ⟨k, hk, e⟩ hn
  obtain ⟨k, hk, e⟩ := this
  exact cntF_pos e 6400 hk
theorem areaR_canon {l : List R4} {g : Nat → Bool} (h : l = canonL g) : areaR (pA l) (pB l) (pC l) (pD l) l.length = cntL l := by
  subst h
  have := area_canon g
  unfold areaL at this
  rw [this, cntL_canon]
theorem areaR_nil (P Q R S : Nat → Int) : areaR P Q R S 0 = 0 := by
  have h0 : canonL (fun _ => false) = [] := List.length_eq_zero_iff.1 ((canonL_none_iff _).2 fun _ _ => rfl)
  have hok : okR P Q R S 0 = true := by
    rw [okR_iff]
    refine ⟨fun i hi => by omega, ?_⟩
    have e : covF P Q R S 0 = fun _ => false := rfl
    rw [e, h0]; rfl
  unfold areaR
  rw [if_pos hok]
  have e : covF P Q R S 0 = fun _ => false := rfl
  rw [e, cntF_zero]
/-- The value that stands for the greatest list so far. -/
def bigV (LL : List (List R4)) (V : List Value) (i : Nat) (o : Option Nat) : Value := match o with
  | none => .slice none 0 0
  | some j => V.getD j .nilFunc
set_option maxHeartbeats 8000000 in
set_option maxRecDepth 100000 in
theorem implLargestComponent_any (m : Option Addr) (n cap : Nat) (P Q R S : Nat → Int) (w : World) (hn : n ≤ 1048576) (hcap : n ≤ cap) (hD : EnvW w) (hR : RectsIs w.heap.size w m n P Q R S) :
    Calls Tryd.prog 52 #[.slice m n cap] w fun e w' => LOwn w.heap.size (lgL (csL P Q R S n)) e w' ∧ Below w.heap.size w w' := by
  have hp := implComponents_any m n cap P Q R S w hn hcap hD hR
  have hcan := csL_can P Q R S n
  have hlen := csL_len P Q R S n
  obtain ⟨LL, hLL⟩ : ∃ LL, csL P Q R S n = LL := ⟨_, rfl⟩
  rw [hLL] at hp hcan hlen ⊢
  have HC := Lib.hid hcan
  have HD := Lib.hid hD
  clear hLL hD hR hcan
  go_enter Tryd.func52, Tryd.ntmps52
  go_wp2_with (go_at_call 30; refine hp.mono ?_; rintro e w1 ⟨⟨a1, c1, V, g, rfl, k1, h1⟩, bw1⟩)
  have HL := Lib.hid h1
  have HW := Lib.hid bw1
  have hs1 := bw1.size
  clear h1 hp bw1
  go_loopw [3, 9] (fun s3 s9 wr => ∃ (i : Nat) (ab : Option Addr) (lb : List R4) (cb : Nat), i ≤ LL.length ∧ s9 = .int .i64 (i : Nat) ∧ s3 = .slice ab lb.length cb ∧ lb.length ≤ 3280 ∧ lb.length ≤ cb ∧ Hid (Below w1.heap.size w1 wr) ∧ Hid ((biggest LL cntL i = none ∧ i = 0 ∧ lb = []) ∨ ∃ j, biggest LL cntL i = some j ∧ lb = LL.getD j [] ∧ LL[j]? = some lb ∧ ab = some ⟨g j, 0, none⟩)) (fun _ s9 _ => LL.length - (intOf s9).toNat)
  case atStart => exact ⟨0, none, [], 0, by omega, rfl, rfl, by simp, Nat.le_refl _, Lib.hid (Below.refl _ _), Lib.hid (.inl ⟨rfl, rfl, rfl⟩)⟩
  case round =>
    obtain ⟨i, ab, lb, cb, hil, rfl, rfl, hlb, hcb, HB, HS⟩ := hrel
    by_cases hlt : i < LL.length
    case neg =>
      obtain rfl : i = LL.length := by omega
      have q1 : ¬ ((LL.length : Nat) : Int) < (LL.length : Int) := by omega
      have hfin : LOwn w.heap.size (lgL LL) (.returned (.slice ab lb.length cb)) wr := by
        rcases HS.out with ⟨h1, h2, h3⟩ | ⟨j, h1, h2, h3, h4⟩
        · have e : lgL LL = [] := by unfold lgL; rw [h1]
          rw [e, h3]; exact ⟨ab, cb, rfl, .inl rfl⟩
        · have e : lgL LL = lb := by unfold lgL; rw [h1, h2]
          rw [e]
          obtain ⟨c', e1, e2, e3, e4, e5⟩ := (HL.out.below HB.out).each j lb h3
          exact ⟨ab, cb, rfl, .inr ⟨g j, h4, by omega, e3.2, e4⟩⟩
      have HFIN := Lib.hid hfin
      clear hfin
      go_wp2_with fail
      go_ret
      exact ⟨HFIN.out, Ext.trans HW.out HB.out⟩
    have q1 : ((i : Nat) : Int) < (LL.length : Int) := by omega
    have q0 : (0 : Int) ≤ ((i : Nat) : Int) := by omega
    obtain ⟨l, hl⟩ : ∃ l, LL[i]? = some l := ⟨_, List.getElem?_eq_getElem hlt⟩
    obtain ⟨gc, hgc⟩ := HC.out l (List.mem_of_getElem? hl)
    have hlD : LL.getD i [] = l := by rw [List.getD, hl]; rfl
    have hll : l.length ≤ 3280 := by rw [hgc]; exact canonL_len _
    have hlp := HL.out.ne l (List.mem_of_getElem? hl)
    obtain ⟨x, hx⟩ : ∃ x, cntL l = x := ⟨_, rfl⟩
    have hxp : 0 < x := by rw [← hx]; exact cntL_pos hgc hlp
    have hx6 : x ≤ 6400 := by rw [← hx, hgc, cntL_canon]; exact (cntF_bd _ 6400).2
    have har : areaR (pA l) (pB l) (pC l) (pD l) l.length = x := by rw [areaR_canon hgc, hx]
    have hnow := HL.out.below HB.out
    obtain ⟨c', e1, e2, e3, e4, e5⟩ := hnow.each i l hl
    obtain ⟨g0, cap0, hg0⟩ : ∃ g0 cap0, Value.slice a1 LL.length c1 = .slice (some ⟨g0, 0, none⟩) LL.length cap0 := by
      rcases HL.out.row.2 with ⟨_, h0⟩ | ⟨g0, cap0, _, h1, _⟩
      · omega
      · exact ⟨g0, cap0, h1⟩
    cases hg0
    have r1 := row_cells hnow.row i _ e1
    have HRI := Lib.hid e4.rects
    have hai := fun w' hD' hR' => implRegionArea (some ⟨g i, 0, none⟩) l.length c' (pA l) (pB l) (pC l) (pD l) w' (by omega) e2 hD' hR'
    rw [har] at hai
    -- the best one so far
    obtain ⟨y, hy⟩ : ∃ y, areaR (pA lb) (pB lb) (pC lb) (pD lb) lb.length = y := ⟨_, rfl⟩
    have hrb : RectsIs wr.heap.size wr ab lb.length (pA lb) (pB lb) (pC lb) (pD lb) := by
      rcases HS.out with ⟨h1, h2, h3⟩ | ⟨j, h1, h2, h3, h4⟩
      · rw [h3]; exact RectsL.nil _ _ _
      · obtain ⟨c9, k1, k2, k3, k4, k5⟩ := hnow.each j lb h3
        rw [h4]
        exact (RowR.rects k4).mono (by omega)
    have hab := fun w' hD' hR' => implRegionArea ab lb.length cb (pA lb) (pB lb) (pC lb) (pD lb) w' (by omega) hcb hD' hR'
    rw [hy] at hab
    have hy6 : 0 ≤ y ∧ y ≤ 6400 := by
      rcases HS.out with ⟨h1, h2, h3⟩ | ⟨j, h1, h2, h3, h4⟩
      · rw [← hy, h3, show ([] : List R4).length = 0 from rfl, areaR_nil]; omega
      · obtain ⟨gd, hgd⟩ := HC.out lb (List.mem_of_getElem? h3)
        rw [← hy, areaR_canon hgd, hgd, cntL_canon]; exact ⟨(cntF_bd _ 6400).1, (cntF_bd _ 6400).2⟩
    have hbig : biggest LL cntL (i + 1) = match biggest LL cntL i with | none => some i | some j => if cntL (LL.getD i []) > cntL (LL.getD j []) then some i else some j := rfl
    have HRB := Lib.hid hrb
    have hyb : ∀ j, biggest LL cntL i = some j → lb = LL.getD j [] → cntL (LL.getD j []) = y := fun j h1 h2 => by
      rcases HS.out with ⟨k1, _, _⟩ | ⟨j', k1, k2, k3, k4⟩
      · rw [k1] at h1; cases h1
      · obtain ⟨gd, hgd⟩ := HC.out lb (List.mem_of_getElem? k3)
        rw [← h2, ← hy, areaR_canon hgd]
    have hD1 := Lib.hid (HD.out.ext (Ext.trans HW.out HB.out))
    by_cases hgt : y < x
    · have HN : Hid ((biggest LL cntL (i + 1) = none ∧ i + 1 = 0 ∧ l = []) ∨ ∃ j, biggest LL cntL (i + 1) = some j ∧ l = LL.getD j [] ∧ LL[j]? = some l ∧ some ⟨g i, 0, none⟩ = some (⟨g j, 0, none⟩ : Addr)) := Lib.hid (.inr ⟨i, by
        rcases HS.out with ⟨k1, _, _⟩ | ⟨j', k1, k2, k3, k4⟩
        · rw [hbig, k1]
        · rw [hbig, k1]
          dsimp only
          rw [if_pos (by rw [hlD, hx, hyb j' k1 k2]; exact hgt)], hlD.symm, hl, rfl⟩)
      clear hbig hyb hrb hy hx har hnow e1 e4 e5 hl hgc hlD HS
      go_wp2_with (first | (have k4 := bw4; clear k4; go_at_call 40; refine (hab _ (hD1.out.ext bw4) (HRB.out.ext bw4)).mono ?_; rintro e w5 ⟨rfl, bw5⟩) | (go_at_call 40; refine (hai _ hD1.out HRI.out).mono ?_; rintro e w4 ⟨rfl, bw4⟩))
      have HB5 := Lib.hid (Ext.trans HB.out (Ext.trans bw4 bw5))
      go_roundw
      case rel => exact ⟨i + 1, _, l, c', by omega, by go_num, rfl, hll, e2, HB5, HN⟩
      case measure => simp [intOf]; omega
    · have HN : Hid ((biggest LL cntL (i + 1) = none ∧ i + 1 = 0 ∧ lb = []) ∨ ∃ j, biggest LL cntL (i + 1) = some j ∧ lb = LL.getD j [] ∧ LL[j]? = some lb ∧ ab = some (⟨g j, 0, none⟩ : Addr)) := Lib.hid (by
        rcases HS.out with ⟨k1, _, k3⟩ | ⟨j', k1, k2, k3, k4⟩
        · rw [k3, show ([] : List R4).length = 0 from rfl, areaR_nil] at hy
          omega
        · refine .inr ⟨j', ?_, k2, k3, k4⟩
          rw [hbig, k1]
          dsimp only
          rw [if_neg (by rw [hlD, hx, hyb j' k1 k2]; exact hgt)])
      clear hbig hyb hrb hy hx har hnow e1 e4 e5 hl hgc hlD HS
      go_wp2_with (first | (have k4 := bw4; clear k4; go_at_call 40; refine (hab _ (hD1.out.ext bw4) (HRB.out.ext bw4)).mono ?_; rintro e w5 ⟨rfl, bw5⟩) | (go_at_call 40; refine (hai _ hD1.out HRI.out).mono ?_; rintro e w4 ⟨rfl, bw4⟩))
      have HB5 := Lib.hid (Ext.trans HB.out (Ext.trans bw4 bw5))
      go_roundw
      case rel => exact ⟨i + 1, ab, lb, cb, by omega, by go_num, rfl, hlb, hcb, HB5, HN⟩
      case measure => simp [intOf]; omega
theorem lg_len (P Q R S : Nat → Int) (n : Nat) : (lgL (csL P Q R S n)).length ≤ 3280 := by
  unfold lgL
  split
  · simp
  · rename_i j hj
    have hl : j < (csL P Q R S n).length := biggest_lt hj
    exact (csL_can P Q R S n).len (List.mem_of_getElem? (lgetD hl))
end Go.Proofs.YtepfnnhmplaocaaDoor
