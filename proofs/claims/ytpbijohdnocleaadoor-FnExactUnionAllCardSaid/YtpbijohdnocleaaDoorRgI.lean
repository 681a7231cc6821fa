/- The model's box of a region and its clipping. -/
import Derived.Test.YtpbijohdnocleaaDoorRgH
namespace Go.Proofs.YtpbijohdnocleaaDoor
open Go.RowKit
set_option linter.unusedVariables false
set_option linter.unusedSimpArgs false
attribute [local go_sem ↓] Go.wp_at_zero Go.wp_at_succ

section
variable (m : Option Addr) (len cap : Nat) (P Q R S : Nat → Int) (w : World) (hlen : len ≤ 1048576) (hR : RectsIs w.heap.size w m len P Q R S)
include hlen hR

theorem specRegionBox_no (h : okR P Q R S len = false ∨ len = 0) : Calls Tryd.prog 32 #[.slice m len cap] w fun e w' => e = .returned (.tuple #[.agg #[.int .i64 0, .int .i64 0, .int .i64 0, .int .i64 0], .bool false]) ∧ Below w.heap.size w w' := by
  have HR := Lib.hid hR
  clear hR
  cases hok : okR P Q R S len with
  | false =>
    go_enter Tryd.func32, Tryd.ntmps32
    go_wp2_with (go_at_call 66; refine (l03Ok_any m len cap P Q R S _ hlen (HR.out.ext (Ext.alloc (Below.refl _ _) _))).mono ?_; rintro e w1 ⟨rfl, bw1⟩; rw [hok]; obtain ⟨sw1, zw1, cw1, fw1⟩ := bcell bw1; (try simp only [World.size_alloc, World.size_setCell, World.size_drew] at sw1))
    refine bodyPost_ret (v := .tuple #[.agg #[.int .i64 0, .int .i64 0, .int .i64 0, .int .i64 0], .bool false]) (by simp [*, results, Tryd.results32, go_sem]) rfl ⟨rfl, ?_⟩
    (repeat (first | (with_reducible exact Below.refl _ _) | (with_reducible refine Ext.drewN ?_ _) | (with_reducible refine Below.drew ?_) | (with_reducible refine Ext.alloc ?_ _) | (with_reducible refine Ext.setCell ?_ (by simp; try omega) _) | (with_reducible refine Ext.trans ?_ (by assumption)) | (with_reducible assumption) | exact Below.refl _ _))
  | true =>
    have h0 : ((len : Int) == 0) = true := by
      rcases h with h | h
      · rw [hok] at h; cases h
      · simp [h]
    go_enter Tryd.func32, Tryd.ntmps32
    go_wp2_with (go_at_call 66; refine (l03Ok_any m len cap P Q R S _ hlen (HR.out.ext (Ext.alloc (Below.refl _ _) _))).mono ?_; rintro e w1 ⟨rfl, bw1⟩; rw [hok]; obtain ⟨sw1, zw1, cw1, fw1⟩ := bcell bw1; (try simp only [World.size_alloc, World.size_setCell, World.size_drew] at sw1))
    refine bodyPost_ret (v := .tuple #[.agg #[.int .i64 0, .int .i64 0, .int .i64 0, .int .i64 0], .bool false]) (by simp [*, results, Tryd.results32, go_sem]) rfl ⟨rfl, ?_⟩
    (repeat (first | (with_reducible exact Below.refl _ _) | (with_reducible refine Ext.drewN ?_ _) | (with_reducible refine Below.drew ?_) | (with_reducible refine Ext.alloc ?_ _) | (with_reducible refine Ext.setCell ?_ (by simp; try omega) _) | (with_reducible refine Ext.trans ?_ (by assumption)) | (with_reducible assumption) | exact Below.refl _ _))
theorem specRegionBox_yes (hok : okR P Q R S len = true) (h0 : 0 < len) : Calls Tryd.prog 32 #[.slice m len cap] w fun e w' => e = .returned (.tuple #[.agg #[.int .i64 (mn (sh P) (P 0) (len - 1)), .int .i64 (mn (sh Q) (Q 0) (len - 1)), .int .i64 (mx (sh R) (R 0) (len - 1)), .int .i64 (mx (sh S) (S 0) (len - 1))], .bool true]) ∧ Below w.heap.size w w' := by
  have HR := Lib.hid hR
  clear hR
  have hz : ((len : Int) == 0) = false := by simp; omega
  have HB := Lib.hid fun W (hW : Below w.heap.size w W) => l02Box_any m len cap P Q R S W hlen h0 (HR.out.ext hW)
  generalize mn (sh P) (P 0) (len - 1) = a at HB ⊢
  generalize mn (sh Q) (Q 0) (len - 1) = b at HB ⊢
  generalize mx (sh R) (R 0) (len - 1) = c at HB ⊢
  generalize mx (sh S) (S 0) (len - 1) = d at HB ⊢
  go_enter Tryd.func32, Tryd.ntmps32
  go_wp2_with (first | (go_at_call 66; refine (l03Ok_any m len cap P Q R S _ hlen (HR.out.ext (Ext.alloc (Below.refl _ _) _))).mono ?_; rintro e w1 ⟨rfl, bw1⟩; rw [hok]; obtain ⟨sw1, zw1, cw1, fw1⟩ := bcell bw1; (try simp only [World.size_alloc, World.size_setCell, World.size_drew] at sw1); have B1 : Below w.heap.size w w1 := (by (repeat (first | (with_reducible exact Below.refl _ _) | (with_reducible refine Ext.drewN ?_ _) | (with_reducible refine Below.drew ?_) | (with_reducible refine Ext.alloc ?_ _) | (with_reducible refine Ext.setCell ?_ (by simp; try omega) _) | (with_reducible refine Ext.trans ?_ (by assumption)) | (with_reducible assumption) | exact Below.refl _ _))); have l11 : w.heap.size < w1.heap.size := (by omega)) | (go_at_call 80; refine (HB.out _ B1).mono ?_; rintro e w2 ⟨rfl, bw2⟩; obtain ⟨sw2, zw2, cw2, fw2⟩ := bcell bw2; (try simp only [World.size_alloc, World.size_setCell, World.size_drew] at sw2); (try have l12 : w.heap.size < w2.heap.size := by omega)))
  refine bodyPost_ret (v := .tuple #[.agg #[.int .i64 a, .int .i64 b, .int .i64 c, .int .i64 d], .bool true]) (by simp [*, results, Tryd.results32, go_sem]) rfl ⟨rfl, ?_⟩
  (repeat (first | (with_reducible exact Below.refl _ _) | (with_reducible refine Ext.drewN ?_ _) | (with_reducible refine Below.drew ?_) | (with_reducible refine Ext.alloc ?_ _) | (with_reducible refine Ext.setCell ?_ (by simp; try omega) _) | (with_reducible refine Ext.trans ?_ (by assumption)) | (with_reducible assumption) | exact Below.refl _ _))
end

theorem BitsIs.put {w : World} {g j : Nat} {f : Nat → Bool} (h : BitsIs w g f) (hj : j < 6400) (v : Bool) : BitsIs (w.setCell ⟨g, j, none⟩ (.bool v)) g (fun i => if i = j then v else f i) := fun i hi => by
  refine ⟨?_, by simpa using (h i hi).2⟩
  by_cases e : i = j
  · subst e
    exact (World.cell?_setCell_same _ _ _ (h i hi).1).trans (by simp)
  · rw [World.cell?_setCell_other _ _ _ _ (by simp <;> omega)]
    rw [(h i hi).1]; simp [e]
theorem BitsIs.other {w : World} {g g' j : Nat} {f : Nat → Bool} (h : BitsIs w g f) (hne : g' ≠ g) (v : Value) : BitsIs (w.setCell ⟨g', j, none⟩ v) g f := fun i hi =>
  ⟨by rw [World.cell?_setCell_other _ _ _ _ (by simp <;> (intro e; exact absurd e hne))]; exact (h i hi).1, by simpa using (h i hi).2⟩

/-- Flags of f in rows b .. y-1 of the box; then in columns a .. x-1 of row y. -/
def fC (f : Nat → Bool) (a b c : Int) (y : Int) (i : Nat) : Bool := f i && (decide (a ≤ (i % 80 : Nat) - 40) && decide (((i % 80 : Nat) : Int) - 40 < c) && decide (b ≤ (i / 80 : Nat) - 40) && decide (((i / 80 : Nat) : Int) - 40 < y))
def fCI (f : Nat → Bool) (a b c : Int) (y x : Int) (i : Nat) : Bool := fC f a b c y i || (f i && (decide (((i / 80 : Nat) : Int) - 40 = y) && decide (a ≤ (i % 80 : Nat) - 40) && decide (((i % 80 : Nat) : Int) - 40 < x)))
theorem fC_start (f : Nat → Bool) (a b c : Int) (i : Nat) : false = fC f a b c b i := by
  unfold fC
  have h : (decide (b ≤ ((i / 80 : Nat) : Int) - 40) && decide (((i / 80 : Nat) : Int) - 40 < b)) = false := by rw [Bool.and_eq_false_iff, decide_eq_false_iff_not, decide_eq_false_iff_not]; omega
  rw [Bool.and_assoc (decide _ && decide _), h]; simp
theorem fCI_start (f : Nat → Bool) (a b c y : Int) (i : Nat) : fC f a b c y i = fCI f a b c y a i := by
  unfold fCI
  have h : (decide (a ≤ ((i % 80 : Nat) : Int) - 40) && decide (((i % 80 : Nat) : Int) - 40 < a)) = false := by rw [Bool.and_eq_false_iff, decide_eq_false_iff_not, decide_eq_false_iff_not]; omega
  rw [Bool.and_assoc (decide _), h]; simp
theorem fCI_end (f : Nat → Bool) (a b c y : Int) (h : b ≤ y) (i : Nat) : fCI f a b c y c i = fC f a b c (y + 1) i := by
  unfold fCI fC
  cases f i
  · simp
  · rw [Bool.eq_iff_iff]
    simp only [Bool.or_eq_true, Bool.and_eq_true, decide_eq_true_eq, Bool.true_and]; omega
theorem fCI_step (f : Nat → Bool) (a b c y x : Int) (h1 : -40 ≤ x) (h2 : x ≤ 39) (h3 : -40 ≤ y) (h4 : y ≤ 39) (hp : a ≤ x) (i : Nat) : (if i = cIx x y then f (cIx x y) else fCI f a b c y x i) = fCI f a b c y (x + 1) i := by
  have e := cIx_back h1 h2 h3 h4
  by_cases hi : i = cIx x y
  · rw [if_pos hi, hi]
    unfold fCI
    rw [e.1, e.2]
    have e1 : (decide (y = y) && decide (a ≤ x) && decide (x < x + 1)) = true := by simp; omega
    rw [e1]
    unfold fC
    cases f (cIx x y) <;> simp
  · rw [if_neg hi]
    unfold fCI
    have hne : ¬ (((i / 80 : Nat) : Int) - 40 = y ∧ ((i % 80 : Nat) : Int) - 40 = x) := by
      intro h
      refine hi ?_
      unfold cIx
      omega
    congr 2
    rw [Bool.eq_iff_iff]
    simp only [Bool.and_eq_true, decide_eq_true_eq]; omega
/-- The flags of f in the box. -/
def clipF (f : Nat → Bool) (a b c d : Int) : Nat → Bool := fC f a b c d

set_option maxHeartbeats 8000000 in
theorem specClip_no (m : Option Addr) (len cap : Nat) (P Q R S : Nat → Int) (a b c d : Int) (w : World) (hlen : len ≤ 1048576) (hR : RectsIs w.heap.size w m len P Q R S) (h : (okR P Q R S len && rvB a b c d) = false) :
    Calls Tryd.prog 40 #[.slice m len cap, .agg #[.int .i64 a, .int .i64 b, .int .i64 c, .int .i64 d]] w fun e w' => e = .returned (.slice none 0 0) ∧ Below w.heap.size w w' := by
  have HR := Lib.hid hR
  clear hR
  cases hok : okR P Q R S len with
  | false =>
    go_enter Tryd.func40, Tryd.ntmps40
    go_wp2_with (go_at_call 66; refine (l03Ok_any m len cap P Q R S _ hlen (HR.out.ext (Ext.alloc (Below.refl _ _) _))).mono ?_; rintro e w1 ⟨rfl, bw1⟩; rw [hok]; obtain ⟨sw1, zw1, cw1, fw1⟩ := bcell bw1; (try simp only [World.size_alloc, World.size_setCell, World.size_drew] at sw1))
    go_ret
    exact ⟨rfl, by (repeat (first | (with_reducible exact Below.refl _ _) | (with_reducible refine Ext.drewN ?_ _) | (with_reducible refine Below.drew ?_) | (with_reducible refine Ext.alloc ?_ _) | (with_reducible refine Ext.setCell ?_ (by simp; try omega) _) | (with_reducible refine Ext.trans ?_ (by assumption)) | (with_reducible assumption) | exact Below.refl _ _))⟩
  | true =>
    have hb : rvB a b c d = false := by rw [hok] at h; exact h
    go_enter Tryd.func40, Tryd.ntmps40
    go_wp2_with (first | (go_at_call 66; refine (l03Ok_any m len cap P Q R S _ hlen (HR.out.ext (Ext.alloc (Below.refl _ _) _))).mono ?_; rintro e w1 ⟨rfl, bw1⟩; rw [hok]; obtain ⟨sw1, zw1, cw1, fw1⟩ := bcell bw1; (try simp only [World.size_alloc, World.size_setCell, World.size_drew] at sw1)) | (go_at_call 86; refine (specValidRect_any _ _ _ _ _).mono ?_; rintro e w2 ⟨rfl, bw2⟩; rw [hb]; obtain ⟨sw2, zw2, cw2, fw2⟩ := bcell bw2; (try simp only [World.size_alloc, World.size_setCell, World.size_drew] at sw2)))
    go_ret
    exact ⟨rfl, by (repeat (first | (with_reducible exact Below.refl _ _) | (with_reducible refine Ext.drewN ?_ _) | (with_reducible refine Below.drew ?_) | (with_reducible refine Ext.alloc ?_ _) | (with_reducible refine Ext.setCell ?_ (by simp; try omega) _) | (with_reducible refine Ext.trans ?_ (by assumption)) | (with_reducible assumption) | exact Below.refl _ _))⟩

set_option maxHeartbeats 16000000 in
set_option maxRecDepth 100000 in
theorem specClip_yes (m : Option Addr) (len cap : Nat) (P Q R S : Nat → Int) (a b c d : Int) (w : World) (hlen : len ≤ 1048576) (hR : RectsIs w.heap.size w m len P Q R S) (hok : okR P Q R S len = true) (hb : rvB a b c d = true) :
    Calls Tryd.prog 40 #[.slice m len cap, .agg #[.int .i64 a, .int .i64 b, .int .i64 c, .int .i64 d]] w fun e w' => RecRes w.heap.size (canonL (clipF (covF P Q R S len) a b c d)) e w' ∧ Below w.heap.size w w' := by
  have HR := Lib.hid hR
  have HALL := Lib.hid (okR_all hok)
  clear hR
  obtain ⟨v1, v2, v3, v4, v5, v6⟩ := rvB_t hb
  obtain ⟨i0, hi, hz0, hz1, hz2⟩ := info_parts infoB
  obtain ⟨f, hf⟩ : ∃ f, f = covF P Q R S len := ⟨_, rfl⟩
  rw [← hf]
  have HF := Lib.hid hf
  clear hf
  go_enter Tryd.func40, Tryd.ntmps40
  go_wp2_with (first | (go_at_call 66; refine (l03Ok_any m len cap P Q R S _ hlen (HR.out.ext (Ext.alloc (Below.refl _ _) _))).mono ?_; rintro e w1 ⟨rfl, bw1⟩; rw [hok]; obtain ⟨sw1, zw1, cw1, fw1⟩ := bcell bw1; (try simp only [World.size_alloc, World.size_setCell, World.size_drew] at sw1)) | (go_at_call 86; refine (specValidRect_any _ _ _ _ _).mono ?_; rintro e w2 ⟨rfl, bw2⟩; rw [hb]; obtain ⟨sw2, zw2, cw2, fw2⟩ := bcell bw2; (try simp only [World.size_alloc, World.size_setCell, World.size_drew] at sw2); have B2 : Below w.heap.size w w2 := (by (repeat (first | (with_reducible exact Below.refl _ _) | (with_reducible refine Ext.drewN ?_ _) | (with_reducible refine Below.drew ?_) | (with_reducible refine Ext.alloc ?_ _) | (with_reducible refine Ext.setCell ?_ (by simp; try omega) _) | (with_reducible refine Ext.trans ?_ (by assumption)) | (with_reducible assumption) | exact Below.refl _ _))); have t0 : w2.cell? ⟨w.heap.size, 0, none⟩ = some (.int .i64 a) := keepC bw2 (keepC bw1 (by simp [go_sem])); have t1 : w2.cell? ⟨w.heap.size, 1, none⟩ = some (.int .i64 b) := keepC bw2 (keepC bw1 (by simp [go_sem])); have t2 : w2.cell? ⟨w.heap.size, 2, none⟩ = some (.int .i64 c) := keepC bw2 (keepC bw1 (by simp [go_sem])); have t3 : w2.cell? ⟨w.heap.size, 3, none⟩ = some (.int .i64 d) := keepC bw2 (keepC bw1 (by simp [go_sem])); clear cw1 fw1 zw1 cw2 fw2 zw2) | (go_at_call 70; refine (l03Bits_any m len cap P Q R S _ hlen (HR.out.ext B2) HALL.out).mono ?_; rintro e w3 ⟨⟨g, rfl, hg0, hg⟩, bw3⟩; rw [← HF.out] at hg; have HG := Lib.hid hg; clear hg) | (at_make; refine wpList_make_full _ rfl _ _ 74 rfl w3.heap.size 4 i0 (.bool false) 1 Tryd.underlying74 hi hz0 hz1 .i64 .i64 6400 6400 6400 rfl rfl rfl rfl (by rw [hz2]; omega) (by unfold maxLen; omega) (Nat.le_refl _) ?_; intro w4 own4 grow4; have B4 : Below w3.heap.size w3 w4 := (Below.refl _ _).grown grow4 (Nat.le_refl _) (fun k hk => by cases hk); have r0 := keepC bw3 t0; have r1 := keepC bw3 t1; have r2 := keepC bw3 t2; have r3 := keepC bw3 t3; clear t0 t1 t2 t3; have s0 := keepC B4 r0; have s1 := keepC B4 r1; have s2 := keepC B4 r2; have s3 := keepC B4 r3; have hz : BitsIs w4 w3.heap.size (fC f a b c b) := (fun k hk => ⟨by rw [own4.cellAt _ (by omega), ← fC_start]; exact made1 _ _ (by omega), own4.frozenAt _⟩); have HZ := Lib.hid hz; clear hz own4 grow4 bw1 bw2))
  have B3 : Below w.heap.size w w3 := B2.trans (bw3.mono B2.size)
  have hg3 := HG.out.lt
  clear s0 s2 s3 hi hz0 hz1 hz2
  go_loopw [7] (fun s wr => ∃ y : Int, b ≤ y ∧ y ≤ d ∧ s = .int .i64 y ∧ Below w3.heap.size w3 wr ∧ Hid (BitsIs wr w3.heap.size (fC f a b c y))) (fun s _ => (d - intOf s).toNat)
  case atStart => exact ⟨b, Int.le_refl _, by omega, rfl, B4, HZ⟩
  case round =>
    obtain ⟨y, y0, y1, rfl, hY, HY⟩ := hrel
    have e3 := keepC hY r3
    by_cases hy : y < d
    · have e0 := keepC hY r0
      go_wp2_with fail
      go_loopw [8] (fun s wx => ∃ x : Int, a ≤ x ∧ x ≤ c ∧ s = .int .i64 x ∧ Below w3.heap.size w3 wx ∧ Hid (BitsIs wx w3.heap.size (fCI f a b c y x))) (fun s _ => (c - intOf s).toNat)
      case atStart => exact ⟨a, Int.le_refl _, by omega, rfl, hY, Lib.hid (HY.out.congr fun j _ => fCI_start f a b c y j)⟩
      case round =>
        obtain ⟨x, x0, x1, rfl, hX, HX⟩ := hrel
        have e2 := keepC hX r2
        by_cases hx : x < c
        · have hk := cIx_lt (x := x) (y := y) (by omega) (by omega) (by omega) (by omega)
          have hgx := HG.out.below hX
          obtain ⟨p1, p2⟩ := hgx _ hk
          obtain ⟨g1, g2⟩ := bits_set HX.out hk
          have hstep := fun j (_ : j < 6400) => fCI_step f a b c y x (by omega) (by omega) (by omega) (by omega) x0 j
          have HS := Lib.hid ((HX.out.put hk (f (cIx x y))).congr hstep)
          clear hstep hgx p2
          generalize hkk : cIx x y = k at hk g1 g2 HS p1
          generalize f k = u at HS p1
          have q0 : (0 : Int) ≤ (k : Int) := by omega
          have q1 : (k : Int) < 6400 := by omega
          go_wp2_with (go_at_call 87; refine (l03At_any x y _ (by omega) (by omega) (by omega) (by omega)).mono ?_; rintro e wz ⟨rfl, rfl⟩; rw [hkk])
          go_roundw
          case rel => exact ⟨x + 1, by omega, by omega, by go_num, hX.setCell (Nat.le_refl _) _, HS⟩
          case measure => simp [intOf]; omega
        · obtain rfl : x = c := by omega
          go_wp2_with fail
          go_roundw
          case rel => exact ⟨y + 1, by omega, by omega, by go_num, hX, Lib.hid (HX.out.congr fun j _ => fCI_end f a b x y y0 j)⟩
          case measure => simp [intOf]; omega
    · obtain rfl : y = d := by omega
      go_wp2_with (go_at_call 69; refine (l03Canon_any w3.heap.size 6400 (fC f a b c y) _ HY.out).mono ?_; rintro e w9 ⟨⟨h, cc, rfl, hI⟩, bw9⟩; have HI := Lib.hid hI; clear hI)
      go_ret
      exact ⟨⟨h, cc, rfl, ⟨Nat.le_trans (Nat.le_trans B3.size hY.size) HI.out.1, HI.out.2⟩⟩, (B3.trans (hY.mono B3.size)).trans (bw9.mono (Nat.le_trans B3.size hY.size))⟩
end Go.Proofs.YtpbijohdnocleaaDoor
