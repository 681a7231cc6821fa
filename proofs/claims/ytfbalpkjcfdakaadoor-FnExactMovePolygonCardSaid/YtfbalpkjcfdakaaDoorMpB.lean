/- The program's MovePolygon. Conditions: the points' cells are in memory; the variable orientationMatrices holds its table. -/
import Derived.Test.YtfbalpkjcfdakaaDoorMpA
namespace Go.Proofs.YtfbalpkjcfdakaaDoor
open Go.RowKit
set_option linter.unusedVariables false
set_option linter.unusedSimpArgs false
attribute [local go_sem ↓] Go.wp_at_zero Go.wp_at_succ

/-- The images of the vertices, in the order of the orientation. -/
def mqX (o x y : Int) (X Y : Nat → Int) (n i : Nat) : Int := if o < 4 then mvX o x y (X i) (Y i) else mvX o x y (X (n - 1 - i)) (Y (n - 1 - i))
def mqY (o x y : Int) (X Y : Nat → Int) (n i : Nat) : Int := if o < 4 then mvY o x y (X i) (Y i) else mvY o x y (X (n - 1 - i)) (Y (n - 1 - i))
def mqO (o x y : Int) (X Y : Nat → Int) (n : Nat) : Bool := allOn (fun i => mvX o x y (X i) (Y i)) (fun i => mvY o x y (X i) (Y i)) n
/-- Does MovePolygon answer true? -/
def mqB (o x y : Int) (X Y : Nat → Int) (n : Nat) : Bool := (vldB o x y && polyB X Y n) && mqO o x y X Y n
def mqN (o x y : Int) (X Y : Nat → Int) (n : Nat) : Nat := if mqB o x y X Y n = true then n else 0
theorem mqN_f {o x y : Int} {X Y : Nat → Int} {n : Nat} (h : mqB o x y X Y n = false) : mqN o x y X Y n = 0 := by unfold mqN; rw [if_neg (by simp [h])]
theorem mqN_t {o x y : Int} {X Y : Nat → Int} {n : Nat} (h : mqB o x y X Y n = true) : mqN o x y X Y n = n := by unfold mqN; rw [if_pos h]
theorem mqN_le (o x y : Int) (X Y : Nat → Int) (n : Nat) : mqN o x y X Y n ≤ n := by unfold mqN; split <;> omega
theorem A.infoPt : (Tryd.prog.info? 66).map (fun i => (i.zero, i.size, i.bytes)) = some (some (.agg #[.int .i64 0, .int .i64 0]), 2, 16) := by kernel_rfl
theorem POwn2.no (B : Nat) (X Y : Nat → Int) (w : World) : POwn2 B 0 X Y false (.returned (.tuple #[.slice none 0 0, .bool false])) w := ⟨none, 0, rfl, .inl rfl⟩
theorem Filling.row {g n : Nat} {w : World} {X Y : Nat → Int} (h : Filling g n n w X Y) : RowP w g n X Y := fun k hk => by
  obtain ⟨c0, c1, f0, f1⟩ := h k hk
  rw [if_pos hk] at c0 c1
  exact ⟨⟨c0, c1⟩, f0, f1⟩

set_option maxRecDepth 100000 in
set_option maxHeartbeats 8000000 in
theorem implMovePolygon_any (o x y : Int) (a : Option Addr) (n cap : Nat) (X Y : Nat → Int) (w : World) (hn : n ≤ 1048576) (hM : Mats w) (hP : PtsIs w.heap.size w a n X Y) :
    Calls Tryd.prog 14 #[.agg #[.int .i64 o, .int .i64 x, .int .i64 y], .slice a n cap] w fun e w' => POwn2 w.heap.size (mqN o x y X Y n) (mqX o x y X Y n) (mqY o x y X Y n) (mqB o x y X Y n) e w' ∧ Below w.heap.size w w' := by
  have hV1 := fun w => implValid_any o x y w
  have hV2 := fun w' hP' => implIsValidPolygon_any a n cap X Y w' hn hP'
  cases hv : vldB o x y with
  | false =>
    have hb : mqB o x y X Y n = false := by unfold mqB; rw [hv]; rfl
    rw [mqN_f hb, hb]
    rw [hv] at hV1
    go_enter Tryd.func14, Tryd.ntmps14
    go_wp2_with (go_at_call 53; refine (hV1 _).mono ?_; rintro e w1 ⟨rfl, bw1⟩)
    exact bodyPost_ret (v := .tuple #[.slice none 0 0, .bool false]) (by simp [results, Tryd.results14, go_sem]) rfl ⟨POwn2.no _ _ _ _, by (repeat (first | (with_reducible exact Below.refl _ _) | (with_reducible refine Ext.drewN ?_ _) | (with_reducible refine Below.drew ?_) | (with_reducible refine Ext.alloc ?_ _) | (with_reducible refine Ext.setCell ?_ (by simp; try omega) _) | (with_reducible refine Ext.trans ?_ (by assumption)) | (with_reducible assumption) | exact Below.refl _ _))⟩
  | true =>
    rw [hv] at hV1
    cases hp : polyB X Y n with
    | false =>
      have hb : mqB o x y X Y n = false := by unfold mqB; rw [hv, hp]; rfl
      rw [mqN_f hb, hb]
      rw [hp] at hV2
      go_enter Tryd.func14, Tryd.ntmps14
      go_wp2_with (first | (go_at_call 53; refine (hV1 _).mono ?_; rintro e w1 ⟨rfl, bw1⟩; obtain ⟨sw1, zw1, cw1, fw1⟩ := bcell bw1; (try simp only [World.size_alloc, World.size_setCell, World.size_drew] at sw1)) | (go_at_call 54; refine (hV2 _ (hP.ext (by (repeat (first | (with_reducible exact Below.refl _ _) | (with_reducible refine Ext.drewN ?_ _) | (with_reducible refine Below.drew ?_) | (with_reducible refine Ext.alloc ?_ _) | (with_reducible refine Ext.setCell ?_ (by simp; try omega) _) | (with_reducible refine Ext.trans ?_ (by assumption)) | (with_reducible assumption) | exact Below.refl _ _))))).mono ?_; rintro e w2 ⟨rfl, bw2⟩))
      exact bodyPost_ret (v := .tuple #[.slice none 0 0, .bool false]) (by simp [results, Tryd.results14, go_sem]) rfl ⟨POwn2.no _ _ _ _, by (repeat (first | (with_reducible exact Below.refl _ _) | (with_reducible refine Ext.drewN ?_ _) | (with_reducible refine Below.drew ?_) | (with_reducible refine Ext.alloc ?_ _) | (with_reducible refine Ext.setCell ?_ (by simp; try omega) _) | (with_reducible refine Ext.trans ?_ (by assumption)) | (with_reducible assumption) | exact Below.refl _ _))⟩
    | true =>
      rw [hp] at hV2
      have hvo := vldB_t hv
      obtain ⟨p1, p2, _, p4⟩ := polyB_t hp
      have hon := Lib.hid fun i (hi : i < n) => turn_on (turnsB_at p4 hi)
      have hbo : mqB o x y X Y n = mqO o x y X Y n := by unfold mqB; rw [hv, hp]; rfl
      have HBO := Lib.hid hbo
      clear hv hp p4 hbo
      obtain ⟨i0, hi, hz0, hz1, hz2⟩ := info_parts A.infoPt
      go_enter Tryd.func14, Tryd.ntmps14
      go_wp2_with (first | (go_at_call 53; refine (hV1 _).mono ?_; rintro e w1 ⟨rfl, bw1⟩; obtain ⟨sw1, zw1, cw1, fw1⟩ := bcell bw1; (try simp only [World.size_alloc, World.size_setCell, World.size_drew] at sw1)) | (go_at_call 54; refine (hV2 _ (hP.ext (by (repeat (first | (with_reducible exact Below.refl _ _) | (with_reducible refine Ext.drewN ?_ _) | (with_reducible refine Below.drew ?_) | (with_reducible refine Ext.alloc ?_ _) | (with_reducible refine Ext.setCell ?_ (by simp; try omega) _) | (with_reducible refine Ext.trans ?_ (by assumption)) | (with_reducible assumption) | exact Below.refl _ _))))).mono ?_; rintro e w2 ⟨rfl, bw2⟩; obtain ⟨sw2, zw2, cw2, fw2⟩ := bcell bw2; (try simp only [World.size_alloc, World.size_setCell, World.size_drew] at sw2)) | (at_make; refine wpList_make_full _ rfl _ _ 26 rfl w2.heap.size 66 i0 (.agg #[.int .i64 0, .int .i64 0]) 2 Tryd.underlying26 hi hz0 hz1 .i64 .i64 n n n rfl rfl rfl rfl (by rw [hz2]; omega) (by unfold maxLen; omega) (Nat.le_refl _) ?_; intro w3 own3 grow3))
      have BW2 : Below w.heap.size w w2 := by (repeat (first | (with_reducible exact Below.refl _ _) | (with_reducible refine Ext.drewN ?_ _) | (with_reducible refine Below.drew ?_) | (with_reducible refine Ext.alloc ?_ _) | (with_reducible refine Ext.setCell ?_ (by simp; try omega) _) | (with_reducible refine Ext.trans ?_ (by assumption)) | (with_reducible assumption) | exact Below.refl _ _))
      have hs12 : w.heap.size < w2.heap.size := by have := bw2.size; have := bw1.size; simp at this; omega
      have B23 : Below w2.heap.size w2 w3 := (Below.refl _ _).grown grow3 (Nat.le_refl _) (fun k hk => by cases hk)
      have hlt3 := (own3.lt w2.heap.size rfl).2
      have t0 : w3.cell? ⟨w.heap.size, 0, none⟩ = some (.int .i64 o) := keepC B23 (by simp [*])
      have t1 : w3.cell? ⟨w.heap.size, 1, none⟩ = some (.int .i64 x) := keepC B23 (by simp [*])
      have t2 : w3.cell? ⟨w.heap.size, 2, none⟩ = some (.int .i64 y) := keepC B23 (by simp [*])
      have HF3 : Hid (Filling w2.heap.size n 0 w3 (fun i => mvX o x y (X i) (Y i)) (fun i => mvY o x y (X i) (Y i))) := Lib.hid fun k hk => by
        refine ⟨?_, ?_, own3.frozenAt _, own3.frozenAt _⟩
        · rw [own3.cellAt _ (by omega)]
          exact made2 _ _ (by omega)
        · rw [own3.cellAt _ (by omega)]
          exact made2 _ _ (by omega)
      have HP := Lib.hid hP
      have BW3 := Ext.trans BW2 B23
      have hM3 := hM.below BW3 hM.size
      obtain ⟨⟨v1, v2⟩, ⟨v3, v4⟩, v5, v6⟩ := hvo
      obtain ⟨o', ho'⟩ : ∃ o' : Nat, o = (o' : Int) := ⟨o.toNat, by omega⟩
      have hol : o' < 8 := by omega
      have HO' := Lib.hid ho'
      clear ho'
      clear own3 grow3 hi hz0 hz1 hz2 hV1 hV2 bw1 bw2 sw1 zw1 cw1 fw1 sw2 zw2 cw2 fw2 BW2 hP
      go_loopw [22] (fun s wr => ∃ i : Nat, i ≤ n ∧ s = .int .i64 i ∧ w2.heap.size < wr.heap.size ∧ Below w.heap.size w wr ∧ Below w2.heap.size w3 wr ∧ Hid (Filling w2.heap.size n i wr (fun i => mvX o x y (X i) (Y i)) (fun i => mvY o x y (X i) (Y i)))) (fun s _ => n - (intOf s).toNat)
      case atStart => exact ⟨0, by omega, rfl, hlt3, BW3, Below.refl _ _, HF3⟩
      case round =>
        obtain ⟨i, hi, rfl, hsz, hW, hW3, HF⟩ := hrel
        have r0 := (hW3.cell (p := ⟨w.heap.size, 0, none⟩) hs12).trans t0
        have r1 := (hW3.cell (p := ⟨w.heap.size, 1, none⟩) hs12).trans t1
        have r2 := (hW3.cell (p := ⟨w.heap.size, 2, none⟩) hs12).trans t2
        by_cases hlt : i < n
        · obtain ⟨b, off, rfl⟩ := HP.out.base (by omega)
          obtain ⟨hb, cx, cy⟩ := (HP.out.below hW).at rfl hlt
          obtain ⟨⟨x1, x2⟩, y1, y2⟩ := hon.out i hlt
          have q1 : (i : Int) < (n : Int) := by omega
          have q0 : (0 : Int) ≤ (i : Int) := by omega
          have hMr := hM.below hW hM.size
          have hI : ∀ w', Mats w' → Calls Tryd.prog 55 #[.agg #[.int .i64 o, .int .i64 x, .int .i64 y], .agg #[.int .i64 (X i), .int .i64 (Y i)]] w' fun e w'' => e = .returned (.agg #[.int .i64 (mvX o x y (X i) (Y i)), .int .i64 (mvY o x y (X i) (Y i))]) ∧ Below w'.heap.size w' w'' := fun w' h => by rw [HO'.out]; exact tImage_is o' x y (X i) (Y i) w' hol h (by omega) (by omega) (by omega) (by omega) (by omega) (by omega) (by omega) (by omega)
          have hlw : w.heap.size < wr.heap.size := by omega
          go_wp2_with (go_at_call 55; refine (hI _ (Mats.below hMr (by (repeat (first | (with_reducible exact Below.refl _ _) | (with_reducible refine Ext.drewN ?_ _) | (with_reducible refine Below.drew ?_) | (with_reducible refine Ext.alloc ?_ _) | (with_reducible refine Ext.setCell ?_ (by simp; try omega) _) | (with_reducible refine Ext.trans ?_ (by assumption)) | (with_reducible assumption) | exact Below.refl _ _))) hMr.size)).mono ?_; rintro e v1 ⟨rfl, bv1⟩; have hW1 : Below wr.heap.size wr v1 := (by (repeat (first | (with_reducible exact Below.refl _ _) | (with_reducible refine Ext.drewN ?_ _) | (with_reducible refine Below.drew ?_) | (with_reducible refine Ext.alloc ?_ _) | (with_reducible refine Ext.setCell ?_ (by simp; try omega) _) | (with_reducible refine Ext.trans ?_ (by assumption)) | (with_reducible assumption) | exact Below.refl _ _))); have hF1 := HF.out.below hW1 hsz; obtain ⟨d0, d1, f0, f1⟩ := hF1 i hlt)
          have HFS := Lib.hid (hF1.step hlt)
          have hs1 := hW1.size
          have hWv : Below w.heap.size w v1 := hW.trans (hW1.mono hW.size)
          have hW3v : Below w2.heap.size w3 v1 := hW3.trans (hW1.mono (by omega))
          go_wp2_with fail
          go_roundw
          case rel => exact ⟨i + 1, by omega, by go_num, by simp; omega, (hWv.setCell (p := ⟨w2.heap.size, i * 2, none⟩) (Nat.le_of_lt hs12) _).setCell (p := ⟨w2.heap.size, i * 2 + 1, none⟩) (Nat.le_of_lt hs12) _, (hW3v.setCell (p := ⟨w2.heap.size, i * 2, none⟩) (Nat.le_refl _) _).setCell (p := ⟨w2.heap.size, i * 2 + 1, none⟩) (Nat.le_refl _) _, HFS⟩
          case measure => simp [intOf]; omega
        · have q1 : ¬ (i : Int) < (n : Int) := by omega
          obtain rfl : i = n := by omega
          have hrow := Lib.hid (Filling.row HF.out)
          have hA := fun w' (h : PtsIs w'.heap.size w' (some ⟨w2.heap.size, 0, none⟩) i (fun i => mvX o x y (X i) (Y i)) (fun i => mvY o x y (X i) (Y i))) => areOnChip_any (some ⟨w2.heap.size, 0, none⟩) i i _ _ w' hn h
          have hmo : allOn (fun i => mvX o x y (X i) (Y i)) (fun i => mvY o x y (X i) (Y i)) i = mqO o x y X Y i := rfl
          cases hq : mqO o x y X Y i with
          | false =>
            have hb : mqB o x y X Y i = false := by rw [HBO.out]; exact hq
            have HB := Lib.hid hb
            rw [hmo, hq] at hA
            clear hq hb hmo
            go_wp2_with (go_at_call 56; refine (hA _ hrow.out.pts).mono ?_; rintro e w5 ⟨rfl, bw5⟩)
            exact bodyPost_ret (v := .tuple #[.slice none 0 0, .bool false]) (by simp [results, Tryd.results14, go_sem]) rfl ⟨by rw [mqN_f HB.out, HB.out]; exact POwn2.no _ _ _ _, Ext.trans hW bw5⟩
          | true =>
            have hb : mqB o x y X Y i = true := by rw [HBO.out]; exact hq
            have HB := Lib.hid hb
            rw [hmo, hq] at hA
            clear hq hb hmo
            have hOr := fun w => orientation_any o x y w
            by_cases h4 : o < 4
            · have h4' : ¬ o ≥ 4 := by omega
              have h4'' : ¬ (4 : Int) ≤ o := by omega
              go_wp2_with (first | (go_at_call 56; refine (hA _ hrow.out.pts).mono ?_; rintro e w5 ⟨rfl, bw5⟩; have s0 := keepC bw5 r0; have s1 := keepC bw5 r1; have s2 := keepC bw5 r2; have hrow5 := Lib.hid (hrow.out.below bw5 hsz)) | (go_at_call 57; refine (hOr _).mono ?_; rintro e w6 ⟨rfl, bw6⟩))
              have hl5 := bw5.size
              exact bodyPost_ret (v := .tuple #[.slice (some ⟨w2.heap.size, 0, none⟩) i i, .bool true]) (by simp [results, Tryd.results14, go_sem]) rfl ⟨by rw [mqN_t HB.out, HB.out]; exact ⟨_, _, rfl, .inr ⟨w2.heap.size, rfl, Nat.le_of_lt hs12, by have := bw6.size; omega, (hrow5.out.below bw6 (by omega)).congr fun k hk => by unfold mqX mqY; rw [if_pos h4, if_pos h4]; exact ⟨rfl, rfl⟩⟩⟩, Ext.trans (Ext.trans hW bw5) bw6⟩
            · have h4' : o ≥ 4 := by omega
              have h4'' : (4 : Int) ≤ o := by omega
              go_wp2_with (first | (go_at_call 56; refine (hA _ hrow.out.pts).mono ?_; rintro e w5 ⟨rfl, bw5⟩; have s0 := keepC bw5 r0; have s1 := keepC bw5 r1; have s2 := keepC bw5 r2; have hrow5 := Lib.hid (hrow.out.below bw5 hsz)) | (go_at_call 57; refine (hOr _).mono ?_; rintro e w6 ⟨rfl, bw6⟩; have hl5 := bw5.size; have hl6 := bw6.size; have hrow6 := Lib.hid (hrow5.out.below bw6 (by omega))) | (go_at_call 58; refine (reverseP_any w2.heap.size i i _ _ _ hn (by omega) hrow6.out).mono ?_; rintro e w7 ⟨rfl, hr7, hw7⟩))
              have B7 : Below w.heap.size w w7 := Wr.below (Ext.trans (Ext.trans hW bw5) bw6) hw7 (by have := hW.size; omega) (Nat.le_of_lt hs12)
              have hl7 := hw7.size
              exact bodyPost_ret (v := .tuple #[.slice (some ⟨w2.heap.size, 0, none⟩) i i, .bool true]) (by simp [results, Tryd.results14, go_sem]) rfl ⟨by rw [mqN_t HB.out, HB.out]; exact ⟨_, _, rfl, .inr ⟨w2.heap.size, rfl, Nat.le_of_lt hs12, by omega, hr7.congr fun k hk => by unfold mqX mqY; rw [if_neg (by omega), if_neg (by omega)]; exact ⟨rfl, rfl⟩⟩⟩, B7⟩
end Go.Proofs.YtfbalpkjcfdakaaDoor
