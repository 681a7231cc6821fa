/- The model's MovePolygon. Condition: the points' cells are in memory. -/
import Derived.Test.YtfbalpkjcfdakaaDoorMpB
import Derived.Test.YtfbalpkjcfdakaaDoorSmA
import Derived.Deep.RegionLaw
namespace Go.Proofs.YtfbalpkjcfdakaaDoor
open Go.RowKit
set_option linter.unusedVariables false
set_option linter.unusedSimpArgs false
attribute [local go_sem ↓] Go.wp_at_zero Go.wp_at_succ

theorem ptC_cons (X Y : Nat → Int) : ∀ n, [.int .i64 (X 0), .int .i64 (Y 0)] ++ ptC (fun k => X (k + 1)) (fun k => Y (k + 1)) n = ptC X Y (n + 1)
  | 0 => rfl
  | n + 1 => by rw [ptC_succ, ptC_succ X Y (n + 1), ← ptC_cons X Y n, List.append_assoc]
theorem ptC_congr {X Y U V : Nat → Int} : ∀ n, (∀ k, k < n → X k = U k ∧ Y k = V k) → ptC X Y n = ptC U V n
  | 0, _ => rfl
  | n + 1, h => by rw [ptC_succ, ptC_succ, ptC_congr n fun k hk => h k (by omega), (h n (by omega)).1, (h n (by omega)).2]
theorem PtsIs.congr {B : Nat} {w : World} {a : Option Addr} {n : Nat} {X Y U V : Nat → Int} (h : PtsIs B w a n X Y) (e : ∀ k, k < n → X k = U k ∧ Y k = V k) : PtsIs B w a n U V := fun i hi => by
  obtain ⟨e0, e1⟩ := e i hi
  rw [← e0, ← e1]; exact h i hi
theorem mqO_f {o x y : Int} {X Y : Nat → Int} {n i : Nat} (hi : i < n) (h : onB (mvX o x y (X i) (Y i)) (mvY o x y (X i) (Y i)) = false) : mqO o x y X Y n = false := allOn_f hi h
theorem mqO_t {o x y : Int} {X Y : Nat → Int} {n : Nat} (h : ∀ i, i < n → onB (mvX o x y (X i) (Y i)) (mvY o x y (X i) (Y i)) = true) : mqO o x y X Y n = true := allOn_t h
/-- The list as far as it has come. -/
def mqC (o x y : Int) (X Y : Nat → Int) (i : Nat) : List Value := if o < 4 then ptC (fun k => mvX o x y (X k) (Y k)) (fun k => mvY o x y (X k) (Y k)) i else ptC (fun k => mvX o x y (X (i - 1 - k)) (Y (i - 1 - k))) (fun k => mvY o x y (X (i - 1 - k)) (Y (i - 1 - k))) i
theorem mqC_lo {o x y : Int} {X Y : Nat → Int} {i : Nat} (h : o < 4) : mqC o x y X Y i ++ [.int .i64 (mvX o x y (X i) (Y i)), .int .i64 (mvY o x y (X i) (Y i))] = mqC o x y X Y (i + 1) := by
  unfold mqC; rw [if_pos h, if_pos h, ptC_succ]
theorem mqC_hi {o x y : Int} {X Y : Nat → Int} {i : Nat} (h : ¬ o < 4) : [.int .i64 (mvX o x y (X i) (Y i)), .int .i64 (mvY o x y (X i) (Y i))] ++ mqC o x y X Y i = mqC o x y X Y (i + 1) := by
  unfold mqC
  rw [if_neg h, if_neg h, ← ptC_cons (fun k => mvX o x y (X (i + 1 - 1 - k)) (Y (i + 1 - 1 - k)))]
  congr 1
  exact ptC_congr i fun k hk => by
    rw [show i + 1 - 1 - (k + 1) = i - 1 - k by omega]
    exact ⟨rfl, rfl⟩
theorem mqC_pts {w : World} {B g n cap : Nat} {o x y : Int} {X Y : Nat → Int} (h : w.ownsRow B 66 2 (.slice (some ⟨g, 0, none⟩) n cap) n (mqC o x y X Y n)) : PtsIs w.heap.size w (some ⟨g, 0, none⟩) n (mqX o x y X Y n) (mqY o x y X Y n) := by
  unfold mqC at h
  unfold mqX mqY
  by_cases h4 : o < 4
  · simp only [h4, if_true] at h ⊢
    exact own_pts h
  · simp only [h4, if_false] at h ⊢
    exact own_pts h
theorem mqC_len (o x y : Int) (X Y : Nat → Int) (i : Nat) : (mqC o x y X Y i).length = i * 2 := by unfold mqC; split <;> exact ptC_len _ _ _
theorem mqC_one (o x y : Int) (X Y : Nat → Int) (i : Nat) : ∀ u ∈ mqC o x y X Y i, u.oneCell' = true := by unfold mqC; split <;> exact ptC_one _ _ _
theorem q8news {w1 : World} {t : TypeId} (a b : Int) : ∀ j u, ([.int .i64 a, .int .i64 b] : List Value)[j]? = some u → (w1.alloc (.cells #[.int .i64 a, .int .i64 b] t)).cell? ((⟨w1.heap.size, 0, none⟩ : Addr).add j) = some u := by
  intro j u hj
  match j, hj with
  | 0, hj => simp at hj; subst hj; rw [addQ]; simp [go_sem]
  | 1, hj => simp at hj; subst hj; rw [addQ]; simp [go_sem]
  | (k + 2), hj => simp at hj
theorem q8ints (a b : Int) : ∀ u ∈ ([.int .i64 a, .int .i64 b] : List Value), u.oneCell' = true := fun u hu => by
  simp at hu
  rcases hu with rfl | rfl <;> rfl
/-- A point alone in a block of its own. -/
theorem own_one (w : World) (a b : Int) : (w.alloc (.cells #[.int .i64 a, .int .i64 b] 66)).ownsRow w.heap.size 66 2 (.slice (some ⟨w.heap.size, 0, none⟩) 1 1) 1 [.int .i64 a, .int .i64 b] :=
  ⟨by simp, .inr ⟨w.heap.size, 1, _, rfl, Nat.le_refl _, heap_alloc_new w _, by omega, by unfold maxLen; omega, by simp, by simp⟩⟩
theorem own_lowP {w : World} {base base' E sz n : Nat} {v : Value} {xs : List Value} (h : w.ownsRow base E sz v n xs) (hb : base' ≤ base) : w.ownsRow base' E sz v n xs := by
  obtain ⟨h1, h2⟩ := h
  refine ⟨h1, ?_⟩
  rcases h2 with h2 | ⟨g, cap, cur, e, k1, k2⟩
  · exact .inl h2
  · exact .inr ⟨g, cap, cur, e, Nat.le_trans hb k1, k2⟩
theorem own_someP {w : World} {B E sz n : Nat} {v : Value} {xs : List Value} (h : w.ownsRow B E sz v n xs) (hn : 0 < n) : ∃ g c, v = .slice (some ⟨g, 0, none⟩) n c := by
  rcases h.2 with ⟨_, h0⟩ | ⟨g, cap, cur, rfl, _⟩
  · omega
  · exact ⟨g, cap, rfl⟩
theorem own_news {w : World} {B E sz g n cap : Nat} {xs : List Value} (h : w.ownsRow B E sz (.slice (some ⟨g, 0, none⟩) n cap) n xs) : ∀ j u, xs[j]? = some u → w.cell? ((⟨g, 0, none⟩ : Addr).add j) = some u := fun j u hj => h.cells (g := g) rfl _ _ hj

set_option maxRecDepth 100000 in
set_option maxHeartbeats 8000000 in
theorem specMovePolygon_any (o x y : Int) (a : Option Addr) (n cap : Nat) (X Y : Nat → Int) (w : World) (hn : n ≤ 1048576) (hP : PtsIs w.heap.size w a n X Y) :
    Calls Tryd.prog 11 #[.agg #[.int .i64 o, .int .i64 x, .int .i64 y], .slice a n cap] w fun e w' => PRes2 (mqN o x y X Y n) (mqX o x y X Y n) (mqY o x y X Y n) (mqB o x y X Y n) e w' ∧ Below w.heap.size w w' := by
  have hV1 := fun w => specValid_any o x y w
  have hV2 := fun w' hP' => specIsValidPolygon_any a n cap X Y w' hn hP'
  cases hv : vldB o x y with
  | false =>
    have hb : mqB o x y X Y n = false := by unfold mqB; rw [hv]; rfl
    rw [mqN_f hb, hb]
    rw [hv] at hV1
    go_enter Tryd.func11, Tryd.ntmps11
    go_wp2_with (go_at_call 48; refine (hV1 _).mono ?_; rintro e w1 ⟨rfl, bw1⟩)
    exact bodyPost_ret (v := .tuple #[.slice none 0 0, .bool false]) (by simp [results, Tryd.results11, go_sem]) rfl ⟨⟨none, 0, rfl, fun i hi => absurd hi (Nat.not_lt_zero _)⟩, by (repeat (first | (with_reducible exact Below.refl _ _) | (with_reducible refine Ext.drewN ?_ _) | (with_reducible refine Below.drew ?_) | (with_reducible refine Ext.alloc ?_ _) | (with_reducible refine Ext.setCell ?_ (by simp; try omega) _) | (with_reducible refine Ext.trans ?_ (by assumption)) | (with_reducible assumption) | exact Below.refl _ _))⟩
  | true =>
    rw [hv] at hV1
    cases hp : polyB X Y n with
    | false =>
      have hb : mqB o x y X Y n = false := by unfold mqB; rw [hv, hp]; rfl
      rw [mqN_f hb, hb]
      rw [hp] at hV2
      go_enter Tryd.func11, Tryd.ntmps11
      go_wp2_with (first | (go_at_call 48; refine (hV1 _).mono ?_; rintro e w1 ⟨rfl, bw1⟩; obtain ⟨sw1, zw1, cw1, fw1⟩ := bcell bw1; (try simp only [World.size_alloc, World.size_setCell, World.size_drew] at sw1)) | (go_at_call 49; refine (hV2 _ (hP.ext (by (repeat (first | (with_reducible exact Below.refl _ _) | (with_reducible refine Ext.drewN ?_ _) | (with_reducible refine Below.drew ?_) | (with_reducible refine Ext.alloc ?_ _) | (with_reducible refine Ext.setCell ?_ (by simp; try omega) _) | (with_reducible refine Ext.trans ?_ (by assumption)) | (with_reducible assumption) | exact Below.refl _ _))))).mono ?_; rintro e w2 ⟨rfl, bw2⟩))
      exact bodyPost_ret (v := .tuple #[.slice none 0 0, .bool false]) (by simp [results, Tryd.results11, go_sem]) rfl ⟨⟨none, 0, rfl, fun i hi => absurd hi (Nat.not_lt_zero _)⟩, by (repeat (first | (with_reducible exact Below.refl _ _) | (with_reducible refine Ext.drewN ?_ _) | (with_reducible refine Below.drew ?_) | (with_reducible refine Ext.alloc ?_ _) | (with_reducible refine Ext.setCell ?_ (by simp; try omega) _) | (with_reducible refine Ext.trans ?_ (by assumption)) | (with_reducible assumption) | exact Below.refl _ _))⟩
    | true =>
      rw [hp] at hV2
      obtain ⟨⟨v1, v2⟩, ⟨v3, v4⟩, v5, v6⟩ := vldB_t hv
      obtain ⟨p1, p2, _, p4⟩ := polyB_t hp
      have hon := Lib.hid fun i (hi : i < n) => turn_on (turnsB_at p4 hi)
      have hbo : mqB o x y X Y n = mqO o x y X Y n := by unfold mqB; rw [hv, hp]; rfl
      have HBO := Lib.hid hbo
      clear hv hp p4 hbo
      obtain ⟨i0, hin, hz0, hz1, hz2⟩ := info_parts A.infoPt
      have HP := Lib.hid hP
      go_enter Tryd.func11, Tryd.ntmps11
      go_wp2_with (first | (go_at_call 48; refine (hV1 _).mono ?_; rintro e w1 ⟨rfl, bw1⟩; obtain ⟨sw1, zw1, cw1, fw1⟩ := bcell bw1; (try simp only [World.size_alloc, World.size_setCell, World.size_drew] at sw1)) | (go_at_call 49; refine (hV2 _ (hP.ext (by (repeat (first | (with_reducible exact Below.refl _ _) | (with_reducible refine Ext.drewN ?_ _) | (with_reducible refine Below.drew ?_) | (with_reducible refine Ext.alloc ?_ _) | (with_reducible refine Ext.setCell ?_ (by simp; try omega) _) | (with_reducible refine Ext.trans ?_ (by assumption)) | (with_reducible assumption) | exact Below.refl _ _))))).mono ?_; rintro e w2 ⟨rfl, bw2⟩; obtain ⟨sw2, zw2, cw2, fw2⟩ := bcell bw2; (try simp only [World.size_alloc, World.size_setCell, World.size_drew] at sw2)))
      have BW2 : Below w.heap.size w w2 := by (repeat (first | (with_reducible exact Below.refl _ _) | (with_reducible refine Ext.drewN ?_ _) | (with_reducible refine Below.drew ?_) | (with_reducible refine Ext.alloc ?_ _) | (with_reducible refine Ext.setCell ?_ (by simp; try omega) _) | (with_reducible refine Ext.trans ?_ (by assumption)) | (with_reducible assumption) | exact Below.refl _ _))
      have hs12 : w.heap.size < w2.heap.size := by have := bw2.size; have := bw1.size; simp at this; omega
      have t0 : w2.cell? ⟨w.heap.size, 0, none⟩ = some (.int .i64 o) := by simp [*]
      have t1 : w2.cell? ⟨w.heap.size, 1, none⟩ = some (.int .i64 x) := by simp [*]
      have t2 : w2.cell? ⟨w.heap.size, 2, none⟩ = some (.int .i64 y) := by simp [*]
      clear hV1 hV2 bw1 bw2 sw1 zw1 cw1 fw1 sw2 zw2 cw2 fw2 hP
      go_loopw [6, 7] (fun s6 s7 wr => ∃ (i h c' : Nat), i ≤ n ∧ s7 = .int .i64 (i : Nat) ∧ s6 = .slice (some ⟨h, 0, none⟩) i c' ∧ Hid (wr.ownsRow w2.heap.size 66 2 (.slice (some ⟨h, 0, none⟩) i c') i (mqC o x y X Y i)) ∧ Below w.heap.size w wr ∧ Below w2.heap.size w2 wr ∧ w2.heap.size < wr.heap.size ∧ Hid (∀ k, k < i → onB (mvX o x y (X k) (Y k)) (mvY o x y (X k) (Y k)) = true)) (fun _ s7 _ => n - (intOf s7).toNat)
      case atStart => exact ⟨0, _, _, by omega, rfl, rfl, Lib.hid (by have hm := World.ownsRow_made (base := w2.heap.size) (size := 2) (e := 66) w2 #[] 0 (Nat.le_refl _) (by unfold maxLen; decide) rfl; rw [show mqC o x y X Y 0 = [] by unfold mqC; split <;> rfl]; exact hm), by (repeat (first | (with_reducible exact Below.refl _ _) | (with_reducible refine Ext.drewN ?_ _) | (with_reducible refine Below.drew ?_) | (with_reducible refine Ext.alloc ?_ _) | (with_reducible refine Ext.setCell ?_ (by simp; try omega) _) | (with_reducible refine Ext.trans ?_ (by assumption)) | (with_reducible assumption) | exact Below.refl _ _)), by (repeat (first | (with_reducible exact Below.refl _ _) | (with_reducible refine Ext.drewN ?_ _) | (with_reducible refine Below.drew ?_) | (with_reducible refine Ext.alloc ?_ _) | (with_reducible refine Ext.setCell ?_ (by simp; try omega) _) | (with_reducible refine Ext.trans ?_ (by assumption)) | (with_reducible assumption) | exact Below.refl _ _)), by simp, Lib.hid fun k hk => absurd hk (by omega)⟩
      case round =>
        obtain ⟨i, h, c', hi, rfl, rfl, HO, hW, hW2, hsz, HA⟩ := hrel
        have r0 := (hW2.cell (p := ⟨w.heap.size, 0, none⟩) hs12).trans t0
        have r1 := (hW2.cell (p := ⟨w.heap.size, 1, none⟩) hs12).trans t1
        have r2 := (hW2.cell (p := ⟨w.heap.size, 2, none⟩) hs12).trans t2
        by_cases hlt : i < n
        · obtain ⟨b, off, rfl⟩ := HP.out.base (by omega)
          obtain ⟨hb, cx, cy⟩ := (HP.out.below hW).at rfl hlt
          obtain ⟨⟨x1, x2⟩, y1, y2⟩ := hon.out i hlt
          have q1 : (i : Int) < (n : Int) := by omega
          have q0 : (0 : Int) ≤ (i : Int) := by omega
          have hbw := Nat.lt_of_lt_of_le hb hW.size
          have hlw : w.heap.size < wr.heap.size := by omega
          have e1 : IntKind.i64.wrap ((i : Int) + 1) = (i : Int) + 1 := by rw [IntKind.wrap_i64]; omega
          have hL : ∀ w', Calls Tryd.prog 50 #[.agg #[.int .i64 o, .int .i64 x, .int .i64 y], .agg #[.int .i64 (X i), .int .i64 (Y i)]] w' fun e w'' => e = .returned (.agg #[.int .i64 (mvX o x y (X i) (Y i)), .int .i64 (mvY o x y (X i) (Y i))]) ∧ Below w'.heap.size w' w'' := fun w' => l01Move_any o x y (X i) (Y i) w' v1 v2 (by omega) (by omega) (by omega) (by omega) (by omega) (by omega) (by omega) (by omega)
          have HLO := Lib.hid (mqC_lo (o := o) (x := x) (y := y) (X := X) (Y := Y) (i := i))
          have HHI := Lib.hid (mqC_hi (o := o) (x := x) (y := y) (X := X) (Y := Y) (i := i))
          have HOB := Lib.hid (mqO_f (o := o) (x := x) (y := y) (X := X) (Y := Y) hlt)
          have hOn := fun w => l01OnChip_any (mvX o x y (X i) (Y i)) (mvY o x y (X i) (Y i)) w
          have HAA : Hid (∀ bq, onB (mvX o x y (X i) (Y i)) (mvY o x y (X i) (Y i)) = bq → bq = true → ∀ k, k < i + 1 → onB (mvX o x y (X k) (Y k)) (mvY o x y (X k) (Y k)) = true) := Lib.hid fun bq hq hq2 k hk => by
            by_cases e : k = i
            · rw [e, hq, hq2]
            · exact HA.out k (by omega)
          cases hob : onB (mvX o x y (X i) (Y i)) (mvY o x y (X i) (Y i))
          all_goals
            have HQB := Lib.hid hob
            rw [hob] at hOn
            generalize mvX o x y (X i) (Y i) = mx at *
            generalize mvY o x y (X i) (Y i) = my at *
            clear hob
          · go_wp2_with fail
            go_cut [8] (fun s8 wx => ∃ g : Nat, s8 = .pointer (some ⟨g, 0, none⟩) ∧ g < wx.heap.size ∧ w2.heap.size < g ∧ wx.cell? ⟨g, 0, none⟩ = some (.int .i64 mx) ∧ wx.cell? ⟨g, 1, none⟩ = some (.int .i64 my) ∧ Below wr.heap.size wr wx)
            case first =>
              go_region_with (go_at_call 50; refine (hL _).mono ?_; rintro e v1 ⟨rfl, bv1⟩; have hb1 : Below wr.heap.size wr v1 := (by (repeat (first | (with_reducible exact Below.refl _ _) | (with_reducible refine Ext.drewN ?_ _) | (with_reducible refine Below.drew ?_) | (with_reducible refine Ext.alloc ?_ _) | (with_reducible refine Ext.setCell ?_ (by simp; try omega) _) | (with_reducible refine Ext.trans ?_ (by assumption)) | (with_reducible assumption) | exact Below.refl _ _))); obtain ⟨sv1, zv1, cv1, fv1⟩ := bcell bv1; (try simp only [World.size_alloc, World.size_setCell, World.size_drew] at sv1))
              all_goals
                have hs1 := bv1.size
                simp only [World.size_alloc, World.size_drew] at hs1
                go_wp2_with fail
                go_meet
                refine ⟨_, rfl, ?_, ?_, ?_, ?_, ?_⟩
                · simp <;> omega
                · omega
                · first | (simp [go_sem]; done) | (rw [World.cell?_setCell_other _ _ _ _ (by simp)]; exact World.cell?_setCell_same _ _ _ (u := .int .i64 0) (by rw [cv1 wr.heap.size 0 (by simp)]; simp [go_sem])) | trace_state
                · first | (simp [go_sem]; done) | (exact World.cell?_setCell_same _ _ _ (u := .int .i64 0) (by rw [World.cell?_setCell_other _ _ _ _ (by simp), cv1 wr.heap.size 1 (by simp)]; simp [go_sem])) | trace_state
                · (repeat (first | (with_reducible exact Below.refl _ _) | (with_reducible refine Ext.drewN ?_ _) | (with_reducible refine Below.drew ?_) | (with_reducible refine Ext.alloc ?_ _) | (with_reducible refine Ext.setCell ?_ (by simp; try omega) _) | (with_reducible refine Ext.trans ?_ (by assumption)) | (with_reducible assumption) | exact Below.refl _ _))
            case rest =>
              rename World => V
              obtain ⟨g, rfl, hgV, hgw, p0, p1, bV⟩ := hcut
              have s0 := keepC bV r0
              go_wp2_with (go_at_call 51; refine (hOn _).mono ?_; rintro e v2 ⟨rfl, bv2⟩)
              have hb : mqB o x y X Y n = false := by rw [HBO.out]; exact HOB.out HQB.out
              exact bodyPost_ret (v := .tuple #[.slice none 0 0, .bool false]) (by simp [results, Tryd.results11, go_sem]) rfl ⟨by rw [mqN_f hb, hb]; exact ⟨none, 0, rfl, fun i hi => absurd hi (Nat.not_lt_zero _)⟩, Ext.trans (Ext.trans hW bV) bv2⟩
          · go_wp2_with fail
            go_cut [8] (fun s8 wx => ∃ g : Nat, s8 = .pointer (some ⟨g, 0, none⟩) ∧ g < wx.heap.size ∧ w2.heap.size < g ∧ wx.cell? ⟨g, 0, none⟩ = some (.int .i64 mx) ∧ wx.cell? ⟨g, 1, none⟩ = some (.int .i64 my) ∧ Below wr.heap.size wr wx)
            case first =>
              go_region_with (go_at_call 50; refine (hL _).mono ?_; rintro e v1 ⟨rfl, bv1⟩; have hb1 : Below wr.heap.size wr v1 := (by (repeat (first | (with_reducible exact Below.refl _ _) | (with_reducible refine Ext.drewN ?_ _) | (with_reducible refine Below.drew ?_) | (with_reducible refine Ext.alloc ?_ _) | (with_reducible refine Ext.setCell ?_ (by simp; try omega) _) | (with_reducible refine Ext.trans ?_ (by assumption)) | (with_reducible assumption) | exact Below.refl _ _))); obtain ⟨sv1, zv1, cv1, fv1⟩ := bcell bv1; (try simp only [World.size_alloc, World.size_setCell, World.size_drew] at sv1))
              all_goals
                have hs1 := bv1.size
                simp only [World.size_alloc, World.size_drew] at hs1
                go_wp2_with fail
                go_meet
                refine ⟨_, rfl, ?_, ?_, ?_, ?_, ?_⟩
                · simp <;> omega
                · omega
                · first | (simp [go_sem]; done) | (rw [World.cell?_setCell_other _ _ _ _ (by simp)]; exact World.cell?_setCell_same _ _ _ (u := .int .i64 0) (by rw [cv1 wr.heap.size 0 (by simp)]; simp [go_sem])) | trace_state
                · first | (simp [go_sem]; done) | (exact World.cell?_setCell_same _ _ _ (u := .int .i64 0) (by rw [World.cell?_setCell_other _ _ _ _ (by simp), cv1 wr.heap.size 1 (by simp)]; simp [go_sem])) | trace_state
                · (repeat (first | (with_reducible exact Below.refl _ _) | (with_reducible refine Ext.drewN ?_ _) | (with_reducible refine Below.drew ?_) | (with_reducible refine Ext.alloc ?_ _) | (with_reducible refine Ext.setCell ?_ (by simp; try omega) _) | (with_reducible refine Ext.trans ?_ (by assumption)) | (with_reducible assumption) | exact Below.refl _ _))
            case rest =>
              rename World => V
              obtain ⟨g, rfl, hgV, hgw, p0, p1, bV⟩ := hcut
              have s0 := keepC bV r0
              have hOwn : Hid (V.ownsRow w2.heap.size 66 2 (.slice (some ⟨h, 0, none⟩) i c') i (mqC o x y X Y i)) := Lib.hid (own_keep HO.out bV)
              by_cases h4 : o < 4
              · have h4' : ¬ (4 : Int) ≤ o := by omega
                go_wp2_with (first | (go_at_call 51; refine (hOn _).mono ?_; rintro e v2 ⟨rfl, bv2⟩; have bV2 := (Ext.trans bV bv2); have u0 := keepC bv2 s0; have u1 := keepC bv2 p0; have u2 := keepC bv2 p1; have hO2 := Lib.hid (own_keep hOwn.out bv2); have hlv2 : w2.heap.size ≤ v2.heap.size := (by have := bV2.size; omega)) | (at_builtin; refine wpList_append_own_at _ rfl _ _ 26 rfl w2.heap.size 66 i0 _ 2 16 Tryd.underlying26 hin hz0 hz1 hz2 rfl (by decide) _ _ _ rfl (hO2.out.alloc _) ⟨v2.heap.size, 0, none⟩ 1 1 [.int .i64 mx, .int .i64 my] rfl rfl (q8news mx my) (q8ints mx my) (by unfold maxLen; omega) (by omega) (by simp; omega) ?_; intro v' wn hown' hgrow _ hat))
                rw [HLO.out h4] at hown'
                obtain ⟨gg, cc, rfl⟩ := own_someP hown' (by omega)
                have hWq : Below w.heap.size w (v2.alloc (.cells #[.int .i64 mx, .int .i64 my] 66)) := (hW.trans (bV2.mono hW.size)).alloc (by omega) _
                have hWq2 : Below w2.heap.size w2 (v2.alloc (.cells #[.int .i64 mx, .int .i64 my] 66)) := (hW2.trans (bV2.mono (by omega))).alloc (by omega) _
                have hgs := hgrow.size
                simp only [World.size_alloc] at hgs
                have hW4 : Below w.heap.size w wn := Below.grown hWq hgrow (by simp; omega) (fun k hk => by have := (HO.out.lt k hk).1; omega)
                have hW24 : Below w2.heap.size w2 wn := Below.grown hWq2 hgrow (by simp; omega) (fun k hk => by have := (HO.out.lt k hk).1; omega)
                have HO6 := Lib.hid hown'
                clear hown' hgrow hat
                go_wp2_with fail
                go_roundw
                case rel => exact ⟨i + 1, gg, cc, by omega, by go_num, rfl, HO6, hW4, hW24, by omega, Lib.hid (HAA.out true HQB.out rfl)⟩
                case measure => simp [intOf]; omega
              · have h4' : (4 : Int) ≤ o := by omega
                go_wp2_with (first | (go_at_call 51; refine (hOn _).mono ?_; rintro e v2 ⟨rfl, bv2⟩; have bV2 := (Ext.trans bV bv2); have u0 := keepC bv2 s0; have u1 := keepC bv2 p0; have u2 := keepC bv2 p1; have hO2 := Lib.hid (own_keep hOwn.out bv2); have hlv2 : w2.heap.size ≤ v2.heap.size := (by have := bV2.size; omega)) | (at_builtin; refine wpList_append_own_at _ rfl _ _ 26 rfl w2.heap.size 66 i0 _ 2 16 Tryd.underlying26 hin hz0 hz1 hz2 rfl (by decide) _ _ _ rfl (own_lowP (own_one v2 mx my) hlv2) ⟨h, 0, none⟩ i c' (mqC o x y X Y i) rfl (mqC_len o x y X Y i) (own_news (hO2.out.alloc _)) (mqC_one o x y X Y i) (by unfold maxLen; omega) (by omega) (by simp; omega) ?_; intro v' wn hown' hgrow _ hat))
                have hh4 := HHI.out
                have hown' : wn.ownsRow w2.heap.size 66 2 v' (i + 1) (mqC o x y X Y (i + 1)) := by
                  rw [← hh4 (by omega), Nat.add_comm i 1]
                  exact hown'
                obtain ⟨gg, cc, rfl⟩ := own_someP hown' (by omega)
                have hWq : Below w.heap.size w (v2.alloc (.cells #[.int .i64 mx, .int .i64 my] 66)) := (hW.trans (bV2.mono hW.size)).alloc (by omega) _
                have hWq2 : Below w2.heap.size w2 (v2.alloc (.cells #[.int .i64 mx, .int .i64 my] 66)) := (hW2.trans (bV2.mono (by omega))).alloc (by omega) _
                have hgs := hgrow.size
                simp only [World.size_alloc] at hgs
                have hW4 : Below w.heap.size w wn := Below.grown hWq hgrow (by simp; omega) (fun k hk => by have := ((own_one v2 mx my).lt k hk).1; omega)
                have hW24 : Below w2.heap.size w2 wn := Below.grown hWq2 hgrow (by simp; omega) (fun k hk => by have := ((own_one v2 mx my).lt k hk).1; omega)
                have HO6 := Lib.hid hown'
                clear hown' hgrow hat
                go_wp2_with fail
                go_roundw
                case rel => exact ⟨i + 1, gg, cc, by omega, by go_num, rfl, HO6, hW4, hW24, by omega, Lib.hid (HAA.out true HQB.out rfl)⟩
                case measure => simp [intOf]; omega
        · have q1 : ¬ (i : Int) < (n : Int) := by omega
          obtain rfl : i = n := by omega
          have hb : mqB o x y X Y i = true := by rw [HBO.out]; exact mqO_t HA.out
          have HB := Lib.hid hb
          have hpts := Lib.hid (mqC_pts HO.out)
          clear hb
          go_wp2_with fail
          exact bodyPost_ret (v := .tuple #[.slice (some ⟨h, 0, none⟩) i c', .bool true]) (by simp [results, Tryd.results11, go_sem]) rfl ⟨by rw [mqN_t HB.out, HB.out]; exact ⟨_, _, rfl, hpts.out⟩, hW⟩
end Go.Proofs.YtfbalpkjcfdakaaDoor
