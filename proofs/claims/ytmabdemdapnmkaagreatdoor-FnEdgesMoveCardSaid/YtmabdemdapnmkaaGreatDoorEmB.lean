/- The model's MoveRegion, its list at the head of a block. Conditions: the rectangles' cells are in memory. -/
import Derived.Test.YtmabdemdapnmkaaGreatDoorQS
namespace Go.Proofs.YtmabdemdapnmkaaGreatDoor
open Go.RowKit
set_option linter.unusedVariables false
set_option linter.unusedSimpArgs false
attribute [local go_sem ↓] Go.wp_at_zero Go.wp_at_succ

/-- .. a list that lies at the head of a block, if there is one. -/
def HeadL (w : World) (a : Option Addr) (l : List R4) (b : Bool) : Prop := b = true → ∃ h, a = some ⟨h, 0, none⟩ ∧ RecIs 0 w h l
def LRes2S (l : List R4) (b : Bool) (e : Ending) (w : World) : Prop := ∃ a c, e = .returned (.tuple #[.slice a l.length c, .bool b]) ∧ HeadL w a l b
theorem mvd_noS {o x y : Int} {P Q R S : Nat → Int} {n : Nat} {e : Ending} {w : World} (h : imV o x y P Q R S n = false) (he : e = .returned (.tuple #[.slice none 0 0, .bool false])) : LRes2S (mvdL o x y P Q R S n) (imV o x y P Q R S n) e w := by
  have e0 : mvdL o x y P Q R S n = [] := by unfold mvdL; rw [if_neg (by simp [h])]
  rw [e0, h]
  exact ⟨none, 0, he, fun h => by cases h⟩
theorem mvd_yesS {o x y : Int} {P Q R S : Nat → Int} {n h c B : Nat} {e : Ending} {w : World} (hv : imV o x y P Q R S n = true) (hI : RecIs B w h (canonL (imF o x y P Q R S n))) (he : e = .returned (.tuple #[.slice (some ⟨h, 0, none⟩) (canonL (imF o x y P Q R S n)).length c, .bool true])) : LRes2S (mvdL o x y P Q R S n) (imV o x y P Q R S n) e w := by
  have e0 : mvdL o x y P Q R S n = canonL (imF o x y P Q R S n) := by unfold mvdL; rw [if_pos hv]
  rw [e0, hv]
  exact ⟨_, c, he, fun _ => ⟨h, rfl, Nat.zero_le _, hI.2.1, hI.2.2⟩⟩
theorem mg_noS {o x y : Int} {P Q R S : Nat → Int} {n : Nat} {e : Ending} {w : World} (h : mgB o x y P Q R S n = false) (he : e = .returned (.tuple #[.slice none 0 0, .bool false])) : LRes2S (mgL o x y P Q R S n) (mgB o x y P Q R S n) e w := by
  have e0 : mgL o x y P Q R S n = [] := by unfold mgL; rw [if_neg (by simp [h])]
  rw [e0, h]
  exact ⟨none, 0, he, fun h => by cases h⟩

set_option maxHeartbeats 16000000 in
set_option maxRecDepth 100000 in
theorem l03Moved_anyS (o x y : Int) (m : Option Addr) (len cap : Nat) (P Q R S : Nat → Int) (w : World) (hlen : len ≤ 4000) (hR : RectsIs w.heap.size w m len P Q R S) (hv : ∀ i, i < len → rvB (P i) (Q i) (R i) (S i) = true) (ht : vldB o x y = true) :
    Calls Tryz.prog 59 #[.agg #[.int .i64 o, .int .i64 x, .int .i64 y], .slice m len cap] w fun e w' => LRes2S (mvdL o x y P Q R S len) (imV o x y P Q R S len) e w' ∧ Below w.heap.size w w' := by
  obtain ⟨i0, hi, hz0, hz1, hz2⟩ := info_parts Tryz.infoR
  obtain ⟨⟨i1, i2⟩, ⟨i3, i4⟩, i5, i6⟩ := vldB_t ht
  have HR := Lib.hid hR
  have HV := Lib.hid hv
  clear hR hv
  go_enter Tryz.func59, Tryz.ntmps59
  go_wp2_with fail
  go_loopw [6, 7] (fun v s wr => ∃ (i h c' : Nat), i ≤ len ∧ s = .int .i64 i ∧ v = .slice (some ⟨h, 0, none⟩) i c' ∧ Hid (wr.ownsRow (w.heap.size + 1) 82 4 (.slice (some ⟨h, 0, none⟩) i c') i (recCells (imL o x y P Q R S i))) ∧ Below w.heap.size w wr ∧ w.heap.size + 1 ≤ wr.heap.size ∧ Hid (BoxT wr w.heap.size o x y) ∧ Hid (imV o x y P Q R S i = true)) (fun _ s _ => len - (intOf s).toNat)
  case atStart =>
    refine ⟨0, _, _, by omega, rfl, rfl, Lib.hid ?_, by (repeat (first | (with_reducible exact Below.refl _ _) | (with_reducible refine Ext.drewN ?_ _) | (with_reducible refine Below.drew ?_) | (with_reducible refine Ext.alloc ?_ _) | (with_reducible refine Ext.setCell ?_ (by simp; try omega) _) | (with_reducible refine Ext.trans ?_ (by assumption)) | (with_reducible assumption) | exact Below.refl _ _)), by simp, Lib.hid (by simp [BoxT, go_sem]), Lib.hid rfl⟩
    have hm := World.ownsRow_made (base := w.heap.size + 1) (size := 4) (e := 82) (w.alloc (.cells #[.int .i64 o, .int .i64 x, .int .i64 y] 38)) #[] 0 (by simp) (by unfold maxLen; decide) rfl
    rw [World.size_alloc] at hm
    exact hm
  case round =>
    obtain ⟨i, h, c', hil, rfl, rfl, hown, hW, hsz, HT, HA⟩ := hrel
    by_cases hlt : i < len
    · obtain ⟨b1, o1, rfl, hb1, c0, c1, c2, c3⟩ := HR.out i hlt
      obtain ⟨j1, j2, j3, j4, j5, j6⟩ := rvB_t (HV.out i hlt)
      have q1 : (i : Int) < (len : Int) := by omega
      have q2 : (0 : Int) ≤ (i : Int) := by omega
      have d0 := keepC hW c0
      have d1 := keepC hW c1
      have d2 := keepC hW c2
      have d3 := keepC hW c3
      obtain ⟨t0, t1, t2⟩ := HT.out
      clear c0 c1 c2 c3
      go_upto_region 5 with fail
      go_cut [8] (fun s8 wx => ∃ g : Nat, s8 = .pointer (some ⟨g, 0, none⟩) ∧ wr.heap.size ≤ g ∧ g < wx.heap.size ∧ wx.cell? ⟨g, 0, none⟩ = some (.int .i64 (mr0 o x y (P i) (Q i) (R i) (S i))) ∧ wx.cell? ⟨g, 1, none⟩ = some (.int .i64 (mr1 o x y (P i) (Q i) (R i) (S i))) ∧ wx.cell? ⟨g, 2, none⟩ = some (.int .i64 (mr2 o x y (P i) (Q i) (R i) (S i))) ∧ wx.cell? ⟨g, 3, none⟩ = some (.int .i64 (mr3 o x y (P i) (Q i) (R i) (S i))) ∧ Below wr.heap.size wr wx)
      case first =>
        go_region_held3 (fun w' => Below wr.heap.size wr w' ∧ wr.heap.size ≤ w'.heap.size ∧ w'.cell? ⟨w.heap.size, 0, none⟩ = some (.int .i64 o) ∧ w'.cell? ⟨w.heap.size, 1, none⟩ = some (.int .i64 x) ∧ w'.cell? ⟨w.heap.size, 2, none⟩ = some (.int .i64 y) ∧ w'.cell? ⟨b1, o1 + i * 4, none⟩ = some (.int .i64 (P i)) ∧ w'.cell? ⟨b1, o1 + i * 4 + 1, none⟩ = some (.int .i64 (Q i)) ∧ w'.cell? ⟨b1, o1 + i * 4 + 2, none⟩ = some (.int .i64 (R i)) ∧ w'.cell? ⟨b1, o1 + i * 4 + 3, none⟩ = some (.int .i64 (S i)))
          (first | ((try dsimp only); go_split_ands; (repeat' (with_reducible refine And.intro ?_ ?_)) <;> first | ((repeat (with_reducible refine keepS ?_ (by simp; try omega) _)); (first | (with_reducible assumption) | (with_reducible exact keepC (by assumption) (by assumption)) | (with_reducible exact keepA (by assumption) _) | (with_reducible exact keepR (by assumption) (by omega) _))) | ((try simp only [World.size_alloc, World.size_setCell, World.size_drew]); omega) | (refine Mats.below hM ?_ hM.size; (repeat (first | (with_reducible exact Below.refl _ _) | (with_reducible refine Ext.drewN ?_ _) | (with_reducible refine Below.drew ?_) | (with_reducible refine Ext.alloc ?_ _) | (with_reducible refine Ext.setCell ?_ (by simp; try omega) _) | (with_reducible refine Ext.trans ?_ (by assumption)) | (with_reducible assumption) | exact Below.refl _ _)); done) | ((repeat (first | (with_reducible exact Below.refl _ _) | (with_reducible refine Ext.drewN ?_ _) | (with_reducible refine Below.drew ?_) | (with_reducible refine Ext.alloc ?_ _) | (with_reducible refine Ext.setCell ?_ (by simp; try omega) _) | (with_reducible refine Ext.trans ?_ (by assumption)) | (with_reducible assumption) | exact Below.refl _ _)); done) | (go_keep; done)))
          ((go_at_call 104; refine (l02Move_any o x y (P i) (Q i) (R i) (S i) _ (by omega) (by omega) (by omega) (by omega) (by omega) (by omega) (by omega) (by omega) (by omega) (by omega) (by omega) (by omega) (by omega) (by omega)).mono ?_; rintro e v2 ⟨rfl, bv2⟩; obtain ⟨sv2, zv2, cv2, fv2⟩ := bcell bv2; (try simp only [World.size_alloc, World.size_setCell, World.size_drew] at sv2); have lv2 := bv2.size))
        all_goals
          go_wp2_with fail
          go_meet
          refine ⟨_, rfl, ?_, ?_, ?_, ?_, ?_, ?_, ?_⟩
          · (try simp only [World.size_alloc, World.size_setCell, World.size_drew]); omega
          · (try simp only [World.size_alloc, World.size_setCell, World.size_drew]); omega
          · first | (simp [go_sem]; done) | (refine (set4_0 (u0 := .int .i64 0) (u1 := .int .i64 0) (u2 := .int .i64 0) (u3 := .int .i64 0) ?_ ?_ ?_ ?_) <;> ((repeat (with_reducible refine keepC (by assumption) ?_)); simp [go_sem]))
          · first | (simp [go_sem]; done) | (refine (set4_1 (u0 := .int .i64 0) (u1 := .int .i64 0) (u2 := .int .i64 0) (u3 := .int .i64 0) ?_ ?_ ?_ ?_) <;> ((repeat (with_reducible refine keepC (by assumption) ?_)); simp [go_sem]))
          · first | (simp [go_sem]; done) | (refine (set4_2 (u0 := .int .i64 0) (u1 := .int .i64 0) (u2 := .int .i64 0) (u3 := .int .i64 0) ?_ ?_ ?_ ?_) <;> ((repeat (with_reducible refine keepC (by assumption) ?_)); simp [go_sem]))
          · first | (simp [go_sem]; done) | (refine (set4_3 (u0 := .int .i64 0) (u1 := .int .i64 0) (u2 := .int .i64 0) (u3 := .int .i64 0) ?_ ?_ ?_ ?_) <;> ((repeat (with_reducible refine keepC (by assumption) ?_)); simp [go_sem]))
          · (repeat (first | (with_reducible exact Below.refl _ _) | (with_reducible refine Ext.drewN ?_ _) | (with_reducible refine Below.drew ?_) | (with_reducible refine Ext.alloc ?_ _) | (with_reducible refine Ext.setCell ?_ (by simp; try omega) _) | (with_reducible refine Ext.trans ?_ (by assumption)) | (with_reducible assumption) | exact Below.refl _ _))
      case rest =>
        obtain ⟨g, rfl, hg0, hg1, m0, m1, m2, m3, bq⟩ := hcut
        have BW : Below w.heap.size w wc := Ext.trans hW bq
        have O1 := Lib.hid (own_keep hown.out bq)
        have T1 := Lib.hid (HT.out.keep bq (by omega))
        have szc : w.heap.size + 1 ≤ wc.heap.size := Nat.le_trans hsz bq.size
        clear hown HT d0 d1 d2 d3 t0 t1 t2
        cases hvm : rvB (mr0 o x y (P i) (Q i) (R i) (S i)) (mr1 o x y (P i) (Q i) (R i) (S i)) (mr2 o x y (P i) (Q i) (R i) (S i)) (mr3 o x y (P i) (Q i) (R i) (S i)) with
        | false =>
          have HN := Lib.hid (imV_f hlt hvm)
          go_wp2_with (go_at_call 105; refine (specValidRect_any _ _ _ _ _).mono ?_; rintro e w1 ⟨rfl, bw1⟩; rw [hvm])
          go_ret2
          exact ⟨mvd_noS HN.out rfl, by (repeat (first | (with_reducible exact Below.refl _ _) | (with_reducible refine Ext.drewN ?_ _) | (with_reducible refine Below.drew ?_) | (with_reducible refine Ext.alloc ?_ _) | (with_reducible refine Ext.setCell ?_ (by simp; try omega) _) | (with_reducible refine Ext.trans ?_ (by assumption)) | (with_reducible assumption) | exact Below.refl _ _))⟩
        | true =>
          have HY : Hid (imV o x y P Q R S (i + 1) = true) := Lib.hid (by unfold imV; rw [allV_succ]; exact Bool.and_eq_true_iff.2 ⟨HA.out, hvm⟩)
          have HVM := Lib.hid hvm
          have HS := Lib.hid (imL_succ o x y P Q R S i)
          generalize mr0 o x y (P i) (Q i) (R i) (S i) = v0 at m0 HS HVM ⊢
          generalize mr1 o x y (P i) (Q i) (R i) (S i) = v1 at m1 HS HVM ⊢
          generalize mr2 o x y (P i) (Q i) (R i) (S i) = v2 at m2 HS HVM ⊢
          generalize mr3 o x y (P i) (Q i) (R i) (S i) = v3 at m3 HS HVM ⊢
          clear hvm
          go_upto_region 8 with (go_at_call 105; refine (specValidRect_any _ _ _ _ _).mono ?_; rintro e w1 ⟨rfl, bw1⟩; rw [HVM.out])
          have n0 := keepC bw1 m0
          have n1 := keepC bw1 m1
          have n2 := keepC bw1 m2
          have n3 := keepC bw1 m3
          have O2 := Lib.hid (own_keep O1.out bw1)
          have T2 := Lib.hid (T1.out.keep bw1 (by omega))
          have B2 : Below w.heap.size w w1 := Ext.trans BW bw1
          have sz1 : w.heap.size + 1 ≤ w1.heap.size := Nat.le_trans szc bw1.size
          have OL := O2.out.lt
          clear O1 T1 m0 m1 m2 m3 HA
          go_wp2_with (at_builtin; refine wpList_append_own _ rfl _ _ 24 rfl (w.heap.size + 1) 82 i0 (.agg #[.int .i64 0, .int .i64 0, .int .i64 0, .int .i64 0]) 4 32 Tryz.underlying24 hi hz0 hz1 hz2 rfl (by decide) _ _ _ rfl (O2.out.alloc _) ⟨w1.heap.size, 0, none⟩ 1 1 [.int .i64 v0, .int .i64 v1, .int .i64 v2, .int .i64 v3] rfl rfl ?c1 ?c2 ?c3 ?c4 ?c5 ?_)
          case c1 =>
            intro j u hj
            match j, hj with
            | 0, hj => simp at hj; subst hj; rw [addG]; simp [go_sem]
            | 1, hj => simp at hj; subst hj; rw [addG]; simp [go_sem]
            | 2, hj => simp at hj; subst hj; rw [addG]; simp [go_sem]
            | 3, hj => simp at hj; subst hj; rw [addG]; simp [go_sem]
            | j + 4, hj => simp at hj
          case c2 =>
            intro u hu
            simp at hu
            rcases hu with rfl | rfl | rfl | rfl <;> rfl
          case c3 => unfold maxLen; omega
          case c4 => omega
          case c5 => (try simp only [World.size_alloc]); omega
          intro v' wn hown' hgrow _
          have BN : Below w.heap.size w wn := (B2.alloc B2.size _).grown hgrow (by have := B2.size; simp; omega) (fun j hj => by have := (OL j hj).1; omega)
          have hne : some w.heap.size ≠ (Value.slice (some ⟨h, 0, none⟩) i c').ownBlock := by
            intro e
            have := (OL w.heap.size e.symm).1
            omega
          have TA := T2.out.keep ((Below.refl w1.heap.size w1).alloc (Nat.le_refl _) (.cells #[.int .i64 v0, .int .i64 v1, .int .i64 v2, .int .i64 v3] 82)) (by omega)
          have TN : Hid (BoxT wn w.heap.size o x y) := Lib.hid ⟨hgrow.cell TA.1 hne, hgrow.cell TA.2.1 hne, hgrow.cell TA.2.2 hne⟩
          have hlen' : (imL o x y P Q R S i ++ [R4.mk v0 v1 v2 v3]).length = i + 1 := by rw [← HS.out, imL_len]
          obtain ⟨g', cc, rfl, hown3⟩ := rec_next (r := R4.mk v0 v1 v2 v3) (imL_len o x y P Q R S i).symm hown'
          rw [hlen', ← HS.out] at hown3
          rw [hlen']
          have ON := Lib.hid hown3
          have SN : w.heap.size + 1 ≤ wn.heap.size := by
            have := (hown3.lt g' rfl)
            omega
          clear hown' hgrow hown3 TA hlen' hne OL
          go_wp2_with fail
          go_roundw
          case rel => exact ⟨i + 1, g', cc, by omega, by go_num, rfl, ON, BN, SN, TN, HY⟩
          case measure => simp [intOf]; omega
    · obtain rfl : i = len := by omega
      have q1 : ¬ (i : Int) < (i : Int) := by omega
      have hrs := Lib.hid (RectsL.listR (rec_own hown.out).rects)
      have HALL : Hid (∀ j, j < i → rvB (imA o x y P Q R S j) (imB o x y P Q R S j) (imC o x y P Q R S j) (imD o x y P Q R S j) = true) := Lib.hid (fun j hj => allV_at HA.out hj)
      clear hown HT
      go_wp2_with (first | (go_at_call 56; refine (l03Bits_any _ i _ (imA o x y P Q R S) (imB o x y P Q R S) (imC o x y P Q R S) (imD o x y P Q R S) _ (by omega) hrs.out HALL.out).mono ?_; rintro e w2 ⟨⟨g, rfl, hg0, hg⟩, bw2⟩; have HG := Lib.hid hg; clear hg) | (go_at_call 71; refine (l03Canon_any g 6400 (imF o x y P Q R S i) _ HG.out).mono ?_; rintro e w3 ⟨⟨h3, c3, rfl, hI⟩, bw3⟩; have HI := Lib.hid hI; clear hI))
      go_ret2
      exact ⟨mvd_yesS HA.out HI.out rfl, Ext.trans (Ext.trans hW bw2) bw3⟩

set_option maxHeartbeats 8000000 in
theorem specMoveRegion_allS (o x y : Int) (m : Option Addr) (len cap : Nat) (P Q R S : Nat → Int) (w : World) (hlen : len ≤ 1048576) (hR : RectsIs w.heap.size w m len P Q R S) :
    Calls Tryz.prog 19 #[.agg #[.int .i64 o, .int .i64 x, .int .i64 y], .slice m len cap] w fun e w' => LRes2S (mgL o x y P Q R S len) (mgB o x y P Q R S len) e w' ∧ Below w.heap.size w w' := by
  have HR := Lib.hid hR
  clear hR
  cases h1 : vldB o x y with
  | false =>
    have HN := Lib.hid (show mgB o x y P Q R S len = false by unfold mgB; rw [h1]; rfl)
    go_enter Tryz.func19, Tryz.ntmps19
    go_wp2_with (go_at_call 58; refine (specValid_any _ _ _ _).mono ?_; rintro e w1 ⟨rfl, bw1⟩; rw [h1])
    go_ret2
    exact ⟨mg_noS HN.out rfl, by (repeat (first | (with_reducible exact Below.refl _ _) | (with_reducible refine Ext.drewN ?_ _) | (with_reducible refine Below.drew ?_) | (with_reducible refine Ext.alloc ?_ _) | (with_reducible refine Ext.setCell ?_ (by simp; try omega) _) | (with_reducible refine Ext.trans ?_ (by assumption)) | (with_reducible assumption) | exact Below.refl _ _))⟩
  | true =>
    cases hok : okR P Q R S len with
    | false =>
      have HN := Lib.hid (show mgB o x y P Q R S len = false by unfold mgB; rw [hok]; simp)
      go_enter Tryz.func19, Tryz.ntmps19
      go_wp2_with (first | (go_at_call 58; refine (specValid_any _ _ _ _).mono ?_; rintro e w1 ⟨rfl, bw1⟩; rw [h1]; have B1 : Below w.heap.size w w1 := (by (repeat (first | (with_reducible exact Below.refl _ _) | (with_reducible refine Ext.drewN ?_ _) | (with_reducible refine Below.drew ?_) | (with_reducible refine Ext.alloc ?_ _) | (with_reducible refine Ext.setCell ?_ (by simp; try omega) _) | (with_reducible refine Ext.trans ?_ (by assumption)) | (with_reducible assumption) | exact Below.refl _ _)))) | (go_at_call 42; refine (l03Ok_any m len cap P Q R S _ hlen (HR.out.ext B1)).mono ?_; rintro e w2 ⟨rfl, bw2⟩; rw [hok]))
      go_ret2
      exact ⟨mg_noS HN.out rfl, Ext.trans B1 bw2⟩
    | true =>
      have HALL := Lib.hid (okR_all hok)
      have hl := okR_len hok
      have hB : mgB o x y P Q R S len = imV o x y P Q R S len := by unfold mgB; rw [h1, hok]; rfl
      have hL : mgL o x y P Q R S len = mvdL o x y P Q R S len := by unfold mgL mvdL; rw [hB]
      rw [hB, hL]
      clear hB hL
      have H1 := Lib.hid h1
      obtain ⟨l, hl'⟩ : ∃ l, l = mvdL o x y P Q R S len := ⟨_, rfl⟩
      obtain ⟨b, hb'⟩ : ∃ b, b = imV o x y P Q R S len := ⟨_, rfl⟩
      rw [← hl', ← hb']
      have HL := Lib.hid hl'
      have HB := Lib.hid hb'
      clear hl' hb'
      go_enter Tryz.func19, Tryz.ntmps19
      go_wp2_with (first | (go_at_call 58; refine (specValid_any _ _ _ _).mono ?_; rintro e w1 ⟨rfl, bw1⟩; rw [h1]; have T1 : Hid (BoxT w1 w.heap.size o x y) := Lib.hid ⟨keepC bw1 (by simp [go_sem]), keepC bw1 (by simp [go_sem]), keepC bw1 (by simp [go_sem])⟩; have B1 : Below w.heap.size w w1 := (by (repeat (first | (with_reducible exact Below.refl _ _) | (with_reducible refine Ext.drewN ?_ _) | (with_reducible refine Below.drew ?_) | (with_reducible refine Ext.alloc ?_ _) | (with_reducible refine Ext.setCell ?_ (by simp; try omega) _) | (with_reducible refine Ext.trans ?_ (by assumption)) | (with_reducible assumption) | exact Below.refl _ _)))) | (go_at_call 42; refine (l03Ok_any m len cap P Q R S _ hlen (HR.out.ext B1)).mono ?_; rintro e w2 ⟨rfl, bw2⟩; rw [hok]; have B2 : Below w.heap.size w w2 := Ext.trans B1 bw2; have lw : w.heap.size < w1.heap.size := World.block_lt_of_cell? w1 ⟨w.heap.size, 0, none⟩ T1.out.1; obtain ⟨t0, t1, t2⟩ := T1.out.keep bw2 lw) | (go_at_call 59; refine (l03Moved_anyS o x y m len cap P Q R S _ (by omega) (HR.out.ext B2) HALL.out H1.out).mono ?_; rintro e w3 ⟨⟨a0, c0, rfl, R0⟩, bw3⟩; rw [← HL.out, ← HB.out]; rw [← HL.out] at R0; have R0 := Lib.hid R0))
      go_ret2
      exact ⟨⟨a0, c0, rfl, by have h := R0.out; rw [← HB.out] at h; exact h⟩, Ext.trans B2 bw3⟩

end Go.Proofs.YtmabdemdapnmkaaGreatDoor