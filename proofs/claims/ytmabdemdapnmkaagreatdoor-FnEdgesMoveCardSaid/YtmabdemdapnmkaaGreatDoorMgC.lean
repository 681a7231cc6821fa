/- The program's MoveRegion, with its result's capacity. Conditions: the elements' cells are in memory; the tables are in memory. -/
import Derived.Test.YtmabdemdapnmkaaGreatDoorQS
import Derived.Test.YtmabdemdapnmkaaGreatDoorDrK
namespace Go.Proofs.YtmabdemdapnmkaaGreatDoor
open Go.RowKit Go.Shelf
set_option linter.unusedVariables false
set_option linter.unusedSimpArgs false

set_option maxRecDepth 100000 in
set_option maxHeartbeats 1000000 in
theorem moveRegionC_any (o x y : Int) (m : Option Addr) (n cap : Nat) (P Q R S : Nat → Int) (w : World) (hn : n ≤ 1048576) (hcap : n ≤ cap) (hD : EnvW w) (hM : Mats w) (hR : RectsIs w.heap.size w m n P Q R S) :
    Calls Tryz.prog 90 #[.agg #[.int .i64 o, .int .i64 x, .int .i64 y], .slice m n cap] w fun e w' => LOwn2C w.heap.size (mgL o x y P Q R S n) (mgB o x y P Q R S n) e w' ∧ Below w.heap.size w w' := by
  obtain ⟨i0, hi, hz0, hz1, hz2⟩ := info_parts Tryz.infoR
  have hms := hM.size
  have hmz := hM.ne
  cases hv : vldB o x y with
  | false =>
    have e0 : mgL o x y P Q R S n = [] ∧ mgB o x y P Q R S n = false := by
      have e : mgB o x y P Q R S n = false := by unfold mgB; rw [hv]; rfl
      exact ⟨by unfold mgL; rw [e]; rfl, e⟩
    rw [e0.1, e0.2]
    clear e0
    go_enter Tryz.func90, Tryz.ntmps90
    go_wp2_with fail
    go_call (implValid_any) as e w1 ⟨rfl, bw1⟩
    obtain ⟨sw1, zw1, cw1, fw1⟩ := bcell bw1
    try simp only [World.size_alloc, World.size_setCell, World.size_drew] at sw1
    try have lw1_w_0 : w.heap.size < w1.heap.size := by omega
    try have lw1_w_1 : w.heap.size + 1 < w1.heap.size := by omega
    try have lw1_w_2 : w.heap.size + 1 + 1 < w1.heap.size := by omega
    try have lw1_w_3 : w.heap.size + 1 + 1 + 1 < w1.heap.size := by omega
    try have lw1_w_4 : w.heap.size + 1 + 1 + 1 + 1 < w1.heap.size := by omega
    try have lw1_w_5 : w.heap.size + 1 + 1 + 1 + 1 + 1 < w1.heap.size := by omega
    try have lw1_w_6 : w.heap.size + 1 + 1 + 1 + 1 + 1 + 1 < w1.heap.size := by omega
    rw [hv]
    go_wp2_with fail
    exact bodyPost_ret (v := .tuple #[.slice none 0 0, .bool false]) (by simp [*, results, Tryz.results90, go_sem]) rfl ⟨⟨none, 0, rfl, Nat.le_refl _, .inl rfl⟩, by (repeat (first | (with_reducible exact Below.refl _ _) | (with_reducible refine Ext.drewN ?_ _) | (with_reducible refine Below.drew ?_) | (with_reducible refine Ext.alloc ?_ _) | (with_reducible refine Ext.setCell ?_ (by simp; try omega) _) | (with_reducible refine Ext.trans ?_ (by assumption)) | (with_reducible assumption) | exact Below.refl _ _))⟩
  | true =>
    cases hok : okR P Q R S n with
    | false =>
      have e0 : mgL o x y P Q R S n = [] ∧ mgB o x y P Q R S n = false := by
        have e : mgB o x y P Q R S n = false := by unfold mgB; rw [hok, Bool.false_and, Bool.and_false]
        exact ⟨by unfold mgL; rw [e]; rfl, e⟩
      rw [e0.1, e0.2]
      clear e0
      go_enter Tryz.func90, Tryz.ntmps90
      go_wp2_with fail
      go_call (implValid_any) as e w1 ⟨rfl, bw1⟩
      obtain ⟨sw1, zw1, cw1, fw1⟩ := bcell bw1
      try simp only [World.size_alloc, World.size_setCell, World.size_drew] at sw1
      try have lw1_w_0 : w.heap.size < w1.heap.size := by omega
      try have lw1_w_1 : w.heap.size + 1 < w1.heap.size := by omega
      try have lw1_w_2 : w.heap.size + 1 + 1 < w1.heap.size := by omega
      try have lw1_w_3 : w.heap.size + 1 + 1 + 1 < w1.heap.size := by omega
      try have lw1_w_4 : w.heap.size + 1 + 1 + 1 + 1 < w1.heap.size := by omega
      try have lw1_w_5 : w.heap.size + 1 + 1 + 1 + 1 + 1 < w1.heap.size := by omega
      try have lw1_w_6 : w.heap.size + 1 + 1 + 1 + 1 + 1 + 1 < w1.heap.size := by omega
      rw [hv]
      go_wp2_with fail
      go_call (isRegion_any m n cap P Q R S _ hn hcap (hD.ext (by (repeat (first | (with_reducible exact Below.refl _ _) | (with_reducible refine Ext.drewN ?_ _) | (with_reducible refine Below.drew ?_) | (with_reducible refine Ext.alloc ?_ _) | (with_reducible refine Ext.setCell ?_ (by simp; try omega) _) | (with_reducible refine Ext.trans ?_ (by assumption)) | (with_reducible assumption) | exact Below.refl _ _)))) (hR.ext (by (repeat (first | (with_reducible exact Below.refl _ _) | (with_reducible refine Ext.drewN ?_ _) | (with_reducible refine Below.drew ?_) | (with_reducible refine Ext.alloc ?_ _) | (with_reducible refine Ext.setCell ?_ (by simp; try omega) _) | (with_reducible refine Ext.trans ?_ (by assumption)) | (with_reducible assumption) | exact Below.refl _ _))))) as e w2 ⟨rfl, bw2⟩
      obtain ⟨sw2, zw2, cw2, fw2⟩ := bcell bw2
      try simp only [World.size_alloc, World.size_setCell, World.size_drew] at sw2
      try have lw2_w_0 : w.heap.size < w2.heap.size := by omega
      try have lw2_w_1 : w.heap.size + 1 < w2.heap.size := by omega
      try have lw2_w_2 : w.heap.size + 1 + 1 < w2.heap.size := by omega
      try have lw2_w_3 : w.heap.size + 1 + 1 + 1 < w2.heap.size := by omega
      try have lw2_w_4 : w.heap.size + 1 + 1 + 1 + 1 < w2.heap.size := by omega
      try have lw2_w_5 : w.heap.size + 1 + 1 + 1 + 1 + 1 < w2.heap.size := by omega
      try have lw2_w_6 : w.heap.size + 1 + 1 + 1 + 1 + 1 + 1 < w2.heap.size := by omega
      try have lw2_w1_0 : w1.heap.size < w2.heap.size := by omega
      try have lw2_w1_1 : w1.heap.size + 1 < w2.heap.size := by omega
      try have lw2_w1_2 : w1.heap.size + 1 + 1 < w2.heap.size := by omega
      try have lw2_w1_3 : w1.heap.size + 1 + 1 + 1 < w2.heap.size := by omega
      try have lw2_w1_4 : w1.heap.size + 1 + 1 + 1 + 1 < w2.heap.size := by omega
      try have lw2_w1_5 : w1.heap.size + 1 + 1 + 1 + 1 + 1 < w2.heap.size := by omega
      try have lw2_w1_6 : w1.heap.size + 1 + 1 + 1 + 1 + 1 + 1 < w2.heap.size := by omega
      rw [hok]
      go_wp2_with fail
      exact bodyPost_ret (v := .tuple #[.slice none 0 0, .bool false]) (by simp [*, results, Tryz.results90, go_sem]) rfl ⟨⟨none, 0, rfl, Nat.le_refl _, .inl rfl⟩, by (repeat (first | (with_reducible exact Below.refl _ _) | (with_reducible refine Ext.drewN ?_ _) | (with_reducible refine Below.drew ?_) | (with_reducible refine Ext.alloc ?_ _) | (with_reducible refine Ext.setCell ?_ (by simp; try omega) _) | (with_reducible refine Ext.trans ?_ (by assumption)) | (with_reducible assumption) | exact Below.refl _ _))⟩
    | true =>
      have hlen : n ≤ 3200 := okR_len hok
      have HALL := Lib.hid (okR_all hok)
      have HV := Lib.hid hv
      have HMG := Lib.hid fun b => mgL_of (o := o) (x := x) (y := y) (P := P) (Q := Q) (R := R) (S := S) (n := n) (b := b) hv hok
      go_enter Tryz.func90, Tryz.ntmps90
      go_wp2_with fail
      go_call (implValid_any) as e w1 ⟨rfl, bw1⟩
      obtain ⟨sw1, zw1, cw1, fw1⟩ := bcell bw1
      try simp only [World.size_alloc, World.size_setCell, World.size_drew] at sw1
      try have lw1_w_0 : w.heap.size < w1.heap.size := by omega
      try have lw1_w_1 : w.heap.size + 1 < w1.heap.size := by omega
      try have lw1_w_2 : w.heap.size + 1 + 1 < w1.heap.size := by omega
      try have lw1_w_3 : w.heap.size + 1 + 1 + 1 < w1.heap.size := by omega
      try have lw1_w_4 : w.heap.size + 1 + 1 + 1 + 1 < w1.heap.size := by omega
      try have lw1_w_5 : w.heap.size + 1 + 1 + 1 + 1 + 1 < w1.heap.size := by omega
      try have lw1_w_6 : w.heap.size + 1 + 1 + 1 + 1 + 1 + 1 < w1.heap.size := by omega
      rw [hv]
      go_wp2_with fail
      go_call (isRegion_any m n cap P Q R S _ hn hcap (hD.ext (by (repeat (first | (with_reducible exact Below.refl _ _) | (with_reducible refine Ext.drewN ?_ _) | (with_reducible refine Below.drew ?_) | (with_reducible refine Ext.alloc ?_ _) | (with_reducible refine Ext.setCell ?_ (by simp; try omega) _) | (with_reducible refine Ext.trans ?_ (by assumption)) | (with_reducible assumption) | exact Below.refl _ _)))) (hR.ext (by (repeat (first | (with_reducible exact Below.refl _ _) | (with_reducible refine Ext.drewN ?_ _) | (with_reducible refine Below.drew ?_) | (with_reducible refine Ext.alloc ?_ _) | (with_reducible refine Ext.setCell ?_ (by simp; try omega) _) | (with_reducible refine Ext.trans ?_ (by assumption)) | (with_reducible assumption) | exact Below.refl _ _))))) as e w2 ⟨rfl, bw2⟩
      obtain ⟨sw2, zw2, cw2, fw2⟩ := bcell bw2
      try simp only [World.size_alloc, World.size_setCell, World.size_drew] at sw2
      try have lw2_w_0 : w.heap.size < w2.heap.size := by omega
      try have lw2_w_1 : w.heap.size + 1 < w2.heap.size := by omega
      try have lw2_w_2 : w.heap.size + 1 + 1 < w2.heap.size := by omega
      try have lw2_w_3 : w.heap.size + 1 + 1 + 1 < w2.heap.size := by omega
      try have lw2_w_4 : w.heap.size + 1 + 1 + 1 + 1 < w2.heap.size := by omega
      try have lw2_w_5 : w.heap.size + 1 + 1 + 1 + 1 + 1 < w2.heap.size := by omega
      try have lw2_w_6 : w.heap.size + 1 + 1 + 1 + 1 + 1 + 1 < w2.heap.size := by omega
      try have lw2_w1_0 : w1.heap.size < w2.heap.size := by omega
      try have lw2_w1_1 : w1.heap.size + 1 < w2.heap.size := by omega
      try have lw2_w1_2 : w1.heap.size + 1 + 1 < w2.heap.size := by omega
      try have lw2_w1_3 : w1.heap.size + 1 + 1 + 1 < w2.heap.size := by omega
      try have lw2_w1_4 : w1.heap.size + 1 + 1 + 1 + 1 < w2.heap.size := by omega
      try have lw2_w1_5 : w1.heap.size + 1 + 1 + 1 + 1 + 1 < w2.heap.size := by omega
      try have lw2_w1_6 : w1.heap.size + 1 + 1 + 1 + 1 + 1 + 1 < w2.heap.size := by omega
      rw [hok]
      go_wp2_with fail
      have BX0 : Hid (BoxT w2 w.heap.size o x y) := Lib.hid ⟨keepC bw2 (keepC bw1 (by simp [go_sem])), keepC bw2 (keepC bw1 (by simp [go_sem])), keepC bw2 (keepC bw1 (by simp [go_sem]))⟩
      have B2 : Below w.heap.size w w2 := by (repeat (first | (with_reducible exact Below.refl _ _) | (with_reducible refine Ext.drewN ?_ _) | (with_reducible refine Below.drew ?_) | (with_reducible refine Ext.alloc ?_ _) | (with_reducible refine Ext.setCell ?_ (by simp; try omega) _) | (with_reducible refine Ext.trans ?_ (by assumption)) | (with_reducible assumption) | exact Below.refl _ _))
      have l2 : w.heap.size < w2.heap.size := by have h8 := bw1.size; have h9 := bw2.size; simp at h8; omega
      clear bw1 bw2 zw1 cw1 fw1 zw2 cw2 fw2
      go_loopw [6, 21] (fun v s9 wr => ∃ i : Nat, i ≤ n ∧ s9 = .int .i64 (i : Nat) ∧ Hid (wr.ownsRow (w.heap.size + 1) 82 4 v (imL o x y P Q R S i).length (recCells (imL o x y P Q R S i))) ∧ Below w.heap.size w wr ∧ w.heap.size < wr.heap.size ∧ Hid (BoxT wr w.heap.size o x y) ∧ Hid (imV o x y P Q R S i = true)) (fun _ s9 _ => n - (intOf s9).toNat)
      case atStart => exact ⟨0, by omega, rfl, Lib.hid (World.ownsRow_nil _ _ _ _), B2, l2, BX0, Lib.hid rfl⟩
      case round =>
        obtain ⟨i, hil, rfl, HO, hW, hsz, HBX, HA⟩ := hrel
        rename_i v5 _
        by_cases hlt : i < n
        · obtain ⟨b1, o1, rfl, hb1, c0, c1, c2, c3⟩ := hR.below hW i hlt
          have q1 : ((i : Nat) : Int) < (n : Int) := by omega
          have q0 : (0 : Int) ≤ ((i : Nat) : Int) := by omega
          obtain ⟨x0, x1, x2⟩ := HBX.out
          have hll := imL_len o x y P Q R S i
          cases hvm : rvB (mr0 o x y (P i) (Q i) (R i) (S i)) (mr1 o x y (P i) (Q i) (R i) (S i)) (mr2 o x y (P i) (Q i) (R i) (S i)) (mr3 o x y (P i) (Q i) (R i) (S i)) with
          | false =>
            have HN := Lib.hid (HMG.out false (imV_f hlt hvm))
            have HIX := Lib.hid (mvV_at_no hvm)
            clear hvm
            go_wp2_with (first | (go_at_call 122; refine (implMoveRect_any _ _ _ _ _ _ _ _ (hD.chip.ext (by (repeat (first | (with_reducible exact Below.refl _ _) | (with_reducible refine Ext.drewN ?_ _) | (with_reducible refine Below.drew ?_) | (with_reducible refine Ext.alloc ?_ _) | (with_reducible refine Ext.setCell ?_ (by simp; try omega) _) | (with_reducible refine Ext.trans ?_ (by assumption)) | (with_reducible assumption) | exact Below.refl _ _)))) (hM.below (by (repeat (first | (with_reducible exact Below.refl _ _) | (with_reducible refine Ext.drewN ?_ _) | (with_reducible refine Below.drew ?_) | (with_reducible refine Ext.alloc ?_ _) | (with_reducible refine Ext.setCell ?_ (by simp; try omega) _) | (with_reducible refine Ext.trans ?_ (by assumption)) | (with_reducible assumption) | exact Below.refl _ _))) hms)).mono ?_; rintro e v1 ⟨rfl, bv1⟩; rw [HIX.out]))
            have bq : Below wr.heap.size wr v1 := by (repeat (first | (with_reducible exact Below.refl _ _) | (with_reducible refine Ext.drewN ?_ _) | (with_reducible refine Below.drew ?_) | (with_reducible refine Ext.alloc ?_ _) | (with_reducible refine Ext.setCell ?_ (by simp; try omega) _) | (with_reducible refine Ext.trans ?_ (by assumption)) | (with_reducible assumption) | exact Below.refl _ _))
            have bq2 := bq.alloc bq.size (.cells #[.int .i64 0, .int .i64 0, .int .i64 0, .int .i64 0] 82)
            exact bodyPost_ret (v := .tuple #[.slice none 0 0, .bool false]) (by simp [results, Tryz.results90, go_sem]) rfl ⟨⟨none, 0, by rw [HN.out.1, HN.out.2]; rfl, by rw [HN.out.2]; exact Nat.le_refl _, .inl (by rw [HN.out.2]; rfl)⟩, hW.trans (bq2.mono (by omega))⟩
          | true =>
            have HS := Lib.hid (imL_succ o x y P Q R S i)
            have HIX := Lib.hid (mvV_at_yes HV.out (HALL.out i hlt) hvm)
            have HA1 : Hid (imV o x y P Q R S (i + 1) = true) := Lib.hid (by unfold imV; rw [allV_succ]; exact Bool.and_eq_true_iff.2 ⟨HA.out, hvm⟩)
            clear hvm HA
            revert HS HIX
            generalize mr0 o x y (P i) (Q i) (R i) (S i) = v0
            generalize mr1 o x y (P i) (Q i) (R i) (S i) = v1
            generalize mr2 o x y (P i) (Q i) (R i) (S i) = v2
            generalize mr3 o x y (P i) (Q i) (R i) (S i) = v3
            intro HS HIX
            go_upto_region 10 with (first | (go_at_call 122; refine (implMoveRect_any _ _ _ _ _ _ _ _ (hD.chip.ext (by (repeat (first | (with_reducible exact Below.refl _ _) | (with_reducible refine Ext.drewN ?_ _) | (with_reducible refine Below.drew ?_) | (with_reducible refine Ext.alloc ?_ _) | (with_reducible refine Ext.setCell ?_ (by simp; try omega) _) | (with_reducible refine Ext.trans ?_ (by assumption)) | (with_reducible assumption) | exact Below.refl _ _)))) (hM.below (by (repeat (first | (with_reducible exact Below.refl _ _) | (with_reducible refine Ext.drewN ?_ _) | (with_reducible refine Below.drew ?_) | (with_reducible refine Ext.alloc ?_ _) | (with_reducible refine Ext.setCell ?_ (by simp; try omega) _) | (with_reducible refine Ext.trans ?_ (by assumption)) | (with_reducible assumption) | exact Below.refl _ _))) hms)).mono ?_; rintro e u1 ⟨rfl, bu1⟩; rw [HIX.out]))
            have bq : Below wr.heap.size wr u1 := by (repeat (first | (with_reducible exact Below.refl _ _) | (with_reducible refine Ext.drewN ?_ _) | (with_reducible refine Below.drew ?_) | (with_reducible refine Ext.alloc ?_ _) | (with_reducible refine Ext.setCell ?_ (by simp; try omega) _) | (with_reducible refine Ext.trans ?_ (by assumption)) | (with_reducible assumption) | exact Below.refl _ _))
            obtain ⟨wz, hwz⟩ : ∃ wz, wz = u1.alloc (.cells #[.int .i64 v0, .int .i64 v1, .int .i64 v2, .int .i64 v3] 82) := ⟨_, rfl⟩
            have bz : Below wr.heap.size wr wz := by rw [hwz]; exact bq.alloc bq.size _
            have m0 : wz.cell? ⟨u1.heap.size, 0, none⟩ = some (.int .i64 v0) := by rw [hwz]; simp [go_sem]
            have m1 : wz.cell? ⟨u1.heap.size, 1, none⟩ = some (.int .i64 v1) := by rw [hwz]; simp [go_sem]
            have m2 : wz.cell? ⟨u1.heap.size, 2, none⟩ = some (.int .i64 v2) := by rw [hwz]; simp [go_sem]
            have m3 : wz.cell? ⟨u1.heap.size, 3, none⟩ = some (.int .i64 v3) := by rw [hwz]; simp [go_sem]
            have O2 := Lib.hid (own_keep HO.out bz)
            have X2 := Lib.hid (HBX.out.keep bz hsz)
            have sz := bz.size
            rw [← hwz]
            clear hwz bq bu1 HO HBX x0 x1 x2 c0 c1 c2 c3
            go_wp2_with (at_builtin; refine wpList_append_own _ rfl _ _ 24 rfl (w.heap.size + 1) 82 i0 (.agg #[.int .i64 0, .int .i64 0, .int .i64 0, .int .i64 0]) 4 32 Tryz.underlying24 hi hz0 hz1 hz2 rfl (by decide) _ _ _ rfl (O2.out.alloc _) ⟨wz.heap.size, 0, none⟩ 1 1 [.int .i64 v0, .int .i64 v1, .int .i64 v2, .int .i64 v3] rfl rfl (World.news_of_block (cs := #[.int .i64 v0, .int .i64 v1, .int .i64 v2, .int .i64 v3]) (t := 82) (fr := (0, 0)) (heap_alloc_new wz _)) (by simp [Value.oneCell']) (by unfold maxLen; omega) (by omega) (by simp; omega) ?_; intro v' w4 hown4 hgrow hnil)
            have Bx : Below (w.heap.size + 1) wz w4 := ((Below.refl (w.heap.size + 1) wz).alloc (by omega) _).grown hgrow (by simp; omega) (fun k hk => (O2.out.lt k hk).1)
            have sx := Bx.size
            have O4 : Hid (w4.ownsRow (w.heap.size + 1) 82 4 v' (imL o x y P Q R S (i + 1)).length (recCells (imL o x y P Q R S (i + 1)))) := Lib.hid (by rw [HS.out, List.length_append, recCells_snoc]; exact hown4)
            clear hown4 hgrow hnil
            go_roundw
            case rel => exact ⟨i + 1, by omega, by go_num, O4, hW.trans ((bz.mono (by omega)).trans (Bx.mono (by omega))), by omega, Lib.hid (X2.out.keep Bx (by omega)), HA1⟩
            case measure => simp [intOf]; omega
        · have q1 : ¬ ((i : Nat) : Int) < (n : Int) := by omega
          obtain rfl : n = i := by omega
          have hl9 := imL_len o x y P Q R S n
          have HRO := ro_img hlen HA.out (HMG.out true HA.out)
          obtain ⟨l, hl⟩ : ∃ l, l = imL o x y P Q R S n := ⟨_, rfl⟩
          rw [← hl] at HO hl9 HRO
          have HRO := Lib.hid HRO
          obtain ⟨a9, c9, rfl, h9⟩ := ownsL_own HO.out
          have R9 := Lib.hid h9.rects
          have hc9 : Hid (l.length ≤ c9) := Lib.hid (own_cap' HO.out)
          have hl10 : l.length ≤ 1048576 := by omega
          clear h9 HO hl hl9
          go_wp2_with (first | (go_at_call 123; refine (regionOfC_any a9 l.length c9 (pA l) (pB l) (pC l) (pD l) _ hl10 hc9.out (hD.ext hW) R9.out).mono ?_; rintro e w5 ⟨⟨a5, c5, rfl, k5, h5⟩, bw5⟩; rw [HRO.out.1] at k5 h5 ⊢; rw [HRO.out.2]; have H5 := Lib.hid h5; clear h5))
          exact bodyPost_ret (v := .tuple #[.slice a5 (mgL o x y P Q R S n).length c5, .bool (mgB o x y P Q R S n)]) (by simp [results, Tryz.results90, go_sem]) rfl ⟨⟨a5, c5, rfl, k5, H5.out.mono hW.size⟩, Ext.trans hW bw5⟩
end Go.Proofs.YtmabdemdapnmkaaGreatDoor
