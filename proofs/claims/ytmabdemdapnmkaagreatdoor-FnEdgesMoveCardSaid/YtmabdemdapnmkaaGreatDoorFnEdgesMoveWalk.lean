/- FnEdgesMove answers true. Conditions: the code's bytes are in memory; the variables that regions read hold their tables, and the matrices' variable its own. -/
import Derived.Test.YtmabdemdapnmkaaGreatDoorEmC
import Derived.Test.YtmabdemdapnmkaaGreatDoorEmD
import Derived.Test.YtmabdemdapnmkaaGreatDoorEgY
import Derived.Test.YtmabdemdapnmkaaGreatDoorDrH
namespace Go.Proofs.YtmabdemdapnmkaaGreatDoor
open Go.RowKit
set_option linter.unusedVariables false
set_option linter.unusedSimpArgs false
attribute [local go_sem ↓] Go.wp_at_zero Go.wp_at_succ

theorem mg_parts {o x y : Int} {P Q R S : Nat → Int} {n : Nat} (h : mgB o x y P Q R S n = true) : vldB o x y = true ∧ okR P Q R S n = true ∧ imV o x y P Q R S n = true := by
  unfold mgB at h
  simp only [Bool.and_eq_true] at h
  exact h
/-- The moved list: a region whose cells are the images. -/
theorem mg_moved {o x y : Int} {P Q R S : Nat → Int} {n : Nat} (h : mgB o x y P Q R S n = true) {l : List R4} (hl : l = mgL o x y P Q R S n) :
    okR (pA l) (pB l) (pC l) (pD l) l.length = true ∧ ∀ g, IsEdge (covF (pA l) (pB l) (pC l) (pD l) l.length) g ↔ ∃ e, IsEdge (covF P Q R S n) e ∧ g = meE o x y e := by
  obtain ⟨h1, h2, h3⟩ := mg_parts h
  obtain ⟨⟨h0, h7⟩, -, -⟩ := vldB_t h1
  have e : l = canonL (imF o x y P Q R S n) := hl.trans ((mgL_of h1 h2 h3).2.trans (if_pos rfl))
  subst e
  exact ⟨okR_canonL _, fun g => (IsEdge_congr (hasB_congr fun k hk => cov_canonL_all _ hk) g).trans (edges_im h0 h7 h2 h3 g)⟩

set_option maxRecDepth 100000 in
set_option maxHeartbeats 8000000 in
theorem walkEdgesMove (a : Option Addr) (len cap : Nat) (w : World) (hlen : len ≤ maxLen) (hC : CodeIs w.heap.size w a len) (hD : EnvW w) (hM : Mats w) :
    Calls Tryz.prog 4 #[.slice a len cap] w fun e w' => e = .returned (.bool true) ∧ Below w.heap.size w w' := by
  by_cases hbig : 4096 < len
  · have hb : decide (4096 < len) = true := decide_eq_true hbig
    go_enter Tryz.func4, Tryz.ntmps4
    go_wp2_with fail
    refine (lawBigB_any _ _ _ _).mono ?_
    rintro e w1 ⟨rfl, rfl⟩
    rw [hb]
    go_wp2_with fail
    go_ret
    exact ⟨rfl, Below.refl _ _⟩
  have hb : decide (4096 < len) = false := decide_eq_false hbig
  have HC := Lib.hid hC
  have hmz := hM.size
  clear hC
  have HMM := Lib.hid hM
  have HDD := Lib.hid hD
  clear hM hD
  go_enter Tryz.func4, Tryz.ntmps4
  go_wp2_with fail
  refine (lawBigB_any _ _ _ _).mono ?_
  rintro e w1 ⟨rfl, rfl⟩
  rw [hb]
  go_wp2_with fail
  refine (drawMoveRegion_any a len cap _ (by omega) HC.out).mono ?_
  rintro e w2 ⟨o, tx, ty, h1, c1, l1, ⟨ho, hx, hy⟩, rfl, n1, i1, Bc⟩
  have I1 := Lib.hid i1
  clear i1
  obtain ⟨wt, hwt⟩ : ∃ wt, wt = w2.alloc (.cells #[.int .i64 o, .int .i64 tx, .int .i64 ty] 38) := ⟨_, rfl⟩
  have bt : Below w2.heap.size w2 wt := by rw [hwt]; (repeat (first | (with_reducible exact Below.refl _ _) | (with_reducible refine Ext.drewN ?_ _) | (with_reducible refine Below.drew ?_) | (with_reducible refine Ext.alloc ?_ _) | (with_reducible refine Ext.setCell ?_ (by simp; try omega) _) | (with_reducible refine Ext.trans ?_ (by assumption)) | (with_reducible assumption) | exact Below.refl _ _))
  have st : wt.heap.size = w2.heap.size + 1 := by rw [hwt]; simp
  have yt : wt.heap[w2.heap.size]? = some (.cells #[.int .i64 o, .int .i64 tx, .int .i64 ty] 38 (0, 0)) := by rw [hwt]; exact heap_alloc_new _ _
  have hwB := Bc.size
  go_upto_region 4 with fail
  rw [← hwt]
  clear hwt
  have TB := Lib.hid (show BoxT' wt w2.heap.size o tx ty from yt)
  have I1 := Lib.hid (I1.out.ext bt)
  have Bc := Ext.trans Bc bt
  clear bt yt HC hb
  have tc0 := TB.out.cell0
  have tc1 := TB.out.cell1
  have tc2 := TB.out.cell2
  go_wp2_with fail
  refine (specMoveRegion_allS o tx ty (some ⟨h1, 0, none⟩) l1.length c1 (pA l1) (pB l1) (pC l1) (pD l1) _ (by omega) I1.out.rects).mono ?_
  rintro e ws1 ⟨⟨aX, cX, rfl, rX⟩, bs1⟩
  clear tc0 tc1 tc2
  have TB := Lib.hid (TB.out.ext bs1)
  have I1 := Lib.hid (I1.out.ext bs1)
  have Bc := Ext.trans Bc bs1
  have s1 := bs1.size
  clear bs1
  cases hv1 : mgB o tx ty (pA l1) (pB l1) (pC l1) (pD l1) l1.length with
  | false =>
    go_wp2_with fail
    go_ret
    exact ⟨rfl, Bc⟩
  | true =>
  obtain ⟨hX, rfl, rY⟩ := rX hv1
  obtain ⟨lX, hlX⟩ : ∃ l, l = mgL o tx ty (pA l1) (pB l1) (pC l1) (pD l1) l1.length := ⟨_, rfl⟩
  have hnX : lX.length ≤ 3280 := by rw [hlX]; exact mgL_len _ _ _ _ _ _ _ _
  rw [← hlX] at rY ⊢
  have RX := Lib.hid rY
  obtain ⟨hokX, hEX⟩ := mg_moved hv1 hlX
  obtain ⟨htv, hok1, -⟩ := mg_parts hv1
  have HEX := Lib.hid hEX
  have HOK := Lib.hid hok1
  have HOX := Lib.hid hokX
  have HTV := Lib.hid htv
  clear rX rY hlX hv1 hEX hok1 hokX htv
  have hbl1 := beL_len (pA l1) (pB l1) (pC l1) (pD l1) l1.length
  have hbl2 := beL_len (pA lX) (pB lX) (pC lX) (pD lX) lX.length
  have hi1 := fun m c w' hc hD' hM' hR' => implBoundaryEdges2_any m l1.length c (pA l1) (pB l1) (pC l1) (pD l1) w' (by omega) hc hD' hM' hR'
  have hi2 := fun m c w' hc hD' hM' hR' => implBoundaryEdges2_any m lX.length c (pA lX) (pB lX) (pC lX) (pD lX) w' (by omega) hc hD' hM' hR'
  have hsp := fun w' hR' => specBoundaryEdges_all (some ⟨h1, 0, none⟩) l1.length c1 (pA l1) (pB l1) (pC l1) (pD l1) w' (by omega) hR'
  obtain ⟨L1, hL1⟩ : ∃ L, L = beL (pA l1) (pB l1) (pC l1) (pD l1) l1.length := ⟨_, rfl⟩
  obtain ⟨L2, hL2⟩ : ∃ L, L = beL (pA lX) (pB lX) (pC lX) (pD lX) lX.length := ⟨_, rfl⟩
  rw [← hL1] at hbl1 hi1 hsp
  rw [← hL2] at hbl2 hi2
  have HI1 := Lib.hid hi1
  have HI2 := Lib.hid hi2
  have HSP := Lib.hid hsp
  clear hL1 hL2 hi1 hi2 hsp
  go_wp2_with fail
  refine (copyRects_any _ h1 c1 l1 _ (by omega) I1.out).mono ?_
  rintro e u1 ⟨g1, d1, rfl, hd1, k1, bu1⟩
  have K1 := Lib.hid k1
  have TB := Lib.hid (TB.out.ext bu1)
  have I1 := Lib.hid (I1.out.ext bu1)
  have RX := Lib.hid (RX.out.ext bu1)
  have Bc := Ext.trans Bc bu1
  clear k1 bu1
  go_wp2_with fail
  refine (HI1.out (some ⟨g1, 0, none⟩) d1 _ hd1 (HDD.out.ext Bc) (HMM.out.below Bc hmz) K1.out.rects).mono ?_
  rintro e u2 ⟨⟨a5, c5, rfl, o5⟩, hE1, bu2⟩
  have O5 := Lib.hid o5.rects
  have E1 := Lib.hid (hE1 HOK.out)
  have TB := Lib.hid (TB.out.ext bu2)
  have I1 := Lib.hid (I1.out.ext bu2)
  have RX := Lib.hid (RX.out.ext bu2)
  have Bc := Ext.trans Bc bu2
  clear K1 o5 hE1 bu2
  go_wp2_with fail
  refine (copyRects_any _ hX cX lX _ (by omega) RX.out).mono ?_
  rintro e u3 ⟨g3, d3, rfl, hd3, k3, bu3⟩
  have K3 := Lib.hid k3
  have TB := Lib.hid (TB.out.ext bu3)
  have I1 := Lib.hid (I1.out.ext bu3)
  have O5 := Lib.hid (O5.out.ext bu3)
  have Bc := Ext.trans Bc bu3
  clear k3 bu3 RX
  go_wp2_with fail
  refine (HI2.out (some ⟨g3, 0, none⟩) d3 _ hd3 (HDD.out.ext Bc) (HMM.out.below Bc hmz) K3.out.rects).mono ?_
  rintro e u4 ⟨⟨a6, c6, rfl, o6⟩, hE2, bu4⟩
  have O6 := Lib.hid o6.rects
  have E2 := Lib.hid (hE2 HOX.out)
  have TB := Lib.hid (TB.out.ext bu4)
  have I1 := Lib.hid (I1.out.ext bu4)
  have O5 := Lib.hid (O5.out.ext bu4)
  have Bc := Ext.trans Bc bu4
  clear K3 o6 hE2 bu4 HI1 HI2
  go_wp2_with fail
  have hsame := edges_same ho.1 ho.2 E1.out E2.out HEX.out
  have HSAME := Lib.hid hsame
  clear hsame
  have HB := Lib.hid Bc
  clear Bc
  go_loopw [9] (fun s9 wr => ∃ i : Nat, i ≤ L1.length ∧ s9 = .int .i64 (i : Nat) ∧ Hid (BoxT' wr w2.heap.size o tx ty) ∧ Hid (RecIs w.heap.size wr h1 l1) ∧ Hid (RectsIs wr.heap.size wr a5 L1.length (pA L1) (pB L1) (pC L1) (pD L1)) ∧ Hid (RectsIs wr.heap.size wr a6 L2.length (pA L2) (pB L2) (pC L2) (pD L2)) ∧ Hid (Below w.heap.size w wr)) (fun s9 _ => L1.length - (intOf s9).toNat)
  case atStart => exact ⟨0, by omega, rfl, TB, I1, O5, O6, HB⟩
  case round =>
    obtain ⟨i, hil, rfl, HT, HI, HA, HC, HW⟩ := hrel
    by_cases hlt : i < L1.length
    · have q1 : ((i : Nat) : Int) < (L1.length : Int) := by omega
      have q0 : (0 : Int) ≤ ((i : Nat) : Int) := by omega
      obtain ⟨e, he⟩ : ∃ e, e = L1.getD i default := ⟨_, rfl⟩
      have hmem : e ∈ L1 := by rw [he]; exact List.mem_of_getElem? (getD_get hlt)
      have hIs := (E1.out.2 e).1 hmem
      have hG := (HEX.out (meE o tx ty e)).2 ⟨e, hIs, rfl⟩
      have hm2 := (E2.out.2 _).2 hG
      have hMr : Mats wr := HMM.out.below HW.out hmz
      have hms := hMr.size
      have hme : ∀ W, Mats W → Calls Tryz.prog 20 #[.agg #[.int .i64 o, .int .i64 tx, .int .i64 ty], .agg #[.int .i64 e.a, .int .i64 e.b, .int .i64 e.c, .int .i64 e.d]] W fun r w' => r = .returned (.tuple #[.agg #[.int .i64 (meE o tx ty e).a, .int .i64 (meE o tx ty e).b, .int .i64 (meE o tx ty e).c, .int .i64 (meE o tx ty e).d], .bool true]) ∧ Below W.heap.size W w' := fun W hMW => by
        have h9 := implMoveEdge_out o tx ty e.a e.b e.c e.d W hMW
        rw [meV_edge HTV.out hIs hG] at h9
        exact h9
      obtain ⟨g, hg⟩ : ∃ g, g = meE o tx ty e := ⟨_, rfl⟩
      rw [← hg] at hm2 hme
      have hw6 := fun W (hR : RectsL W.heap.size W a6 L2) => w6Has_any a6 L2 c6 g W (by omega) hR hm2
      have t0 := HT.out.cell0
      have t1 := HT.out.cell1
      have t2 := HT.out.cell2
      obtain ⟨b1, o1, rfl, hb1, e0, e1, e2, e3⟩ := HA.out i hlt
      unfold pA at e0; unfold pB at e1; unfold pC at e2; unfold pD at e3
      rw [← he] at e0 e1 e2 e3
      have hx0 : ∀ w', Below wr.heap.size wr w' → w'.cell? ⟨w2.heap.size, 0, none⟩ = some (.int .i64 o) := fun w' h => (h.cell (p := ⟨w2.heap.size, 0, none⟩) (World.block_lt_of_cell? wr ⟨w2.heap.size, 0, none⟩ t0)).trans t0
      have hx1 : ∀ w', Below wr.heap.size wr w' → w'.cell? ⟨w2.heap.size, 1, none⟩ = some (.int .i64 tx) := fun w' h => (h.cell (p := ⟨w2.heap.size, 1, none⟩) (World.block_lt_of_cell? wr ⟨w2.heap.size, 1, none⟩ t1)).trans t1
      have hx2 : ∀ w', Below wr.heap.size wr w' → w'.cell? ⟨w2.heap.size, 2, none⟩ = some (.int .i64 ty) := fun w' h => (h.cell (p := ⟨w2.heap.size, 2, none⟩) (World.block_lt_of_cell? wr ⟨w2.heap.size, 2, none⟩ t2)).trans t2
      have hx3 : ∀ w', Below wr.heap.size wr w' → w'.cell? ⟨b1, o1 + i * 4, none⟩ = some (.int .i64 e.a) := fun w' h => (h.cell (p := ⟨b1, o1 + i * 4, none⟩) hb1).trans e0
      have hx4 : ∀ w', Below wr.heap.size wr w' → w'.cell? ⟨b1, o1 + i * 4 + 1, none⟩ = some (.int .i64 e.b) := fun w' h => (h.cell (p := ⟨b1, o1 + i * 4 + 1, none⟩) hb1).trans e1
      have hx5 : ∀ w', Below wr.heap.size wr w' → w'.cell? ⟨b1, o1 + i * 4 + 2, none⟩ = some (.int .i64 e.c) := fun w' h => (h.cell (p := ⟨b1, o1 + i * 4 + 2, none⟩) hb1).trans e2
      have hx6 : ∀ w', Below wr.heap.size wr w' → w'.cell? ⟨b1, o1 + i * 4 + 3, none⟩ = some (.int .i64 e.d) := fun w' h => (h.cell (p := ⟨b1, o1 + i * 4 + 3, none⟩) hb1).trans e3
      clear t0 t1 t2 e0 e1 e2 e3 hmem hIs hG he hg hm2 TB I1 O5 O6 HB
      go_wp2_with fail
      go_region_held3 (fun w' => Below wr.heap.size wr w')
        (((repeat (first | (with_reducible exact Below.refl _ _) | (with_reducible refine Ext.drewN ?_ _) | (with_reducible refine Below.drew ?_) | (with_reducible refine Ext.alloc ?_ _) | (with_reducible refine Ext.setCell ?_ (by simp; try omega) _) | (with_reducible refine Ext.trans ?_ (by assumption)) | (with_reducible assumption) | exact Below.refl _ _)); done))
        (first | (go_at_call 20; refine (hme _ (hMr.below (by (repeat (first | (with_reducible exact Below.refl _ _) | (with_reducible refine Ext.drewN ?_ _) | (with_reducible refine Below.drew ?_) | (with_reducible refine Ext.alloc ?_ _) | (with_reducible refine Ext.setCell ?_ (by simp; try omega) _) | (with_reducible refine Ext.trans ?_ (by assumption)) | (with_reducible assumption) | exact Below.refl _ _))) hms)).mono ?_; rintro r v1 ⟨rfl, bv1⟩; obtain ⟨sv1, zv1, cv1, fv1⟩ := bcell bv1; (try simp only [World.size_alloc, World.size_setCell, World.size_drew] at sv1)))
      all_goals
        go_split_ands
        go_wp2_with (first | (refine ⟨trivial, ?_⟩) | (go_at_call 21; refine (hw6 _ (HC.out.ext (by (repeat (first | (with_reducible exact Below.refl _ _) | (with_reducible refine Ext.drewN ?_ _) | (with_reducible refine Below.drew ?_) | (with_reducible refine Ext.alloc ?_ _) | (with_reducible refine Ext.setCell ?_ (by simp; try omega) _) | (with_reducible refine Ext.trans ?_ (by assumption)) | (with_reducible assumption) | exact Below.refl _ _))))).mono ?_; rintro r v2 ⟨rfl, bv2⟩))
        go_roundw
        case rel => exact ⟨i + 1, by omega, by go_num, Lib.hid (HT.out.ext (by (repeat (first | (with_reducible exact Below.refl _ _) | (with_reducible refine Ext.drewN ?_ _) | (with_reducible refine Below.drew ?_) | (with_reducible refine Ext.alloc ?_ _) | (with_reducible refine Ext.setCell ?_ (by simp; try omega) _) | (with_reducible refine Ext.trans ?_ (by assumption)) | (with_reducible assumption) | exact Below.refl _ _)))), Lib.hid (HI.out.ext (by (repeat (first | (with_reducible exact Below.refl _ _) | (with_reducible refine Ext.drewN ?_ _) | (with_reducible refine Below.drew ?_) | (with_reducible refine Ext.alloc ?_ _) | (with_reducible refine Ext.setCell ?_ (by simp; try omega) _) | (with_reducible refine Ext.trans ?_ (by assumption)) | (with_reducible assumption) | exact Below.refl _ _)))), Lib.hid (HA.out.ext (by (repeat (first | (with_reducible exact Below.refl _ _) | (with_reducible refine Ext.drewN ?_ _) | (with_reducible refine Below.drew ?_) | (with_reducible refine Ext.alloc ?_ _) | (with_reducible refine Ext.setCell ?_ (by simp; try omega) _) | (with_reducible refine Ext.trans ?_ (by assumption)) | (with_reducible assumption) | exact Below.refl _ _)))), Lib.hid (HC.out.ext (by (repeat (first | (with_reducible exact Below.refl _ _) | (with_reducible refine Ext.drewN ?_ _) | (with_reducible refine Below.drew ?_) | (with_reducible refine Ext.alloc ?_ _) | (with_reducible refine Ext.setCell ?_ (by simp; try omega) _) | (with_reducible refine Ext.trans ?_ (by assumption)) | (with_reducible assumption) | exact Below.refl _ _)))), Lib.hid (Ext.trans HW.out (by (repeat (first | (with_reducible exact Below.refl _ _) | (with_reducible refine Ext.drewN ?_ _) | (with_reducible refine Below.drew ?_) | (with_reducible refine Ext.alloc ?_ _) | (with_reducible refine Ext.setCell ?_ (by simp; try omega) _) | (with_reducible refine Ext.trans ?_ (by assumption)) | (with_reducible assumption) | exact Below.refl _ _))))⟩
        case measure => simp [intOf]; omega
    · have q1 : ¬ ((i : Nat) : Int) < (L1.length : Int) := by omega
      have hse := HSAME.out
      have q2 : ((L1.length : Int) == (L2.length : Int)) = true := by rw [hse]; simp
      have q3 : ((L1.length : Int) == (L1.length : Int)) = true := by simp
      clear hse
      go_wp2_with (first | (refine ⟨trivial, ?_⟩) | (go_at_call 22; refine (HSP.out _ (HI.out.rects.ext (by (repeat (first | (with_reducible exact Below.refl _ _) | (with_reducible refine Ext.drewN ?_ _) | (with_reducible refine Below.drew ?_) | (with_reducible refine Ext.alloc ?_ _) | (with_reducible refine Ext.setCell ?_ (by simp; try omega) _) | (with_reducible refine Ext.trans ?_ (by assumption)) | (with_reducible assumption) | exact Below.refl _ _))))).mono ?_; rintro r v3 ⟨⟨a8, c8, rfl, -⟩, bv3⟩))
      go_ret
      exact ⟨rfl, Ext.trans HW.out (by (repeat (first | (with_reducible exact Below.refl _ _) | (with_reducible refine Ext.drewN ?_ _) | (with_reducible refine Below.drew ?_) | (with_reducible refine Ext.alloc ?_ _) | (with_reducible refine Ext.setCell ?_ (by simp; try omega) _) | (with_reducible refine Ext.trans ?_ (by assumption)) | (with_reducible assumption) | exact Below.refl _ _)))⟩
end Go.Proofs.YtmabdemdapnmkaaGreatDoor
