/- The program's merge of operands by one operation. Conditions: the elements' cells are in memory; the variables that regions read hold their tables. -/
import Derived.Test.YtepfnnhmplaocaaDoorQK
namespace Go.Proofs.YtepfnnhmplaocaaDoor
open Go.RowKit Go.Shelf
set_option linter.unusedVariables false
set_option linter.unusedSimpArgs false
attribute [local go_sem] Oper.semAt_some run_store_fn

set_option maxRecDepth 100000 in
set_option maxHeartbeats 4000000 in
theorem merge14_any (m : Option Addr) (n cap : Nat) (P Q R S : Nat → Int) (mm : Option Addr) (k kc : Nat) (a' : Nat → Option Addr) (n' c' : Nat → Nat) (P' Q' R' S' : Nat → Nat → Int) (w : World)
    (hn : n ≤ 1048576) (hcap : n ≤ cap) (hk : k ≤ 1048576) (hD : EnvW w) (hR : RectsIs w.heap.size w m n P Q R S) (hL : ListsIs w.heap.size w mm k a' n' c' P' Q' R' S') :
    Calls Tryd.prog 81 #[.int .i64 0, .slice m n cap, .slice mm k kc] w fun e w' => (∃ G, e = .returned (.tuple #[.agg (wArr G), .bool (okR P Q R S n && okA n' P' Q' R' S' k)]) ∧ RowsOK (if (okR P Q R S n && okA n' P' Q' R' S' k) = true then mgA 14 (covF P Q R S n) n' P' Q' R' S' k else fun _ => false) G) ∧ Below w.heap.size w w' := by
  have hz := zero59
  have r0 := RowsAt.new w (fun _ => 0)
  have hix : ∀ w, (Instr.index 85 opsV (.int .i64 0)).run Tryd.prog w = .ok (.agg #[fnV 106, .bool true]) w := fun _ => by kernel_rfl
  obtain ⟨bo, hbo⟩ : ∃ bo, bo = (okR P Q R S n && okA n' P' Q' R' S' k) := ⟨_, rfl⟩
  obtain ⟨F, hF⟩ : ∃ F : Nat → Bool, F = if bo = true then mgA 14 (covF P Q R S n) n' P' Q' R' S' k else fun _ => false := ⟨_, rfl⟩
  rw [← hbo, ← hF]
  cases hok : okR P Q R S n with
  | false =>
    obtain rfl : bo = false := by rw [hbo, hok]; rfl
    obtain rfl : F = fun _ => false := by rw [hF]; rfl
    clear hbo hF
    go_enter Tryd.func81, Tryd.ntmps81
    go_wp2_with (first | (go_at_call 61; refine (cellsOf_any m n cap P Q R S _ hn hcap (hD.ext (by (repeat (first | (with_reducible exact Below.refl _ _) | (with_reducible refine Ext.drewN ?_ _) | (with_reducible refine Below.drew ?_) | (with_reducible refine Ext.alloc ?_ _) | (with_reducible refine Ext.setCell ?_ (by simp; try omega) _) | (with_reducible refine Ext.trans ?_ (by assumption)) | (with_reducible assumption) | exact Below.refl _ _)))) (hR.ext (by (repeat (first | (with_reducible exact Below.refl _ _) | (with_reducible refine Ext.drewN ?_ _) | (with_reducible refine Below.drew ?_) | (with_reducible refine Ext.alloc ?_ _) | (with_reducible refine Ext.setCell ?_ (by simp; try omega) _) | (with_reducible refine Ext.trans ?_ (by assumption)) | (with_reducible assumption) | exact Below.refl _ _))))).mono ?_; rintro e w1 ⟨rfl, bw1⟩; rw [hok]; have r1 := RowsAt.new w1 (fun _ => 0); have st1 := store59 (regG P Q R S n) r1; have sz1 := wArr_size (regG P Q R S n); have b1 : Below w1.heap.size w1 ((w1.alloc (.cells (wArr fun _ => 0) 60)).setRow w1.heap.size (wArr (regG P Q R S n))) := ((Below.refl _ _).alloc (Nat.le_refl _) _).trans (below_setRow _ _ (Nat.le_refl _)); have r2 := (r0.ext bw1).ext b1; have st2 := store59 (fun _ => 0) r2; have sz2 := wArr_size (fun _ => 0)))
    have B1 : Below w.heap.size w w1 := by (repeat (first | (with_reducible exact Below.refl _ _) | (with_reducible refine Ext.drewN ?_ _) | (with_reducible refine Below.drew ?_) | (with_reducible refine Ext.alloc ?_ _) | (with_reducible refine Ext.setCell ?_ (by simp; try omega) _) | (with_reducible refine Ext.trans ?_ (by assumption)) | (with_reducible assumption) | exact Below.refl _ _))
    have B2 := B1.trans (b1.mono B1.size)
    refine bodyPost_ret (v := .tuple #[.agg (wArr fun _ => 0), .bool false]) (by rw [results_cell_tmp rfl]; simp [asAddr, Result.andThen, loadVar59 (r2.setRow _)]) rfl ⟨⟨fun _ => 0, rfl, rows_none⟩, B2.trans (below_setRow _ _ (Nat.le_refl _))⟩
  | true =>
    rw [hok, Bool.true_and] at hbo
    have HF0 := Lib.hid (regG_ok hok)
    have HL := Lib.hid hL
    have HBO := Lib.hid hbo
    have HFF := Lib.hid hF
    clear hL hbo hF
    go_enter Tryd.func81, Tryd.ntmps81
    go_upto_region 4 with (first | (go_at_call 61; refine (cellsOf_any m n cap P Q R S _ hn hcap (hD.ext (by (repeat (first | (with_reducible exact Below.refl _ _) | (with_reducible refine Ext.drewN ?_ _) | (with_reducible refine Below.drew ?_) | (with_reducible refine Ext.alloc ?_ _) | (with_reducible refine Ext.setCell ?_ (by simp; try omega) _) | (with_reducible refine Ext.trans ?_ (by assumption)) | (with_reducible assumption) | exact Below.refl _ _)))) (hR.ext (by (repeat (first | (with_reducible exact Below.refl _ _) | (with_reducible refine Ext.drewN ?_ _) | (with_reducible refine Below.drew ?_) | (with_reducible refine Ext.alloc ?_ _) | (with_reducible refine Ext.setCell ?_ (by simp; try omega) _) | (with_reducible refine Ext.trans ?_ (by assumption)) | (with_reducible assumption) | exact Below.refl _ _))))).mono ?_; rintro e w1 ⟨rfl, bw1⟩; rw [hok]; have r1 := RowsAt.new w1 (fun _ => 0); have st1 := store59 (regG P Q R S n) r1; have sz1 := wArr_size (regG P Q R S n)))
    have B1 : Below w.heap.size w w1 := by (repeat (first | (with_reducible exact Below.refl _ _) | (with_reducible refine Ext.drewN ?_ _) | (with_reducible refine Below.drew ?_) | (with_reducible refine Ext.alloc ?_ _) | (with_reducible refine Ext.setCell ?_ (by simp; try omega) _) | (with_reducible refine Ext.trans ?_ (by assumption)) | (with_reducible assumption) | exact Below.refl _ _))
    have b1 : Below w1.heap.size w1 ((w1.alloc (.cells (wArr fun _ => 0) 60)).setRow w1.heap.size (wArr (regG P Q R S n))) := ((Below.refl _ _).alloc (Nat.le_refl _) _).trans (below_setRow _ _ (Nat.le_refl _))
    have l1 : w.heap.size < w1.heap.size := by have := bw1.size; simp at this; omega
    have hs2 : ((w1.alloc (.cells (wArr fun _ => 0) 60)).setRow w1.heap.size (wArr (regG P Q R S n))).heap.size = w1.heap.size + 1 := by rw [setRow_size]; simp
    have rM := r1.setRow (regG P Q R S n)
    have rR := (r0.ext bw1).ext b1
    obtain ⟨wS, hwS⟩ : ∃ wS, wS = (w1.alloc (.cells (wArr fun _ => 0) 60)).setRow w1.heap.size (wArr (regG P Q R S n)) := ⟨_, rfl⟩
    rw [← hwS] at b1 hs2 rM rR ⊢
    have BS := B1.trans (b1.mono B1.size)
    obtain ⟨N1, hN1⟩ : ∃ N1, N1 = w1.heap.size := ⟨_, rfl⟩
    rw [← hN1] at hs2 rM l1 ⊢
    clear hwS st1 sz1 r1 r0 b1 B1 bw1 hN1
    go_upto_region 5 with (first | (go_at_call 85; refine (operations_any _).mono ?_; rintro e w2 ⟨rfl, bw2⟩))
    have l2 := bw2.size
    obtain ⟨wT, hwT⟩ : ∃ wT, wT = w2.alloc (.cells #[fnV 106, .bool true] 84) := ⟨_, rfl⟩
    have sT : wT.heap.size = w2.heap.size + 1 := by rw [hwT]; simp
    have bT : Below wS.heap.size wS wT := by rw [hwT]; exact bw2.alloc l2 _
    have o0 : wT.cell? ⟨w2.heap.size, 0, none⟩ = some (fnV 106) := by rw [hwT]; simp [go_sem]
    have o1 : wT.cell? ⟨w2.heap.size, 1, none⟩ = some (.bool true) := by rw [hwT]; simp [go_sem]
    have rMT := Lib.hid (rM.ext bT)
    have rRT := Lib.hid (rR.ext bT)
    have BT := Ext.trans BS bT
    obtain ⟨N2, hN2⟩ : ∃ N2, N2 = w2.heap.size := ⟨_, rfl⟩
    rw [← hN2] at o0 o1 l2 sT ⊢
    rw [← hwT]
    clear hwT rM rR bT BS bw2 hN2
    go_wp2_with fail
    go_loopw [26] (fun s26 wr => ∃ (i : Nat) (G : Nat → Nat), i ≤ k ∧ s26 = .int .i64 (i : Nat) ∧ Hid (okA n' P' Q' R' S' i = true) ∧ Hid (RowsOK (mgA 14 (covF P Q R S n) n' P' Q' R' S' i) G) ∧ Hid (RowsAt wr N1 G) ∧ Hid (RowsAt wr w.heap.size (fun _ => 0)) ∧ Below w.heap.size w wr ∧ N2 < wr.heap.size ∧ wr.cell? ⟨N2, 0, none⟩ = some (fnV 106) ∧ wr.cell? ⟨N2, 1, none⟩ = some (.bool true)) (fun s26 _ => k - (intOf s26).toNat)
    case atStart => exact ⟨0, _, by omega, rfl, Lib.hid rfl, HF0, rMT, rRT, BT, by omega, o0, o1⟩
    case round =>
      obtain ⟨i, G, hik, rfl, HA, HF, HM, HRR, hW, hN2, o0, o1⟩ := hrel
      by_cases hlt : i < k
      · obtain ⟨⟨b, off, rfl, hb, hc⟩, hn1, hc1, hR1⟩ := (HL.out.below hW) i hlt
        have q1 : ((i : Nat) : Int) < (k : Int) := by omega
        have q0 : (0 : Int) ≤ ((i : Nat) : Int) := by omega
        have HR1 := Lib.hid (hR1.mono hW.size)
        clear hR1
        cases hok1 : okR (P' i) (Q' i) (R' i) (S' i) (n' i) with
        | false =>
          obtain rfl : bo = false := by rw [HBO.out]; exact okA_f hok1 k hlt
          obtain rfl : F = fun _ => false := by rw [HFF.out]; rfl
          go_wp2_with (first | (go_at_call 73; refine (isRegion_any (a' i) (n' i) (c' i) _ _ _ _ _ hn1 hc1 (hD.ext hW) HR1.out).mono ?_; rintro e w3 ⟨rfl, bw3⟩; rw [hok1]; have r3 := HRR.out.ext bw3; have st3 := store59 (fun _ => 0) r3; have sz3 := wArr_size (fun _ => 0)))
          have B3 := Ext.trans hW bw3
          exact bodyPost_ret (v := .tuple #[.agg (wArr fun _ => 0), .bool false]) (by rw [results_cell_tmp rfl]; simp [asAddr, Result.andThen, loadVar59 (r3.setRow _)]) rfl ⟨⟨fun _ => 0, rfl, rows_none⟩, B3.trans (below_setRow _ _ (Nat.le_refl _))⟩
        | true =>
          have HOK1 := Lib.hid hok1
          have HA1 : Hid (okA n' P' Q' R' S' (i + 1) = true) := Lib.hid (by rw [okA, HA.out, hok1]; rfl)
          have HF1 := Lib.hid (sweep_rows combOr HF.out hok1)
          have HV1 := Lib.hid (okR_all hok1)
          have HGw := Lib.hid HF.out.word
          obtain ⟨G1, hG1⟩ : ∃ G1, G1 = swG (fun a c => a ||| c) (swH true G) G (rowsQ (n' i) (P' i) (Q' i) (R' i) (S' i) (n' i)) := ⟨_, rfl⟩
          rw [← hG1] at HF1
          have HG1 := Lib.hid hG1
          clear hG1 HF
          go_wp2_with (first | (go_at_call 73; refine (isRegion_any (a' i) (n' i) (c' i) _ _ _ _ _ hn1 hc1 (hD.ext hW) HR1.out).mono ?_; rintro e w3 ⟨rfl, bw3⟩; rw [hok1]; have p0 := keepC bw3 o0; have p1 := keepC bw3 o1))
          go_wp2_with fail
          refine (sweep_any 106 true (fun a c => a ||| c) combF_with N1 G (a' i) (n' i) (c' i) _ _ _ _ _ hn1 hc1 (HR1.out.ext bw3) HV1.out (HM.out.ext bw3) HGw.out).mono ?_
          rintro e w4 ⟨rfl, bw4⟩
          rw [← HG1.out]
          have r4 := (HM.out.ext bw3).ext bw4
          have st4 := store59 G1 r4
          have sz4 := wArr_size G1
          have b34 := Ext.trans bw3 bw4
          go_wp2_with fail
          have oN : ∀ k', k' ≠ N1 → (w4.setRow N1 (wArr G1)).heap[k']? = w4.heap[k']? := fun k' hk' => setRow_other _ _ _ hk'
          have rr4 := HRR.out.ext b34
          have t0 := keepC b34 o0
          have t1 := keepC b34 o1
          have lw4 := b34.size
          have BR := Lib.hid ((hW.trans (b34.mono hW.size)).trans (below_setRow w4 (wArr G1) (Nat.le_of_lt l1)))
          clear st4 sz4
          go_roundw
          case rel => exact ⟨i + 1, G1, by omega, by go_num, HA1, HF1, Lib.hid (r4.setRow G1), Lib.hid ((oN _ (by omega)).trans rr4), BR.out, by rw [setRow_size]; omega, (World.cell?_of_block (w := w4) (a := ⟨N2, 0, none⟩) (oN N2 (by omega))).trans t0, (World.cell?_of_block (w := w4) (a := ⟨N2, 1, none⟩) (oN N2 (by omega))).trans t1⟩
          case measure => simp [intOf]; omega
      · have q1 : ¬ ((i : Nat) : Int) < (k : Int) := by omega
        obtain rfl : i = k := by omega
        obtain rfl : bo = true := by rw [HBO.out]; exact HA.out
        have HFX : Hid (F = mgA 14 (covF P Q R S n) n' P' Q' R' S' i) := by unfold Hid; rw [HFF.out, if_pos rfl]
        go_upto_region 12 with fail
        refine wp_region_lit ?_
        unfold wpList
        rw [if_pos (by rfl)]
        refine .inl (op_load59 rfl rfl HM.out ?_)
        unfold wpList
        rw [if_pos (by rfl)]
        refine .inl (op_store59 (d := 6) (s := 38) (G := G) ?_ ?_ ?_ HRR.out ?_)
        · rfl
        · rfl
        · rfl
        simp only [go_sem, Act.put]
        go_wp2_with fail
        exact bodyPost_ret (v := .tuple #[.agg (wArr G), .bool true]) (by rw [results_cell_tmp rfl]; simp [asAddr, Result.andThen, loadVar59 (HRR.out.setRow _)]) rfl ⟨⟨G, rfl, by rw [HFX.out]; exact HF.out⟩, hW.trans (below_setRow _ _ (Nat.le_refl _))⟩
end Go.Proofs.YtepfnnhmplaocaaDoor
