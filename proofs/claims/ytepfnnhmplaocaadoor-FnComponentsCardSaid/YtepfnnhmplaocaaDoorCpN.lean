/- The program's trees of rectangles: rootsOf. Conditions: the rectangles' cells are in memory; they are a region. -/
import Derived.Test.YtepfnnhmplaocaaDoorCpH
import Derived.Test.YtepfnnhmplaocaaDoorQD
import Derived.Test.YtepfnnhmplaocaaDoorQA
import Derived.Laws.EntriesVeiled
namespace Go.Proofs.YtepfnnhmplaocaaDoor
open Go.RowKit
set_option linter.unusedVariables false
set_option linter.unusedSimpArgs false
attribute [local go_sem ↓] Go.wp_at_zero Go.wp_at_succ

theorem infoPN : (Tryd.prog.info? 111).map (fun i => (i.zero, i.size, i.bytes)) = some (some (.pointer none), 1, 8) := by kernel_rfl
theorem Below.drewN' {n : Nat} {a b : World} (h : Below n a b) (k : Nat) : Below n a (b.drewN k) := ⟨h.os, h.tape, h.output, h.size, h.block⟩
theorem keepK {N : Nat → Nat} {n : Nat} {a b : World} {c o : Nat} {v : Value} (hk : Kept (NX N n) a b) (h : a.cell? ⟨c, o, none⟩ = some v) (hx : ¬ NX N n c) : b.cell? ⟨c, o, none⟩ = some v :=
  (hk.cell (p := ⟨c, o, none⟩) (World.block_lt_of_cell? a ⟨c, o, none⟩ h) hx).trans h
/-- The row of nodes: the first i ones are the nodes N, the others nil. -/
def RowN (w : World) (h n i : Nat) (N : Nat → Nat) : Prop := ∀ k, k < n → w.cell? ⟨h, k, none⟩ = some (.pointer (if k < i then some ⟨N k, 0, none⟩ else none)) ∧ w.frozen? ⟨h, k, none⟩ = false
/-- A call that hands back the roots of a region's rectangles. -/
def RootsRes (B : Nat) (P Q R S : Nat → Int) (n : Nat) (wide : Bool) (e : Ending) (w' : World) : Prop := ∃ (h c M : Nat) (N K p : Nat → Nat), e = .returned (.slice (some ⟨h, 0, none⟩) n c) ∧ RootsOK P Q R S n wide K ∧ (∀ i, i < n → K i < n ∧ K (K i) = K i) ∧ InjN N n ∧ FAt M w' N n p ∧ (B ≤ h ∧ h < M) ∧ (∀ k, k < n → w'.cell? ⟨h, k, none⟩ = some (.pointer (some ⟨N (K k), 0, none⟩)))
/-- The row while the roots are written: the first s ones are roots. -/
def RowK (w : World) (h n s : Nat) (N K : Nat → Nat) : Prop := ∀ k, k < n → w.cell? ⟨h, k, none⟩ = some (.pointer (some ⟨N (if k < s then K k else k), 0, none⟩)) ∧ w.frozen? ⟨h, k, none⟩ = false
set_option maxHeartbeats 16000000 in
set_option maxRecDepth 100000 in
theorem rootsOf_any (m : Option Addr) (n cap : Nat) (P Q R S : Nat → Int) (wide : Bool) (w : World) (hn : n ≤ 3200) (hR : RectsIs w.heap.size w m n P Q R S) (hok : okR P Q R S n = true) :
    Calls Tryd.prog 114 #[.slice m n cap, .int .i64 (colW wide)] w fun e w' => RootsRes w.heap.size P Q R S n wide e w' ∧ Below w.heap.size w w' := by
  obtain ⟨i0, hi, hz0, hz1, hz2⟩ := info_parts infoPN
  have HR := Lib.hid hR
  have HK := Lib.hid hok
  clear hR hok
  have hmf : ∀ (fn : Fn) (first cap : Array Value) (w : World), (Instr.makeFunc fn first cap).run Tryd.prog w = .ok (.func fn first cap) w := fun _ _ _ _ => rfl
  have hent := enters_of Tryd.func135 (by kernel_rfl) rfl
  obtain ⟨C, hC⟩ : ∃ C, colW wide = C := ⟨_, rfl⟩
  have HCC := Lib.hid hC
  rw [hC]
  clear hC
  go_enter Tryd.func114, Tryd.ntmps114
  go_wp2_with (at_make; refine wpList_make_full _ rfl _ _ 109 rfl (w.heap.size + 1) 111 i0 (.pointer none) 1 Tryd.underlying109 hi hz0 hz1 .i64 .i64 n n n rfl rfl rfl rfl (by rw [hz2]; omega) (by unfold maxLen; omega) (by simp) ?_; intro w1 own1 grow1)
  obtain ⟨B, hBB⟩ : ∃ B, w.heap.size = B := ⟨_, rfl⟩
  obtain ⟨wb, hwb⟩ : ∃ wb, wb = w.alloc (.cells #[.func (.func 135) #[] #[.pointer (some ⟨w.heap.size, 0, none⟩)]] 140) := ⟨_, rfl⟩
  rw [← hwb] at own1 grow1
  have hbs : wb.heap.size = B + 1 := by rw [hwb, ← hBB]; simp
  have hbc : wb.cell? ⟨B, 0, none⟩ = some (.func (.func 135) #[] #[.pointer (some ⟨B, 0, none⟩)]) := by rw [hwb, hBB, ← hBB]; simp [go_sem]
  have hb0 : Below B w wb := by rw [hwb, ← hBB]; (repeat (first | (with_reducible exact Below.refl _ _) | (with_reducible refine Ext.drewN ?_ _) | (with_reducible refine Below.drew ?_) | (with_reducible refine Ext.alloc ?_ _) | (with_reducible refine Ext.setCell ?_ (by simp; try omega) _) | (with_reducible refine Ext.trans ?_ (by assumption)) | (with_reducible assumption) | exact Below.refl _ _))
  have hB1 : Below wb.heap.size wb w1 := (Below.refl _ _).grown grow1 (Nat.le_refl _) (fun k hk => by cases hk)
  rw [hbs] at own1
  rw [hBB] at own1 ⊢
  have hM : B + 1 < w1.heap.size := (own1.lt (B + 1) rfl).2
  have hW1 : Below B w w1 := Below.trans hb0 (hB1.mono (by omega))
  have hbx : w1.cell? ⟨B, 0, none⟩ = some (.func (.func 135) #[] #[.pointer (some ⟨B, 0, none⟩)]) := keepC hB1 hbc
  obtain ⟨M, hMM⟩ : ∃ M, w1.heap.size = M := ⟨_, rfl⟩
  have hrow : RowN w1 (B + 1) n 0 (fun k => M + k) := fun k hk => by
    refine ⟨?_, own1.frozenAt _⟩
    have := own1.cellAt k (by omega)
    rw [this]
    have e : (Value.pointer none).cells = #[.pointer none] := rfl
    rw [e]
    have e1 : k % 1 = 0 := by omega
    simp [madeCells, hk, e1]
  have HROW := Lib.hid hrow
  have HW1 := Lib.hid hW1
  have HBX := Lib.hid hbx
  have HMM := Lib.hid hMM
  have HBB := Lib.hid hBB
  rw [hMM] at hM
  clear own1 grow1 hwb hbs hbc hb0 hB1 hW1 hbx hrow hMM hBB hz0 hz1 hz2 hi
  go_wp2_with fail
  go_loopw [19] (fun s19 wr => ∃ i : Nat, i ≤ n ∧ s19 = .int .i64 (i : Nat) ∧ Hid (wr.heap.size = M + i) ∧ Hid (Below B w wr) ∧ Hid (wr.cell? ⟨B, 0, none⟩ = some (.func (.func 135) #[] #[.pointer (some ⟨B, 0, none⟩)])) ∧ Hid (RowN wr (B + 1) n i (fun k => M + k)) ∧ Hid (FAt M wr (fun k => M + k) i (fun k => k))) (fun s19 _ => n - (intOf s19).toNat)
  case atStart => exact ⟨0, by omega, rfl, HMM, HW1, HBX, HROW, Lib.hid (fun k hk => by omega)⟩
  case round =>
    obtain ⟨i, hin, rfl, HS, HW, HB, HN, HF⟩ := hrel
    by_cases hlt : i < n
    case neg =>
      obtain rfl : i = n := by omega
      have q1 : ¬ ((i : Nat) : Int) < (i : Int) := by omega
      obtain ⟨N, hN⟩ : ∃ N : Nat → Nat, (fun k => M + k) = N := ⟨_, rfl⟩
      have hNM : ∀ k, N k = M + k := fun k => by rw [← hN]
      have hinj : InjN N i := fun a b _ _ e => by rw [hNM, hNM] at e; omega
      rw [hN] at HN HF
      have HINJ := Lib.hid hinj
      have HNM := Lib.hid hNM
      have HFK := Lib.hid (FK.init i)
      have HU := Lib.hid (UniOK.init (wide := wide) HK.out)
      have hwM : B + 1 < wr.heap.size := by have := HS.out; omega
      clear hN hinj hNM
      go_wp2_with fail
      go_loopw [40] (fun s40 wr => ∃ (t : Nat) (K p d : Nat → Nat), t ≤ i ∧ s40 = .int .i64 (t : Nat) ∧ B + 1 < wr.heap.size ∧ Hid (Below B w wr) ∧ Hid (wr.cell? ⟨B, 0, none⟩ = some (.func (.func 135) #[] #[.pointer (some ⟨B, 0, none⟩)])) ∧ Hid (RowN wr (B + 1) i i N) ∧ Hid (FAt M wr N i p) ∧ Hid (FK i p K d) ∧ Hid (UniOK P Q R S i wide K t (t + 1))) (fun s40 _ => i - (intOf s40).toNat)
      case atStart => exact ⟨0, _, _, _, by omega, rfl, hwM, HW, HB, HN, HF, HFK, HU⟩
      case round =>
        clear hwM HW HB HN HF HFK HU HS
        obtain ⟨t, K, p, d, htn, rfl, hwM, HW, HB, HN, HF, HFK, HU⟩ := hrel
        by_cases hlt : t < i
        case neg =>
          obtain rfl : t = i := by omega
          have q2 : ¬ ((t : Nat) : Int) < (t : Int) := by omega
          have HRO := Lib.hid HU.out.roots
          have hRK : RowK wr (B + 1) t 0 N K := fun k hk => by
            obtain ⟨t0, t1⟩ := HN.out k hk
            rw [if_pos hk] at t0
            exact ⟨by rw [if_neg (by omega)]; exact t0, t1⟩
          have HRK := Lib.hid hRK
          clear hRK HN HU
          go_wp2_with fail
          go_loopw [89] (fun s89 wr => ∃ (s : Nat) (p : Nat → Nat), s ≤ t ∧ s89 = .int .i64 (s : Nat) ∧ B + 1 < wr.heap.size ∧ Hid (Below B w wr) ∧ Hid (wr.cell? ⟨B, 0, none⟩ = some (.func (.func 135) #[] #[.pointer (some ⟨B, 0, none⟩)])) ∧ Hid (RowK wr (B + 1) t s N K) ∧ Hid (FAt M wr N t p) ∧ Hid (FK t p K d)) (fun s89 _ => t - (intOf s89).toNat)
          case atStart => exact ⟨0, p, by omega, rfl, hwM, HW, HB, HRK, HF, HFK⟩
          case round =>
            clear hwM HW HB HRK HF HFK
            obtain ⟨s, p, hst, rfl, hwM, HW, HB, HRK, HF, HFK⟩ := hrel
            by_cases hls : s < t
            case neg =>
              obtain rfl : s = t := by omega
              have q3 : ¬ ((s : Nat) : Int) < (s : Int) := by omega
              go_wp2_with fail
              go_ret
              refine ⟨⟨B + 1, _, M, N, K, p, rfl, HRO.out, fun k hk => ⟨HFK.out.K_lt k hk, HFK.out.KK k hk⟩, HINJ.out, HF.out, ⟨by have := HBB.out; omega, hM⟩, fun k hk => ?_⟩, by rw [HBB.out]; exact HW.out⟩
              have := (HRK.out k hk).1
              rwa [if_pos hk] at this
            have q3 : ((s : Nat) : Int) < (t : Int) := by omega
            have q4 : (0 : Int) ≤ ((s : Nat) : Int) := by omega
            obtain ⟨r1, r2⟩ := HRK.out s hls
            rw [if_neg (by omega)] at r1
            have hXB : ¬ NX N t B := fun ⟨k, _, e⟩ => by have := HNM.out k; omega
            have hXB1 : ¬ NX N t (B + 1) := fun ⟨k, _, e⟩ => by have := HNM.out k; omega
            have hro := fun w' hA' hb' => root_any M B t N K d HINJ.out (by omega) (d s + 1) s p w' (by omega) hls HFK.out hA' hb'
            have hbx := HB.out
            go_wp2_with (go_at_call 135; refine (hro _ HF.out hbx).mono ?_; rintro e w1 ⟨rfl, ⟨p1, hK1, hA1, -⟩, bw1⟩; have HA1 := Lib.hid hA1; have HK1 := Lib.hid hK1; clear hA1 hK1; have yb := keepK bw1 hbx hXB; have yj := keepK bw1 r1 hXB1; have yf := (bw1.frozen (p := ⟨B + 1, s, none⟩) hwM hXB1).trans r2)
            obtain ⟨Wf, hWf⟩ : ∃ Wf, Wf = w1.setCell ⟨B + 1, s, none⟩ (.pointer (some ⟨N (K s), 0, none⟩)) := ⟨_, rfl⟩
            have hWf' := Lib.hid hWf
            have HW1 := Lib.hid (show Below B w w1 from Below.trans HW.out (bw1.below (by omega) (fun k hk hx => by obtain ⟨q, _, e⟩ := hx; have := HNM.out q; omega)))
            have HW2 := Lib.hid (show Below B w Wf from by rw [hWf]; exact HW1.out.setCell (by simp) _)
            have HB2 : Hid (Wf.cell? ⟨B, 0, none⟩ = some (.func (.func 135) #[] #[.pointer (some ⟨B, 0, none⟩)])) := Lib.hid (by rw [hWf]; exact keepS yb (by simp) _)
            have hsf : B + 1 < Wf.heap.size := by rw [hWf]; simpa using Nat.lt_of_lt_of_le hwM bw1.size
            have hR2 : RowK Wf (B + 1) t (s + 1) N K := fun k hk => by
              obtain ⟨t0, t1⟩ := HRK.out k hk
              have t0' := keepK bw1 t0 hXB1
              have t1' := (bw1.frozen (p := ⟨B + 1, k, none⟩) hwM hXB1).trans t1
              refine ⟨?_, by rw [hWf]; simpa using t1'⟩
              by_cases e : k = s
              · subst e
                rw [if_pos (by omega), hWf]
                exact World.cell?_setCell_same _ _ _ yj
              · rw [hWf, World.cell?_setCell_other _ _ _ _ (by simp [e]), t0']
                by_cases e2 : k < s
                · rw [if_pos e2, if_pos (by omega)]
                · rw [if_neg e2, if_neg (by omega)]
            have hA2 : FAt M Wf N t p1 := fun k hk => by
              obtain ⟨⟨a1, a2⟩, a3, a4, a5, a6, cur, a7⟩ := HA1.out k hk
              have hne : N k ≠ B + 1 := by omega
              rw [hWf]
              exact ⟨⟨a1, by simpa using a2⟩, keepS a3 (by simp; omega) _, keepS a4 (by simp; omega) _, by simpa using a5, by simpa using a6, cur, (Below.heap_setCell _ _ _ _ hne).trans a7⟩
            have HR2 := Lib.hid hR2
            have HA2 := Lib.hid hA2
            rw [← hWf]
            clear hWf hR2 hA2 bw1 yb yj yf hro hbx
            go_roundw
            case rel => exact ⟨s + 1, p1, by omega, by go_num, hsf, HW2, HB2, HR2, HA2, HK1⟩
            case measure => simp [intOf]; omega
        have q2 : ((t : Nat) : Int) < (i : Int) := by omega
        have q0 : (0 : Int) ≤ ((t : Nat) : Int) := by omega
        obtain ⟨b1, o1, rfl, hb1, c0, c1, c2, c3⟩ := HR.out t hlt
        have hbB : b1 < B := by have := HBB.out; omega
        have HRR := Lib.hid (HR.out.ext (w' := wr) (by rw [HBB.out]; exact HW.out))
        have d0 := (HW.out.cell (p := ⟨b1, o1 + t * 4, none⟩) hbB).trans c0
        have d1 := (HW.out.cell (p := ⟨b1, o1 + t * 4 + 1, none⟩) hbB).trans c1
        have d2 := (HW.out.cell (p := ⟨b1, o1 + t * 4 + 2, none⟩) hbB).trans c2
        have d3 := (HW.out.cell (p := ⟨b1, o1 + t * 4 + 3, none⟩) hbB).trans c3
        go_wp2_with fail
        obtain ⟨z, hz⟩ : ∃ z, wr.heap.size = z := ⟨_, rfl⟩
        obtain ⟨W0, hW0⟩ : ∃ W0, W0 = wr.alloc (.cells #[.int .i64 (P t), .int .i64 (Q t), .int .i64 (R t), .int .i64 (S t)] 39) := ⟨_, rfl⟩
        rw [← hW0, hz]
        have bW0 : Below wr.heap.size wr W0 := by rw [hW0]; (repeat (first | (with_reducible exact Below.refl _ _) | (with_reducible refine Ext.drewN ?_ _) | (with_reducible refine Below.drew ?_) | (with_reducible refine Ext.alloc ?_ _) | (with_reducible refine Ext.setCell ?_ (by simp; try omega) _) | (with_reducible refine Ext.trans ?_ (by assumption)) | (with_reducible assumption) | exact Below.refl _ _))
        have e0 : W0.cell? ⟨z, 0, none⟩ = some (.int .i64 (P t)) := by rw [hW0, ← hz]; simp [go_sem]
        have e1 : W0.cell? ⟨z, 1, none⟩ = some (.int .i64 (Q t)) := by rw [hW0, ← hz]; simp [go_sem]
        have e2 : W0.cell? ⟨z, 2, none⟩ = some (.int .i64 (R t)) := by rw [hW0, ← hz]; simp [go_sem]
        have e3 : W0.cell? ⟨z, 3, none⟩ = some (.int .i64 (S t)) := by rw [hW0, ← hz]; simp [go_sem]
        have hzW : z < W0.heap.size := by rw [hW0, ← hz]; simp
        have HZN : Hid (∀ k, k < i → z ≠ N k) := Lib.hid (fun k hk => by have := (HF.out k hk).1.2; omega)
        have HW2 := Lib.hid (show Below B w W0 from Below.trans HW.out (bW0.mono (by omega)))
        have HB2 := Lib.hid (keepC bW0 HB.out)
        have HN2 : Hid (RowN W0 (B + 1) i i N) := Lib.hid (fun k hk => ⟨keepC bW0 (HN.out k hk).1, (bW0.frozen (p := ⟨B + 1, k, none⟩) hwM).trans (HN.out k hk).2⟩)
        have HF2 := Lib.hid (HF.out.below bW0)
        have hzB : B + 1 < z := by omega
        clear hW0 bW0 HW HB HN HF d0 d1 d2 d3 HRR
        have hwM2 : B + 1 < W0.heap.size := by omega
        go_loopw [10] (fun s10 wr => ∃ (j : Nat) (K p d : Nat → Nat), t + 1 ≤ j ∧ j ≤ i ∧ s10 = .int .i64 (j : Nat) ∧ z < wr.heap.size ∧ Hid (Below B w wr) ∧ Hid (wr.cell? ⟨B, 0, none⟩ = some (.func (.func 135) #[] #[.pointer (some ⟨B, 0, none⟩)])) ∧ Hid (RowN wr (B + 1) i i N) ∧ Hid (FAt M wr N i p) ∧ Hid (FK i p K d) ∧ Hid (UniOK P Q R S i wide K t j) ∧ wr.cell? ⟨z, 0, none⟩ = some (.int .i64 (P t)) ∧ wr.cell? ⟨z, 1, none⟩ = some (.int .i64 (Q t)) ∧ wr.cell? ⟨z, 2, none⟩ = some (.int .i64 (R t)) ∧ wr.cell? ⟨z, 3, none⟩ = some (.int .i64 (S t))) (fun s10 _ => i - (intOf s10).toNat)
        case atStart => exact ⟨t + 1, K, p, d, by omega, by omega, by go_num, hzW, HW2, HB2, HN2, HF2, HFK, HU, e0, e1, e2, e3⟩
        case round =>
          clear e0 e1 e2 e3 hzW HW2 HB2 HN2 HF2 HFK HU hwM hwM2 hz
          obtain ⟨j, K, p, d, hj1, hj2, rfl, hzW, HW, HB, HN, HF, HFK, HU, e0, e1, e2, e3⟩ := hrel
          by_cases hlj : j < i
          case neg =>
            obtain rfl : j = i := by omega
            have q3 : ¬ ((j : Nat) : Int) < (j : Int) := by omega
            have HU1 := Lib.hid (HU.out.row HK.out (.inl (Nat.le_refl _)))
            go_upto_region 14 with fail
            go_quiet (fail)
            go_wp2_with fail
            go_roundw
            case rel => exact ⟨t + 1, K, p, d, by omega, by go_num, by simp; omega, Lib.hid (by first | exact HW.out | exact Below.drewN' HW.out _), by first | exact HB | exact Lib.hid HB.out, Lib.hid (fun k hk => HN.out k hk), Lib.hid (fun k hk => HF.out k hk), HFK, HU1⟩
            case measure => simp [intOf]; omega
          have q3 : ((j : Nat) : Int) < (i : Int) := by omega
          have q4 : (0 : Int) ≤ ((j : Nat) : Int) := by omega
          obtain ⟨b2, o2, e2', hb2, c0', c1', c2', c3'⟩ := HR.out j hlj
          cases e2'
          have d0 := (HW.out.cell (p := ⟨b1, o1 + j * 4, none⟩) hbB).trans c0'
          have d1 := (HW.out.cell (p := ⟨b1, o1 + j * 4 + 1, none⟩) hbB).trans c1'
          have d2 := (HW.out.cell (p := ⟨b1, o1 + j * 4 + 2, none⟩) hbB).trans c2'
          have d3 := (HW.out.cell (p := ⟨b1, o1 + j * 4 + 3, none⟩) hbB).trans c3'
          by_cases hle : Q j ≤ S t
          case neg =>
            have HU1 := Lib.hid (HU.out.row HK.out (.inr (by omega)))
            go_upto_region 14 with fail
            go_quiet (fail)
            go_wp2_with fail
            go_roundw
            case rel => exact ⟨t + 1, K, p, d, by omega, by go_num, by simp; omega, Lib.hid (by first | exact HW.out | exact Below.drewN' HW.out _), by first | exact HB | exact Lib.hid HB.out, Lib.hid (fun k hk => HN.out k hk), Lib.hid (fun k hk => HF.out k hk), HFK, HU1⟩
            case measure => simp [intOf]; omega
          go_upto_region 14 with fail
          go_quiet (fail)
          go_wp2_with fail
          generalize hWd : wr.drewN nq = Wd
          have bd : Below wr.heap.size wr Wd := by rw [← hWd]; exact Ext.drewN (Below.refl _ _) _
          have hsz : wr.heap.size ≤ Wd.heap.size := bd.size
          have HWd := Lib.hid (show Below B w Wd from Below.trans HW.out (bd.mono (by omega)))
          have HBd := Lib.hid (keepC bd HB.out)
          have HNd : Hid (RowN Wd (B + 1) i i N) := Lib.hid (fun k hk => ⟨keepC bd (HN.out k hk).1, (bd.frozen (p := ⟨B + 1, k, none⟩) (show B + 1 < wr.heap.size by omega)).trans (HN.out k hk).2⟩)
          have HFd := Lib.hid (HF.out.below bd)
          have f0 := keepC bd e0
          have f1 := keepC bd e1
          have f2 := keepC bd e2
          have f3 := keepC bd e3
          have g0 := keepC bd d0
          have g1 := keepC bd d1
          have g2 := keepC bd d2
          have g3 := keepC bd d3
          have hzd : z < Wd.heap.size := by omega
          clear hWd bd HW HB HN HF e0 e1 e2 e3 d0 d1 d2 d3 hzW
          obtain ⟨v1, v2, v3, v4, v5, v6⟩ := rvB_t (okR_all HK.out t hlt)
          obtain ⟨u1, u2, u3, u4, u5, u6⟩ := rvB_t (okR_all HK.out j hlj)
          obtain ⟨X, hX⟩ : ∃ X, lo2 (R t) (R j) - hi2 (P t) (P j) = X := ⟨_, rfl⟩
          have hXm : X = min (R t) (R j) - max (P t) (P j) := by rw [← hX]; unfold lo2 hi2; split <;> split <;> omega
          have x1 : -1000 ≤ X := by omega
          have x2 : X ≤ 1000 := by omega
          have HXM := Lib.hid hXm
          have y1 : -10000 ≤ hi2 (P t) (P j) := by unfold hi2; split <;> omega
          have y2 : hi2 (P t) (P j) ≤ 10000 := by unfold hi2; split <;> omega
          have y3 : -10000 ≤ lo2 (R t) (R j) := by unfold lo2; split <;> omega
          have y4 : lo2 (R t) (R j) ≤ 10000 := by unfold lo2; split <;> omega
          have HLE := Lib.hid hle
          clear hXm v1 v2 v3 v4 v5 v6 u1 u2 u3 u4 u5 u6 hle
          by_cases hge : C ≤ X
          case neg =>
            have HU1 := Lib.hid (HU.out.skip (fun he => by
              have := he.2
              rw [HCC.out, ← HXM.out] at this
              exact hge this))
            go_region_held3 (fun w' => Below Wd.heap.size Wd w' ∧ w'.cell? ⟨z, 0, none⟩ = some (.int .i64 (P t)) ∧ w'.cell? ⟨z, 1, none⟩ = some (.int .i64 (Q t)) ∧ w'.cell? ⟨z, 2, none⟩ = some (.int .i64 (R t)) ∧ w'.cell? ⟨z, 3, none⟩ = some (.int .i64 (S t)) ∧ w'.cell? ⟨b1, o1 + j * 4, none⟩ = some (.int .i64 (P j)) ∧ w'.cell? ⟨b1, o1 + j * 4 + 1, none⟩ = some (.int .i64 (Q j)) ∧ w'.cell? ⟨b1, o1 + j * 4 + 2, none⟩ = some (.int .i64 (R j)) ∧ w'.cell? ⟨b1, o1 + j * 4 + 3, none⟩ = some (.int .i64 (S j)))
              (first | ((try dsimp only); go_split_ands; (repeat' (with_reducible refine And.intro ?_ ?_)) <;> first | ((repeat (with_reducible refine keepS ?_ (by simp; try omega) _)); (first | (with_reducible assumption) | (with_reducible exact keepC (by assumption) (by assumption)) | (with_reducible exact keepA (by assumption) _) | (with_reducible exact keepR (by assumption) (by omega) _))) | ((try simp only [World.size_alloc, World.size_setCell, World.size_drew]); omega) | (refine Mats.below hM ?_ hM.size; (repeat (first | (with_reducible exact Below.refl _ _) | (with_reducible refine Ext.drewN ?_ _) | (with_reducible refine Below.drew ?_) | (with_reducible refine Ext.alloc ?_ _) | (with_reducible refine Ext.setCell ?_ (by simp; try omega) _) | (with_reducible refine Ext.trans ?_ (by assumption)) | (with_reducible assumption) | exact Below.refl _ _)); done) | ((repeat (first | (with_reducible exact Below.refl _ _) | (with_reducible refine Ext.drewN ?_ _) | (with_reducible refine Below.drew ?_) | (with_reducible refine Ext.alloc ?_ _) | (with_reducible refine Ext.setCell ?_ (by simp; try omega) _) | (with_reducible refine Ext.trans ?_ (by assumption)) | (with_reducible assumption) | exact Below.refl _ _)); done) | (go_keep; done)))
              (first | (go_at_call 136; refine (meet_any (P t) (Q t) (R t) (S t) (P j) (Q j) (R j) (S j) _).mono ?_; rintro e v7 ⟨rfl, bv7⟩; obtain ⟨sv7, zv7, cv7, fv7⟩ := bcell bv7; (try simp only [World.size_alloc, World.size_setCell, World.size_drew] at sv7)) | (go_at_call 127; refine (width_any _ _ _ _ _ y1 y2 y3 y4).mono ?_; rintro e v8 ⟨rfl, bv8⟩; rw [hX]; obtain ⟨sv8, zv8, cv8, fv8⟩ := bcell bv8; (try simp only [World.size_alloc, World.size_setCell, World.size_drew] at sv8)))
            all_goals
              have B8 : Below Wd.heap.size Wd v8 := by (repeat (first | (with_reducible exact Below.refl _ _) | (with_reducible refine Ext.drewN ?_ _) | (with_reducible refine Below.drew ?_) | (with_reducible refine Ext.alloc ?_ _) | (with_reducible refine Ext.setCell ?_ (by simp; try omega) _) | (with_reducible refine Ext.trans ?_ (by assumption)) | (with_reducible assumption) | exact Below.refl _ _))
              have HW8 := Lib.hid (show Below B w v8 from Below.trans HWd.out (B8.mono (by omega)))
              have HB8 := Lib.hid (keepC B8 HBd.out)
              have HN8 : Hid (RowN v8 (B + 1) i i N) := Lib.hid (fun k hk => ⟨keepC B8 (HNd.out k hk).1, (B8.frozen (p := ⟨B + 1, k, none⟩) (show B + 1 < Wd.heap.size by omega)).trans (HNd.out k hk).2⟩)
              have HF8 := Lib.hid (HFd.out.below B8)
              have k0 := keepC B8 f0
              have k1 := keepC B8 f1
              have k2 := keepC B8 f2
              have k3 := keepC B8 f3
              have hz8 : z < v8.heap.size := Nat.lt_of_lt_of_le hzd B8.size
              rename_i hHeld
              clear hHeld HWd HBd HNd HFd f0 f1 f2 f3 g0 g1 g2 g3
              go_wp2_with fail
              go_roundw
              case rel => exact ⟨j + 1, K, p, d, by omega, by omega, by go_num, hz8, HW8, HB8, HN8, HF8, HFK, HU1, k0, k1, k2, k3⟩
              case measure => simp [intOf]; omega
          have HE : Hid (eJ P Q R S (colW wide) t j) := Lib.hid ⟨HLE.out, by rw [HCC.out, ← HXM.out]; exact hge⟩
          have HU1 := Lib.hid (HU.out.join HK.out (by omega) hlj HE.out)
          go_region_held3 (fun w' => Below Wd.heap.size Wd w' ∧ w'.cell? ⟨z, 0, none⟩ = some (.int .i64 (P t)) ∧ w'.cell? ⟨z, 1, none⟩ = some (.int .i64 (Q t)) ∧ w'.cell? ⟨z, 2, none⟩ = some (.int .i64 (R t)) ∧ w'.cell? ⟨z, 3, none⟩ = some (.int .i64 (S t)) ∧ w'.cell? ⟨b1, o1 + j * 4, none⟩ = some (.int .i64 (P j)) ∧ w'.cell? ⟨b1, o1 + j * 4 + 1, none⟩ = some (.int .i64 (Q j)) ∧ w'.cell? ⟨b1, o1 + j * 4 + 2, none⟩ = some (.int .i64 (R j)) ∧ w'.cell? ⟨b1, o1 + j * 4 + 3, none⟩ = some (.int .i64 (S j)))
            (first | ((try dsimp only); go_split_ands; (repeat' (with_reducible refine And.intro ?_ ?_)) <;> first | ((repeat (with_reducible refine keepS ?_ (by simp; try omega) _)); (first | (with_reducible assumption) | (with_reducible exact keepC (by assumption) (by assumption)) | (with_reducible exact keepA (by assumption) _) | (with_reducible exact keepR (by assumption) (by omega) _))) | ((try simp only [World.size_alloc, World.size_setCell, World.size_drew]); omega) | (refine Mats.below hM ?_ hM.size; (repeat (first | (with_reducible exact Below.refl _ _) | (with_reducible refine Ext.drewN ?_ _) | (with_reducible refine Below.drew ?_) | (with_reducible refine Ext.alloc ?_ _) | (with_reducible refine Ext.setCell ?_ (by simp; try omega) _) | (with_reducible refine Ext.trans ?_ (by assumption)) | (with_reducible assumption) | exact Below.refl _ _)); done) | ((repeat (first | (with_reducible exact Below.refl _ _) | (with_reducible refine Ext.drewN ?_ _) | (with_reducible refine Below.drew ?_) | (with_reducible refine Ext.alloc ?_ _) | (with_reducible refine Ext.setCell ?_ (by simp; try omega) _) | (with_reducible refine Ext.trans ?_ (by assumption)) | (with_reducible assumption) | exact Below.refl _ _)); done) | (go_keep; done)))
            (first | (go_at_call 136; refine (meet_any (P t) (Q t) (R t) (S t) (P j) (Q j) (R j) (S j) _).mono ?_; rintro e v7 ⟨rfl, bv7⟩; obtain ⟨sv7, zv7, cv7, fv7⟩ := bcell bv7; (try simp only [World.size_alloc, World.size_setCell, World.size_drew] at sv7)) | (go_at_call 127; refine (width_any _ _ _ _ _ y1 y2 y3 y4).mono ?_; rintro e v8 ⟨rfl, bv8⟩; rw [hX]; obtain ⟨sv8, zv8, cv8, fv8⟩ := bcell bv8; (try simp only [World.size_alloc, World.size_setCell, World.size_drew] at sv8)))
          all_goals
            have B8 : Below Wd.heap.size Wd v8 := by (repeat (first | (with_reducible exact Below.refl _ _) | (with_reducible refine Ext.drewN ?_ _) | (with_reducible refine Below.drew ?_) | (with_reducible refine Ext.alloc ?_ _) | (with_reducible refine Ext.setCell ?_ (by simp; try omega) _) | (with_reducible refine Ext.trans ?_ (by assumption)) | (with_reducible assumption) | exact Below.refl _ _))
            have HW8 := Lib.hid (show Below B w v8 from Below.trans HWd.out (B8.mono (by omega)))
            have HB8 := Lib.hid (keepC B8 HBd.out)
            have HN8 : Hid (RowN v8 (B + 1) i i N) := Lib.hid (fun k hk => ⟨keepC B8 (HNd.out k hk).1, (B8.frozen (p := ⟨B + 1, k, none⟩) (show B + 1 < Wd.heap.size by omega)).trans (HNd.out k hk).2⟩)
            have HF8 := Lib.hid (HFd.out.below B8)
            have k0 := keepC B8 f0
            have k1 := keepC B8 f1
            have k2 := keepC B8 f2
            have k3 := keepC B8 f3
            have hz8 : z < v8.heap.size := Nat.lt_of_lt_of_le hzd B8.size
            have hbx := HB8.out
            have r1 := (HN8.out j hlj).1
            have r2 := (HN8.out t hlt).1
            rw [if_pos hlj] at r1
            rw [if_pos hlt] at r2
            rename_i hHeld
            clear hHeld HWd HBd HNd HFd f0 f1 f2 f3 g0 g1 g2 g3
            go_wp2_with fail
            have hXB : ¬ NX N i B := fun ⟨k, _, e⟩ => by have := HNM.out k; omega
            have hXB1 : ¬ NX N i (B + 1) := fun ⟨k, _, e⟩ => by have := HNM.out k; omega
            have hXz : ¬ NX N i z := fun ⟨k, hk, e⟩ => HZN.out k hk e
            have hkj := HFK.out.K_lt j hlj
            have hkt := HFK.out.K_lt t hlt
            have hro := fun (m' : Nat) (q : Nat) (p' : Nat → Nat) w' hm hq hK' hA' hb' => root_any M B i N K d HINJ.out (by omega) m' q p' w' hm hq hK' hA' hb'
            go_region_held3 (fun w' => w'.cell? ⟨B, 0, none⟩ = some (.func (.func 135) #[] #[.pointer (some ⟨B, 0, none⟩)]) ∧ w'.cell? ⟨B + 1, j, none⟩ = some (.pointer (some ⟨N j, 0, none⟩)) ∧ w'.cell? ⟨B + 1, t, none⟩ = some (.pointer (some ⟨N t, 0, none⟩)))
              (first | assumption | (refine ⟨?_, ?_, ?_⟩ <;> first | assumption | (refine keepS ?_ (by simp; have h1 := HNM.out (K j); omega) _; assumption)) | go_keep)
              (first | (have x1 := hA1; clear x1; go_at_call 135; refine (hro (d t + 1) t p1 _ (by omega) hlt HK1.out hA1.out (by assumption)).mono ?_; rintro e w2 ⟨rfl, ⟨p2, hK2, hA2, -⟩, bw2⟩; have HA2 := Lib.hid hA2; have HK2 := Lib.hid hK2; clear hA2 hK2; have zb := keepK bw2 yb hXB; have zj := keepK bw2 yj hXB1; have zt := keepK bw2 yt hXB1; obtain ⟨-, ga, -, gc, -, -⟩ := HA2.out (K j) hkj) | (go_at_call 135; refine (hro (d j + 1) j p _ (by omega) hlj HFK.out (HF8.out.below (by (repeat (first | (with_reducible exact Below.refl _ _) | (with_reducible refine Ext.drewN ?_ _) | (with_reducible refine Below.drew ?_) | (with_reducible refine Ext.alloc ?_ _) | (with_reducible refine Ext.setCell ?_ (by simp; try omega) _) | (with_reducible refine Ext.trans ?_ (by assumption)) | (with_reducible assumption) | exact Below.refl _ _)))) (by assumption)).mono ?_; rintro e w1 ⟨rfl, ⟨p1, hK1, hA1, -⟩, bw1⟩; have hA1 := Lib.hid hA1; have HK1 := Lib.hid hK1; clear hK1; have yb := keepK bw1 (by first | exact hbx | simpa using hbx) hXB; have yj := keepK bw1 (by first | exact r1 | simpa using r1) hXB1; have yt := keepK bw1 (by first | exact r2 | simpa using r2) hXB1))
            all_goals
              obtain ⟨Wf, hWf⟩ : ∃ Wf, Wf = w2.setCell ⟨N (K j), 0, none⟩ (.pointer (some ⟨N (K t), 0, none⟩)) := ⟨_, rfl⟩
              rw [← hWf]
              have KW : Kept (NX N i) v8 Wf := by
                rw [hWf]
                exact Kept.setCell (Kept.trans (by first | exact bw1 | exact Kept.trans ((Kept.refl _ v8).drew) bw1) bw2) ⟨K j, hkj, rfl⟩ _
              obtain ⟨d', hd'⟩ := HK2.out.union hkj hkt (HFK.out.KK j hlj) (HFK.out.KK t hlt)
              have HK3 := Lib.hid hd'
              have HA3 : Hid (FAt M Wf N i (updF p2 (K j) (K t))) := Lib.hid (by rw [hWf]; exact HA2.out.set HINJ.out hkj)
              have HW3 := Lib.hid (show Below B w Wf from Below.trans HW8.out (KW.below (by have := HW8.out.size; have := HBB.out; omega) (fun k hk hx => by obtain ⟨q, _, e⟩ := hx; have := HNM.out q; omega)))
              have HB3 := Lib.hid (keepK KW hbx hXB)
              have HN3 : Hid (RowN Wf (B + 1) i i N) := Lib.hid (fun k hk => ⟨keepK KW (HN8.out k hk).1 hXB1, (KW.frozen (p := ⟨B + 1, k, none⟩) (World.block_lt_of_cell? v8 ⟨B + 1, k, none⟩ (HN8.out k hk).1) hXB1).trans (HN8.out k hk).2⟩)
              have m0 := keepK KW k0 hXz
              have m1 := keepK KW k1 hXz
              have m2 := keepK KW k2 hXz
              have m3 := keepK KW k3 hXz
              have hzf : z < Wf.heap.size := Nat.lt_of_lt_of_le hz8 KW.size
              rename_i hHeld2
              clear hHeld2 hWf KW hd' bw1 bw2 yb yj yt zb zj zt ga gc k0 k1 k2 k3 r1 r2 hbx HW8 HB8 HN8 HF8 hro
              go_wp2_with fail
              go_roundw
              case rel => exact ⟨j + 1, _, _, d', by omega, by omega, by go_num, hzf, HW3, HB3, HN3, HA3, HK3, HU1, m0, m1, m2, m3⟩
              case measure => simp [intOf]; omega
    have q1 : ((i : Nat) : Int) < (n : Int) := by omega
    have q0 : (0 : Int) ≤ ((i : Nat) : Int) := by omega
    obtain ⟨r0, r1⟩ := HN.out i hlt
    rw [if_neg (by omega)] at r0
    have hbz : B + 1 < wr.heap.size := by have := HS.out; omega
    have hbz0 : B < wr.heap.size := by omega
    go_wp2_with fail
    obtain ⟨z, hz⟩ : ∃ z, wr.heap.size = z := ⟨_, rfl⟩
    obtain ⟨Wn, hWn⟩ : ∃ Wn, Wn = (wr.setCell ⟨B + 1, i, none⟩ (.pointer (some ⟨wr.heap.size, 0, none⟩))).alloc (.cells #[.pointer none, .slice none 0 0] 113) := ⟨_, rfl⟩
    rw [← hWn]
    have s1 : Wn.heap.size = z + 1 := by rw [hWn, ← hz]; simp
    have c1 : Wn.cell? ⟨B + 1, i, none⟩ = some (.pointer (some ⟨z, 0, none⟩)) := by rw [hWn, ← hz]; simp [go_sem, r0, hbz]
    have c2 : Wn.cell? ⟨z, 0, none⟩ = some (.pointer none) := by rw [hWn, ← hz]; simp [go_sem]
    have c3 : Wn.cell? ⟨z, 1, none⟩ = some (.slice none 0 0) := by rw [hWn, ← hz]; simp [go_sem]
    have f2 : Wn.frozen? ⟨z, 0, none⟩ = false := by rw [hWn, ← hz]; simp [go_sem]
    have f3 : Wn.frozen? ⟨z, 1, none⟩ = false := by rw [hWn, ← hz]; simp [go_sem]
    have o1 : ∃ cur, Wn.heap[z]? = some (.cells cur 113 (0, 0)) := by
      refine ⟨#[.pointer none, .slice none 0 0], ?_⟩
      rw [hWn, ← hz]
      have := heap_alloc_new (wr.setCell ⟨B + 1, i, none⟩ (.pointer (some ⟨wr.heap.size, 0, none⟩))) (.cells #[.pointer none, .slice none 0 0] 113)
      simpa using this
    have keep : ∀ b o v, b ≠ B + 1 → wr.cell? ⟨b, o, none⟩ = some v → Wn.cell? ⟨b, o, none⟩ = some v := fun b o v hb hc => by
      rw [hWn]; exact keepA (keepS hc (fun e => hb e.symm) _) _
    have hrow : RowN Wn (B + 1) n (i + 1) (fun k => M + k) := fun k hk => by
      obtain ⟨t0, t1⟩ := HN.out k hk
      refine ⟨?_, by rw [hWn]; simpa [go_sem, hbz] using t1⟩
      by_cases e : k = i
      · subst e
        rw [if_pos (by omega), c1, ← hz, HS.out]
      · rw [hWn]
        refine keepA ?_ _
        rw [World.cell?_setCell_other _ _ _ _ (by simp [e]), t0]
        by_cases e2 : k < i
        · rw [if_pos e2, if_pos (by omega)]
        · rw [if_neg e2, if_neg (by omega)]
    have hfat : FAt M Wn (fun k => M + k) i (fun k => k) := fun k hk => by
      obtain ⟨⟨t1, t2⟩, t3, t4, t5, t6, cur, t7⟩ := HF.out k hk
      have hkb : M + k ≠ B + 1 := by omega
      have e7 : Wn.heap[M + k]? = some (.cells cur 113 (0, 0)) := by
        rw [hWn, heap_alloc_old _ _ (by simpa using t2), Below.heap_setCell _ _ _ _ (by simpa using hkb)]
        exact t7
      have hfr : ∀ o, Wn.frozen? ⟨M + k, o, none⟩ = wr.frozen? ⟨M + k, o, none⟩ := fun o => World.frozen?_of_block (a := ⟨M + k, o, none⟩) (by rw [t7]; exact e7)
      exact ⟨⟨t1, by omega⟩, keep _ _ _ hkb t3, keep _ _ _ hkb t4, (hfr 0).trans t5, (hfr 1).trans t6, cur, e7⟩
    have hbw : Below B w Wn := by rw [hWn]; exact (HW.out.setCell (by simp) _).alloc (by simp; omega) _
    have hbx := keep B 0 _ (by omega) HB.out
    have HS1 := Lib.hid s1
    have HROW := Lib.hid hrow
    have HFAT := Lib.hid hfat
    have HBW := Lib.hid hbw
    have HBX := Lib.hid hbx
    have HO1 := Lib.hid o1
    have HZ := Lib.hid hz
    rw [hz]
    have hzb : B + 1 < z := by omega
    clear hWn keep hrow hfat hbw hbx o1 hz r0 r1 hbz hbz0 HN HF HW HB s1
    go_region_held3 (fun w' => w'.cell? ⟨B + 1, i, none⟩ = some (.pointer (some ⟨z, 0, none⟩)))
      (first | assumption | (refine keepS ?_ (by simp; omega) _; assumption) | (exact keepS (w1 := Wn) c1 (by simp; omega) _))
      (fail)
    all_goals
      rename_i hHeld
      clear hHeld
      obtain ⟨Wz, hWz⟩ : ∃ Wz, Wz = (Wn.setCell ⟨z, 0, none⟩ (.pointer (some ⟨z, 0, none⟩))).drew := ⟨_, rfl⟩
      rw [← hWz]
      have kz : ∀ b o v, b ≠ z → Wn.cell? ⟨b, o, none⟩ = some v → Wz.cell? ⟨b, o, none⟩ = some v := fun b o v hb hc => by
        rw [hWz]; exact keepS (w1 := Wn) hc (fun e => hb e.symm) _
      have fz : ∀ b o, Wz.frozen? ⟨b, o, none⟩ = Wn.frozen? ⟨b, o, none⟩ := fun b o => by rw [hWz]; simp
      have sz : Wz.heap.size = z + 1 := by rw [hWz]; simpa using HS1.out
      have hz := HZ.out
      have hM := HS.out
      have hzi : z = M + i := by rw [← hz]; exact hM
      have R1 : RowN Wz (B + 1) n (i + 1) (fun k => M + k) := fun k hk => by
        obtain ⟨t0, t1⟩ := HROW.out k hk
        exact ⟨kz _ _ _ (by omega) t0, by rw [fz]; exact t1⟩
      have F1 : FAt M Wz (fun k => M + k) (i + 1) (fun k => k) := fun k hk => by
        by_cases e : k = i
        · subst e
          obtain ⟨cur, o7⟩ := HO1.out
          obtain ⟨cur', o8⟩ := cells_set (k := 0) o7 ⟨z, 0, none⟩ (.pointer (some ⟨z, 0, none⟩))
          dsimp only
          rw [← hzi]
          refine ⟨⟨by omega, by omega⟩, ?_, ?_, by rw [fz]; exact f2, by rw [fz]; exact f3, cur', by rw [hWz]; exact o8⟩
          · rw [hWz]; exact World.cell?_setCell_same _ _ _ c2
          · rw [hWz]
            refine (World.cell?_setCell_other (w := Wn) _ _ _ (by simp)).trans c3
        · obtain ⟨⟨t1, t2⟩, t3, t4, t5, t6, cur, t7⟩ := HFAT.out k (by omega)
          dsimp only at t1 t2 t3 t4 t5 t6 t7 ⊢
          have hk' : M + k ≠ z := by omega
          exact ⟨⟨t1, by omega⟩, kz _ _ _ hk' t3, kz _ _ _ hk' t4, by rw [fz]; exact t5, by rw [fz]; exact t6, cur, by rw [hWz]; exact (Below.heap_setCell _ _ _ _ hk').trans t7⟩
      have W1 : Below B w Wz := by rw [hWz]; exact (HBW.out.setCell (by show B ≤ z; omega) _).drew
      have X1 := kz B 0 _ (by omega) HBX.out
      have HS2 : Hid (Wz.heap.size = M + (i + 1)) := Lib.hid (by omega)
      have R1 := Lib.hid R1
      have F1 := Lib.hid F1
      have W1 := Lib.hid W1
      have X1 := Lib.hid X1
      clear hWz kz fz sz hz hM hzi
      go_wp2_with fail
      go_roundw
      case rel => exact ⟨i + 1, by omega, by go_num, HS2, W1, X1, R1, F1⟩
      case measure => simp [intOf]; omega
end Go.Proofs.YtepfnnhmplaocaaDoor
