/- The program's rows between edges. Condition: the edges' cells are in memory. -/
import Derived.Test.YtfbalpkjcfdakaaDoorPhB
import Derived.Test.YtfbalpkjcfdakaaDoorPgD
import Derived.Test.YtfbalpkjcfdakaaDoorQH
import Derived.Test.YtfbalpkjcfdakaaDoorQI
import Derived.Test.YtfbalpkjcfdakaaDoorQK
namespace Go.Proofs.YtfbalpkjcfdakaaDoor
open Go.RowKit Go.Shelf
set_option linter.unusedVariables false
set_option linter.unusedSimpArgs false
attribute [local go_sem ↓] Go.wp_at_zero Go.wp_at_succ

/-- Have all edges a length? -/
def elsB (P Q R S : Nat → Int) (n : Nat) : Bool := (List.range n).all fun i => elB (P i) (Q i) (R i) (S i)
theorem elsB_f {P Q R S : Nat → Int} {n i : Nat} (h : i < n) (hf : elB (P i) (Q i) (R i) (S i) = false) : elsB P Q R S n = false := by
  unfold elsB
  rw [List.all_eq_false]
  exact ⟨i, List.mem_range.2 h, by simp [hf]⟩
theorem elsB_t {P Q R S : Nat → Int} {n : Nat} (h : ∀ i, i < n → elB (P i) (Q i) (R i) (S i) = true) : elsB P Q R S n = true := by
  unfold elsB
  rw [List.all_eq_true]
  exact fun i hi => h i (List.mem_range.1 hi)
theorem elsB_at {P Q R S : Nat → Int} {n i : Nat} (h : elsB P Q R S n = true) (hi : i < n) : elB (P i) (Q i) (R i) (S i) = true := by
  unfold elsB at h
  exact List.all_eq_true.1 h i (List.mem_range.2 hi)
def RBres (P Q R S : Nat → Int) (n : Nat) (e : Ending) : Prop := ∃ G, e = .returned (.tuple #[.agg (wArr G), .bool (elsB P Q R S n)]) ∧ (elsB P Q R S n = true → RowsOK (fillR (listR P Q R S n)) G)

set_option maxRecDepth 100000 in
set_option maxHeartbeats 8000000 in
theorem rowsBetween_any (b off n cap : Nat) (P Q R S : Nat → Int) (w : World) (hn : n ≤ 1048576) (hR : RectsIs w.heap.size w (some ⟨b, off, none⟩) n P Q R S) :
    Calls Tryd.prog 65 #[.slice (some ⟨b, off, none⟩) n cap] w fun e w' => RBres P Q R S n e ∧ Below w.heap.size w w' := by
  have hz := zero59
  have HR := Lib.hid hR
  clear hR
  go_enter Tryd.func65, Tryd.ntmps65
  go_wp2_with fail
  go_loopw [11] (fun s wr => ∃ (i : Nat) (G : Nat → Nat), i ≤ n ∧ s = .int .i64 i ∧ Below w.heap.size w wr ∧ w.heap.size + 1 < wr.heap.size ∧ Hid (RowsAt wr w.heap.size (fun _ => 0)) ∧ Hid (RowsAt wr (w.heap.size + 1) G) ∧ Hid (RowsOK (fillR (listR P Q R S i)) G) ∧ Hid (∀ k, k < i → elB (P k) (Q k) (R k) (S k) = true)) (fun s _ => n - (intOf s).toNat)
  case atStart => exact ⟨0, fun _ => 0, by omega, rfl, by (repeat (first | (with_reducible exact Below.refl _ _) | (with_reducible refine Ext.drewN ?_ _) | (with_reducible refine Below.drew ?_) | (with_reducible refine Ext.alloc ?_ _) | (with_reducible refine Ext.setCell ?_ (by simp; try omega) _) | (with_reducible refine Ext.trans ?_ (by assumption)) | (with_reducible assumption) | exact Below.refl _ _)), by simp, Lib.hid (RowsAt.ext (RowsAt.new w _) ((Below.refl _ _).alloc (Nat.le_refl _) _)), Lib.hid (by have := RowsAt.new (w.alloc (.cells (wArr fun _ => 0) 87)) (fun _ => 0); rwa [World.size_alloc] at this), Lib.hid (by rw [show listR P Q R S 0 = [] from rfl, fillR_nil]; exact rows_none), Lib.hid fun k hk => absurd hk (by omega)⟩
  case round =>
    obtain ⟨i, G, hi, rfl, hW, hsz, HR0, HR1, HO, HA⟩ := hrel
    by_cases hlt : i < n
    · obtain ⟨hb, c0, c1, c2, c3⟩ := (HR.out.below hW).at rfl hlt
      have q1 : (i : Int) < (n : Int) := by omega
      have q0 : (0 : Int) ≤ (i : Int) := by omega
      cases hel : elB (P i) (Q i) (R i) (S i) with
      | false =>
        have hE := fun w => implEdgeLength_any (P i) (Q i) (R i) (S i) w
        rw [elV_f hel] at hE
        have ho := elsB_f hlt hel
        have HOO := Lib.hid ho
        clear ho hel
        go_wp2_with (go_at_call 117; refine (hE _).mono ?_; rintro e v1 ⟨rfl, bv1⟩; have r2 := (HR0.out.ext (by (repeat (first | (with_reducible exact Below.refl _ _) | (with_reducible refine Ext.drewN ?_ _) | (with_reducible refine Below.drew ?_) | (with_reducible refine Ext.alloc ?_ _) | (with_reducible refine Ext.setCell ?_ (by simp; try omega) _) | (with_reducible refine Ext.trans ?_ (by assumption)) | (with_reducible assumption) | exact Below.refl _ _)) : Below wr.heap.size wr (wr.alloc (.cells #[.int .i64 (P i), .int .i64 (Q i), .int .i64 (R i), .int .i64 (S i)] 105)))).ext bv1; have st := storeAt59 (fun _ => 0) r2; have st3 := store59 (fun _ => 0) r2; have sz3 := wArr_size (fun _ => 0); have hl := loadVar59 (r2.setRow (fun _ => 0)))
        have hBw : Below w.heap.size w v1 := by (repeat (first | (with_reducible exact Below.refl _ _) | (with_reducible refine Ext.drewN ?_ _) | (with_reducible refine Below.drew ?_) | (with_reducible refine Ext.alloc ?_ _) | (with_reducible refine Ext.setCell ?_ (by simp; try omega) _) | (with_reducible refine Ext.trans ?_ (by assumption)) | (with_reducible assumption) | exact Below.refl _ _))
        refine bodyPost_ret (v := .tuple #[.agg (wArr fun _ => 0), .bool false]) (by rw [results_cell_tmp rfl]; simp [asAddr, Result.andThen, hl]) rfl ⟨⟨fun _ => 0, by rw [HOO.out], fun h => by rw [HOO.out] at h; cases h⟩, hBw.trans (below_setRow _ _ (Nat.le_refl _))⟩
      | true =>
        have hE := fun w => implEdgeLength_any (P i) (Q i) (R i) (S i) w
        have hz1 := elV_ne hel
        have hz0 : (elV (P i) (Q i) (R i) (S i) == -1) = false := by simpa using hz1
        generalize elV (P i) (Q i) (R i) (S i) = z at hE hz1 hz0
        obtain ⟨hon1, hon2, hdir⟩ := elB_iff.1 hel
        obtain ⟨⟨x1, x2⟩, x3, x4⟩ := onB_t hon1
        obtain ⟨⟨y1, y2⟩, y3, y4⟩ := onB_t hon2
        obtain ⟨lo, hlo⟩ : ∃ lo, min (Q i) (S i) = lo := ⟨_, rfl⟩
        obtain ⟨hi', hhi⟩ : ∃ hi, max (Q i) (S i) = hi := ⟨_, rfl⟩
        have l1 : -40 ≤ lo := by omega
        have l2 : hi' ≤ 40 := by omega
        have l3 : lo ≤ hi' := by omega
        have HEL := Lib.hid hel
        have HDIR := Lib.hid hdir
        clear hel hdir hon1 hon2
        go_wp2_with (go_at_call 117; refine (hE _).mono ?_; rintro e v1 ⟨rfl, bv1⟩; obtain ⟨sv1, zv1, cv1, fv1⟩ := bcell bv1; (try simp only [World.size_alloc, World.size_setCell, World.size_drew] at sv1))
        have hne : ¬ wr.heap.size = w.heap.size := by omega
        have hBw : Below wr.heap.size wr v1 := by (repeat (first | (with_reducible exact Below.refl _ _) | (with_reducible refine Ext.drewN ?_ _) | (with_reducible refine Below.drew ?_) | (with_reducible refine Ext.alloc ?_ _) | (with_reducible refine Ext.setCell ?_ (by simp; try omega) _) | (with_reducible refine Ext.trans ?_ (by assumption)) | (with_reducible assumption) | exact Below.refl _ _))
        have hWv := hW.trans (hBw.mono hW.size)
        have HR0v := Lib.hid (HR0.out.ext hBw)
        have HR1v := Lib.hid (HR1.out.ext hBw)
        have d0 : v1.cell? ⟨wr.heap.size, 0, none⟩ = some (.int .i64 (P i)) := by rw [cv1 _ _ (by simp)]; simp [go_sem]
        have d1 : v1.cell? ⟨wr.heap.size, 1, none⟩ = some (.int .i64 (Q i)) := by rw [cv1 _ _ (by simp)]; simp [go_sem]
        have d3 : v1.cell? ⟨wr.heap.size, 3, none⟩ = some (.int .i64 (S i)) := by rw [cv1 _ _ (by simp)]; simp [go_sem]
        clear sv1 zv1 cv1 fv1 bv1 hBw
        go_loopw [7] (fun s wy => ∃ (y : Int) (G : Nat → Nat), lo ≤ y ∧ y ≤ hi' ∧ s = .int .i64 y ∧ Below w.heap.size w wy ∧ (wy.cell? ⟨wr.heap.size, 0, none⟩ = some (.int .i64 (P i)) ∧ wy.cell? ⟨wr.heap.size, 1, none⟩ = some (.int .i64 (Q i)) ∧ wy.cell? ⟨wr.heap.size, 3, none⟩ = some (.int .i64 (S i))) ∧ Hid (RowsAt wy w.heap.size (fun _ => 0)) ∧ Hid (RowsAt wy (w.heap.size + 1) G) ∧ Hid (RowsOK (tgF (fillR (listR P Q R S i)) fun u v => (decide (lo ≤ v) && decide (v < y)) && decide (u < P i)) G)) (fun s _ => (hi' - intOf s).toNat)
        case atStart => exact ⟨lo, G, by omega, by omega, rfl, hWv, ⟨d0, d1, d3⟩, HR0v, HR1v, Lib.hid (tg_none _ _ _ HO.out)⟩
        case round =>
          rename World => wy
          clear d0 d1 d3 hWv HR0v HR1v HO HR0 HR1
          obtain ⟨y, G, hy0, hy1, rfl, hY, ⟨d0, d1, d3⟩, HR0, HR1, HO⟩ := hrel
          by_cases hy : y < hi'
          · obtain ⟨q, hq⟩ : ∃ q : Nat, y + 40 = (q : Int) := ⟨(y + 40).toNat, by omega⟩
            have HQ := Lib.hid (show (y + 40).toNat = q by omega)
            have g0 := HR1.out.cell (j := q * 2) (by omega)
            have g1 := HR1.out.cell (j := q * 2 + 1) (by omega)
            have f0 := HR1.out.frozen (q * 2)
            have f1 := HR1.out.frozen (q * 2 + 1)
            have w0 := HO.out.word (q * 2)
            have w1 := HO.out.word (q * 2 + 1)
            have m0 : W64 (mk (min (P i + 40).toNat 64)) := mk_lt (by omega)
            have m1 : W64 (mk ((P i + 40).toNat - 64)) := mk_lt (by omega)
            have hL := fun w => left_any (P i) w (by omega) (by omega)
            have HXR := Lib.hid (tg_row HO.out (by omega) (by omega) (by omega) (by omega) hy0)
            generalize hA0 : mk (min (P i + 40).toNat 64) = A0 at m0 hL
            generalize hA1 : mk ((P i + 40).toNat - 64) = A1 at m1 hL
            have HA0 := Lib.hid hA0
            have HA1 := Lib.hid hA1
            clear hA0 hA1
            have r0 : (0 : Int) ≤ (q : Int) := by omega
            have r1 : (q : Int) < 80 := by omega
            have hwr : IntKind.i64.wrap (q : Int) = (q : Int) := by rw [IntKind.wrap_i64]; omega
            have hwy : IntKind.i64.wrap (y + 1) = y + 1 := by rw [IntKind.wrap_i64]; omega
            have hsy : w.heap.size + 1 < wy.heap.size := HR1.out.lt
            have her : wr.heap.size < wy.heap.size := World.block_lt_of_cell? wy ⟨wr.heap.size, 0, none⟩ d0
            go_wp2_with fail
            go_region_with (first | (go_at_call 119; refine (hL _).mono ?_; rintro e v2 ⟨rfl, bv2⟩; have bw2 : Below wy.heap.size wy v2 := (by (repeat (first | (with_reducible exact Below.refl _ _) | (with_reducible refine Ext.drewN ?_ _) | (with_reducible refine Below.drew ?_) | (with_reducible refine Ext.alloc ?_ _) | (with_reducible refine Ext.setCell ?_ (by simp; try omega) _) | (with_reducible refine Ext.trans ?_ (by assumption)) | (with_reducible assumption) | exact Below.refl _ _))); have g0' := keepC bw2 g0; have g1' := keepC bw2 g1; have k0' := keepC bw2 d0) | (go_at_call 118; refine (differing_any _ _ _ _ _ w0 w1 m0 m1).mono ?_; rintro e v3 ⟨rfl, bv3⟩; have bw3 : Below wy.heap.size wy v3 := (by (repeat (first | (with_reducible exact Below.refl _ _) | (with_reducible refine Ext.drewN ?_ _) | (with_reducible refine Below.drew ?_) | (with_reducible refine Ext.alloc ?_ _) | (with_reducible refine Ext.setCell ?_ (by simp; try omega) _) | (with_reducible refine Ext.trans ?_ (by assumption)) | (with_reducible assumption) | exact Below.refl _ _))); have g0'' := keepC bw3 g0; have g1'' := keepC bw3 g1; have f0'' := (bw3.frozen (p := ⟨w.heap.size + 1, q * 2, none⟩) hsy).trans f0; have f1'' := (bw3.frozen (p := ⟨w.heap.size + 1, q * 2 + 1, none⟩) hsy).trans f1))
            all_goals
              have hset := ((HR1.out.ext bw3).set (j := q * 2) (by omega) (G (q * 2) ^^^ A0)).set (j := q * 2 + 1) (by omega) (G (q * 2 + 1) ^^^ A1)
              have HSET : Hid (RowsAt ((v3.setCell ⟨w.heap.size + 1, q * 2, none⟩ (.int .u64 ((G (q * 2) ^^^ A0 : Nat) : Int))).setCell ⟨w.heap.size + 1, q * 2 + 1, none⟩ (.int .u64 ((G (q * 2 + 1) ^^^ A1 : Nat) : Int))) (w.heap.size + 1) (xorR G (y + 40).toNat (P i + 40).toNat)) := Lib.hid (by rw [HQ.out]; unfold xorR; rw [HA0.out, HA1.out]; exact hset)
              clear hset
              have hne1 : ¬ w.heap.size + 1 = wr.heap.size := by omega
              have hne0 : ¬ w.heap.size + 1 = w.heap.size := by omega
              have hwv : Below w.heap.size w v3 := hY.trans (bw3.mono hY.size)
              have hr0 := HR0.out.ext bw3
              go_wp2_with fail
              go_roundw
              case rel => exact ⟨y + 1, _, by omega, by omega, by go_num, (hwv.setCell (p := ⟨w.heap.size + 1, q * 2, none⟩) (show w.heap.size ≤ w.heap.size + 1 from Nat.le_succ _) _).setCell (p := ⟨w.heap.size + 1, q * 2 + 1, none⟩) (show w.heap.size ≤ w.heap.size + 1 from Nat.le_succ _) _, ⟨keepS (keepS (keepC bw3 d0) hne1 _) hne1 _, keepS (keepS (keepC bw3 d1) hne1 _) hne1 _, keepS (keepS (keepC bw3 d3) hne1 _) hne1 _⟩, Lib.hid (RowsAt.kept hr0 (X := fun k => k = w.heap.size + 1) (((Kept.refl (fun k => k = w.heap.size + 1) v3).setCell (p := ⟨w.heap.size + 1, q * 2, none⟩) rfl _).setCell (p := ⟨w.heap.size + 1, q * 2 + 1, none⟩) rfl _) (by omega)), HSET, HXR⟩
              case measure => simp [intOf]; omega
          · obtain rfl : y = hi' := by omega
            go_wp2_with fail
            go_roundw
            case rel => exact ⟨i + 1, G, by omega, by go_num, hY, by have := World.block_lt_of_cell? _ _ d0; simp at this; omega, HR0, HR1, Lib.hid (tg_next (by have := HDIR.out; omega) (by rw [hlo, hhi]; exact HO.out)), Lib.hid fun k hk => by
              by_cases e : k = i
              · rw [e]; exact HEL.out
              · exact HA.out k (by omega)⟩
            case measure => simp [intOf]; omega
    · have q1 : ¬ (i : Int) < (n : Int) := by omega
      obtain rfl : i = n := by omega
      have hl := loadAt59 HR1.out
      have hl' := loadVar59 HR1.out
      have st := storeAt59 G HR0.out
      have hl2 := loadVar59 (HR0.out.setRow G)
      clear hl hl' st hl2
      go_upto_region 13 with fail
      refine wp_region_lit ?_
      unfold wpList
      rw [if_pos (by rfl)]
      refine .inl (op_load59 rfl rfl HR1.out ?_)
      unfold wpList
      rw [if_pos (by rfl)]
      refine .inl (op_store59 (d := 2) (s := 46) (G := G) ?_ ?_ ?_ HR0.out ?_)
      · rfl
      · rfl
      · rfl
      simp only [go_sem, Act.put]
      go_wp2_with fail
      have he := elsB_t HA.out
      refine bodyPost_ret (v := .tuple #[.agg (wArr G), .bool true]) (by rw [results_cell_tmp rfl]; simp [asAddr, Result.andThen, loadVar59 (HR0.out.setRow _)]) rfl ⟨⟨G, by rw [he], fun _ => HO.out⟩, hW.trans (below_setRow _ _ (Nat.le_refl _))⟩
end Go.Proofs.YtfbalpkjcfdakaaDoor
