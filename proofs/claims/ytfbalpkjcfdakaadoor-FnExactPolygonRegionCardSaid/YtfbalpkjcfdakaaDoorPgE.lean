/- The sides of a polygon as the model lists them; the signed area. Condition: the points' cells are in memory. -/
import Derived.Test.YtfbalpkjcfdakaaDoorPgD
import Derived.Test.YtfbalpkjcfdakaaDoorQB
import Derived.Laws.AppendOwn
import Derived.Deep.AppendLies
import Derived.Deep.RegionLaw
import Derived.Laws.Rows
import Derived.OwnWalk
namespace Go.Proofs.YtfbalpkjcfdakaaDoor
open Go.RowKit
set_option linter.unusedVariables false
set_option linter.unusedSimpArgs false
attribute [local go_sem ↓] Go.wp_at_zero Go.wp_at_succ

theorem addS (b o j : Nat) : (⟨b, o, none⟩ : Addr).add j = ⟨b, o + j, none⟩ := by
  unfold Addr.add
  split
  · rename_i h; subst h; rfl
  · rfl
theorem s8news {w1 : World} {t : TypeId} (a b c d : Int) : ∀ j u, ([.int .i64 a, .int .i64 b, .int .i64 c, .int .i64 d] : List Value)[j]? = some u → (w1.alloc (.cells #[.int .i64 a, .int .i64 b, .int .i64 c, .int .i64 d] t)).cell? ((⟨w1.heap.size, 0, none⟩ : Addr).add j) = some u := by
  intro j u hj
  match j, hj with
  | 0, hj => simp at hj; subst hj; rw [addS]; simp [go_sem]
  | 1, hj => simp at hj; subst hj; rw [addS]; simp [go_sem]
  | 2, hj => simp at hj; subst hj; rw [addS]; simp [go_sem]
  | 3, hj => simp at hj; subst hj; rw [addS]; simp [go_sem]
  | (k + 4), hj => simp at hj
theorem s8ints (a b c d : Int) : ∀ u ∈ ([.int .i64 a, .int .i64 b, .int .i64 c, .int .i64 d] : List Value), u.oneCell' = true := fun u hu => by
  simp at hu
  rcases hu with rfl | rfl | rfl | rfl <;> rfl
/-- The edges of a list, read from a row of a list's own. -/
theorem s8rects {w : World} {B g n cap : Nat} {P Q R S : Nat → Int} (h : w.ownsRow B 105 4 (.slice (some ⟨g, 0, none⟩) n cap) n (recCells (listR P Q R S n))) : RectsIs w.heap.size w (some ⟨g, 0, none⟩) n P Q R S := fun i hi => by
  have hl := h.lt g rfl
  obtain ⟨h0, h1, h2, h3⟩ := recCells_at _ i _ (listR_get P Q R S n i hi)
  have c0 := h.cells (g := g) rfl _ _ h0
  have c1 := h.cells (g := g) rfl _ _ h1
  have c2 := h.cells (g := g) rfl _ _ h2
  have c3 := h.cells (g := g) rfl _ _ h3
  rw [addS] at c0 c1 c2 c3
  exact ⟨g, 0, rfl, hl.2, c0, c1, c2, c3⟩
theorem listR_snoc (P Q R S : Nat → Int) (n : Nat) : recCells (listR P Q R S (n + 1)) = recCells (listR P Q R S n) ++ [.int .i64 (P n), .int .i64 (Q n), .int .i64 (R n), .int .i64 (S n)] := by
  have : listR P Q R S (n + 1) = listR P Q R S n ++ [⟨P n, Q n, R n, S n⟩] := by simp [listR, List.range_succ]
  rw [this, recCells_snoc]; rfl

/-- A new list of edges at a block, no older than B. -/
def SidesRes (B n : Nat) (P Q R S : Nat → Int) (e : Ending) (w : World) : Prop := ∃ g c, e = .returned (.slice (some ⟨g, 0, none⟩) n c) ∧ n ≤ c ∧ B ≤ g ∧ RectsIs w.heap.size w (some ⟨g, 0, none⟩) n P Q R S

set_option maxRecDepth 100000 in
set_option maxHeartbeats 4000000 in
theorem l08Sides_any (a : Option Addr) (n cap : Nat) (X Y : Nat → Int) (w : World) (hn : n ≤ 1048576) (hP : PtsIs w.heap.size w a n X Y) :
    Calls Tryd.prog 62 #[.slice a n cap] w fun e w' => SidesRes w.heap.size n X Y (fun i => X ((i + 1) % n)) (fun i => Y ((i + 1) % n)) e w' ∧ Below w.heap.size w w' := by
  obtain ⟨i0, hin, hz0, hz1, hz2⟩ := info_parts Tryd.infoE
  have HP := Lib.hid hP
  clear hP
  go_enter Tryd.func62, Tryd.ntmps62
  go_wp2_with fail
  go_loopw [3, 4] (fun s3 s4 wr => ∃ (i h c' : Nat), i ≤ n ∧ s4 = .int .i64 (i : Nat) ∧ s3 = .slice (some ⟨h, 0, none⟩) i c' ∧ Hid (wr.ownsRow w.heap.size 105 4 (.slice (some ⟨h, 0, none⟩) i c') i (recCells (listR X Y (fun i => X ((i + 1) % n)) (fun i => Y ((i + 1) % n)) i))) ∧ Below w.heap.size w wr ∧ w.heap.size < wr.heap.size) (fun _ s4 _ => n - (intOf s4).toNat)
  case atStart => exact ⟨0, _, _, by omega, rfl, rfl, Lib.hid (by have hm := World.ownsRow_made (base := w.heap.size) (size := 4) (e := 105) w #[] 0 (Nat.le_refl _) (by unfold maxLen; decide) rfl; exact hm), by (repeat (first | (with_reducible exact Below.refl _ _) | (with_reducible refine Ext.drewN ?_ _) | (with_reducible refine Below.drew ?_) | (with_reducible refine Ext.alloc ?_ _) | (with_reducible refine Ext.setCell ?_ (by simp; try omega) _) | (with_reducible refine Ext.trans ?_ (by assumption)) | (with_reducible assumption) | exact Below.refl _ _)), by simp⟩
  case round =>
    obtain ⟨i, h, c', hi, rfl, rfl, HO, hW, hsz⟩ := hrel
    by_cases hlt : i < n
    · obtain ⟨j, hj⟩ : ∃ j, j = (i + 1) % n := ⟨_, rfl⟩
      have hjn : j < n := by rw [hj]; exact Nat.mod_lt _ (by omega)
      have t1 : ((i : Int) + 1).tmod (n : Int) = (j : Int) := tmod_add 1 hj
      obtain ⟨b, off, rfl⟩ := HP.out.base (by omega)
      have HS := Lib.hid (listR_snoc X Y (fun i => X ((i + 1) % n)) (fun i => Y ((i + 1) % n)) i)
      simp only [← hj] at HS
      have HJ := Lib.hid hj
      clear hj
      obtain ⟨hb, cx, cy⟩ := (HP.out.below hW).at rfl hlt
      obtain ⟨_, dx, dy⟩ := (HP.out.below hW).at rfl hjn
      have q1 : (i : Int) < (n : Int) := by omega
      have q0 : (0 : Int) ≤ (i : Int) := by omega
      have q2 : (j : Int) < (n : Int) := by omega
      have q3 : (0 : Int) ≤ (j : Int) := by omega
      have e1 : IntKind.i64.wrap ((i : Int) + 1) = (i : Int) + 1 := by rw [IntKind.wrap_i64]; omega
      have hn0 : ¬ n = 0 := by omega
      have e2 : IntKind.i64.wrap (j : Int) = (j : Int) := by rw [IntKind.wrap_i64]; omega
      have hbw := Nat.lt_of_lt_of_le hb hW.size
      have hW0 : Below wr.heap.size wr (wr.alloc (.cells #[.int .i64 (X j), .int .i64 (Y j)] 66)) := by (repeat (first | (with_reducible exact Below.refl _ _) | (with_reducible refine Ext.drewN ?_ _) | (with_reducible refine Below.drew ?_) | (with_reducible refine Ext.alloc ?_ _) | (with_reducible refine Ext.setCell ?_ (by simp; try omega) _) | (with_reducible refine Ext.trans ?_ (by assumption)) | (with_reducible assumption) | exact Below.refl _ _))
      go_wp2_with fail
      obtain ⟨wq, hwq⟩ : ∃ wq, wq = wr.alloc (.cells #[.int .i64 (X j), .int .i64 (Y j)] 66) := ⟨_, rfl⟩
      have sq : wq.heap.size = wr.heap.size + 1 := by rw [hwq]; simp
      have x0 : wq.cell? ⟨wr.heap.size, 0, none⟩ = some (.int .i64 (X j)) := by rw [hwq]; simp [go_sem]
      have x1 : wq.cell? ⟨wr.heap.size, 1, none⟩ = some (.int .i64 (Y j)) := by rw [hwq]; simp [go_sem]
      have OQ := Lib.hid (HO.out.alloc (.cells #[.int .i64 (X j), .int .i64 (Y j)] 66))
      rw [← hwq] at OQ hW0 ⊢
      have cx := keepC hW0 cx
      have cy := keepC hW0 cy
      have hle : w.heap.size < wq.heap.size := by omega
      have HSQ := Lib.hid sq
      clear hwq sq
      go_region_law (refine step_append_lies _ (by rfl) _ _ _ (by rfl) w.heap.size 105 i0 _ 4 32 Tryd.underlying79 hin hz0 hz1 hz2 rfl (by omega) (.slice (some ⟨h, 0, none⟩) i c') i (recCells (listR X Y (fun i => X ((i + 1) % n)) (fun i => Y ((i + 1) % n)) i)) (by rfl) (by first | exact ((OQ.out.alloc _).drew) | exact (OQ.out.drew.alloc _) | exact OQ.out.alloc _) ⟨wq.heap.size, 0, none⟩ 1 1 [.int .i64 (X i), .int .i64 (Y i), .int .i64 (X j), .int .i64 (Y j)] (by rfl) (by rfl) (World.news_of_block (cs := #[.int .i64 (X i), .int .i64 (Y i), .int .i64 (X j), .int .i64 (Y j)]) (t := 105) (fr := (0, 0)) (heap_alloc_new wq _)) (by simp [Value.oneCell']) (by omega) (by unfold maxLen; omega) (by omega) (by simp; omega) (wq.heap.size + 1) (by simp) ?_; intro gg cap4 w4 hown1 hgrow hat hlt4)
      all_goals
        have hWq : Below w.heap.size w wq := hW.trans (hW0.mono hW.size)
        have hW4 : Below w.heap.size w w4 := Below.grown ((hWq.alloc (Nat.le_of_lt hle) _).drew) hgrow (by simp; omega) (fun k hk => (HO.out.lt k hk).1)
        have hs4 := hgrow.size
        simp at hs4
        have OW : Hid (w4.ownsRow w.heap.size 105 4 (.slice (some ⟨gg, 0, none⟩) (i + 1) cap4) (i + 1) (recCells (listR X Y (fun i => X ((i + 1) % n)) (fun i => Y ((i + 1) % n)) (i + 1)))) := Lib.hid (by rw [HS.out]; exact hown1)
        clear hown1 hgrow hat
        go_wp2_with fail
        go_roundw
        case rel => exact ⟨i + 1, gg, cap4, by omega, by go_num, rfl, OW, hW4, by omega⟩
        case measure => simp [intOf]; omega
    · have q1 : ¬ (i : Int) < (n : Int) := by omega
      obtain rfl : i = n := by omega
      go_wp2_with fail
      go_ret
      exact ⟨⟨h, c', rfl, HO.out.2.elim (fun k => by cases k.1) (fun ⟨g, cap, cur, e, h1, h2, h3, h9⟩ => by cases e; exact h3), (HO.out.lt h rfl).1, s8rects HO.out⟩, hW⟩
end Go.Proofs.YtfbalpkjcfdakaaDoor
