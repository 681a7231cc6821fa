/- The laws' copies of libraries. Condition: the cells' parts are in memory. -/
import Derived.Test.YtciodcknobccdaaLbM
import Derived.Laws.Rows
import Derived.Laws.OwnMore
namespace Go.Proofs.Ytciodcknobccdaa
open Go.RowKit
set_option linter.unusedVariables false
set_option linter.unusedSimpArgs false
attribute [local go_sem ↓] Go.wp_at_zero Go.wp_at_succ

theorem other_cellL {w : World} {p q : Addr} {u v : Value} (hne : p ≠ q) (h : w.cell? p = some v) : (w.setCell q u).cell? p = some v := by rw [World.cell?_setCell_other _ _ _ _ (Ne.symm hne)]; exact h
/-- Values laid one after another. -/
def putL (w : World) (g o k : Nat) : List Value → World
  | [] => w
  | v :: r => putL (w.setCell ⟨g, o + k, none⟩ v) g o (k + 1) r
theorem putL_other {g o : Nat} {p : Addr} : ∀ (vs : List Value) (w : World) (k : Nat), (∀ j, k ≤ j → j < k + vs.length → p ≠ ⟨g, o + j, none⟩) → (putL w g o k vs).cell? p = w.cell? p
  | [], w, k, _ => rfl
  | v :: r, w, k, h => by
    show (putL (w.setCell ⟨g, o + k, none⟩ v) g o (k + 1) r).cell? p = w.cell? p
    rw [putL_other r _ (k + 1) (fun j h1 h2 => h j (by omega) (by simp; omega)), World.cell?_setCell_other _ _ _ _ (Ne.symm (h k (Nat.le_refl _) (by simp)))]
theorem putL_frozen {g o : Nat} {p : Addr} : ∀ (vs : List Value) (w : World) (k : Nat), (putL w g o k vs).frozen? p = w.frozen? p
  | [], w, k => rfl
  | v :: r, w, k => by
    show (putL (w.setCell ⟨g, o + k, none⟩ v) g o (k + 1) r).frozen? p = w.frozen? p
    rw [putL_frozen r _ (k + 1)]
    exact World.frozen?_setCell _ _ _ _
theorem putL_some {g o : Nat} {p : Addr} : ∀ (vs : List Value) (w : World) (k : Nat), (∃ v, w.cell? p = some v) → ∃ v, (putL w g o k vs).cell? p = some v
  | [], w, k, h => h
  | v :: r, w, k, ⟨u, hu⟩ => by
    refine putL_some r _ (k + 1) ?_
    by_cases e : p = ⟨g, o + k, none⟩
    · subst e; exact ⟨v, World.cell?_setCell_same _ _ _ hu⟩
    · exact ⟨u, other_cellL e hu⟩
theorem putL_at {g o : Nat} : ∀ (vs : List Value) (w : World) (k : Nat), (∀ j, j < vs.length → ∃ u, w.cell? ⟨g, o + (k + j), none⟩ = some u) → ∀ j v, vs[j]? = some v → (putL w g o k vs).cell? ⟨g, o + (k + j), none⟩ = some v
  | [], w, k, h, j, v, hj => by simp at hj
  | u :: r, w, k, h, j, v, hj => by
    show (putL (w.setCell ⟨g, o + k, none⟩ u) g o (k + 1) r).cell? _ = _
    cases j with
    | zero =>
      obtain rfl : u = v := by simpa using hj
      rw [putL_other r _ (k + 1) (fun j h1 h2 e => by simp at e; try omega)]
      obtain ⟨x, hx⟩ := h 0 (by simp)
      exact World.cell?_setCell_same _ _ _ hx
    | succ j =>
      have h2 := putL_at r (w.setCell ⟨g, o + k, none⟩ u) (k + 1) (fun t ht => by
        obtain ⟨x, hx⟩ := h (t + 1) (by simp; omega)
        exact ⟨x, other_cellL (fun e => by have e2 : o + (k + 1 + t) = o + k := by injection e
                                           omega) (by rw [show k + 1 + t = k + (t + 1) by omega]; exact hx)⟩) j v (by simpa using hj)
      rw [show k + (j + 1) = k + 1 + j by omega]
      exact h2
theorem putL_size (g o : Nat) : ∀ (vs : List Value) (w : World) (k : Nat), (putL w g o k vs).heap.size = w.heap.size
  | [], w, k => rfl
  | v :: r, w, k => by
    show (putL (w.setCell ⟨g, o + k, none⟩ v) g o (k + 1) r).heap.size = w.heap.size
    rw [putL_size g o r]
    simp
/-- A row of things at block g that may be written; the first i things are there. -/
def FillAt {α : Type} (n : Nat) (cs : α → List Value) (w : World) (g : Nat) (l : List α) (i : Nat) : Prop :=
  (∀ k s, k < i → l[k]? = some s → ∀ j v, (cs s)[j]? = some v → w.cell? ⟨g, k * n + j, none⟩ = some v) ∧ ∀ o, o < l.length * n → (∃ v, w.cell? ⟨g, o, none⟩ = some v) ∧ w.frozen? ⟨g, o, none⟩ = false
theorem FillAt.below {α : Type} {n : Nat} {cs : α → List Value} {w w' : World} {g : Nat} {l : List α} {i B : Nat} (h : FillAt n cs w g l i) (hb : Below B w w') (hg : g < B) : FillAt n cs w' g l i :=
  ⟨fun k s hk hi j v hj => (hb.cell (p := ⟨g, k * n + j, none⟩) hg).trans (h.1 k s hk hi j v hj), fun o ho => by
    obtain ⟨⟨v, hv⟩, hf⟩ := h.2 o ho
    exact ⟨⟨v, (hb.cell (p := ⟨g, o, none⟩) hg).trans hv⟩, (hb.frozen (p := ⟨g, o, none⟩) hg).trans hf⟩⟩
theorem FillAt.step {α : Type} {n : Nat} {cs : α → List Value} {w : World} {g : Nat} {l : List α} {i : Nat} {s : α} (h : FillAt n cs w g l i) (hi : l[i]? = some s) (hcs : ∀ s, (cs s).length = n) : FillAt n cs (putL w g (i * n) 0 (cs s)) g l (i + 1) := by
  have hil := get_lt hi
  have hin : i * n + n ≤ l.length * n := by rw [← Nat.succ_mul]; exact Nat.mul_le_mul_right n hil
  refine ⟨fun k t hk ht j v hj => ?_, fun o ho => ⟨putL_some _ _ _ (h.2 o ho).1, (putL_frozen _ _ _).trans (h.2 o ho).2⟩⟩
  have hjn : j < n := by rw [← hcs t]; exact (List.getElem?_eq_some_iff.1 hj).1
  by_cases e : k = i
  · subst e
    rw [hi] at ht
    cases ht
    have := putL_at (g := g) (o := k * n) (cs s) w 0 (fun t ht => by rw [Nat.zero_add]; rw [hcs s] at ht; exact (h.2 (k * n + t) (by omega)).1) j v hj
    rw [Nat.zero_add] at this
    exact this
  · have hlt : k * n + n ≤ i * n := by rw [← Nat.succ_mul]; exact Nat.mul_le_mul_right n (by omega)
    rw [putL_other _ _ _ (fun t h1 h2 e => by simp at e; try omega)]
    exact h.1 k t (by omega) ht j v hj
theorem FillAt.lies {α : Type} {n : Nat} {cs : α → List Value} {w : World} {g : Nat} {l : List α} {B : Nat} (h : FillAt n cs w g l l.length) (hg : g < B) : LiesAt n cs B w (some ⟨g, 0, none⟩) l := fun i s hi =>
  ⟨g, 0, rfl, hg, fun j v hj => by rw [Nat.zero_add]; exact h.1 i s (get_lt hi) hi j v hj⟩
theorem FillAt.zero {α : Type} {n : Nat} {cs : α → List Value} {w : World} {g : Nat} {l : List α} (h : ∀ o, o < l.length * n → (∃ v, w.cell? ⟨g, o, none⟩ = some v) ∧ w.frozen? ⟨g, o, none⟩ = false) : FillAt n cs w g l 0 := ⟨fun k s hk => absurd hk (by omega), h⟩
theorem made_some (z : Array Value) (n j : Nat) (h : j < n) : ∃ v, (madeCells z n).toList[j]? = some v := ⟨_, List.getElem?_eq_getElem (by simpa [madeCells] using h)⟩
/-- A copy in a row of its own. -/
def CopyAt {α : Type} (n : Nat) (cs : α → List Value) (w : World) (l : List α) (e : Ending) (w' : World) : Prop :=
  ∃ g : Nat, w.heap.size ≤ g ∧ g < w'.heap.size ∧ e = .returned (.slice (some ⟨g, 0, none⟩) l.length l.length) ∧ Below w.heap.size w w' ∧ FillAt n cs w' g l l.length

theorem infoIns : (Try.prog.info? 30).map (fun i => (i.zero, i.size, i.bytes)) = some (some (.agg #[.int .i64 0, .int .i64 0, .int .i64 0, .int .i64 0, .int .i64 0, .int .i64 0, .int .i64 0, .int .i64 0]), 8, 64) := by kernel_rfl
set_option maxHeartbeats 8000000 in
theorem toInstance_any (c o x y m n p q : Int) (w : World) : Calls Try.prog 5 #[.agg #[.int .i64 c, .int .i64 o, .int .i64 x, .int .i64 y, .int .i64 m, .int .i64 n, .int .i64 p, .int .i64 q]] w fun e w' => e = .returned (.agg #[.int .i64 c, .int .i64 o, .int .i64 x, .int .i64 y, .int .i64 m, .int .i64 n, .int .i64 p, .int .i64 q]) ∧ Below w.heap.size w w' := by
  go_enter Try.func5, Try.ntmps5
  go_wp2_with fail
  refine (toTransform_any _ _ _ _).mono ?_
  rintro e v1 ⟨rfl, bv1⟩
  have P4 : v1.cell? ⟨w.heap.size, 4, none⟩ = some (.int .i64 m) := keepC bv1 (by simp [go_sem])
  have P5 : v1.cell? ⟨w.heap.size, 5, none⟩ = some (.int .i64 n) := keepC bv1 (by simp [go_sem])
  have P6 : v1.cell? ⟨w.heap.size, 6, none⟩ = some (.int .i64 p) := keepC bv1 (by simp [go_sem])
  have P7 : v1.cell? ⟨w.heap.size, 7, none⟩ = some (.int .i64 q) := keepC bv1 (by simp [go_sem])
  have R0 : v1.cell? ⟨w.heap.size + 1, 0, none⟩ = some (.int .i64 0) := keepC bv1 (by simp [go_sem])
  have Rf0 : v1.frozen? ⟨w.heap.size + 1, 0, none⟩ = false := by rw [bv1.frozen (p := ⟨w.heap.size + 1, 0, none⟩) (by simp)]; simp [go_sem]
  have R1 : v1.cell? ⟨w.heap.size + 1, 1, none⟩ = some (.int .i64 0) := keepC bv1 (by simp [go_sem])
  have Rf1 : v1.frozen? ⟨w.heap.size + 1, 1, none⟩ = false := by rw [bv1.frozen (p := ⟨w.heap.size + 1, 1, none⟩) (by simp)]; simp [go_sem]
  have R2 : v1.cell? ⟨w.heap.size + 1, 2, none⟩ = some (.int .i64 0) := keepC bv1 (by simp [go_sem])
  have Rf2 : v1.frozen? ⟨w.heap.size + 1, 2, none⟩ = false := by rw [bv1.frozen (p := ⟨w.heap.size + 1, 2, none⟩) (by simp)]; simp [go_sem]
  have R3 : v1.cell? ⟨w.heap.size + 1, 3, none⟩ = some (.int .i64 0) := keepC bv1 (by simp [go_sem])
  have Rf3 : v1.frozen? ⟨w.heap.size + 1, 3, none⟩ = false := by rw [bv1.frozen (p := ⟨w.heap.size + 1, 3, none⟩) (by simp)]; simp [go_sem]
  have R4 : v1.cell? ⟨w.heap.size + 1, 4, none⟩ = some (.int .i64 0) := keepC bv1 (by simp [go_sem])
  have Rf4 : v1.frozen? ⟨w.heap.size + 1, 4, none⟩ = false := by rw [bv1.frozen (p := ⟨w.heap.size + 1, 4, none⟩) (by simp)]; simp [go_sem]
  have R5 : v1.cell? ⟨w.heap.size + 1, 5, none⟩ = some (.int .i64 0) := keepC bv1 (by simp [go_sem])
  have Rf5 : v1.frozen? ⟨w.heap.size + 1, 5, none⟩ = false := by rw [bv1.frozen (p := ⟨w.heap.size + 1, 5, none⟩) (by simp)]; simp [go_sem]
  have R6 : v1.cell? ⟨w.heap.size + 1, 6, none⟩ = some (.int .i64 0) := keepC bv1 (by simp [go_sem])
  have Rf6 : v1.frozen? ⟨w.heap.size + 1, 6, none⟩ = false := by rw [bv1.frozen (p := ⟨w.heap.size + 1, 6, none⟩) (by simp)]; simp [go_sem]
  have R7 : v1.cell? ⟨w.heap.size + 1, 7, none⟩ = some (.int .i64 0) := keepC bv1 (by simp [go_sem])
  have Rf7 : v1.frozen? ⟨w.heap.size + 1, 7, none⟩ = false := by rw [bv1.frozen (p := ⟨w.heap.size + 1, 7, none⟩) (by simp)]; simp [go_sem]
  have O0 : v1.cell? ⟨w.heap.size + 1 + 1, 0, none⟩ = some (.int .i64 c) := keepC bv1 (by simp [go_sem])
  have Of0 : v1.frozen? ⟨w.heap.size + 1 + 1, 0, none⟩ = false := by rw [bv1.frozen (p := ⟨w.heap.size + 1 + 1, 0, none⟩) (by simp)]; simp [go_sem]
  have O1 : v1.cell? ⟨w.heap.size + 1 + 1, 1, none⟩ = some (.int .i64 0) := keepC bv1 (by simp [go_sem])
  have Of1 : v1.frozen? ⟨w.heap.size + 1 + 1, 1, none⟩ = false := by rw [bv1.frozen (p := ⟨w.heap.size + 1 + 1, 1, none⟩) (by simp)]; simp [go_sem]
  have O2 : v1.cell? ⟨w.heap.size + 1 + 1, 2, none⟩ = some (.int .i64 0) := keepC bv1 (by simp [go_sem])
  have Of2 : v1.frozen? ⟨w.heap.size + 1 + 1, 2, none⟩ = false := by rw [bv1.frozen (p := ⟨w.heap.size + 1 + 1, 2, none⟩) (by simp)]; simp [go_sem]
  have O3 : v1.cell? ⟨w.heap.size + 1 + 1, 3, none⟩ = some (.int .i64 0) := keepC bv1 (by simp [go_sem])
  have Of3 : v1.frozen? ⟨w.heap.size + 1 + 1, 3, none⟩ = false := by rw [bv1.frozen (p := ⟨w.heap.size + 1 + 1, 3, none⟩) (by simp)]; simp [go_sem]
  have O4 : v1.cell? ⟨w.heap.size + 1 + 1, 4, none⟩ = some (.int .i64 0) := keepC bv1 (by simp [go_sem])
  have Of4 : v1.frozen? ⟨w.heap.size + 1 + 1, 4, none⟩ = false := by rw [bv1.frozen (p := ⟨w.heap.size + 1 + 1, 4, none⟩) (by simp)]; simp [go_sem]
  have O5 : v1.cell? ⟨w.heap.size + 1 + 1, 5, none⟩ = some (.int .i64 0) := keepC bv1 (by simp [go_sem])
  have Of5 : v1.frozen? ⟨w.heap.size + 1 + 1, 5, none⟩ = false := by rw [bv1.frozen (p := ⟨w.heap.size + 1 + 1, 5, none⟩) (by simp)]; simp [go_sem]
  have O6 : v1.cell? ⟨w.heap.size + 1 + 1, 6, none⟩ = some (.int .i64 0) := keepC bv1 (by simp [go_sem])
  have Of6 : v1.frozen? ⟨w.heap.size + 1 + 1, 6, none⟩ = false := by rw [bv1.frozen (p := ⟨w.heap.size + 1 + 1, 6, none⟩) (by simp)]; simp [go_sem]
  have O7 : v1.cell? ⟨w.heap.size + 1 + 1, 7, none⟩ = some (.int .i64 0) := keepC bv1 (by simp [go_sem])
  have Of7 : v1.frozen? ⟨w.heap.size + 1 + 1, 7, none⟩ = false := by rw [bv1.frozen (p := ⟨w.heap.size + 1 + 1, 7, none⟩) (by simp)]; simp [go_sem]
  have hs1 := bv1.size
  simp only [World.size_alloc, World.size_setCell, World.size_drew] at hs1
  have HBV := Lib.hid bv1
  clear bv1
  go_upto_region 8 with fail
  obtain ⟨wx, hwx⟩ : ∃ wx, wx = putL v1 (w.heap.size + 1 + 1) 0 1 [.int .i64 o, .int .i64 x, .int .i64 y, .int .i64 m, .int .i64 n, .int .i64 p, .int .i64 q] := ⟨_, rfl⟩
  change Code.wp _ _ _ _ (putL v1 (w.heap.size + 1 + 1) 0 1 [.int .i64 o, .int .i64 x, .int .i64 y, .int .i64 m, .int .i64 n, .int .i64 p, .int .i64 q])
  rw [← hwx]
  have hat : ∀ j v, [.int .i64 o, .int .i64 x, .int .i64 y, .int .i64 m, .int .i64 n, .int .i64 p, .int .i64 q][j]? = some v → wx.cell? ⟨w.heap.size + 1 + 1, 0 + (1 + j), none⟩ = some v := by
    rw [hwx]
    refine putL_at _ _ 1 fun j hj => ?_
    simp only [List.length_cons, List.length_nil] at hj
    rcases (show j = 0 ∨ j = 1 ∨ j = 2 ∨ j = 3 ∨ j = 4 ∨ j = 5 ∨ j = 6 by omega) with rfl | rfl | rfl | rfl | rfl | rfl | rfl
    · exact ⟨_, O1⟩
    · exact ⟨_, O2⟩
    · exact ⟨_, O3⟩
    · exact ⟨_, O4⟩
    · exact ⟨_, O5⟩
    · exact ⟨_, O6⟩
    · exact ⟨_, O7⟩
  have hot : ∀ o', wx.cell? ⟨w.heap.size + 1, o', none⟩ = v1.cell? ⟨w.heap.size + 1, o', none⟩ := fun o' => by rw [hwx]; exact putL_other _ _ _ fun j _ _ e => by simp at e
  have ho0 : wx.cell? ⟨w.heap.size + 1 + 1, 0, none⟩ = some (.int .i64 c) := by rw [hwx, putL_other _ _ _ fun j h1 _ e => by simp at e; try omega]; exact O0
  have hfz : ∀ a, wx.frozen? a = v1.frozen? a := fun a => by rw [hwx]; exact putL_frozen _ _ _
  have hsz : wx.heap.size = v1.heap.size := by rw [hwx]; exact putL_size _ _ _ _ _
  have r0' := (hot 0).trans R0
  have f0' := (hfz ⟨w.heap.size + 1, 0, none⟩).trans Rf0
  have o1' := hat 0 _ rfl
  have r1' := (hot 1).trans R1
  have f1' := (hfz ⟨w.heap.size + 1, 1, none⟩).trans Rf1
  have o2' := hat 1 _ rfl
  have r2' := (hot 2).trans R2
  have f2' := (hfz ⟨w.heap.size + 1, 2, none⟩).trans Rf2
  have o3' := hat 2 _ rfl
  have r3' := (hot 3).trans R3
  have f3' := (hfz ⟨w.heap.size + 1, 3, none⟩).trans Rf3
  have o4' := hat 3 _ rfl
  have r4' := (hot 4).trans R4
  have f4' := (hfz ⟨w.heap.size + 1, 4, none⟩).trans Rf4
  have o5' := hat 4 _ rfl
  have r5' := (hot 5).trans R5
  have f5' := (hfz ⟨w.heap.size + 1, 5, none⟩).trans Rf5
  have o6' := hat 5 _ rfl
  have r6' := (hot 6).trans R6
  have f6' := (hfz ⟨w.heap.size + 1, 6, none⟩).trans Rf6
  have o7' := hat 6 _ rfl
  have r7' := (hot 7).trans R7
  have f7' := (hfz ⟨w.heap.size + 1, 7, none⟩).trans Rf7
  simp only [Nat.zero_add, Nat.reduceAdd] at o1' o2' o3' o4' o5' o6' o7'
  have HB2 : Hid (Below w.heap.size w wx) := Lib.hid (by
    have bv1 := HBV.out
    rw [hwx]
    unfold putL putL putL putL putL putL putL putL
    (repeat (first | (with_reducible exact Below.refl _ _) | (with_reducible refine Ext.drewN ?_ _) | (with_reducible refine Below.drew ?_) | (with_reducible refine Ext.alloc ?_ _) | (with_reducible refine Ext.setCell ?_ (by simp; try omega) _) | (with_reducible refine Ext.trans ?_ (by assumption)) | (with_reducible assumption) | exact Below.refl _ _)))
  clear hat hot hfz hwx HBV O0 R0 Of0 Rf0 O1 R1 Of1 Rf1 O2 R2 Of2 Rf2 O3 R3 Of3 Rf3 O4 R4 Of4 Rf4 O5 R5 Of5 Rf5 O6 R6 Of6 Rf6 O7 R7 Of7 Rf7 P4 P5 P6 P7
  go_wp2_with fail
  obtain ⟨wy, hwy⟩ : ∃ wy, wy = putL wx (w.heap.size + 1) 0 0 [.int .i64 c, .int .i64 o, .int .i64 x, .int .i64 y, .int .i64 m, .int .i64 n, .int .i64 p, .int .i64 q] := ⟨_, rfl⟩
  change bodyPost _ _ _ _ _ (putL wx (w.heap.size + 1) 0 0 [.int .i64 c, .int .i64 o, .int .i64 x, .int .i64 y, .int .i64 m, .int .i64 n, .int .i64 p, .int .i64 q])
  rw [← hwy]
  have hat : ∀ j v, [.int .i64 c, .int .i64 o, .int .i64 x, .int .i64 y, .int .i64 m, .int .i64 n, .int .i64 p, .int .i64 q][j]? = some v → wy.cell? ⟨w.heap.size + 1, 0 + (0 + j), none⟩ = some v := by
    rw [hwy]
    refine putL_at _ _ 0 fun j hj => ?_
    simp only [List.length_cons, List.length_nil] at hj
    rcases (show j = 0 ∨ j = 1 ∨ j = 2 ∨ j = 3 ∨ j = 4 ∨ j = 5 ∨ j = 6 ∨ j = 7 by omega) with rfl | rfl | rfl | rfl | rfl | rfl | rfl | rfl
    · exact ⟨_, r0'⟩
    · exact ⟨_, r1'⟩
    · exact ⟨_, r2'⟩
    · exact ⟨_, r3'⟩
    · exact ⟨_, r4'⟩
    · exact ⟨_, r5'⟩
    · exact ⟨_, r6'⟩
    · exact ⟨_, r7'⟩
  have y0 := hat 0 _ rfl
  have y1 := hat 1 _ rfl
  have y2 := hat 2 _ rfl
  have y3 := hat 3 _ rfl
  have y4 := hat 4 _ rfl
  have y5 := hat 5 _ rfl
  have y6 := hat 6 _ rfl
  have y7 := hat 7 _ rfl
  simp only [Nat.zero_add, Nat.reduceAdd] at y0 y1 y2 y3 y4 y5 y6 y7
  have HB3 : Hid (Below w.heap.size w wy) := Lib.hid (by
    have bv2 := HB2.out
    rw [hwy]
    unfold putL putL putL putL putL putL putL putL putL
    (repeat (first | (with_reducible exact Below.refl _ _) | (with_reducible refine Ext.drewN ?_ _) | (with_reducible refine Below.drew ?_) | (with_reducible refine Ext.alloc ?_ _) | (with_reducible refine Ext.setCell ?_ (by simp; try omega) _) | (with_reducible refine Ext.trans ?_ (by assumption)) | (with_reducible assumption) | exact Below.refl _ _)))
  clear hat hwy
  refine bodyPost_ret (v := .agg #[.int .i64 c, .int .i64 o, .int .i64 x, .int .i64 y, .int .i64 m, .int .i64 n, .int .i64 p, .int .i64 q]) (by simp [y0, y1, y2, y3, y4, y5, y6, y7, results, Try.results5, go_sem]) rfl ⟨rfl, HB3.out⟩
end Go.Proofs.Ytciodcknobccdaa
