/- The model's flags of unit cells: place, test, runs of a row. -/
import Derived.Test.YtciodcknobccdaaDoorRgA
import Derived.Test.YtciodcknobccdaaDoorTrA
import Derived.OwnWalk
import Derived.Laws.AppendOwn
import Derived.LoopN
import Derived.Lib.Hide
namespace Go.Proofs.YtciodcknobccdaaDoor
open Go.RowKit
set_option linter.unusedVariables false
set_option linter.unusedSimpArgs false
attribute [local go_sem ↓] Go.wp_at_zero Go.wp_at_succ

theorem l03At_any (x y : Int) (w : World) (h1 : -40 ≤ x) (h2 : x ≤ 39) (h3 : -40 ≤ y) (h4 : y ≤ 39) : Calls Tryd.prog 130 #[.int .i64 x, .int .i64 y] w fun e w' => e = .returned (.int .i64 (cIx x y : Nat)) ∧ w = w' := by
  go_enter Tryd.func130, Tryd.ntmps130
  go_wp2_with fail
  go_ret
  exact ⟨ret_int (cIx_int h1 h2 h3 h4).symm, rfl⟩

/-- The flags lie in block g. -/
def BitsIs (w : World) (g : Nat) (f : Nat → Bool) : Prop := ∀ i, i < 6400 → w.cell? ⟨g, i, none⟩ = some (.bool (f i)) ∧ w.frozen? ⟨g, i, none⟩ = false
theorem BitsIs.lt {w : World} {g : Nat} {f : Nat → Bool} (h : BitsIs w g f) : g < w.heap.size := World.block_lt_of_cell? w ⟨g, 0, none⟩ (h 0 (by omega)).1
theorem BitsIs.below {w w' : World} {g : Nat} {f : Nat → Bool} (h : BitsIs w g f) (hb : Below w.heap.size w w') : BitsIs w' g f := fun i hi =>
  ⟨(hb.cell (p := ⟨g, i, none⟩) h.lt).trans (h i hi).1, (hb.frozen (p := ⟨g, i, none⟩) h.lt).trans (h i hi).2⟩
theorem BitsIs.congr {w : World} {g : Nat} {f f' : Nat → Bool} (h : BitsIs w g f) (e : ∀ i, i < 6400 → f i = f' i) : BitsIs w g f' := fun i hi => ⟨by rw [← e i hi]; exact (h i hi).1, (h i hi).2⟩
theorem BitsIs.set {w : World} {g j : Nat} {f : Nat → Bool} (h : BitsIs w g f) (hj : j < 6400) : BitsIs (w.setCell ⟨g, j, none⟩ (.bool true)) g (fun i => f i || decide (i = j)) := fun i hi => by
  refine ⟨?_, by simpa using (h i hi).2⟩
  by_cases e : i = j
  · subst e
    exact (World.cell?_setCell_same _ _ _ (h i hi).1).trans (by simp)
  · rw [World.cell?_setCell_other _ _ _ _ (by simp <;> omega)]
    rw [(h i hi).1]; simp [e]

set_option maxHeartbeats 4000000 in
theorem l03Has_any (g c : Nat) (f : Nat → Bool) (x y : Int) (w : World) (hB : BitsIs w g f) : Calls Tryd.prog 148 #[.slice (some ⟨g, 0, none⟩) 6400 c, .int .i64 x, .int .i64 y] w fun e w' => e = .returned (.bool (hasB f x y)) ∧ w = w' := by
  by_cases hx : -40 ≤ x ∧ x ≤ 39
  · have ex : inB x (-40) 39 = true := inB_mk hx.1 hx.2
    by_cases hy : -40 ≤ y ∧ y ≤ 39
    · have ey : inB y (-40) 39 = true := inB_mk hy.1 hy.2
      have hi := cIx_lt hx.1 hx.2 hy.1 hy.2
      have hc := (hB _ hi).1
      have hh : hasB f x y = f (cIx x y) := hasB_in ⟨hx, hy⟩
      have HB := Lib.hid hB
      clear hB
      generalize hk : cIx x y = k at hi hc hh
      have q0 : (0 : Int) ≤ (k : Int) := by omega
      have q1 : (k : Int) < 6400 := by omega
      go_enter Tryd.func148, Tryd.ntmps148
      go_wp2_with (first | (go_at_call 84; refine (l01In_any _ _ _ _).mono ?_; rintro e w1 ⟨rfl, rfl⟩; first | rw [ex] | rw [ey]) | (go_at_call 130; refine (l03At_any x y _ hx.1 hx.2 hy.1 hy.2).mono ?_; rintro e w1 ⟨rfl, rfl⟩; rw [hk]))
      go_ret
      exact ⟨ret_bool hh.symm, rfl⟩
    · have ey : inB y (-40) 39 = false := inB_f hy
      have hh : hasB f x y = false := hasB_out (fun h => hy h.2)
      clear hB
      go_enter Tryd.func148, Tryd.ntmps148
      go_wp2_with (first | (go_at_call 84; refine (l01In_any _ _ _ _).mono ?_; rintro e w1 ⟨rfl, rfl⟩; first | rw [ex] | rw [ey]))
      go_ret
      exact ⟨ret_bool hh.symm, rfl⟩
  · have ex : inB x (-40) 39 = false := inB_f hx
    have hh : hasB f x y = false := hasB_out (fun h => hx h.1)
    clear hB
    go_enter Tryd.func148, Tryd.ntmps148
    go_wp2_with (first | (go_at_call 84; refine (l01In_any _ _ _ _).mono ?_; rintro e w1 ⟨rfl, rfl⟩; rw [ex]))
    go_ret
    exact ⟨ret_bool hh.symm, rfl⟩

theorem infoI : (Tryd.prog.info? 2).map (fun i => (i.zero, i.size, i.bytes)) = some (some (.int .i64 0), 1, 8) := by kernel_rfl
theorem addG (g k : Nat) : (⟨g, 0, none⟩ : Addr).add k = ⟨g, k, none⟩ := by
  unfold Addr.add
  split
  · rename_i h; subst h; rfl
  · simp
/-- A list of numbers lies at the head of block h, which is a row of numbers. -/
def IntsIs (B : Nat) (w : World) (h : Nat) (l : List Int) : Prop := B ≤ h ∧ (∃ cur, w.heap[h]? = some (.cells cur 2 (0, 0))) ∧ ∀ k x, l[k]? = some x → w.cell? ⟨h, k, none⟩ = some (.int .i64 x)
/-- A call that hands back a list of numbers. -/
def IntsRes (B : Nat) (l : List Int) (e : Ending) (w : World) : Prop := ∃ h c, e = .returned (.slice (some ⟨h, 0, none⟩) l.length c) ∧ IntsIs B w h l
theorem blk_lt {w : World} {h : Nat} {o : Obj} (e : w.heap[h]? = some o) : h < w.heap.size := by
  rcases Nat.lt_or_ge h w.heap.size with k | k
  · exact k
  · rw [Array.getElem?_eq_none k] at e; cases e
theorem IntsIs.lt {B : Nat} {w : World} {h : Nat} {l : List Int} (hA : IntsIs B w h l) : h < w.heap.size := by obtain ⟨_, ⟨cur, e⟩, _⟩ := hA; exact blk_lt e
theorem own_row {w : World} {B E sz g n m cap : Nat} {xs : List Value} (h : w.ownsRow B E sz (.slice (some ⟨g, 0, none⟩) m cap) n xs) : ∃ cur, w.heap[g]? = some (.cells cur E (0, 0)) := by
  rcases h.2 with ⟨h0, _⟩ | ⟨g', cap', cur, h1, _, h3, _⟩
  · cases h0
  · cases h1; exact ⟨cur, h3⟩
theorem own_keep {w w' : World} {B e sz n : Nat} {v : Value} {xs : List Value} (h : w.ownsRow B e sz v n xs) (hb : Below w.heap.size w w') : w'.ownsRow B e sz v n xs := by
  refine ⟨h.1, ?_⟩
  have hl := h.lt
  rcases h.2 with h' | ⟨g, cap, cur, e1, e2, e3, e4⟩
  · exact .inl h'
  · exact .inr ⟨g, cap, cur, e1, e2, (hb.block g (hl g (by rw [e1]; rfl)).2).trans e3, e4⟩
theorem ints_own {w : World} {B g n cap : Nat} {l : List Int} (h : w.ownsRow B 2 1 (.slice (some ⟨g, 0, none⟩) n cap) n (l.map (Value.int .i64))) : IntsIs B w g l := by
  have hl := h.lt g rfl
  refine ⟨hl.1, own_row h, fun k x hx => ?_⟩
  have := h.cells (g := g) rfl k (.int .i64 x) (by rw [List.getElem?_map, hx]; rfl)
  rwa [addG] at this
theorem IntsIs.below {B : Nat} {W W' : World} {g : Nat} {l : List Int} (h : IntsIs B W g l) (hb : Below W.heap.size W W') : IntsIs B W' g l :=
  ⟨h.1, by obtain ⟨cur, e⟩ := h.2.1; exact ⟨cur, (hb.block g h.lt).trans e⟩, fun k x hx => (hb.cell (show (⟨g, k, none⟩ : Addr).block < W.heap.size from h.lt)).trans (h.2.2 k x hx)⟩
/-- Behind a write into another row. -/
theorem IntsIs.grown {B : Nat} {W W' : World} {g : Nat} {l : List Int} {row : Option Nat} (h : IntsIs B W g l) (hg : W.grownBy W' row) (hne : some g ≠ row) : IntsIs B W' g l :=
  ⟨h.1, by obtain ⟨cur, e⟩ := h.2.1; exact ⟨cur, (hg.block g h.lt hne).trans e⟩, fun k x hx => hg.cell (h.2.2 k x hx) hne⟩
theorem ints_next {W : World} {B : Nat} {v : Value} {n : Nat} {l : List Int} {x : Int} (hn : n = l.length) (h : W.ownsRow B 2 1 v (n + 1) (l.map (Value.int .i64) ++ [.int .i64 x])) :
    ∃ g cap, v = .slice (some ⟨g, 0, none⟩) (l ++ [x]).length cap ∧ W.ownsRow B 2 1 (.slice (some ⟨g, 0, none⟩) (l ++ [x]).length cap) (l ++ [x]).length ((l ++ [x]).map (Value.int .i64)) := by
  subst hn
  have e : (l ++ [x]).length = l.length + 1 := by simp
  rw [e, List.map_append]
  rcases h.2 with ⟨_, h0⟩ | ⟨g, cap, cur, rfl, _⟩
  · omega
  · exact ⟨g, cap, rfl, h⟩

set_option maxHeartbeats 8000000 in
set_option maxRecDepth 100000 in
theorem l03Runs_any (g c : Nat) (f : Nat → Bool) (y : Int) (w : World) (hB : BitsIs w g f) :
    Calls Tryd.prog 128 #[.slice (some ⟨g, 0, none⟩) 6400 c, .int .i64 y] w fun e w' => IntsRes w.heap.size (runsL f y) e w' ∧ Below w.heap.size w w' := by
  obtain ⟨i0, hi, hz0, hz1, hz2⟩ := info_parts infoI
  have HB := Lib.hid hB
  clear hB
  go_enter Tryd.func128, Tryd.ntmps128
  go_wp2_with fail
  go_loopw [5, 6] (fun v x wr => ∃ (k h c' : Nat), k ≤ 81 ∧ x = .int .i64 (-40 + (k : Int)) ∧ v = .slice (some ⟨h, 0, none⟩) (runsTo f y k).length c' ∧ wr.ownsRow w.heap.size 2 1 (.slice (some ⟨h, 0, none⟩) (runsTo f y k).length c') (runsTo f y k).length ((runsTo f y k).map (Value.int .i64)) ∧ Below w.heap.size w wr) (fun _ x _ => (41 - intOf x).toNat)
  case atStart =>
    refine ⟨0, _, _, by omega, rfl, rfl, ?_, by (repeat (first | (with_reducible exact Below.refl _ _) | (with_reducible refine Ext.drewN ?_ _) | (with_reducible refine Below.drew ?_) | (with_reducible refine Ext.alloc ?_ _) | (with_reducible refine Ext.setCell ?_ (by simp; try omega) _) | (with_reducible refine Ext.trans ?_ (by assumption)) | (with_reducible assumption) | exact Below.refl _ _))⟩
    exact World.ownsRow_made w #[] 0 (Nat.le_refl _) (by unfold maxLen; decide) rfl
  case round =>
    obtain ⟨k, h, c', hk, rfl, rfl, hown, hb⟩ := hrel
    have hln := runsTo_len f y k
    by_cases hlt : k < 81
    · obtain ⟨x, hx⟩ : ∃ x : Int, x = -40 + (k : Int) := ⟨_, rfl⟩
      have q0 : x ≤ 40 := by omega
      have q1 : -40 ≤ x := by omega
      have HW := Lib.hid (HB.out.below hb)
      rw [← hx]
      have HX := Lib.hid hx
      cases hc : chg f x y with
      | true =>
        have hc' : (!(hasB f x y == hasB f (x - 1) y)) = true := hc
        have hr := runsTo_yes (f := f) (y := y) (k := k) (by rw [← hx]; exact hc)
        rw [← hx] at hr
        have HR := Lib.hid hr
        clear hc hr hx
        generalize runsTo f y k = l at HR hown hln ⊢
        go_wp2_with (first | (go_at_call 148; refine (l03Has_any g c f _ _ _ HW.out).mono ?_; rintro e w1 ⟨rfl, rfl⟩) | (at_builtin; refine wpList_append_own _ rfl _ _ 29 rfl w.heap.size 2 i0 (.int .i64 0) 1 8 Tryd.underlying29 hi hz0 hz1 hz2 rfl (by decide) _ _ _ rfl (hown.alloc _) ⟨wr.heap.size, 0, none⟩ 1 1 [.int .i64 x] rfl rfl ?c1 ?c2 ?c3 ?c4 ?c5 ?_))
        case c1 =>
          intro j u hj
          match j, hj with
          | 0, hj => simp at hj; subst hj; rw [addG]; simp [go_sem]
        case c2 => intro u hu; simp at hu; subst hu; rfl
        case c3 => unfold maxLen; omega
        case c4 => omega
        case c5 => have := hb.size; (try simp only [World.size_alloc]); omega
        intro v' wn hown' hgrow _
        have hb1 : Below w.heap.size w wn := (hb.alloc hb.size _).grown hgrow (by have := hb.size; simp; omega) (fun j hj => (hown.lt j hj).1)
        obtain ⟨h', c2, rfl, hown1⟩ := ints_next rfl hown'
        clear hown' hgrow hown
        go_wp2_with fail
        go_roundw
        case rel =>
          refine ⟨k + 1, h', c2, by omega, ?_, ?_, ?_, hb1⟩
          · rw [HX.out]; go_num
          · rw [HR.out]
          · rw [HR.out]; exact hown1
        case measure => simp [intOf]; omega
      | false =>
        have hc' : (!(hasB f x y == hasB f (x - 1) y)) = false := hc
        have hr := runsTo_no (f := f) (y := y) (k := k) (by rw [← hx]; exact hc)
        have HR := Lib.hid hr
        clear hc hr hx
        go_wp2_with (first | (go_at_call 148; refine (l03Has_any g c f _ _ _ HW.out).mono ?_; rintro e w1 ⟨rfl, rfl⟩))
        go_roundw
        case rel =>
          refine ⟨k + 1, h, c', by omega, ?_, ?_, ?_, hb⟩
          · rw [HX.out]; go_num
          · rw [HR.out]
          · rw [HR.out]; exact hown
        case measure => simp [intOf]; omega
    · have q1 : ¬ (-40 + (k : Int)) ≤ 40 := by omega
      obtain rfl : k = 81 := by omega
      have HO := Lib.hid (ints_own hown)
      clear hown
      go_wp2_with fail
      go_ret
      exact ⟨⟨h, c', rfl, HO.out⟩, hb⟩
end Go.Proofs.YtciodcknobccdaaDoor
