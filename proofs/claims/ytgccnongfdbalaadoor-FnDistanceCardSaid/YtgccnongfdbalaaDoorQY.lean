/- The program's sliding window over columns: enter, joined. Conditions: the window's block and its two rows are in memory. -/
import Derived.Test.YtgccnongfdbalaaDoorQU
import Derived.Test.YtgccnongfdbalaaDoorQB
import Derived.Test.YtgccnongfdbalaaDoorQK
import Derived.Deep.RegionWith
import Derived.RangeFuncBox
import Derived.Test.YtgccnongfdbalaaDoorQW
import Derived.Test.YtgccnongfdbalaaDoorQH
namespace Go.Proofs.YtgccnongfdbalaaDoor
open Go.RowKit
set_option linter.unusedVariables false
set_option linter.unusedSimpArgs false
attribute [local go_sem ↓] Go.wp_at_zero Go.wp_at_succ

def OKW (e : Nat × Nat) : Prop := W64 e.1 ∧ W64 e.2
theorem OKW.or {e f : Nat × Nat} (h : OKW e) (k : OKW f) : OKW (wOr e f) := ⟨Nat.or_lt_two_pow (n := 64) h.1 k.1, Nat.or_lt_two_pow (n := 64) h.2 k.2⟩
theorem OKW.zero : OKW (0, 0) := ⟨by unfold W64; simp, by unfold W64; simp⟩
def cellsW (l : List (Nat × Nat)) : List Value := l.flatMap fun e => [.int .u64 (e.1 : Int), .int .u64 (e.2 : Int)]
theorem cellsW_nil : cellsW [] = [] := rfl
theorem cellsW_append (l m : List (Nat × Nat)) : cellsW (l ++ m) = cellsW l ++ cellsW m := by unfold cellsW; rw [List.flatMap_append]
theorem cellsW_one (e : Nat × Nat) : cellsW [e] = [.int .u64 (e.1 : Int), .int .u64 (e.2 : Int)] := by simp [cellsW]
theorem cellsW_take : ∀ (l : List (Nat × Nat)) (k : Nat), (cellsW l).take (k * 2) = cellsW (l.take k)
  | [], k => by simp [cellsW]
  | e :: l, 0 => by simp [cellsW]
  | e :: l, k + 1 => by
    have ih := cellsW_take l k
    unfold cellsW at ih ⊢
    rw [List.flatMap_cons, show (k + 1) * 2 = k * 2 + 1 + 1 by omega]
    simp only [List.cons_append, List.nil_append, List.take_succ_cons, ih, List.flatMap_cons]
theorem cellsW_at : ∀ (l : List (Nat × Nat)) (j : Nat) (e : Nat × Nat), l[j]? = some e → (cellsW l)[j * 2]? = some (.int .u64 (e.1 : Int)) ∧ (cellsW l)[j * 2 + 1]? = some (.int .u64 (e.2 : Int))
  | [], j, e, h => by simp at h
  | x :: l, 0, e, h => by
    obtain rfl : x = e := by simpa using h
    simp [cellsW]
  | x :: l, j + 1, e, h => by
    have ih := cellsW_at l j e (by simpa using h)
    unfold cellsW at ih ⊢
    rw [List.flatMap_cons, show (j + 1) * 2 = j * 2 + 1 + 1 by omega, show j * 2 + 1 + 1 + 1 = (j * 2 + 1) + 1 + 1 by omega]
    simpa using ih
theorem withP_any (a b : Nat × Nat) (w : World) (ha : OKW a) (hb : OKW b) : Calls Tryd.prog 137 #[colV a.1 a.2, colV b.1 b.2] w fun e w' => e = .returned (colV (wOr a b).1 (wOr a b).2) ∧ Below w.heap.size w w' := with_any a.1 a.2 b.1 b.2 w ha.1 ha.2 hb.1 hb.2
theorem infoCol : (Tryd.prog.info? 69).map (fun i => (i.zero, i.size, i.bytes)) = some (some (.agg #[.int .u64 0, .int .u64 0]), 2, 16) := by kernel_rfl
abbrev fnW : Value := .func (.func 137) #[] #[]

/-- The window lies in block b; its two rows are the call's own, from block B on; its words are words. -/
def WinC (B : Nat) (W : World) (b : Nat) (lv en : List (Nat × Nat)) (lat : Nat × Nat) : Prop :=
  ∃ vl ve, W.heap[b]? = some (.cells #[.func (.func 137) #[] #[], vl, ve, .int .u64 (lat.1 : Int), .int .u64 (lat.2 : Int)] 165 (0, 0)) ∧ W.ownsRow B 69 2 vl lv.length (cellsW lv) ∧ W.ownsRow B 69 2 ve en.length (cellsW en) ∧ (∀ g, vl.ownBlock = some g → ve.ownBlock ≠ some g) ∧ ((∀ e, e ∈ lv → OKW e) ∧ (∀ e, e ∈ en → OKW e) ∧ OKW lat)
theorem winC_ne {W : World} {B b : Nat} {cs : Array Value} {v : Value} {n : Nat} {xs : List Value} (hb : W.heap[b]? = some (.cells cs 165 (0, 0))) (h : W.ownsRow B 69 2 v n xs) : ∀ g, v.ownBlock = some g → g ≠ b := fun g hg e => by
  subst e
  obtain ⟨_, _, cur, h3⟩ := own_at h hg
  rw [hb] at h3
  cases h3
theorem WinC.kept {B b : Nat} {W W' : World} {lv en : List (Nat × Nat)} {lat : Nat × Nat} {X : Nat → Prop} (h : WinC B W b lv en lat) (hk : Kept X W W') (hX : ∀ k, X k → k < B ∧ k ≠ b) : WinC B W' b lv en lat := by
  obtain ⟨vl, ve, hb, ol, oe, hne, hok⟩ := h
  refine ⟨vl, ve, (hk.block b (blk_lt hb) (fun x => (hX b x).2 rfl)).trans hb, own_same ol fun g hg => ?_, own_same oe fun g hg => ?_, hne, hok⟩
  · obtain ⟨h1, h2, _⟩ := own_at ol hg
    exact hk.block g h2 (fun x => by have := (hX g x).1; omega)
  · obtain ⟨h1, h2, _⟩ := own_at oe hg
    exact hk.block g h2 (fun x => by have := (hX g x).1; omega)
theorem WinC.ext {B b : Nat} {W W' : World} {lv en : List (Nat × Nat)} {lat : Nat × Nat} (h : WinC B W b lv en lat) (hk : Below W.heap.size W W') : WinC B W' b lv en lat :=
  h.kept (X := fun _ => False) (Kept.of_below hk) (fun _ x => x.elim)
theorem cellsC_own {W : World} {b : Nat} {vl ve : Value} {lat : Nat × Nat} (hb : W.heap[b]? = some (.cells #[.func (.func 137) #[] #[], vl, ve, .int .u64 (lat.1 : Int), .int .u64 (lat.2 : Int)] 165 (0, 0))) :
    (W.cell? ⟨b, 0, none⟩ = some (.func (.func 137) #[] #[]) ∧ W.cell? ⟨b, 1, none⟩ = some vl ∧ W.cell? ⟨b, 2, none⟩ = some ve ∧ W.cell? ⟨b, 3, none⟩ = some (.int .u64 (lat.1 : Int)) ∧ W.cell? ⟨b, 4, none⟩ = some (.int .u64 (lat.2 : Int))) ∧ (W.frozen? ⟨b, 1, none⟩ = false ∧ W.frozen? ⟨b, 2, none⟩ = false ∧ W.frozen? ⟨b, 3, none⟩ = false ∧ W.frozen? ⟨b, 4, none⟩ = false) := by
  refine ⟨⟨?_, ?_, ?_, ?_, ?_⟩, frozen_of_row _ _ _ _ _ hb, frozen_of_row _ _ _ _ _ hb, frozen_of_row _ _ _ _ _ hb, frozen_of_row _ _ _ _ _ hb⟩
  · rw [cell_of_row _ _ 0 _ _ _ hb]; rfl
  · rw [cell_of_row _ _ 1 _ _ _ hb]; rfl
  · rw [cell_of_row _ _ 2 _ _ _ hb]; rfl
  · rw [cell_of_row _ _ 3 _ _ _ hb]; rfl
  · rw [cell_of_row _ _ 4 _ _ _ hb]; rfl
/-- Behind a store to the last cells. -/
theorem winC_mk {B b n : Nat} {W : World} {lv en : List (Nat × Nat)} {lat : Nat × Nat} {vl ve : Value} {xs : List Value} (hb : W.heap[b]? = some (.cells #[.func (.func 137) #[] #[], vl, ve, .int .u64 (lat.1 : Int), .int .u64 (lat.2 : Int)] 165 (0, 0)))
    (ol : W.ownsRow B 69 2 vl lv.length (cellsW lv)) (oe : W.ownsRow B 69 2 ve n xs) (hne : ∀ g, vl.ownBlock = some g → ve.ownBlock ≠ some g) (hn : n = en.length) (hx : xs = cellsW en) (lat' : Nat × Nat) (hok : (∀ e, e ∈ lv → OKW e) ∧ (∀ e, e ∈ en → OKW e) ∧ OKW lat') {W' : World} (hW : W'.heap = ((W.setCell ⟨b, 3, none⟩ (.int .u64 (lat'.1 : Int))).setCell ⟨b, 4, none⟩ (.int .u64 (lat'.2 : Int))).heap) :
    WinC B W' b lv en lat' := by
  subst hn hx
  refine ⟨vl, ve, ?_, own_same ol fun g hg => ?_, own_same oe fun g hg => ?_, hne, hok⟩
  · rw [hW]; exact set_block (j := 4) (set_block (j := 3) hb _) _
  · rw [hW]; exact (set_other (winC_ne hb ol g hg) _).trans (set_other (winC_ne hb ol g hg) _)
  · rw [hW]; exact (set_other (winC_ne hb oe g hg) _).trans (set_other (winC_ne hb oe g hg) _)
theorem cell_two_new (w : World) (x y : Value) (t : TypeId) : ∀ j u, [x, y][j]? = some u → (w.alloc (.cells #[x, y] t)).cell? ((⟨w.heap.size, 0, none⟩ : Addr).add j) = some u := by
  intro j u hj
  rw [addG, cell_of_row _ _ _ _ _ _ (heap_alloc_new w _)]
  match j, hj with
  | 0, hj => simpa using hj
  | 1, hj => simpa using hj
theorem oneW (e : Nat × Nat) : ∀ u ∈ [Value.int .u64 (e.1 : Int), .int .u64 (e.2 : Int)], u.oneCell' = true := by
  intro u hu
  simp at hu
  rcases hu with rfl | rfl <;> rfl

set_option maxRecDepth 100000 in
set_option maxHeartbeats 8000000 in
theorem enterC_any (B b : Nat) (lv en : List (Nat × Nat)) (lat e : Nat × Nat) (w : World) (hW : WinC B w b lv en lat) (hB : B ≤ w.heap.size) (hlen : en.length ≤ 100000) (he : OKW e) :
    Calls Tryd.prog 160 #[.pointer (some ⟨b, 0, none⟩), colV e.1 e.2] w fun r w' => r = .returned (.tuple #[]) ∧ WinC B w' b lv (en ++ [e]) (wOr lat e) ∧ Kept (fun k => k = b ∨ B ≤ k) w w' := by
  obtain ⟨i0, hi, hz0, hz1, hz2⟩ := info_parts infoCol
  obtain ⟨vl, ve, hb, ol, oe, hne, hok1, hok2, hok3⟩ := hW
  have hbl := blk_lt hb
  have nel := winC_ne hb ol
  have nee := winC_ne hb oe
  have HOK := Lib.hid (And.intro hok1 (And.intro hok2 hok3))
  obtain ⟨wB, hwB⟩ : ∃ wB, wB = w.alloc (.cells #[.int .u64 (e.1 : Int), .int .u64 (e.2 : Int)] 69) := ⟨_, rfl⟩
  have bB : Below w.heap.size w wB := by rw [hwB]; (repeat (first | (with_reducible exact Below.refl _ _) | (with_reducible refine Ext.drewN ?_ _) | (with_reducible refine Below.drew ?_) | (with_reducible refine Ext.alloc ?_ _) | (with_reducible refine Ext.setCell ?_ (by simp; try omega) _) | (with_reducible refine Ext.trans ?_ (by assumption)) | (with_reducible assumption) | exact Below.refl _ _))
  have sB : wB.heap.size = w.heap.size + 1 := by rw [hwB]; simp
  have yB : wB.heap[w.heap.size]? = some (.cells #[.int .u64 (e.1 : Int), .int .u64 (e.2 : Int)] 69 (0, 0)) := by rw [hwB]; exact heap_alloc_new _ _
  have VLT := Lib.hid fun k (hk : ve.ownBlock = some k) => (own_at oe hk).2.1
  have VLL := Lib.hid fun k (hk : vl.ownBlock = some k) => (own_at ol hk).2.1
  have hb := (bB.block _ hbl).trans hb
  have ol := own_keep ol bB
  have oe := own_keep oe bB
  obtain ⟨⟨c0, c1, c2, c3, c4⟩, f1, f2, f3, f4⟩ := cellsC_own hb
  have x0 : wB.cell? ⟨w.heap.size, 0, none⟩ = some (.int .u64 (e.1 : Int)) := by rw [cell_of_row _ _ 0 _ _ _ yB]; rfl
  have x1 : wB.cell? ⟨w.heap.size, 1, none⟩ = some (.int .u64 (e.2 : Int)) := by rw [cell_of_row _ _ 1 _ _ _ yB]; rfl
  have HB := Lib.hid hb
  have OL := Lib.hid ol
  have OE := Lib.hid oe
  have HNE := Lib.hid hne
  have NEL := Lib.hid nel
  have NEE := Lib.hid nee
  have YB := Lib.hid yB
  have BB := Lib.hid bB
  clear hb ol oe hne nel nee hok1 hok2 hok3 yB bB
  have hmix : Tryd.prog.follows .mixedOrders = true := by kernel_rfl
  go_enter Tryd.func160, Tryd.ntmps160
  go_upto_region 1 with fail
  rw [← hwB]
  clear hwB
  refine (wpIn_wide (n := 9)).1 ?_
  gi_wp2
  refine regionT (S := fun w' => w'.cell? ⟨w.heap.size, 0, none⟩ = some (.int .u64 (e.1 : Int)) ∧ w'.cell? ⟨w.heap.size, 1, none⟩ = some (.int .u64 (e.2 : Int)) ∧ w'.cell? ⟨b, 2, none⟩ = some ve) (tl := fun j => j == 10) hmix ?_
  have hS : wB.drew.cell? ⟨w.heap.size, 0, none⟩ = some (.int .u64 (e.1 : Int)) ∧ wB.drew.cell? ⟨w.heap.size, 1, none⟩ = some (.int .u64 (e.2 : Int)) ∧ wB.drew.cell? ⟨b, 2, none⟩ = some ve := ⟨x0, x1, c2⟩
  refine takeT (i := 0) (.pointer (some ⟨b, 0, none⟩)) rfl (by kernel_rfl) (by kernel_rfl) (by kernel_rfl) (by kernel_rfl) (by kernel_rfl) (fun _ _ _ h => h) (by rfl) ?_ (fun _ => rfl) hS ?_
  · intro w' h9
    simp [go_sem, h9.1, h9.2.1, h9.2.2, Act.put]
  simp only [go_sem, Act.put, List.getElem_toArray, List.getElem_cons_succ, List.getElem_cons_zero, List.setIfInBounds_toArray, List.set_cons_succ, List.set_cons_zero]
  refine takeT (i := 1) (.pointer (some ⟨b, 0, none⟩)) rfl (by kernel_rfl) (by kernel_rfl) (by kernel_rfl) (by kernel_rfl) (by kernel_rfl) (fun _ _ _ h => h) (by rfl) ?_ (fun _ => rfl) hS ?_
  · intro w' h9
    simp [go_sem, h9.1, h9.2.1, h9.2.2, Act.put]
  simp only [go_sem, Act.put, List.getElem_toArray, List.getElem_cons_succ, List.getElem_cons_zero, List.setIfInBounds_toArray, List.set_cons_succ, List.set_cons_zero]
  refine takeT (i := 2) (.pointer (some ⟨b, 0, none⟩)) rfl (by kernel_rfl) (by kernel_rfl) (by kernel_rfl) (by kernel_rfl) (by kernel_rfl) (fun _ _ _ h => h) (by rfl) ?_ (fun _ => rfl) hS ?_
  · intro w' h9
    simp [go_sem, h9.1, h9.2.1, h9.2.2, Act.put]
  simp only [go_sem, Act.put, List.getElem_toArray, List.getElem_cons_succ, List.getElem_cons_zero, List.setIfInBounds_toArray, List.set_cons_succ, List.set_cons_zero]
  refine takeT (i := 3) (.pointer (some ⟨b, 2, none⟩)) rfl (by kernel_rfl) (by kernel_rfl) (by kernel_rfl) (by kernel_rfl) (by kernel_rfl) (fun _ _ _ h => h) (by rfl) ?_ (fun _ => rfl) hS ?_
  · intro w' h9
    simp [go_sem, h9.1, h9.2.1, h9.2.2, Act.put]
  simp only [go_sem, Act.put, List.getElem_toArray, List.getElem_cons_succ, List.getElem_cons_zero, List.setIfInBounds_toArray, List.set_cons_succ, List.set_cons_zero]
  refine takeT (i := 4) (ve) rfl (by kernel_rfl) (by kernel_rfl) (by kernel_rfl) (by kernel_rfl) (by kernel_rfl) (fun _ _ _ h => h) (by rfl) ?_ (fun _ => rfl) hS ?_
  · intro w' h9
    simp [go_sem, h9.1, h9.2.1, h9.2.2, Act.put]
  simp only [go_sem, Act.put, List.getElem_toArray, List.getElem_cons_succ, List.getElem_cons_zero, List.setIfInBounds_toArray, List.set_cons_succ, List.set_cons_zero]
  refine takeT (i := 5) (colV e.1 e.2) rfl (by kernel_rfl) (by kernel_rfl) (by kernel_rfl) (by kernel_rfl) (by kernel_rfl) (fun _ _ _ h => h) (by rfl) ?_ (fun _ => rfl) hS ?_
  · intro w' h9
    simp [go_sem, h9.1, h9.2.1, h9.2.2, Act.put]
  simp only [go_sem, Act.put, List.getElem_toArray, List.getElem_cons_succ, List.getElem_cons_zero, List.setIfInBounds_toArray, List.set_cons_succ, List.set_cons_zero]
  refine oneN (i := 6) (by kernel_rfl) (wpOpIn_step rfl fun K' hK' => ?_)
  rw [if_pos (by rfl)]
  refine ⟨fun _ _ => trivial, ?_⟩
  simp only [go_sem, Act.put]
  simp [go_sem]
  refine hK' _ _ ⟨⟨keepA x0 _, keepA x1 _, keepA c2 _⟩, ?_⟩
  clear hK'
  obtain ⟨v2, w2, hr, h2, h3, h4, h5⟩ := run_append_own_at (P := Tryd.prog) ((wB.alloc (.cells #[.int .u64 (e.1 : Int), .int .u64 (e.2 : Int)] 69)).drew) B 147 147 69 i0 (.agg #[.int .u64 0, .int .u64 0]) 2 16 Tryd.underlying147 hi hz0 hz1 hz2 rfl (by decide) ve en.length (cellsW en) (OE.out.alloc _) ⟨wB.heap.size, 0, none⟩ 1 1 [.int .u64 (e.1 : Int), .int .u64 (e.2 : Int)] rfl (cell_two_new wB _ _ _) (oneW e) (by unfold maxLen; omega) (by omega) (by show B ≤ (wB.alloc _).heap.size; simp only [World.size_alloc]; omega)
  refine oneN (i := 7) (by kernel_rfl) (wpOpIn_step rfl fun K' hK' => ?_)
  rw [if_pos (by rfl)]
  refine wpIn_append_run (.tmp 8) (.tmp 10) 147 rfl rfl rfl hr ?_
  have ew : ∀ k, some k ≠ ve.ownBlock → k < wB.heap.size → w2.heap[k]? = wB.heap[k]? := fun k h7 h8 => (h3.block k (by show k < (wB.alloc _).heap.size; simp only [World.size_alloc]; omega) h7).trans (heap_alloc_old wB _ h8)
  have sw : wB.heap.size + 1 ≤ w2.heap.size := by have := h3.size; exact Nat.le_trans (by show _ ≤ (wB.alloc _).heap.size; simp) this
  have nw : ∀ k, ve.ownBlock = some k → k ≠ w.heap.size := fun k hk e9 => by have := VLT.out k hk; omega
  have z1 := (ew b (fun h7 => NEE.out b h7.symm rfl) (by omega)).trans HB.out
  have z2 : w2.heap[w.heap.size]? = _ := (ew w.heap.size (fun h7 => nw _ h7.symm rfl) (by omega)).trans YB.out
  have hv2 : ∀ g, v2.ownBlock = some g → g ≠ b ∧ g ≠ w.heap.size ∧ vl.ownBlock ≠ some g := fun g hg => by
    rcases h5 with h6 | h6
    · rw [h6] at hg
      exact ⟨NEE.out g hg, nw g hg, fun e9 => HNE.out g e9 hg⟩
    · rw [h6] at hg
      have h9 : (wB.alloc (.cells #[.int .u64 (e.1 : Int), .int .u64 (e.2 : Int)] 69)).heap.size = g := by simpa using hg
      simp at h9
      exact ⟨by omega, by omega, fun e9 => by have := VLL.out g e9; omega⟩
  have ol2 := own_same OL.out fun g hg => ew g (fun e9 => HNE.out g hg e9.symm) (by have := VLL.out g hg; omega)
  have K2 : Kept (fun k => k = b ∨ B ≤ k) w w2 := ⟨h3.os.trans (BB.out.os), h3.tape.trans BB.out.tape, h3.output.trans BB.out.output, by omega, fun k h7 h8 => (ew k (fun e9 => h8 (.inr (OE.out.lt k e9.symm).1)) (by omega)).trans (BB.out.block k h7)⟩
  obtain ⟨g4, cap4, rfl⟩ := ownsRow_succ h2
  obtain ⟨⟨d0, d1, d2, d3, d4⟩, g1, g2, g3, g5⟩ := cellsC_own z1
  have y0 : w2.cell? ⟨w.heap.size, 0, none⟩ = some (.int .u64 (e.1 : Int)) := by rw [cell_of_row _ _ 0 _ _ _ z2]; rfl
  have y1 : w2.cell? ⟨w.heap.size, 1, none⟩ = some (.int .u64 (e.2 : Int)) := by rw [cell_of_row _ _ 1 _ _ _ z2]; rfl
  refine hK' _ _ ⟨⟨y0, y1, d2⟩, ?_⟩
  have hS2 := And.intro y0 (And.intro y1 d2)
  clear hK' 
  refine oneN (i := 8) (by kernel_rfl) (wpOpIn_step rfl fun K' hK' => ?_)
  rw [if_pos (by rfl)]
  refine ⟨fun _ _ => trivial, ?_⟩
  simp only [go_sem, Act.put]
  simp [go_sem]
  refine hK' _ _ ⟨hS2, ?_⟩
  clear hK' 
  refine oneN (i := 9) (by kernel_rfl) (wpOpIn_step rfl fun K' hK' => ?_)
  rw [if_pos (by rfl)]
  refine ⟨fun _ _ => trivial, ?_⟩
  simp only [go_sem, Act.put]
  simp [go_sem]
  refine hK' _ _ ⟨hS2, ?_⟩
  clear hK' 
  refine oneT (i := 10) (by kernel_rfl) (by decide) (wpOpIn_step rfl fun K' hK' => ?_)
  rw [if_pos (by rfl)]
  refine ⟨fun _ _ => trivial, ?_⟩
  simp only [go_sem, Act.put]
  simp [go_sem, d2, g2]
  refine hK' _ _ ?_
  clear hK'
  refine doneT (by kernel_rfl) ?_ _
  gi_wp2
  obtain ⟨w5, hw5⟩ : ∃ w5, w5 = w2.setCell ⟨b, 2, none⟩ (.slice (some ⟨g4, 0, none⟩) (en.length + 1) cap4) := ⟨_, rfl⟩
  have hb5 : w5.heap[b]? = some (.cells #[.func (.func 137) #[] #[], vl, .slice (some ⟨g4, 0, none⟩) (en.length + 1) cap4, .int .u64 (lat.1 : Int), .int .u64 (lat.2 : Int)] 165 (0, 0)) := by rw [hw5]; exact set_block (j := 2) z1 _
  have e5 : ∀ k, k ≠ b → w5.heap[k]? = w2.heap[k]? := fun k hk => by rw [hw5]; exact set_other hk _
  have s5 : w5.heap.size = w2.heap.size := by rw [hw5]; simp
  have ol5 := own_same ol2 fun g hg => e5 g (NEL.out g hg)
  have oe5 := own_same h2 fun g hg => e5 g (hv2 g hg).1
  have y5 := (e5 w.heap.size (by omega)).trans z2
  have k5 : Kept (fun k => k = b ∨ B ≤ k) w w5 := by rw [hw5]; exact K2.setCell (X := fun k => k = b ∨ B ≤ k) (p := ⟨b, 2, none⟩) (.inl rfl) _
  rw [← hw5]
  clear hw5 e5 d0 d1 d2 d3 d4 g1 g2 g3 g5 y0 y1 hS2 hS c0 c1 c2 c3 c4 f1 f2 f3 f4 x0 x1 hr h2 h3 h4 h5 z1 z2 ew ol2 K2
  obtain ⟨⟨d0, d1, d2, d3, d4⟩, g1, g2, g3, g5⟩ := cellsC_own hb5
  have y0 : w5.cell? ⟨w.heap.size, 0, none⟩ = some (.int .u64 (e.1 : Int)) := by rw [cell_of_row _ _ 0 _ _ _ y5]; rfl
  have y1 : w5.cell? ⟨w.heap.size, 1, none⟩ = some (.int .u64 (e.2 : Int)) := by rw [cell_of_row _ _ 1 _ _ _ y5]; rfl
  have hwl : w.heap.size < w5.heap.size := by omega
  have hbl5 : b < w5.heap.size := by omega
  have HV2 := Lib.hid hv2
  have HB5 := Lib.hid hb5
  have OL5 := Lib.hid ol5
  have OE5 := Lib.hid oe5
  have K5 := Lib.hid k5
  have hlat := HOK.out.2.2
  have HHE := Lib.hid he
  have HLAT := Lib.hid hlat
  clear hb5 ol5 oe5 y5 k5 hv2 he hlat nw sw
  go_upto_region 2 with fail
  refine (wpIn_wide (n := 9)).1 ?_
  gi_wp2
  refine regionT (S := fun w' => w'.cell? ⟨w.heap.size, 0, none⟩ = some (.int .u64 (e.1 : Int)) ∧ w'.cell? ⟨w.heap.size, 1, none⟩ = some (.int .u64 (e.2 : Int)) ∧ w'.cell? ⟨b, 0, none⟩ = some (.func (.func 137) #[] #[]) ∧ w'.cell? ⟨b, 3, none⟩ = some (.int .u64 (lat.1 : Int)) ∧ w'.cell? ⟨b, 4, none⟩ = some (.int .u64 (lat.2 : Int))) (tl := fun j => j == 13) hmix ?_
  have hS : w5.drew.cell? ⟨w.heap.size, 0, none⟩ = some (.int .u64 (e.1 : Int)) ∧ w5.drew.cell? ⟨w.heap.size, 1, none⟩ = some (.int .u64 (e.2 : Int)) ∧ w5.drew.cell? ⟨b, 0, none⟩ = some (.func (.func 137) #[] #[]) ∧ w5.drew.cell? ⟨b, 3, none⟩ = some (.int .u64 (lat.1 : Int)) ∧ w5.drew.cell? ⟨b, 4, none⟩ = some (.int .u64 (lat.2 : Int)) := ⟨y0, y1, d0, d3, d4⟩
  refine takeT (i := 0) (.pointer (some ⟨b, 0, none⟩)) rfl (by kernel_rfl) (by kernel_rfl) (by kernel_rfl) (by kernel_rfl) (by kernel_rfl) (fun _ _ _ h => h) (by rfl) ?_ (fun _ => rfl) hS ?_
  · intro w' h9
    simp [go_sem, h9.1, h9.2.1, h9.2.2.1, h9.2.2.2.1, h9.2.2.2.2, Act.put]
  simp only [go_sem, Act.put, List.getElem_toArray, List.getElem_cons_succ, List.getElem_cons_zero, List.setIfInBounds_toArray, List.set_cons_succ, List.set_cons_zero]
  refine takeT (i := 1) (.pointer (some ⟨b, 0, none⟩)) rfl (by kernel_rfl) (by kernel_rfl) (by kernel_rfl) (by kernel_rfl) (by kernel_rfl) (fun _ _ _ h => h) (by rfl) ?_ (fun _ => rfl) hS ?_
  · intro w' h9
    simp [go_sem, h9.1, h9.2.1, h9.2.2.1, h9.2.2.2.1, h9.2.2.2.2, Act.put]
  simp only [go_sem, Act.put, List.getElem_toArray, List.getElem_cons_succ, List.getElem_cons_zero, List.setIfInBounds_toArray, List.set_cons_succ, List.set_cons_zero]
  refine takeT (i := 2) (.pointer (some ⟨b, 0, none⟩)) rfl (by kernel_rfl) (by kernel_rfl) (by kernel_rfl) (by kernel_rfl) (by kernel_rfl) (fun _ _ _ h => h) (by rfl) ?_ (fun _ => rfl) hS ?_
  · intro w' h9
    simp [go_sem, h9.1, h9.2.1, h9.2.2.1, h9.2.2.2.1, h9.2.2.2.2, Act.put]
  simp only [go_sem, Act.put, List.getElem_toArray, List.getElem_cons_succ, List.getElem_cons_zero, List.setIfInBounds_toArray, List.set_cons_succ, List.set_cons_zero]
  refine takeT (i := 3) (.pointer (some ⟨b, 0, none⟩)) rfl (by kernel_rfl) (by kernel_rfl) (by kernel_rfl) (by kernel_rfl) (by kernel_rfl) (fun _ _ _ h => h) (by rfl) ?_ (fun _ => rfl) hS ?_
  · intro w' h9
    simp [go_sem, h9.1, h9.2.1, h9.2.2.1, h9.2.2.2.1, h9.2.2.2.2, Act.put]
  simp only [go_sem, Act.put, List.getElem_toArray, List.getElem_cons_succ, List.getElem_cons_zero, List.setIfInBounds_toArray, List.set_cons_succ, List.set_cons_zero]
  refine takeT (i := 4) (.func (.func 137) #[] #[]) rfl (by kernel_rfl) (by kernel_rfl) (by kernel_rfl) (by kernel_rfl) (by kernel_rfl) (fun _ _ _ h => h) (by rfl) ?_ (fun _ => rfl) hS ?_
  · intro w' h9
    simp [go_sem, h9.1, h9.2.1, h9.2.2.1, h9.2.2.2.1, h9.2.2.2.2, Act.put]
  simp only [go_sem, Act.put, List.getElem_toArray, List.getElem_cons_succ, List.getElem_cons_zero, List.setIfInBounds_toArray, List.set_cons_succ, List.set_cons_zero]
  refine takeT (i := 5) (.pointer (some ⟨b, 0, none⟩)) rfl (by kernel_rfl) (by kernel_rfl) (by kernel_rfl) (by kernel_rfl) (by kernel_rfl) (fun _ _ _ h => h) (by rfl) ?_ (fun _ => rfl) hS ?_
  · intro w' h9
    simp [go_sem, h9.1, h9.2.1, h9.2.2.1, h9.2.2.2.1, h9.2.2.2.2, Act.put]
  simp only [go_sem, Act.put, List.getElem_toArray, List.getElem_cons_succ, List.getElem_cons_zero, List.setIfInBounds_toArray, List.set_cons_succ, List.set_cons_zero]
  refine takeT (i := 6) (.pointer (some ⟨b, 0, none⟩)) rfl (by kernel_rfl) (by kernel_rfl) (by kernel_rfl) (by kernel_rfl) (by kernel_rfl) (fun _ _ _ h => h) (by rfl) ?_ (fun _ => rfl) hS ?_
  · intro w' h9
    simp [go_sem, h9.1, h9.2.1, h9.2.2.1, h9.2.2.2.1, h9.2.2.2.2, Act.put]
  simp only [go_sem, Act.put, List.getElem_toArray, List.getElem_cons_succ, List.getElem_cons_zero, List.setIfInBounds_toArray, List.set_cons_succ, List.set_cons_zero]
  refine takeT (i := 7) (.pointer (some ⟨b, 3, none⟩)) rfl (by kernel_rfl) (by kernel_rfl) (by kernel_rfl) (by kernel_rfl) (by kernel_rfl) (fun _ _ _ h => h) (by rfl) ?_ (fun _ => rfl) hS ?_
  · intro w' h9
    simp [go_sem, h9.1, h9.2.1, h9.2.2.1, h9.2.2.2.1, h9.2.2.2.2, Act.put]
  simp only [go_sem, Act.put, List.getElem_toArray, List.getElem_cons_succ, List.getElem_cons_zero, List.setIfInBounds_toArray, List.set_cons_succ, List.set_cons_zero]
  refine takeT (i := 8) (colV lat.1 lat.2) rfl (by kernel_rfl) (by kernel_rfl) (by kernel_rfl) (by kernel_rfl) (by kernel_rfl) (fun _ _ _ h => h) (by rfl) ?_ (fun _ => rfl) hS ?_
  · intro w' h9
    simp [go_sem, h9.1, h9.2.1, h9.2.2.1, h9.2.2.2.1, h9.2.2.2.2, Act.put]
  simp only [go_sem, Act.put, List.getElem_toArray, List.getElem_cons_succ, List.getElem_cons_zero, List.setIfInBounds_toArray, List.set_cons_succ, List.set_cons_zero]
  refine takeT (i := 9) (colV e.1 e.2) rfl (by kernel_rfl) (by kernel_rfl) (by kernel_rfl) (by kernel_rfl) (by kernel_rfl) (fun _ _ _ h => h) (by rfl) ?_ (fun _ => rfl) hS ?_
  · intro w' h9
    simp [go_sem, h9.1, h9.2.1, h9.2.2.1, h9.2.2.2.1, h9.2.2.2.2, Act.put]
  simp only [go_sem, Act.put, List.getElem_toArray, List.getElem_cons_succ, List.getElem_cons_zero, List.setIfInBounds_toArray, List.set_cons_succ, List.set_cons_zero]
  refine oneN (i := 10) (by kernel_rfl) (wpOpIn_step rfl fun K' hK' => ?_)
  rw [if_pos (by rfl)]
  refine ⟨fun _ _ => trivial, ?_⟩
  simp only [go_sem, Act.put]
  simp [go_sem, enters_of Tryd.func137 (by kernel_rfl) rfl]
  refine (callsIn_wide.2 (withP_any lat e _ HLAT.out HHE.out)).mono ?_
  rintro r v0 ⟨rfl, bv0⟩
  have bw0 : Below w5.heap.size w5 v0 := Below.trans ((Below.refl _ w5).drew) bv0
  have hb6 := (bw0.block b hbl5).trans HB5.out
  obtain ⟨⟨u0, u1, u2, u3, u4⟩, t1, t2, t3, t4⟩ := cellsC_own hb6
  have hS2 := And.intro (keepC bw0 y0) (And.intro (keepC bw0 y1) (And.intro u0 (And.intro u3 u4)))
  dsimp only
  refine hK' _ _ ⟨hS2, ?_⟩
  clear hK' 
  refine oneN (i := 11) (by kernel_rfl) (wpOpIn_step rfl fun K' hK' => ?_)
  rw [if_pos (by rfl)]
  refine ⟨fun _ _ => trivial, ?_⟩
  simp only [go_sem, Act.put]
  simp [go_sem]
  refine hK' _ _ ⟨hS2, ?_⟩
  clear hK' 
  refine oneN (i := 12) (by kernel_rfl) (wpOpIn_step rfl fun K' hK' => ?_)
  rw [if_pos (by rfl)]
  refine ⟨fun _ _ => trivial, ?_⟩
  simp only [go_sem, Act.put]
  simp [go_sem]
  refine hK' _ _ ⟨hS2, ?_⟩
  clear hK' 
  refine oneT (i := 13) (by kernel_rfl) (by decide) (wpOpIn_step rfl fun K' hK' => ?_)
  rw [if_pos (by rfl)]
  refine ⟨fun _ _ => trivial, ?_⟩
  simp only [go_sem, Act.put]
  simp [go_sem, u3, u4, t3, t4]
  refine hK' _ _ ?_
  clear hK'
  refine doneT (by kernel_rfl) ?_ _
  gi_wp2
  go_wp2_with fail
  go_end0
  have ol6 := own_same OL5.out fun g hg => bw0.block g (own_at OL5.out hg).2.1
  have oe6 := own_same OE5.out fun g hg => bw0.block g (own_at OE5.out hg).2.1
  refine ⟨rfl, winC_mk hb6 ol6 oe6 (fun g h1 h2 => (HV2.out g h2).2.2 h1) (by simp) (by rw [cellsW_append, cellsW_one]) (wOr lat e) ⟨HOK.out.1, fun u hu => ?_, HLAT.out.or HHE.out⟩ rfl, ((K5.out.trans (Kept.of_below bw0)).setCell (X := fun k => k = b ∨ B ≤ k) (p := ⟨b, 3, none⟩) (.inl rfl) _).setCell (X := fun k => k = b ∨ B ≤ k) (p := ⟨b, 4, none⟩) (.inl rfl) _⟩
  rcases List.mem_append.1 hu with h | h
  · exact HOK.out.2.1 u h
  · rw [List.mem_singleton.1 h]; exact HHE.out

set_option maxRecDepth 100000 in
set_option maxHeartbeats 8000000 in
theorem joinedC_any (B b : Nat) (lv en : List (Nat × Nat)) (lat : Nat × Nat) (w : World) (hW : WinC B w b lv en lat) (hlen : lv.length ≤ 100000) :
    Calls Tryd.prog 162 #[.pointer (some ⟨b, 0, none⟩)] w fun r w' => r = .returned (colV (jnd wOr lv lat).1 (jnd wOr lv lat).2) ∧ Below w.heap.size w w' := by
  obtain ⟨vl, ve, hb, ol, oe, hne, hok1, hok2, hok3⟩ := hW
  have hbl := blk_lt hb
  obtain ⟨⟨c0, c1, c2, c3, c4⟩, f1, f2, f3, f4⟩ := cellsC_own hb
  have hbN : ¬ b = w.heap.size := by omega
  clear f1 f2 f3 f4 c2 hne oe hok2
  have HOK1 := Lib.hid hok1
  have HLAT := Lib.hid hok3
  clear hok1 hok3
  rcases List.eq_nil_or_concat lv with rfl | ⟨l0, x, rfl⟩
  · obtain ⟨a, c, rfl⟩ := own_slice ol
    clear ol hb
    rw [jnd_nil]
    go_enter Tryd.func162, Tryd.ntmps162
    go_wp2_with fail
    exact bodyPost_ret (v := colV lat.1 lat.2) (by simp [results, Tryd.results162, go_sem]) rfl ⟨rfl, by (repeat (first | (with_reducible exact Below.refl _ _) | (with_reducible refine Ext.drewN ?_ _) | (with_reducible refine Below.drew ?_) | (with_reducible refine Ext.alloc ?_ _) | (with_reducible refine Ext.setCell ?_ (by simp; try omega) _) | (with_reducible refine Ext.trans ?_ (by assumption)) | (with_reducible assumption) | exact Below.refl _ _))⟩
  · rw [List.concat_eq_append] at *
    rw [jnd_last wOr (by simp : (l0 ++ [x]).getLast? = some x)]
    obtain ⟨g, c, rfl, h1, h2, h3⟩ := own_slice' (n := l0.length) (by simpa using ol)
    obtain ⟨e0, e1⟩ := cellsW_at (l0 ++ [x]) l0.length x (by simp)
    have hx0 : w.cell? ⟨g, l0.length * 2, none⟩ = some (.int .u64 (x.1 : Int)) := by
      have := ol.cells (g := g) rfl _ _ e0
      rwa [addG] at this
    have hx1 : w.cell? ⟨g, l0.length * 2 + 1, none⟩ = some (.int .u64 (x.2 : Int)) := by
      have := ol.cells (g := g) rfl _ _ e1
      rwa [addG] at this
    have hokx : OKW x := HOK1.out x (by simp)
    have HX := Lib.hid hokx
    have hn : l0.length ≤ 100000 := by simp at hlen; omega
    obtain ⟨n, hnn⟩ : ∃ n, n = l0.length := ⟨_, rfl⟩
    rw [← hnn] at hx0 hx1 h1 hn
    rw [← hnn] at c1
    have HBB := Lib.hid hb
    have q1 : ¬ ((n : Int) + 1 = 0) := by omega
    have q2 : (((n : Int) + 1) == 0) = false := by simp; omega
    have q3 : (0 : Int) ≤ (n : Int) := by omega
    clear ol hnn hlen e0 e1 hokx hb
    have hmix : Tryd.prog.follows .mixedOrders = true := by kernel_rfl
    go_enter Tryd.func162, Tryd.ntmps162
    obtain ⟨wR, hwR⟩ : ∃ wR, wR = w.alloc (.cells #[.int .u64 0, .int .u64 0] 69) := ⟨_, rfl⟩
    have bR : Below w.heap.size w wR := by rw [hwR]; (repeat (first | (with_reducible exact Below.refl _ _) | (with_reducible refine Ext.drewN ?_ _) | (with_reducible refine Below.drew ?_) | (with_reducible refine Ext.alloc ?_ _) | (with_reducible refine Ext.setCell ?_ (by simp; try omega) _) | (with_reducible refine Ext.trans ?_ (by assumption)) | (with_reducible assumption) | exact Below.refl _ _))
    have sR : wR.heap.size = w.heap.size + 1 := by rw [hwR]; simp
    have yR : wR.heap[w.heap.size]? = some (.cells #[.int .u64 0, .int .u64 0] 69 (0, 0)) := by rw [hwR]; exact heap_alloc_new _ _
    have hwr : IntKind.i64.wrap (n : Int) = (n : Int) := by rw [IntKind.wrap_i64]; omega
    have q4 : (n : Int) < (n : Int) + 1 := by omega
    have d0 := keepC bR c0
    have d1 := keepC bR c1
    have d3 := keepC bR c3
    have d4 := keepC bR c4
    have y0 := keepC bR hx0
    have y1 := keepC bR hx1
    go_upto_region 3 with fail
    rw [← hwR]
    clear hwR c0 c1 c3 c4 hx0 hx1
    refine (wpIn_wide (n := 9)).1 ?_
    gi_wp2
    refine regionT (S := fun w' => w'.cell? ⟨b, 0, none⟩ = some (.func (.func 137) #[] #[]) ∧ w'.cell? ⟨b, 1, none⟩ = some (.slice (some ⟨g, 0, none⟩) (n + 1) c) ∧ w'.cell? ⟨b, 3, none⟩ = some (.int .u64 (lat.1 : Int)) ∧ w'.cell? ⟨b, 4, none⟩ = some (.int .u64 (lat.2 : Int)) ∧ w'.cell? ⟨g, n * 2, none⟩ = some (.int .u64 (x.1 : Int)) ∧ w'.cell? ⟨g, n * 2 + 1, none⟩ = some (.int .u64 (x.2 : Int))) (tl := fun j => j == 21) hmix ?_
    have hS : wR.drew.cell? ⟨b, 0, none⟩ = some (.func (.func 137) #[] #[]) ∧ wR.drew.cell? ⟨b, 1, none⟩ = some (.slice (some ⟨g, 0, none⟩) (n + 1) c) ∧ wR.drew.cell? ⟨b, 3, none⟩ = some (.int .u64 (lat.1 : Int)) ∧ wR.drew.cell? ⟨b, 4, none⟩ = some (.int .u64 (lat.2 : Int)) ∧ wR.drew.cell? ⟨g, n * 2, none⟩ = some (.int .u64 (x.1 : Int)) ∧ wR.drew.cell? ⟨g, n * 2 + 1, none⟩ = some (.int .u64 (x.2 : Int)) := ⟨d0, d1, d3, d4, y0, y1⟩
    refine takeT (i := 0) (.pointer (some ⟨b, 0, none⟩)) rfl (by kernel_rfl) (by kernel_rfl) (by kernel_rfl) (by kernel_rfl) (by kernel_rfl) (fun _ _ _ h => h) (by rfl) ?_ (fun _ => rfl) hS ?_
    · intro w' h9
      simp [go_sem, h9.1, h9.2.1, h9.2.2.1, h9.2.2.2.1, h9.2.2.2.2.1, h9.2.2.2.2.2, hwr, q3, q4, Act.put]
    simp only [go_sem, Act.put, List.getElem_toArray, List.getElem_cons_succ, List.getElem_cons_zero, List.setIfInBounds_toArray, List.set_cons_succ, List.set_cons_zero]
    refine takeT (i := 1) (.pointer (some ⟨b, 0, none⟩)) rfl (by kernel_rfl) (by kernel_rfl) (by kernel_rfl) (by kernel_rfl) (by kernel_rfl) (fun _ _ _ h => h) (by rfl) ?_ (fun _ => rfl) hS ?_
    · intro w' h9
      simp [go_sem, h9.1, h9.2.1, h9.2.2.1, h9.2.2.2.1, h9.2.2.2.2.1, h9.2.2.2.2.2, hwr, q3, q4, Act.put]
    simp only [go_sem, Act.put, List.getElem_toArray, List.getElem_cons_succ, List.getElem_cons_zero, List.setIfInBounds_toArray, List.set_cons_succ, List.set_cons_zero]
    refine takeT (i := 2) (.pointer (some ⟨b, 0, none⟩)) rfl (by kernel_rfl) (by kernel_rfl) (by kernel_rfl) (by kernel_rfl) (by kernel_rfl) (fun _ _ _ h => h) (by rfl) ?_ (fun _ => rfl) hS ?_
    · intro w' h9
      simp [go_sem, h9.1, h9.2.1, h9.2.2.1, h9.2.2.2.1, h9.2.2.2.2.1, h9.2.2.2.2.2, hwr, q3, q4, Act.put]
    simp only [go_sem, Act.put, List.getElem_toArray, List.getElem_cons_succ, List.getElem_cons_zero, List.setIfInBounds_toArray, List.set_cons_succ, List.set_cons_zero]
    refine takeT (i := 3) (.func (.func 137) #[] #[]) rfl (by kernel_rfl) (by kernel_rfl) (by kernel_rfl) (by kernel_rfl) (by kernel_rfl) (fun _ _ _ h => h) (by rfl) ?_ (fun _ => rfl) hS ?_
    · intro w' h9
      simp [go_sem, h9.1, h9.2.1, h9.2.2.1, h9.2.2.2.1, h9.2.2.2.2.1, h9.2.2.2.2.2, hwr, q3, q4, Act.put]
    simp only [go_sem, Act.put, List.getElem_toArray, List.getElem_cons_succ, List.getElem_cons_zero, List.setIfInBounds_toArray, List.set_cons_succ, List.set_cons_zero]
    refine takeT (i := 4) (.pointer (some ⟨b, 0, none⟩)) rfl (by kernel_rfl) (by kernel_rfl) (by kernel_rfl) (by kernel_rfl) (by kernel_rfl) (fun _ _ _ h => h) (by rfl) ?_ (fun _ => rfl) hS ?_
    · intro w' h9
      simp [go_sem, h9.1, h9.2.1, h9.2.2.1, h9.2.2.2.1, h9.2.2.2.2.1, h9.2.2.2.2.2, hwr, q3, q4, Act.put]
    simp only [go_sem, Act.put, List.getElem_toArray, List.getElem_cons_succ, List.getElem_cons_zero, List.setIfInBounds_toArray, List.set_cons_succ, List.set_cons_zero]
    refine takeT (i := 5) (.pointer (some ⟨b, 0, none⟩)) rfl (by kernel_rfl) (by kernel_rfl) (by kernel_rfl) (by kernel_rfl) (by kernel_rfl) (fun _ _ _ h => h) (by rfl) ?_ (fun _ => rfl) hS ?_
    · intro w' h9
      simp [go_sem, h9.1, h9.2.1, h9.2.2.1, h9.2.2.2.1, h9.2.2.2.2.1, h9.2.2.2.2.2, hwr, q3, q4, Act.put]
    simp only [go_sem, Act.put, List.getElem_toArray, List.getElem_cons_succ, List.getElem_cons_zero, List.setIfInBounds_toArray, List.set_cons_succ, List.set_cons_zero]
    refine takeT (i := 6) (.pointer (some ⟨b, 1, none⟩)) rfl (by kernel_rfl) (by kernel_rfl) (by kernel_rfl) (by kernel_rfl) (by kernel_rfl) (fun _ _ _ h => h) (by rfl) ?_ (fun _ => rfl) hS ?_
    · intro w' h9
      simp [go_sem, h9.1, h9.2.1, h9.2.2.1, h9.2.2.2.1, h9.2.2.2.2.1, h9.2.2.2.2.2, hwr, q3, q4, Act.put]
    simp only [go_sem, Act.put, List.getElem_toArray, List.getElem_cons_succ, List.getElem_cons_zero, List.setIfInBounds_toArray, List.set_cons_succ, List.set_cons_zero]
    refine takeT (i := 7) (.slice (some ⟨g, 0, none⟩) (n + 1) c) rfl (by kernel_rfl) (by kernel_rfl) (by kernel_rfl) (by kernel_rfl) (by kernel_rfl) (fun _ _ _ h => h) (by rfl) ?_ (fun _ => rfl) hS ?_
    · intro w' h9
      simp [go_sem, h9.1, h9.2.1, h9.2.2.1, h9.2.2.2.1, h9.2.2.2.2.1, h9.2.2.2.2.2, hwr, q3, q4, Act.put]
    simp only [go_sem, Act.put, List.getElem_toArray, List.getElem_cons_succ, List.getElem_cons_zero, List.setIfInBounds_toArray, List.set_cons_succ, List.set_cons_zero]
    refine takeT (i := 8) (.pointer (some ⟨b, 0, none⟩)) rfl (by kernel_rfl) (by kernel_rfl) (by kernel_rfl) (by kernel_rfl) (by kernel_rfl) (fun _ _ _ h => h) (by rfl) ?_ (fun _ => rfl) hS ?_
    · intro w' h9
      simp [go_sem, h9.1, h9.2.1, h9.2.2.1, h9.2.2.2.1, h9.2.2.2.2.1, h9.2.2.2.2.2, hwr, q3, q4, Act.put]
    simp only [go_sem, Act.put, List.getElem_toArray, List.getElem_cons_succ, List.getElem_cons_zero, List.setIfInBounds_toArray, List.set_cons_succ, List.set_cons_zero]
    refine takeT (i := 9) (.pointer (some ⟨b, 0, none⟩)) rfl (by kernel_rfl) (by kernel_rfl) (by kernel_rfl) (by kernel_rfl) (by kernel_rfl) (fun _ _ _ h => h) (by rfl) ?_ (fun _ => rfl) hS ?_
    · intro w' h9
      simp [go_sem, h9.1, h9.2.1, h9.2.2.1, h9.2.2.2.1, h9.2.2.2.2.1, h9.2.2.2.2.2, hwr, q3, q4, Act.put]
    simp only [go_sem, Act.put, List.getElem_toArray, List.getElem_cons_succ, List.getElem_cons_zero, List.setIfInBounds_toArray, List.set_cons_succ, List.set_cons_zero]
    refine takeT (i := 10) (.pointer (some ⟨b, 1, none⟩)) rfl (by kernel_rfl) (by kernel_rfl) (by kernel_rfl) (by kernel_rfl) (by kernel_rfl) (fun _ _ _ h => h) (by rfl) ?_ (fun _ => rfl) hS ?_
    · intro w' h9
      simp [go_sem, h9.1, h9.2.1, h9.2.2.1, h9.2.2.2.1, h9.2.2.2.2.1, h9.2.2.2.2.2, hwr, q3, q4, Act.put]
    simp only [go_sem, Act.put, List.getElem_toArray, List.getElem_cons_succ, List.getElem_cons_zero, List.setIfInBounds_toArray, List.set_cons_succ, List.set_cons_zero]
    refine takeT (i := 11) (.slice (some ⟨g, 0, none⟩) (n + 1) c) rfl (by kernel_rfl) (by kernel_rfl) (by kernel_rfl) (by kernel_rfl) (by kernel_rfl) (fun _ _ _ h => h) (by rfl) ?_ (fun _ => rfl) hS ?_
    · intro w' h9
      simp [go_sem, h9.1, h9.2.1, h9.2.2.1, h9.2.2.2.1, h9.2.2.2.2.1, h9.2.2.2.2.2, hwr, q3, q4, Act.put]
    simp only [go_sem, Act.put, List.getElem_toArray, List.getElem_cons_succ, List.getElem_cons_zero, List.setIfInBounds_toArray, List.set_cons_succ, List.set_cons_zero]
    refine takeT (i := 12) (.int .i64 ((n : Int) + 1)) rfl (by kernel_rfl) (by kernel_rfl) (by kernel_rfl) (by kernel_rfl) (by kernel_rfl) (fun _ _ _ h => h) (by rfl) ?_ (fun _ => rfl) hS ?_
    · intro w' h9
      simp [go_sem, h9.1, h9.2.1, h9.2.2.1, h9.2.2.2.1, h9.2.2.2.2.1, h9.2.2.2.2.2, hwr, q3, q4, Act.put]
    simp only [go_sem, Act.put, List.getElem_toArray, List.getElem_cons_succ, List.getElem_cons_zero, List.setIfInBounds_toArray, List.set_cons_succ, List.set_cons_zero]
    refine takeT (i := 13) (.int .i64 (n : Int)) rfl (by kernel_rfl) (by kernel_rfl) (by kernel_rfl) (by kernel_rfl) (by kernel_rfl) (fun _ _ _ h => h) (by rfl) ?_ (fun _ => rfl) hS ?_
    · intro w' h9
      simp [go_sem, h9.1, h9.2.1, h9.2.2.1, h9.2.2.2.1, h9.2.2.2.2.1, h9.2.2.2.2.2, hwr, q3, q4, Act.put]
    simp only [go_sem, Act.put, List.getElem_toArray, List.getElem_cons_succ, List.getElem_cons_zero, List.setIfInBounds_toArray, List.set_cons_succ, List.set_cons_zero]
    refine takeT (i := 14) (.pointer (some ⟨g, n * 2, none⟩)) rfl (by kernel_rfl) (by kernel_rfl) (by kernel_rfl) (by kernel_rfl) (by kernel_rfl) (fun _ _ _ h => h) (by rfl) ?_ (fun _ => rfl) hS ?_
    · intro w' h9
      simp [go_sem, h9.1, h9.2.1, h9.2.2.1, h9.2.2.2.1, h9.2.2.2.2.1, h9.2.2.2.2.2, hwr, q3, q4, Act.put]
    simp only [go_sem, Act.put, List.getElem_toArray, List.getElem_cons_succ, List.getElem_cons_zero, List.setIfInBounds_toArray, List.set_cons_succ, List.set_cons_zero]
    refine takeT (i := 15) (colV x.1 x.2) rfl (by kernel_rfl) (by kernel_rfl) (by kernel_rfl) (by kernel_rfl) (by kernel_rfl) (fun _ _ _ h => h) (by rfl) ?_ (fun _ => rfl) hS ?_
    · intro w' h9
      simp [go_sem, h9.1, h9.2.1, h9.2.2.1, h9.2.2.2.1, h9.2.2.2.2.1, h9.2.2.2.2.2, hwr, q3, q4, Act.put]
    simp only [go_sem, Act.put, List.getElem_toArray, List.getElem_cons_succ, List.getElem_cons_zero, List.setIfInBounds_toArray, List.set_cons_succ, List.set_cons_zero]
    refine takeT (i := 16) (.pointer (some ⟨b, 0, none⟩)) rfl (by kernel_rfl) (by kernel_rfl) (by kernel_rfl) (by kernel_rfl) (by kernel_rfl) (fun _ _ _ h => h) (by rfl) ?_ (fun _ => rfl) hS ?_
    · intro w' h9
      simp [go_sem, h9.1, h9.2.1, h9.2.2.1, h9.2.2.2.1, h9.2.2.2.2.1, h9.2.2.2.2.2, hwr, q3, q4, Act.put]
    simp only [go_sem, Act.put, List.getElem_toArray, List.getElem_cons_succ, List.getElem_cons_zero, List.setIfInBounds_toArray, List.set_cons_succ, List.set_cons_zero]
    refine takeT (i := 17) (.pointer (some ⟨b, 0, none⟩)) rfl (by kernel_rfl) (by kernel_rfl) (by kernel_rfl) (by kernel_rfl) (by kernel_rfl) (fun _ _ _ h => h) (by rfl) ?_ (fun _ => rfl) hS ?_
    · intro w' h9
      simp [go_sem, h9.1, h9.2.1, h9.2.2.1, h9.2.2.2.1, h9.2.2.2.2.1, h9.2.2.2.2.2, hwr, q3, q4, Act.put]
    simp only [go_sem, Act.put, List.getElem_toArray, List.getElem_cons_succ, List.getElem_cons_zero, List.setIfInBounds_toArray, List.set_cons_succ, List.set_cons_zero]
    refine takeT (i := 18) (.pointer (some ⟨b, 3, none⟩)) rfl (by kernel_rfl) (by kernel_rfl) (by kernel_rfl) (by kernel_rfl) (by kernel_rfl) (fun _ _ _ h => h) (by rfl) ?_ (fun _ => rfl) hS ?_
    · intro w' h9
      simp [go_sem, h9.1, h9.2.1, h9.2.2.1, h9.2.2.2.1, h9.2.2.2.2.1, h9.2.2.2.2.2, hwr, q3, q4, Act.put]
    simp only [go_sem, Act.put, List.getElem_toArray, List.getElem_cons_succ, List.getElem_cons_zero, List.setIfInBounds_toArray, List.set_cons_succ, List.set_cons_zero]
    refine takeT (i := 19) (colV lat.1 lat.2) rfl (by kernel_rfl) (by kernel_rfl) (by kernel_rfl) (by kernel_rfl) (by kernel_rfl) (fun _ _ _ h => h) (by rfl) ?_ (fun _ => rfl) hS ?_
    · intro w' h9
      simp [go_sem, h9.1, h9.2.1, h9.2.2.1, h9.2.2.2.1, h9.2.2.2.2.1, h9.2.2.2.2.2, hwr, q3, q4, Act.put]
    simp only [go_sem, Act.put, List.getElem_toArray, List.getElem_cons_succ, List.getElem_cons_zero, List.setIfInBounds_toArray, List.set_cons_succ, List.set_cons_zero]
    refine oneN (i := 20) (by kernel_rfl) (wpOpIn_step rfl fun K' hK' => ?_)
    rw [if_pos (by rfl)]
    refine ⟨fun _ _ => trivial, ?_⟩
    simp only [go_sem, Act.put]
    simp [go_sem, enters_of Tryd.func137 (by kernel_rfl) rfl]
    refine (callsIn_wide.2 (withP_any x lat _ HX.out HLAT.out)).mono ?_
    rintro r v0 ⟨rfl, bv0⟩
    have bw0 : Below wR.heap.size wR v0 := Below.trans ((Below.refl _ wR).drew) bv0
    have yF := (bw0.block w.heap.size (by omega)).trans yR
    have r0 : v0.cell? ⟨w.heap.size, 0, none⟩ = some (.int .u64 0) := by rw [cell_of_row _ _ 0 _ _ _ yF]; rfl
    have r1 : v0.cell? ⟨w.heap.size, 1, none⟩ = some (.int .u64 0) := by rw [cell_of_row _ _ 1 _ _ _ yF]; rfl
    have t0 := frozen_of_row _ _ 0 _ _ yF
    have t1 := frozen_of_row _ _ 1 _ _ yF
    dsimp only
    refine hK' _ _ ⟨⟨keepC bw0 d0, keepC bw0 d1, keepC bw0 d3, keepC bw0 d4, keepC bw0 y0, keepC bw0 y1⟩, ?_⟩
    clear hK'
    refine oneT (i := 21) (by kernel_rfl) (by decide) (wpOpIn_step rfl fun K' hK' => ?_)
    rw [if_pos (by rfl)]
    refine ⟨fun _ _ => trivial, ?_⟩
    simp only [go_sem, Act.put]
    simp [go_sem, r0, r1, t0, t1]
    refine hK' _ _ ?_
    clear hK'
    refine doneT (by kernel_rfl) ?_ _
    gi_wp2
    obtain ⟨wF, hwF⟩ : ∃ wF, wF = (v0.setCell ⟨w.heap.size, 0, none⟩ (.int .u64 ((wOr x lat).1 : Int))).setCell ⟨w.heap.size, 1, none⟩ (.int .u64 ((wOr x lat).2 : Int)) := ⟨_, rfl⟩
    have zF : wF.heap[w.heap.size]? = some (.cells #[.int .u64 ((wOr x lat).1 : Int), .int .u64 ((wOr x lat).2 : Int)] 69 (0, 0)) := by rw [hwF]; exact set_block (j := 1) (set_block (j := 0) yF _) _
    have s0 : wF.cell? ⟨w.heap.size, 0, none⟩ = some (.int .u64 ((wOr x lat).1 : Int)) := by rw [cell_of_row _ _ 0 _ _ _ zF]; rfl
    have s1 : wF.cell? ⟨w.heap.size, 1, none⟩ = some (.int .u64 ((wOr x lat).2 : Int)) := by rw [cell_of_row _ _ 1 _ _ _ zF]; rfl
    have BF : Below w.heap.size w wF := by rw [hwF]; exact ((bR.trans (bw0.mono (by omega))).setCell (Nat.le_refl _) _).setCell (Nat.le_refl _) _
    rw [← hwF]
    clear hwF r0 r1 t0 t1
    go_wp2_with fail
    exact bodyPost_ret (v := colV (wOr x lat).1 (wOr x lat).2) (by simp [results, Tryd.results162, go_sem, s0, s1]) rfl ⟨rfl, BF⟩
end Go.Proofs.YtgccnongfdbalaaDoor

namespace Go.Proofs.YtgccnongfdbalaaDoor
open Go.RowKit Go.Shelf
set_option linter.unusedVariables false
set_option linter.unusedSimpArgs false
attribute [local go_sem ↓] Go.wp_at_zero Go.wp_at_succ

def bwGc (en : List (Nat × Nat)) (t : Nat) : Int × (Nat × Nat) := (((en.length : Int) - 1 - t), en.getD (en.length - 1 - t) (0, 0))
/-- What Backward hands over, the first t of it. -/
def bwTc (en : List (Nat × Nat)) (t : Nat) : List (Int × (Nat × Nat)) := (List.range t).map (bwGc en)
theorem bwTc_succ (en : List (Nat × Nat)) (t : Nat) : bwTc en (t + 1) = bwTc en t ++ [bwGc en t] := by simp [bwTc, List.range_succ]
theorem bwTc_len (en : List (Nat × Nat)) (t : Nat) : (bwTc en t).length = t := by simp [bwTc]
theorem backC_any (a : Option Addr) (n c : Nat) (w : World) : Calls Tryd.prog 166 #[.slice a n c] w fun e w' => e = .returned (.func (.func 168) #[] #[.pointer (some ⟨w.heap.size, 0, none⟩)]) ∧ w' = w.alloc (.cells #[.slice a n c] 147) := by
  have hmf : ∀ (fn : Fn) (first cap : Array Value) (w : World), (Instr.makeFunc fn first cap).run Tryd.prog w = .ok (.func fn first cap) w := fun _ _ _ _ => rfl
  go_enter Tryd.func166, Tryd.ntmps166
  go_wp2
  go_ret
  exact ⟨rfl, rfl⟩
set_option maxRecDepth 100000 in
set_option maxHeartbeats 4000000 in
theorem backC_seqU (X : Nat → Prop) (N B0 g c base : Nat) (en : List (Nat × Nat)) (W : World) (h0 : W.cell? ⟨B0, 0, none⟩ = some (.slice (some ⟨g, 0, none⟩) en.length c)) (ho : W.ownsRow base 69 2 (.slice (some ⟨g, 0, none⟩) en.length c) en.length (cellsW en))
    (x0 : ¬ X B0) (n0 : B0 < N) (x1 : ¬ X g) (n1 : g < N) (hlen : en.length ≤ 100000) :
    SeqU Tryd.prog 168 #[.pointer (some ⟨B0, 0, none⟩)] (fun e : Int × (Nat × Nat) => #[.int .i64 e.1, colV e.2.1 e.2.2]) X N (fun t => t = 69) (fun _ => False) (bwTc en en.length) W := by
  intro l J Jx hJ hJx hY hJ0
  obtain ⟨L, hL⟩ : ∃ L, L = bwTc en en.length := ⟨_, rfl⟩
  rw [← hL] at hY ⊢
  have hbB := World.block_lt_of_cell? W ⟨B0, 0, none⟩ h0
  obtain ⟨-, hgl, cur, hcur⟩ := own_at ho rfl
  have hrow : Hid (∀ W' : World, W'.heap[g]? = W.heap[g]? → ∀ j, j < en.length → W'.cell? ⟨g, j * 2, none⟩ = some (.int .u64 ((en.getD j (0, 0)).1 : Int)) ∧ W'.cell? ⟨g, j * 2 + 1, none⟩ = some (.int .u64 ((en.getD j (0, 0)).2 : Int))) := Lib.hid fun W' e j hj => by
    have ow := (own_same (W' := W') ho fun g' hg' => by obtain rfl : g = g' := (by simpa [Value.ownBlock] using hg'); exact e)
    obtain ⟨e0, e1⟩ := cellsW_at en j (en.getD j (0, 0)) (by rw [List.getD, List.getElem?_eq_getElem hj]; rfl)
    have a0 := ow.cells (g := g) rfl _ _ e0
    have a1 := ow.cells (g := g) rfl _ _ e1
    rw [addG] at a0 a1
    exact ⟨a0, a1⟩
  have HL := Lib.hid hL
  obtain ⟨n, hn⟩ : ∃ n, n = en.length := ⟨_, rfl⟩
  rw [← hn] at h0 hrow hlen
  have HN := Lib.hid hn
  clear ho hL hcur hn
  go_enter Tryd.func168, Tryd.ntmps168
  go_wp2_with fail
  go_loopw [3] (fun s3 wr => ∃ t : Nat, t ≤ n ∧ s3 = .int .i64 ((n : Int) - 1 - t) ∧ J (bwTc en t) wr ∧ W.heap.size ≤ wr.heap.size ∧ wr.cell? ⟨B0, 0, none⟩ = some (.slice (some ⟨g, 0, none⟩) n c) ∧ wr.heap[g]? = W.heap[g]?) (fun s3 _ => (intOf s3 + 1).toNat)
  case atStart => exact ⟨0, by omega, by go_num, hJ0, Nat.le_refl _, h0, rfl⟩
  case round =>
    obtain ⟨t, ht, rfl, hJq, hsq, hc0, hg0⟩ := hrel
    by_cases hlt : t < n
    · have q0 : (0 : Int) ≤ (n : Int) - 1 - t := by omega
      obtain ⟨k, hk⟩ : ∃ k : Nat, (n : Int) - 1 - t = (k : Int) := ⟨n - 1 - t, by omega⟩
      have hkn : k < n := by omega
      obtain ⟨hcell, hcell1⟩ := hrow.out wr hg0 k hkn
      obtain ⟨rest, hsp⟩ := map_split (bwGc en) hlt
      have hbg : bwGc en t = ((k : Int), en.getD k (0, 0)) := by
        unfold bwGc
        rw [← HN.out]
        have : n - 1 - t = k := by omega
        rw [this, hk]
      have hLq : L = bwTc en t ++ ((k : Int), en.getD k (0, 0)) :: rest := by
        rw [HL.out, ← HN.out, ← hbg]
        exact hsp
      have hbs : bwTc en (t + 1) = bwTc en t ++ [((k : Int), en.getD k (0, 0))] := by rw [bwTc_succ, hbg]
      obtain ⟨fn, tmps, assign, body, hy, hR8⟩ := hY _ _ _ wr hLq hJq hsq 8
      dsimp only at hy
      have HK := Lib.hid hk
      have HG0 := Lib.hid hg0
      rw [hk]
      have q1 : (0 : Int) ≤ (k : Int) := by omega
      have q2 : (k : Int) < (n : Int) := by omega
      obtain ⟨v, hv⟩ : ∃ v, v = en.getD k (0, 0) := ⟨_, rfl⟩
      rw [← hv] at hcell hcell1 hR8 hy
      rw [← hv] at hLq hbs
      have HLQ := Lib.hid hLq
      have HBS := Lib.hid hbs
      have HVV := Lib.hid hv
      clear hLq hbs hk hbg hsp hg0 hv q0
      go_upto_region 3 with fail
      refine (wpIn_wide (n := 9)).1 ?_
      gi_wp2
      refine hR8.mono ?_
      rintro e W3 (⟨rfl, hJ3, hk3⟩ | ⟨rfl, hJx3, -⟩)
      · have hcB := (hk3.cell (p := ⟨B0, 0, none⟩) (show B0 < wr.heap.size by omega) (Ex.not_lt x0 n0)).trans hc0
        have hgB : Hid (W3.heap[g]? = W.heap[g]?) := Lib.hid ((hk3.block g (by omega) (Ex.not_lt x1 n1)).trans HG0.out)
        have hs3 := Nat.le_trans hsq hk3.size
        rw [← HBS.out] at hJ3
        clear hk3 hc0 hcell hcell1 hR8 hy
        gi_wp2
        go_wp2_with fail
        go_roundw
        case rel => exact ⟨t + 1, hlt, by have := HK.out; go_num, hJ3, hs3, hcB, hgB.out⟩
        case measure => have := HK.out; simp only [intOf]; omega
      · gi_wp2
        go_wp2_with fail
        exact bodyPost_ret (v := .tuple #[]) (by simp [results, Tryd.results168, go_sem]) rfl ⟨⟨_, rfl⟩, .inr ⟨_, ⟨rest, by rw [HLQ.out]; simp only [List.append_assoc, List.cons_append, List.nil_append]⟩, hJx3⟩⟩
    · obtain rfl : t = n := by omega
      have q0 : ¬ (0 : Int) ≤ (t : Int) - 1 - t := by omega
      go_wp2_with fail
      go_end0
      exact ⟨⟨_, rfl⟩, .inl (by rw [HL.out, ← HN.out]; exact hJq)⟩
end Go.Proofs.YtgccnongfdbalaaDoor

namespace Go.Proofs.YtgccnongfdbalaaDoor
open Go.RowKit Go.Shelf
set_option linter.unusedVariables false
set_option linter.unusedSimpArgs false
attribute [local go_sem] Oper.semAt_some

theorem own_stepC {A B : World} {base n' n : Nat} {v : Value} {xs : List Value} (h : A.ownsRow base 69 2 v n xs) (hs : StepX n' (fun _ => False) A B) : B.ownsRow base 69 2 v n xs :=
  own_same h fun g hg => by
    obtain ⟨_, _, cur, h3⟩ := own_at h hg
    exact hs.cells g cur _ (fun x => x) h3
theorem ltr_ok : ∀ l : List (Nat × Nat), (∀ e, e ∈ l → OKW e) → OKW (ltr wOr (0, 0) l)
  | [], _ => OKW.zero
  | e :: l, h => (h e (by simp)).or (ltr_ok l fun u hu => h u (by simp [hu]))
theorem scn_ok {l : List (Nat × Nat)} (h : ∀ e, e ∈ l → OKW e) : ∀ e, e ∈ scn wOr (0, 0) l → OKW e := fun e he => by
  unfold scn at he
  obtain ⟨t, _, rfl⟩ := List.mem_map.1 he
  exact ltr_ok _ fun u hu => h u (List.mem_of_mem_drop hu)
theorem scTc_all (l : List (Nat × Nat)) : scT wOr (0, 0) l l.length = scn wOr (0, 0) l := rfl

set_option maxRecDepth 100000 in
set_option maxHeartbeats 8000000 in
theorem turnC_any (B b : Nat) (en : List (Nat × Nat)) (lat : Nat × Nat) (w : World) (hW : WinC B w b [] en lat) (hB : B ≤ w.heap.size) (h0 : 0 < en.length) (hlen : en.length ≤ 100000) :
    Calls Tryd.prog 164 #[.pointer (some ⟨b, 0, none⟩)] w fun r w' => r = .returned (.tuple #[]) ∧ WinC B w' b (scn wOr (0, 0) en) [] (0, 0) ∧ Kept (fun k => k = b ∨ B ≤ k) w w' := by
  obtain ⟨i0, hi, hz0, hz1, hz2⟩ := info_parts infoCol
  obtain ⟨vl, ve, hb, ol, oe, hne, -, hok2, hok3⟩ := hW
  obtain ⟨m, hm⟩ : ∃ m, en.length = m + 1 := ⟨en.length - 1, by omega⟩
  obtain ⟨g, c, hve, hc1, hg1, hg2⟩ := own_slice' (n := m) (by rw [← hm]; exact oe)
  rw [← hm] at hve hc1
  subst hve
  obtain ⟨⟨c0, c1, c2, c3, c4⟩, f1, f2, f3, f4⟩ := cellsC_own hb
  have hbl := blk_lt hb
  have nel := winC_ne hb ol
  have nee := winC_ne hb oe g rfl
  have hgl : ∀ k, vl.ownBlock = some k → k ≠ g := fun k hk e => hne k hk (by rw [e]; rfl)
  obtain ⟨n, hn⟩ : ∃ n, n = en.length := ⟨_, rfl⟩
  rw [← hn] at hb c2 hlen h0 hc1
  have HN := Lib.hid hn
  have HB := Lib.hid hb
  have OL := Lib.hid ol
  have OE := Lib.hid oe
  have HNE := Lib.hid hne
  have NEL := Lib.hid nel
  have HGL := Lib.hid hgl
  have HM := Lib.hid hm
  have HOK := Lib.hid hok2
  clear hb ol oe hne nel hgl hm hn hok2 hok3
  have lb1 : b < w.heap.size + 1 := by omega
  have lb2 : b < w.heap.size + 1 + 1 := by omega
  have lb3 : b < w.heap.size + 1 + 1 + 1 := by omega
  refine calls_of_marks Tryd.func164 rfl ?_
  simp only [Tryd.ntmps164, List.size_toArray, List.length_cons, List.length_nil, Nat.reduceAdd, Nat.reduceSub, Array.replicate_succ, Array.replicate_zero, List.push_toArray, List.append_toArray, List.nil_append, List.cons_append]
  go_wp2_with (go_at_call 166; refine (backC_any _ _ _ _).mono ?_; rintro e w2 ⟨rfl, hw2⟩; subst hw2)
  obtain ⟨wS, hwS⟩ : ∃ wS, wS = (((w.alloc (.cells #[.pointer (some ⟨b, 0, none⟩)] 169)).alloc (.cells #[.int .u64 0, .int .u64 0] 69)).alloc (.cells #[.int .u64 0, .int .u64 0] 69)).alloc (.cells #[.slice (some ⟨g, 0, none⟩) n c] 147) := ⟨_, rfl⟩
  have sS : wS.heap.size = w.heap.size + 4 := by rw [hwS]; simp
  have bS : Below w.heap.size w wS := by rw [hwS]; (repeat (first | (with_reducible exact Below.refl _ _) | (with_reducible refine Ext.drewN ?_ _) | (with_reducible refine Below.drew ?_) | (with_reducible refine Ext.alloc ?_ _) | (with_reducible refine Ext.setCell ?_ (by simp; try omega) _) | (with_reducible refine Ext.trans ?_ (by assumption)) | (with_reducible assumption) | exact Below.refl _ _))
  have p0 : wS.heap[w.heap.size]? = some (.cells #[.pointer (some ⟨b, 0, none⟩)] 169 (0, 0)) := by
    rw [hwS]
    exact (heap_alloc_old _ _ (by simp <;> omega)).trans ((heap_alloc_old _ _ (by simp <;> omega)).trans ((heap_alloc_old _ _ (by simp)).trans (heap_alloc_new _ _)))
  have pz : wS.heap[w.heap.size + 1]? = some (.cells #[.int .u64 0, .int .u64 0] 69 (0, 0)) := by
    rw [hwS]
    refine (heap_alloc_old _ _ (by simp <;> omega)).trans ((heap_alloc_old _ _ (by simp)).trans ?_)
    have := heap_alloc_new (w.alloc (.cells #[.pointer (some ⟨b, 0, none⟩)] 169)) (.cells #[.int .u64 0, .int .u64 0] 69)
    rwa [World.size_alloc] at this
  have p1 : wS.heap[w.heap.size + 2]? = some (.cells #[.int .u64 0, .int .u64 0] 69 (0, 0)) := by
    rw [hwS]
    refine (heap_alloc_old _ _ (by simp)).trans ?_
    have := heap_alloc_new ((w.alloc (.cells #[.pointer (some ⟨b, 0, none⟩)] 169)).alloc (.cells #[.int .u64 0, .int .u64 0] 69)) (.cells #[.int .u64 0, .int .u64 0] 69)
    rwa [World.size_alloc, World.size_alloc] at this
  have p2 : wS.cell? ⟨w.heap.size + 3, 0, none⟩ = some (.slice (some ⟨g, 0, none⟩) n c) := by rw [hwS]; simp [go_sem]
  have hbS := (bS.block b hbl).trans HB.out
  have olS := own_same OL.out fun k hk => bS.block k (own_at OL.out hk).2.1
  have oeS := own_same OE.out fun k hk => bS.block k (own_at OE.out hk).2.1
  rw [← hwS]
  clear hwS c0 c1 c2 c3 c4 f1 f2 f3 f4 lb1 lb2 lb3
  refine rangeU2 (gf := 168) (lb := #[.pointer (some ⟨w.heap.size + 3, 0, none⟩)]) rfl (enters_of Tryd.func168 (by kernel_rfl) rfl) (encs := fun e : Int × (Nat × Nat) => #[.int .i64 e.1, colV e.2.1 e.2.2]) (L := bwTc en en.length) (fun k => k = b ∨ k = w.heap.size + 2 ∨ vl.ownBlock = some k) (fun k hk => by
      rcases hk with rfl | rfl | hk
      · omega
      · omega
      · have := (own_at OL.out hk).2.1; omega) (w.heap.size + 4) (fun t => t = 69) (fun _ => False) ?hseq (fun _ => rfl)
    (fun ps V => ∃ v', V.heap[b]? = some (.cells #[.func (.func 137) #[] #[], v', .slice (some ⟨g, 0, none⟩) n c, .int .u64 (lat.1 : Int), .int .u64 (lat.2 : Int)] 165 (0, 0)) ∧ V.ownsRow B 69 2 v' ps.length (cellsW (scT wOr (0, 0) en ps.length)) ∧ V.heap[w.heap.size + 2]? = some (.cells #[.int .u64 ((ltr wOr (0, 0) (en.drop (n - ps.length))).1 : Int), .int .u64 ((ltr wOr (0, 0) (en.drop (n - ps.length))).2 : Int)] 69 (0, 0)) ∧ V.heap[w.heap.size]? = some (.cells #[.pointer (some ⟨b, 0, none⟩)] 169 (0, 0)) ∧ V.heap[w.heap.size + 1]? = some (.cells #[.int .u64 0, .int .u64 0] 69 (0, 0)) ∧ (∀ k, v'.ownBlock = some k → k ≠ g ∧ (vl.ownBlock = some k ∨ w.heap.size + 4 ≤ k)) ∧ V.heap[g]? = wS.heap[g]? ∧ Kept (fun k => k = b ∨ B ≤ k) w V)
    (fun _ _ _ => False)
    (fun s A A' hs hb => by
      obtain ⟨v', u1, u2, u3, u4, un, u5, u6, u7⟩ := hs
      have hA : wS.heap.size = w.heap.size + 4 := sS
      exact ⟨v', (hb.cells b _ _ (fun x => x) u1).trans u1, own_stepC u2 hb, (hb.cells _ _ _ (fun x => x) u3).trans u3, (hb.cells _ _ _ (fun x => x) u4).trans u4, (hb.cells _ _ _ (fun x => x) un).trans un, u5, (hb.below.block g (by omega)).trans u6, ⟨hb.below.os.trans u7.os, hb.below.tape.trans u7.tape, hb.below.output.trans u7.output, Nat.le_trans u7.size hb.below.size, fun k hk hX => (hb.below.block k (by omega)).trans (u7.block k hk hX)⟩⟩)
    (fun _ _ _ _ h _ => h)
    ⟨vl, hbS, by simpa [scT, cellsW] using olS, by rw [p1]; simp [HN.out, ltr], p0, pz, fun k hk => ⟨HGL.out k hk, .inl hk⟩, rfl, Kept.of_below bS⟩
    (fun T e Bx => ((T.setIfInBounds 11 (.int .i64 e.1)).setIfInBounds 12 (colV e.2.1 e.2.2)).setIfInBounds 5 (.pointer (some ⟨Bx, 0, none⟩))) (fun e => .cells #[.int .u64 (e.2.1 : Int), .int .u64 (e.2.2 : Int)] 69) ?assign ?body ?done ?stop
  case hseq =>
    intro V hV hVs
    refine backC_seqU _ _ (w.heap.size + 3) g c B en V ?_ ?_ ?_ (by omega) ?_ (by omega) (by rw [← HN.out]; exact hlen)
    · rw [← HN.out]
      exact (hV.cell (p := ⟨w.heap.size + 3, 0, none⟩) (show w.heap.size + 3 < wS.heap.size by omega)).trans p2
    · have := own_same oeS fun k hk => hV.block k (own_at oeS hk).2.1
      exact this
    · rintro ((h | h | h) | h | h)
      · omega
      · omega
      · have := (own_at OL.out h).2.1; omega
      · omega
      · omega
    · rintro ((h | h | h) | h | h)
      · omega
      · omega
      · exact HGL.out g h rfl
      · omega
      · omega
  case assign =>
    intro l e V K hK
    gi_wp2
    exact hK
  case body =>
    rintro l ps ⟨y, e⟩ post Bx V hL hBx hVB ⟨v', u1, u2, u3, u4, un, u5, u6, u7⟩
    dsimp only at hVB
    obtain ⟨t, ht⟩ : ∃ t, t = ps.length := ⟨_, rfl⟩
    have htn : t < n := by
      have := congrArg List.length hL
      rw [bwTc_len, ← HN.out] at this
      simp only [List.length_append, List.length_cons] at this
      omega
    have hel : en[n - 1 - t]? = some e := by
      have h1 : (bwTc en en.length)[t]? = some (y, e) := by rw [hL, ht, List.getElem?_append_right (Nat.le_refl _)]; simp
      unfold bwTc at h1
      rw [List.getElem?_map, List.getElem?_range (by rw [← HN.out]; exact htn)] at h1
      simp only [Option.map_some, bwGc, Option.some.injEq, Prod.mk.injEq] at h1
      have h2 : n - 1 - t < en.length := by rw [← HN.out]; omega
      rw [← HN.out] at h1
      rw [← h1.2, List.getD, List.getElem?_eq_getElem h2]
      rfl
    have hoke : OKW e := HOK.out e (List.mem_of_getElem? hel)
    have hltr : ltr wOr (0, 0) (en.drop (n - (t + 1))) = wOr e (ltr wOr (0, 0) (en.drop (n - t))) := by
      have h2 : n - 1 - t < en.length := by rw [← HN.out]; omega
      rw [show n - (t + 1) = n - 1 - t by omega, ltr_drop _ _ _ _ h2, show n - 1 - t + 1 = n - t by omega]
      rw [List.getElem?_eq_getElem h2] at hel
      rw [Option.some.inj hel]
    rw [← ht] at u2 u3
    have hsc : scT wOr (0, 0) en (t + 1) = scT wOr (0, 0) en t ++ [wOr e (ltr wOr (0, 0) (en.drop (n - t)))] := by
      rw [scT_succ, ← hltr]
      congr 4
      rw [← HN.out]; omega
    have hoka : OKW (ltr wOr (0, 0) (en.drop (n - t))) := ltr_ok _ fun u hu => HOK.out u (List.mem_of_mem_drop hu)
    have HSC := Lib.hid hsc
    have HT := Lib.hid ht
    have HLT := Lib.hid hltr
    obtain ⟨acc, hacc⟩ : ∃ acc, acc = ltr wOr (0, 0) (en.drop (n - t)) := ⟨_, rfl⟩
    rw [← hacc] at u3 hoka
    have HACC := Lib.hid hacc
    have HOE := Lib.hid hoke
    have HOA := Lib.hid hoka
    have hbV := blk_lt u1
    obtain ⟨⟨d0, d1, d2, d3, d4⟩, g1, g2, g3, g4'⟩ := cellsC_own u1
    have k0 : V.cell? ⟨w.heap.size, 0, none⟩ = some (.pointer (some ⟨b, 0, none⟩)) := by rw [cell_of_row _ _ 0 _ _ _ u4]; rfl
    have k1 : V.cell? ⟨w.heap.size + 2, 0, none⟩ = some (.int .u64 (acc.1 : Int)) := by rw [cell_of_row _ _ 0 _ _ _ u3]; rfl
    have k2 : V.cell? ⟨w.heap.size + 2, 1, none⟩ = some (.int .u64 (acc.2 : Int)) := by rw [cell_of_row _ _ 1 _ _ _ u3]; rfl
    have k3 : V.cell? ⟨Bx, 0, none⟩ = some (.int .u64 (e.1 : Int)) := by rw [cell_of_row _ _ 0 _ _ _ hVB]; rfl
    have k4 : V.cell? ⟨Bx, 1, none⟩ = some (.int .u64 (e.2 : Int)) := by rw [cell_of_row _ _ 1 _ _ _ hVB]; rfl
    have U1 := Lib.hid u1
    have U2 := Lib.hid u2
    have U3 := Lib.hid u3
    have U4 := Lib.hid u4
    have UN := Lib.hid un
    have U5 := Lib.hid u5
    have U6 := Lib.hid u6
    have U7 := Lib.hid u7
    have hlV := blk_lt u3
    have hsz := u7.size
    have hNb : ∀ k, v'.ownBlock = some k → k ≠ b ∧ k ≠ w.heap.size + 2 ∧ k ≠ w.heap.size ∧ k ≠ w.heap.size + 1 := fun k hk => by
      have a1 := winC_ne U1.out U2.out k hk
      rcases (U5.out k hk).2 with h | h
      · have := (own_at OL.out h).2.1
        exact ⟨a1, by omega, by omega, by omega⟩
      · exact ⟨a1, by omega, by omega, by omega⟩
    have HNB := Lib.hid hNb
    have HL := Lib.hid hL
    clear u1 u2 u3 u4 un u5 u6 u7 hacc hltr hsc ht hel hNb hL hVB hoke hoka g1 g2 g3 g4' d1 d2 d3 d4
    have hmix : Tryd.prog.follows .mixedOrders = true := by kernel_rfl
    have hent := enters_of Tryd.func137 (by kernel_rfl) rfl
    dsimp only
    gi_wp2
    refine regionT (S := fun w' => w'.cell? ⟨w.heap.size, 0, none⟩ = some (.pointer (some ⟨b, 0, none⟩)) ∧ w'.cell? ⟨b, 0, none⟩ = some (.func (.func 137) #[] #[]) ∧ w'.cell? ⟨w.heap.size + 2, 0, none⟩ = some (.int .u64 (acc.1 : Int)) ∧ w'.cell? ⟨w.heap.size + 2, 1, none⟩ = some (.int .u64 (acc.2 : Int)) ∧ w'.cell? ⟨Bx, 0, none⟩ = some (.int .u64 (e.1 : Int)) ∧ w'.cell? ⟨Bx, 1, none⟩ = some (.int .u64 (e.2 : Int))) (tl := fun j => j == 7) hmix ?_
    have hS : V.drew.cell? ⟨w.heap.size, 0, none⟩ = some (.pointer (some ⟨b, 0, none⟩)) ∧ V.drew.cell? ⟨b, 0, none⟩ = some (.func (.func 137) #[] #[]) ∧ V.drew.cell? ⟨w.heap.size + 2, 0, none⟩ = some (.int .u64 (acc.1 : Int)) ∧ V.drew.cell? ⟨w.heap.size + 2, 1, none⟩ = some (.int .u64 (acc.2 : Int)) ∧ V.drew.cell? ⟨Bx, 0, none⟩ = some (.int .u64 (e.1 : Int)) ∧ V.drew.cell? ⟨Bx, 1, none⟩ = some (.int .u64 (e.2 : Int)) := ⟨k0, d0, k1, k2, k3, k4⟩
    refine takeT (i := 0) (.pointer (some ⟨b, 0, none⟩)) rfl (by kernel_rfl) (by kernel_rfl) (by kernel_rfl) (by kernel_rfl) (by kernel_rfl) (fun _ _ _ h => h) (by rfl) ?_ (fun _ => rfl) hS ?_
    · intro w' h9
      simp [go_sem, h9.1, h9.2.1, h9.2.2.1, h9.2.2.2.1, h9.2.2.2.2.1, h9.2.2.2.2.2, Act.put]
    simp only [go_sem, Act.put, List.getElem_toArray, List.getElem_cons_succ, List.getElem_cons_zero, List.setIfInBounds_toArray, List.set_cons_succ, List.set_cons_zero]
    refine takeT (i := 1) (.pointer (some ⟨b, 0, none⟩)) rfl (by kernel_rfl) (by kernel_rfl) (by kernel_rfl) (by kernel_rfl) (by kernel_rfl) (fun _ _ _ h => h) (by rfl) ?_ (fun _ => rfl) hS ?_
    · intro w' h9
      simp [go_sem, h9.1, h9.2.1, h9.2.2.1, h9.2.2.2.1, h9.2.2.2.2.1, h9.2.2.2.2.2, Act.put]
    simp only [go_sem, Act.put, List.getElem_toArray, List.getElem_cons_succ, List.getElem_cons_zero, List.setIfInBounds_toArray, List.set_cons_succ, List.set_cons_zero]
    refine takeT (i := 2) (.pointer (some ⟨b, 0, none⟩)) rfl (by kernel_rfl) (by kernel_rfl) (by kernel_rfl) (by kernel_rfl) (by kernel_rfl) (fun _ _ _ h => h) (by rfl) ?_ (fun _ => rfl) hS ?_
    · intro w' h9
      simp [go_sem, h9.1, h9.2.1, h9.2.2.1, h9.2.2.2.1, h9.2.2.2.2.1, h9.2.2.2.2.2, Act.put]
    simp only [go_sem, Act.put, List.getElem_toArray, List.getElem_cons_succ, List.getElem_cons_zero, List.setIfInBounds_toArray, List.set_cons_succ, List.set_cons_zero]
    refine takeT (i := 3) (.func (.func 137) #[] #[]) rfl (by kernel_rfl) (by kernel_rfl) (by kernel_rfl) (by kernel_rfl) (by kernel_rfl) (fun _ _ _ h => h) (by rfl) ?_ (fun _ => rfl) hS ?_
    · intro w' h9
      simp [go_sem, h9.1, h9.2.1, h9.2.2.1, h9.2.2.2.1, h9.2.2.2.2.1, h9.2.2.2.2.2, Act.put]
    simp only [go_sem, Act.put, List.getElem_toArray, List.getElem_cons_succ, List.getElem_cons_zero, List.setIfInBounds_toArray, List.set_cons_succ, List.set_cons_zero]
    refine takeT (i := 4) (colV e.1 e.2) rfl (by kernel_rfl) (by kernel_rfl) (by kernel_rfl) (by kernel_rfl) (by kernel_rfl) (fun _ _ _ h => h) (by rfl) ?_ (fun _ => rfl) hS ?_
    · intro w' h9
      simp [go_sem, h9.1, h9.2.1, h9.2.2.1, h9.2.2.2.1, h9.2.2.2.2.1, h9.2.2.2.2.2, Act.put]
    simp only [go_sem, Act.put, List.getElem_toArray, List.getElem_cons_succ, List.getElem_cons_zero, List.setIfInBounds_toArray, List.set_cons_succ, List.set_cons_zero]
    refine takeT (i := 5) (colV acc.1 acc.2) rfl (by kernel_rfl) (by kernel_rfl) (by kernel_rfl) (by kernel_rfl) (by kernel_rfl) (fun _ _ _ h => h) (by rfl) ?_ (fun _ => rfl) hS ?_
    · intro w' h9
      simp [go_sem, h9.1, h9.2.1, h9.2.2.1, h9.2.2.2.1, h9.2.2.2.2.1, h9.2.2.2.2.2, Act.put]
    simp only [go_sem, Act.put, List.getElem_toArray, List.getElem_cons_succ, List.getElem_cons_zero, List.setIfInBounds_toArray, List.set_cons_succ, List.set_cons_zero]
    refine oneN (i := 6) (by kernel_rfl) (wpOpIn_step rfl fun K' hK' => ?_)
    rw [if_pos (by rfl)]
    refine ⟨fun _ _ => trivial, ?_⟩
    simp only [go_sem, Act.put]
    simp [go_sem, hent]
    refine (CallsIn.inRound l (callsIn_wide.2 (withP_any e acc _ HOE.out HOA.out))).mono ?_
    rintro e9 W9 ⟨rfl, bv9⟩
    have bW9 : Below V.heap.size V W9 := Below.trans ((Below.refl _ V).drew) bv9
    have hS9 := And.intro (keepC bW9 k0) (And.intro (keepC bW9 d0) (And.intro (keepC bW9 k1) (And.intro (keepC bW9 k2) (And.intro (keepC bW9 k3) (keepC bW9 k4)))))
    have U3' := (bW9.block _ hlV).trans U3.out
    have fz1 := frozen_of_row _ _ 0 _ _ U3'
    have fz2 := frozen_of_row _ _ 1 _ _ U3'
    have sW9 := bW9.size
    dsimp only
    refine hK' _ _ ⟨hS9, ?_⟩
    clear hK'
    refine oneT (i := 7) (by kernel_rfl) (by decide) (wpOpIn_step rfl fun K' hK' => ?_)
    rw [if_pos (by rfl)]
    refine ⟨fun _ _ => trivial, ?_⟩
    simp only [go_sem, Act.put]
    simp [go_sem, hS9.2.2.1, hS9.2.2.2.1, fz1, fz2]
    refine hK' _ _ ?_
    clear hK'
    refine doneT (by kernel_rfl) ?_ _
    obtain ⟨acc', hacc'⟩ : ∃ acc', acc' = wOr e acc := ⟨_, rfl⟩
    rw [← hacc']
    have HACC' := Lib.hid hacc'
    have HOA' : Hid (OKW acc') := Lib.hid (by rw [hacc']; exact HOE.out.or HOA.out)
    clear hacc'
    obtain ⟨V1, hV1⟩ : ∃ V1, V1 = (W9.setCell ⟨w.heap.size + 2, 0, none⟩ (.int .u64 (acc'.1 : Int))).setCell ⟨w.heap.size + 2, 1, none⟩ (.int .u64 (acc'.2 : Int)) := ⟨_, rfl⟩
    have e1 : ∀ k, k < V.heap.size → k ≠ w.heap.size + 2 → V1.heap[k]? = V.heap[k]? := fun k hk hk2 => by rw [hV1]; exact (set_other hk2 _).trans ((set_other hk2 _).trans (bW9.block k hk))
    have y3 : V1.heap[w.heap.size + 2]? = some (.cells #[.int .u64 (acc'.1 : Int), .int .u64 (acc'.2 : Int)] 69 (0, 0)) := by rw [hV1]; exact set_block (j := 1) (set_block (j := 0) U3' _) _
    have y1 := (e1 b hbV (by omega)).trans U1.out
    have y4 := (e1 w.heap.size (by omega) (by omega)).trans U4.out
    have yn := (e1 (w.heap.size + 1) (by omega) (by omega)).trans UN.out
    have y2 := own_same U2.out fun k hk => e1 k (own_at U2.out hk).2.1 (HNB.out k hk).2.1
    have s1 : V1.heap.size = W9.heap.size := by rw [hV1]; simp
    have k7 : Kept (fun k => k = b ∨ B ≤ k) w V1 := by rw [hV1]; exact ((U7.out.trans (Kept.of_below bW9)).setCell (X := fun k => k = b ∨ B ≤ k) (p := ⟨w.heap.size + 2, 0, none⟩) (.inr (by show B ≤ w.heap.size + 2; omega)) _).setCell (X := fun k => k = b ∨ B ≤ k) (p := ⟨w.heap.size + 2, 1, none⟩) (.inr (by show B ≤ w.heap.size + 2; omega)) _
    have kx : Kept (fun k => k = w.heap.size + 2) V V1 := by rw [hV1]; exact ((Kept.of_below (X := fun k => k = w.heap.size + 2) bW9).setCell (X := fun k => k = w.heap.size + 2) (p := ⟨w.heap.size + 2, 0, none⟩) rfl _).setCell (X := fun k => k = w.heap.size + 2) (p := ⟨w.heap.size + 2, 1, none⟩) rfl _
    rw [← hV1]
    clear hV1 k0 k1 k2 k3 k4 d0 fz1 fz2 hS hS9 U3' bv9
    have j0 : V1.cell? ⟨w.heap.size, 0, none⟩ = some (.pointer (some ⟨b, 0, none⟩)) := by rw [cell_of_row _ _ 0 _ _ _ y4]; rfl
    have j1 : V1.cell? ⟨w.heap.size + 2, 0, none⟩ = some (.int .u64 (acc'.1 : Int)) := by rw [cell_of_row _ _ 0 _ _ _ y3]; rfl
    have j2 : V1.cell? ⟨w.heap.size + 2, 1, none⟩ = some (.int .u64 (acc'.2 : Int)) := by rw [cell_of_row _ _ 1 _ _ _ y3]; rfl
    obtain ⟨⟨d0, d1, d2, d3, d4⟩, g1, g2, g3, g4'⟩ := cellsC_own y1
    have Y1 := Lib.hid y1
    have Y2 := Lib.hid y2
    have Y3 := Lib.hid y3
    have Y4 := Lib.hid y4
    have YN := Lib.hid yn
    have K7 := Lib.hid k7
    have KX := Lib.hid kx
    have E1 := Lib.hid e1
    clear y1 y2 y3 y4 yn k7 kx e1 d0 d2 d3 d4 g1 g2 g3 g4'
    gi_wp2
    refine regionT (S := fun w' => w'.cell? ⟨w.heap.size, 0, none⟩ = some (.pointer (some ⟨b, 0, none⟩)) ∧ w'.cell? ⟨b, 1, none⟩ = some v' ∧ w'.cell? ⟨w.heap.size + 2, 0, none⟩ = some (.int .u64 (acc'.1 : Int)) ∧ w'.cell? ⟨w.heap.size + 2, 1, none⟩ = some (.int .u64 (acc'.2 : Int))) (tl := fun j => j == 10) hmix ?_
    have hS : V1.drew.cell? ⟨w.heap.size, 0, none⟩ = some (.pointer (some ⟨b, 0, none⟩)) ∧ V1.drew.cell? ⟨b, 1, none⟩ = some v' ∧ V1.drew.cell? ⟨w.heap.size + 2, 0, none⟩ = some (.int .u64 (acc'.1 : Int)) ∧ V1.drew.cell? ⟨w.heap.size + 2, 1, none⟩ = some (.int .u64 (acc'.2 : Int)) := ⟨j0, d1, j1, j2⟩
    refine takeT (i := 0) (.pointer (some ⟨b, 0, none⟩)) rfl (by kernel_rfl) (by kernel_rfl) (by kernel_rfl) (by kernel_rfl) (by kernel_rfl) (fun _ _ _ h => h) (by rfl) ?_ (fun _ => rfl) hS ?_
    · intro w' h9
      simp [go_sem, h9.1, h9.2.1, h9.2.2.1, h9.2.2.2, Act.put]
    simp only [go_sem, Act.put, List.getElem_toArray, List.getElem_cons_succ, List.getElem_cons_zero, List.setIfInBounds_toArray, List.set_cons_succ, List.set_cons_zero]
    refine takeT (i := 1) (.pointer (some ⟨b, 0, none⟩)) rfl (by kernel_rfl) (by kernel_rfl) (by kernel_rfl) (by kernel_rfl) (by kernel_rfl) (fun _ _ _ h => h) (by rfl) ?_ (fun _ => rfl) hS ?_
    · intro w' h9
      simp [go_sem, h9.1, h9.2.1, h9.2.2.1, h9.2.2.2, Act.put]
    simp only [go_sem, Act.put, List.getElem_toArray, List.getElem_cons_succ, List.getElem_cons_zero, List.setIfInBounds_toArray, List.set_cons_succ, List.set_cons_zero]
    refine takeT (i := 2) (.pointer (some ⟨b, 0, none⟩)) rfl (by kernel_rfl) (by kernel_rfl) (by kernel_rfl) (by kernel_rfl) (by kernel_rfl) (fun _ _ _ h => h) (by rfl) ?_ (fun _ => rfl) hS ?_
    · intro w' h9
      simp [go_sem, h9.1, h9.2.1, h9.2.2.1, h9.2.2.2, Act.put]
    simp only [go_sem, Act.put, List.getElem_toArray, List.getElem_cons_succ, List.getElem_cons_zero, List.setIfInBounds_toArray, List.set_cons_succ, List.set_cons_zero]
    refine takeT (i := 3) (.pointer (some ⟨b, 1, none⟩)) rfl (by kernel_rfl) (by kernel_rfl) (by kernel_rfl) (by kernel_rfl) (by kernel_rfl) (fun _ _ _ h => h) (by rfl) ?_ (fun _ => rfl) hS ?_
    · intro w' h9
      simp [go_sem, h9.1, h9.2.1, h9.2.2.1, h9.2.2.2, Act.put]
    simp only [go_sem, Act.put, List.getElem_toArray, List.getElem_cons_succ, List.getElem_cons_zero, List.setIfInBounds_toArray, List.set_cons_succ, List.set_cons_zero]
    refine takeT (i := 4) (v') rfl (by kernel_rfl) (by kernel_rfl) (by kernel_rfl) (by kernel_rfl) (by kernel_rfl) (fun _ _ _ h => h) (by rfl) ?_ (fun _ => rfl) hS ?_
    · intro w' h9
      simp [go_sem, h9.1, h9.2.1, h9.2.2.1, h9.2.2.2, Act.put]
    simp only [go_sem, Act.put, List.getElem_toArray, List.getElem_cons_succ, List.getElem_cons_zero, List.setIfInBounds_toArray, List.set_cons_succ, List.set_cons_zero]
    refine takeT (i := 5) (colV acc'.1 acc'.2) rfl (by kernel_rfl) (by kernel_rfl) (by kernel_rfl) (by kernel_rfl) (by kernel_rfl) (fun _ _ _ h => h) (by rfl) ?_ (fun _ => rfl) hS ?_
    · intro w' h9
      simp [go_sem, h9.1, h9.2.1, h9.2.2.1, h9.2.2.2, Act.put]
    simp only [go_sem, Act.put, List.getElem_toArray, List.getElem_cons_succ, List.getElem_cons_zero, List.setIfInBounds_toArray, List.set_cons_succ, List.set_cons_zero]
    refine oneN (i := 6) (by kernel_rfl) (wpOpIn_step rfl fun K' hK' => ?_)
    rw [if_pos (by rfl)]
    refine ⟨fun _ _ => trivial, ?_⟩
    simp only [go_sem, Act.put]
    simp [go_sem]
    refine hK' _ _ ⟨⟨keepA j0 _, keepA d1 _, keepA j1 _, keepA j2 _⟩, ?_⟩
    clear hK'
    obtain ⟨v2, w2, hr, h2, h3, h4, h5⟩ := run_append_own_at (P := Tryd.prog) ((V1.alloc (.cells #[.int .u64 (acc'.1 : Int), .int .u64 (acc'.2 : Int)] 69)).drew) B 147 147 69 i0 (.agg #[.int .u64 0, .int .u64 0]) 2 16 Tryd.underlying147 hi hz0 hz1 hz2 rfl (by decide) v' t (cellsW (scT wOr (0, 0) en t)) (Y2.out.alloc _) ⟨V1.heap.size, 0, none⟩ 1 1 [.int .u64 (acc'.1 : Int), .int .u64 (acc'.2 : Int)] rfl (cell_two_new V1 _ _ _) (oneW acc') (by unfold maxLen; omega) (by omega) (by show B ≤ (V1.alloc _).heap.size; simp only [World.size_alloc]; omega)
    refine oneN (i := 7) (by kernel_rfl) (wpOpIn_step rfl fun K' hK' => ?_)
    rw [if_pos (by rfl)]
    refine wpIn_append_run (.tmp 24) (.tmp 26) 147 rfl rfl rfl hr ?_
    have ew : ∀ k, some k ≠ v'.ownBlock → k < V1.heap.size → w2.heap[k]? = V1.heap[k]? := fun k h7 h8 => (h3.block k (by show k < (V1.alloc _).heap.size; simp only [World.size_alloc]; omega) h7).trans (heap_alloc_old V1 _ h8)
    have sw : V1.heap.size + 1 ≤ w2.heap.size := by have := h3.size; exact Nat.le_trans (by show _ ≤ (V1.alloc _).heap.size; simp) this
    have z1 := (ew b (fun h7 => (HNB.out b h7.symm).1 rfl) (by omega)).trans Y1.out
    have z3 := (ew (w.heap.size + 2) (fun h7 => (HNB.out _ h7.symm).2.1 rfl) (by omega)).trans Y3.out
    have z4 := (ew w.heap.size (fun h7 => (HNB.out _ h7.symm).2.2.1 rfl) (by omega)).trans Y4.out
    have zn := (ew (w.heap.size + 1) (fun h7 => (HNB.out _ h7.symm).2.2.2 rfl) (by omega)).trans YN.out
    have hb2 : ∀ k, v2.ownBlock = some k → k ≠ b ∧ k ≠ g ∧ (vl.ownBlock = some k ∨ w.heap.size + 4 ≤ k) := fun k hk => by
      rcases h5 with h6 | h6
      · rw [h6] at hk
        exact ⟨(HNB.out k hk).1, (U5.out k hk).1, (U5.out k hk).2⟩
      · rw [h6] at hk
        have h9 : (V1.alloc (.cells #[.int .u64 (acc'.1 : Int), .int .u64 (acc'.2 : Int)] 69)).heap.size = k := by simpa using hk
        simp at h9
        exact ⟨by omega, by omega, .inr (by omega)⟩
    obtain ⟨g4, cap4, rfl⟩ := ownsRow_succ h2
    have f1' := frozen_of_row _ _ 1 _ _ z1
    have c1' : w2.cell? ⟨b, 1, none⟩ = some v' := by rw [cell_of_row _ _ 1 _ _ _ z1]; rfl
    have c0' : w2.cell? ⟨w.heap.size, 0, none⟩ = some (.pointer (some ⟨b, 0, none⟩)) := by rw [cell_of_row _ _ 0 _ _ _ z4]; rfl
    have cl' : w2.cell? ⟨w.heap.size + 2, 0, none⟩ = some (.int .u64 (acc'.1 : Int)) := by rw [cell_of_row _ _ 0 _ _ _ z3]; rfl
    have cm' : w2.cell? ⟨w.heap.size + 2, 1, none⟩ = some (.int .u64 (acc'.2 : Int)) := by rw [cell_of_row _ _ 1 _ _ _ z3]; rfl
    have hS2 := And.intro c0' (And.intro c1' (And.intro cl' cm'))
    refine hK' _ _ ⟨hS2, ?_⟩
    clear hK' 
    refine oneN (i := 8) (by kernel_rfl) (wpOpIn_step rfl fun K' hK' => ?_)
    rw [if_pos (by rfl)]
    refine ⟨fun _ _ => trivial, ?_⟩
    simp only [go_sem, Act.put]
    simp [go_sem]
    refine hK' _ _ ⟨hS2, ?_⟩
    clear hK' 
    refine oneN (i := 9) (by kernel_rfl) (wpOpIn_step rfl fun K' hK' => ?_)
    rw [if_pos (by rfl)]
    refine ⟨fun _ _ => trivial, ?_⟩
    simp only [go_sem, Act.put]
    simp [go_sem]
    refine hK' _ _ ⟨hS2, ?_⟩
    clear hK' 
    refine oneT (i := 10) (by kernel_rfl) (by decide) (wpOpIn_step rfl fun K' hK' => ?_)
    rw [if_pos (by rfl)]
    refine ⟨fun _ _ => trivial, ?_⟩
    simp only [go_sem, Act.put]
    simp [go_sem, c1', f1']
    refine hK' _ _ ?_
    clear hK'
    refine doneT (by kernel_rfl) ?_ _
    gi_wp2
    have ewg : w2.heap[g]? = wS.heap[g]? := (ew g (fun h7 => (U5.out g h7.symm).1 rfl) (by omega)).trans ((E1.out g (by omega) (by omega)).trans U6.out)
    have e8 : (ps ++ [(y, e)]).length = t + 1 := by rw [List.length_append, HT.out]; rfl
    refine ⟨⟨(show w2.os = V.os from h3.os.trans KX.out.os), (show w2.tape = V.tape from h3.tape.trans KX.out.tape), (show w2.output = V.output from h3.output.trans KX.out.output), (by simp; omega), fun k hk hE => ?_⟩, _, set_block (j := 1) z1 _, ?_, ?_, (set_other (by omega) _).trans z4, (set_other (by omega) _).trans zn, fun k hk => (hb2 k hk).2, (set_other (by omega) _).trans ewg, ⟨(show w2.os = w.os from h3.os.trans K7.out.os), (show w2.tape = w.tape from h3.tape.trans K7.out.tape), (show w2.output = w.output from h3.output.trans K7.out.output), (by simp; have := K7.out.size; omega), fun k hk hX => ?_⟩⟩
    · have hkb : k ≠ b := fun e => hE (.inl (.inl e))
      have hkl : k ≠ w.heap.size + 2 := fun e => hE (.inl (.inr (.inl e)))
      have hkv : some k ≠ v'.ownBlock := fun e => by
        rcases (U5.out k e.symm).2 with h | h
        · exact hE (.inl (.inr (.inr h)))
        · obtain ⟨_, _, cur, h9⟩ := own_at U2.out e.symm
          exact hE (.inr ⟨h, cur, _, h9, rfl⟩)
      exact (set_other hkb _).trans ((ew k hkv (by omega)).trans (E1.out k hk hkl))
    · have hown := own_same h2 fun k hk => set_other (j := 1) (v := (.slice (some ⟨g4, 0, none⟩) (t + 1) cap4)) (hb2 k hk).1
      rw [e8, HSC.out, cellsW_append, cellsW_one, ← HACC.out, ← HACC'.out]
      exact hown
    · rw [e8, HLT.out, ← HACC.out, ← HACC'.out]
      exact (set_other (by omega) _).trans z3
    · exact (set_other (fun e => hX (.inl e)) _).trans ((ew k (fun h7 => by have := (own_at Y2.out h7.symm).1; exact hX (.inr this)) (by have := K7.out.size; omega)).trans (K7.out.block k hk hX))
  case done =>
    rintro D V hDq ⟨v', u1, u2, u3, u4, un, u5, u6, u7⟩ hDV
    rw [bwTc_len, scTc_all] at u2
    have oeV := own_same oeS fun k hk => by
      obtain rfl : g = k := by simpa [Value.ownBlock] using hk
      exact u6
    obtain ⟨⟨d0, d1, d2, d3, d4⟩, g1, g2, g3, g4⟩ := cellsC_own u1
    have k0 : V.cell? ⟨w.heap.size, 0, none⟩ = some (.pointer (some ⟨b, 0, none⟩)) := by rw [cell_of_row _ _ 0 _ _ _ u4]; rfl
    have n0 : V.cell? ⟨w.heap.size + 1, 0, none⟩ = some (.int .u64 0) := by rw [cell_of_row _ _ 0 _ _ _ un]; rfl
    have n1 : V.cell? ⟨w.heap.size + 1, 1, none⟩ = some (.int .u64 0) := by rw [cell_of_row _ _ 1 _ _ _ un]; rfl
    have hbV := blk_lt u1
    have U1 := Lib.hid u1
    have U2 := Lib.hid u2
    have U5 := Lib.hid u5
    have U7 := Lib.hid u7
    have OEV := Lib.hid oeV
    have hbn : ¬ b = w.heap.size + 1 := by omega
    have hbn' : ¬ w.heap.size + 1 = b := by omega
    clear u1 u2 u3 u4 un u5 u6 u7 oeV
    have q1 : (0 : Int) ≤ (c : Int) := by omega
    dsimp only
    go_wp2_with fail
    go_region
    all_goals go_wp2_with fail
    have hDb : D ≠ b := fun e => by subst e; rw [hDV] at U1; have := U1.out; cases this
    refine leaves_one (D := D) (v := .tuple #[]) ((set_other hDb _).trans ((set_other hDb _).trans ((set_other hDb _).trans hDV))) (fun w' hw' => ⟨results_none rfl _ _ _, rfl, ?_⟩)
    have e6 : ∀ k, k ≠ b → k ≠ D → w'.heap[k]? = V.heap[k]? := fun k h7 h8 => by rw [hw']; exact (World.putObj_heap_other h8).trans ((set_other h7 _).trans ((set_other h7 _).trans (set_other h7 _)))
    have b6 : w'.heap[b]? = some (.cells #[.func (.func 137) #[] #[], v', .slice (some ⟨g, 0, none⟩) 0 c, .int .u64 (((0, 0) : Nat × Nat).1 : Int), .int .u64 (((0, 0) : Nat × Nat).2 : Int)] 165 (0, 0)) := by
      rw [hw']
      exact (World.putObj_heap_other (Ne.symm hDb)).trans (set_block (j := 4) (set_block (j := 3) (set_block (j := 2) U1.out _) _) _)
    have nD : ∀ (cs : Array Value) (t : TypeId), V.heap[D]? ≠ some (.cells cs t (0, 0)) := fun cs t h9 => by rw [hDV] at h9; cases h9
    have z6 : V.heap.size ≤ w'.heap.size := by rw [hw']; simp
    refine ⟨⟨v', _, b6, ?_, ?_, fun k h7 h8 => ?_, scn_ok HOK.out, by simp, OKW.zero⟩, ⟨?_, ?_, ?_, by have := U7.out.size; omega, fun k hk hX => ?_⟩⟩
    · rw [scn_len]
      refine own_same U2.out fun k hk => e6 k (winC_ne U1.out U2.out k hk) fun e => ?_
      obtain ⟨_, _, cur, h9⟩ := own_at U2.out hk
      exact nD _ _ (e ▸ h9)
    · have := own_take (k := 0) OEV.out (Nat.zero_le _)
      refine own_same (by simpa [cellsW] using this) fun k hk => e6 k ?_ fun e => ?_
      · obtain rfl : g = k := by simpa [Value.ownBlock] using hk
        exact nee
      · obtain rfl : g = k := by simpa [Value.ownBlock] using hk
        obtain ⟨_, _, cur, h9⟩ := own_at OEV.out rfl
        exact nD _ _ (e ▸ h9)
    · have h9 := (U5.out k h7).1
      simp [Value.ownBlock] at h8
      exact h9 h8.symm
    · rw [hw']; exact U7.out.os
    · rw [hw']; exact U7.out.tape
    · rw [hw']; exact U7.out.output
    · exact (e6 k (fun e => hX (.inl e)) (fun e => by subst e; omega)).trans (U7.out.block k hk hX)
  case stop =>
    intro D c ps V _ _ h _
    exact h.elim
end Go.Proofs.YtgccnongfdbalaaDoor

namespace Go.Proofs.YtgccnongfdbalaaDoor
open Go.RowKit Go.Shelf
set_option linter.unusedVariables false
set_option linter.unusedSimpArgs false

/-- One of the elements that leave goes. -/
theorem winC_pop {B b n g c : Nat} {W : World} {lv en : List (Nat × Nat)} {lat : Nat × Nat} {ve : Value} (hb : W.heap[b]? = some (.cells #[.func (.func 137) #[] #[], .slice (some ⟨g, 0, none⟩) (n + 1) c, ve, .int .u64 (lat.1 : Int), .int .u64 (lat.2 : Int)] 165 (0, 0)))
    (hl : lv.length = n + 1) (ol : W.ownsRow B 69 2 (.slice (some ⟨g, 0, none⟩) (n + 1) c) lv.length (cellsW lv)) (oe : W.ownsRow B 69 2 ve en.length (cellsW en)) (hne : ∀ k, some g = some k → ve.ownBlock ≠ some k) (hok : (∀ e, e ∈ lv → OKW e) ∧ (∀ e, e ∈ en → OKW e) ∧ OKW lat) :
    WinC B ((W.setCell ⟨b, 1, none⟩ (.slice (some ⟨g, 0, none⟩) n c)).drew) b (lv.take n) en lat := by
  have o1 := own_take (k := n) (by rw [hl] at ol; exact ol) (by omega)
  have hlt : (lv.take n).length = n := by rw [List.length_take]; omega
  refine ⟨_, ve, set_block (j := 1) hb _, ?_, own_same oe fun k hk => set_other (winC_ne hb oe k hk) _, fun k h7 => hne k (by simpa [Value.ownBlock] using h7), fun e he => hok.1 e (List.mem_of_mem_take he), hok.2⟩
  rw [hlt]
  refine own_same (by rw [← cellsW_take]; exact o1) fun k hk => set_other (winC_ne hb ol k (by simpa [Value.ownBlock] using hk)) _

set_option maxRecDepth 100000 in
set_option maxHeartbeats 8000000 in
theorem leaveC_any (B b : Nat) (lv en : List (Nat × Nat)) (lat : Nat × Nat) (w : World) (hW : WinC B w b lv en lat) (hB : B ≤ w.heap.size) (h0 : 0 < lv.length + en.length) (hlen : lv.length + en.length ≤ 100000) :
    Calls Tryd.prog 161 #[.pointer (some ⟨b, 0, none⟩)] w fun r w' => r = .returned (.tuple #[]) ∧ WinC B w' b (lvN wOr (0, 0) lv en) (enN lv en) (laN (0, 0) lv lat) ∧ Kept (fun k => k = b ∨ B ≤ k) w w' := by
  unfold lvN enN laN
  by_cases hl : lv.length = 0
  · rw [if_pos hl, if_pos hl, if_pos hl]
    obtain rfl : lv = [] := List.eq_nil_of_length_eq_zero hl
    have hen : 0 < en.length := by simpa using h0
    have hlen' : en.length ≤ 100000 := by simpa using hlen
    have HW := Lib.hid hW
    obtain ⟨vl, ve, hb, ol, oe, hne, hok⟩ := hW
    obtain ⟨a, c, rfl⟩ := own_slice ol
    obtain ⟨⟨c0, c1, c2, c3, c4⟩, f1, f2, f3, f4⟩ := cellsC_own hb
    clear f1 f2 f3 f4 c2 c3 c4 c0 hne hok oe ol hb h0 hlen hl
    go_enter Tryd.func161, Tryd.ntmps161
    go_wp2_with fail
    refine (turnC_any B b en lat _ HW.out hB hen hlen').mono ?_
    rintro r w1 ⟨rfl, hW1, k1⟩
    have K1 := Lib.hid k1
    obtain ⟨m, hm⟩ : ∃ m, en.length = m + 1 := ⟨en.length - 1, by omega⟩
    obtain ⟨vl, ve, hb, ol, oe, hne, hok⟩ := hW1
    rw [scn_len, hm] at ol
    obtain ⟨g, c', rfl, h1, h2, h3⟩ := own_slice' ol
    obtain ⟨⟨c0, d1, c2, c3, c4⟩, f1, f2, f3, f4⟩ := cellsC_own hb
    have HB := Lib.hid hb
    have OL := Lib.hid ol
    have OE := Lib.hid oe
    have HNE := Lib.hid hne
    have HM := Lib.hid hm
    have q1 : (m : Int) + 1 - 1 = (m : Int) := by omega
    have q6 : m ≤ 100000 := by omega
    have hwr : IntKind.i64.wrap (m : Int) = (m : Int) := by rw [IntKind.wrap_i64]; omega
    have q2 : (m : Int) ≤ (c' : Int) := by omega
    have q3 : (0 : Int) ≤ (m : Int) := by omega
    have HOK := Lib.hid hok
    clear hb ol oe hne hok k1 c0 c2 c3 c4 f2 f3 f4 c1 hm
    go_wp2_with fail
    go_region
    all_goals go_wp2_with fail
    all_goals go_end0
    all_goals
      refine ⟨rfl, ?_, (K1.out.setCell (X := fun k => k = b ∨ B ≤ k) (p := ⟨b, 1, none⟩) (.inl rfl) _).drew⟩
      have e1 : en.length - 1 = m := by have := HM.out; omega
      rw [e1]
      refine winC_pop HB.out (by rw [scn_len]; exact HM.out) ?_ OE.out HNE.out HOK.out
      rw [scn_len, HM.out]
      exact OL.out
  · rw [if_neg hl, if_neg hl, if_neg hl]
    obtain ⟨m, hm⟩ : ∃ m, lv.length = m + 1 := ⟨lv.length - 1, by omega⟩
    obtain ⟨vl, ve, hb, ol, oe, hne, hok⟩ := hW
    rw [hm] at ol
    obtain ⟨g, c', rfl, h1, h2, h3⟩ := own_slice' ol
    obtain ⟨⟨c0, d1, c2, c3, c4⟩, f1, f2, f3, f4⟩ := cellsC_own hb
    have HB := Lib.hid hb
    have OL := Lib.hid ol
    have OE := Lib.hid oe
    have HNE := Lib.hid hne
    have HM := Lib.hid hm
    have q1 : (m : Int) + 1 - 1 = (m : Int) := by omega
    have q6 : m ≤ 100000 := by omega
    have hwr : IntKind.i64.wrap (m : Int) = (m : Int) := by rw [IntKind.wrap_i64]; omega
    have q2 : (m : Int) ≤ (c' : Int) := by omega
    have q3 : (0 : Int) ≤ (m : Int) := by omega
    have q4 : (((m : Int) + 1) == 0) = false := by simp; omega
    have q5 : ¬ ((m : Int) + 1 = 0) := by omega
    have HOK := Lib.hid hok
    clear hb ol oe hne hok c0 c2 c3 c4 f2 f3 f4 hm hl h0 hlen
    go_enter Tryd.func161, Tryd.ntmps161
    go_wp2_with fail
    go_region
    all_goals go_wp2_with fail
    all_goals go_end0
    all_goals
      refine ⟨rfl, ?_, ((Kept.refl _ w).setCell (X := fun k => k = b ∨ B ≤ k) (p := ⟨b, 1, none⟩) (.inl rfl) _).drew⟩
      have e1 : lv.length - 1 = m := by have := HM.out; omega
      rw [e1]
      refine winC_pop HB.out HM.out ?_ OE.out HNE.out HOK.out
      rw [HM.out]
      exact OL.out
end Go.Proofs.YtgccnongfdbalaaDoor

namespace Go.Proofs.YtgccnongfdbalaaDoor
open Go.RowKit Go.Shelf
set_option linter.unusedVariables false
set_option linter.unusedSimpArgs false
attribute [local go_sem] run_store_fn

/-- The line: columns f 0 .. f (n - 1) at the head of block g. -/
def LineC (W : World) (g n : Nat) (f : Nat → Nat × Nat) : Prop := ∀ j, j < n → (W.cell? ⟨g, j * 2, none⟩ = some (.int .u64 ((f j).1 : Int)) ∧ W.cell? ⟨g, j * 2 + 1, none⟩ = some (.int .u64 ((f j).2 : Int))) ∧ OKW (f j)
/-- A line of columns in memory of its own. -/
def OwnC (B : Nat) (n : Nat) (f : Nat → Nat × Nat) (e : Ending) (w : World) : Prop := ∃ h, e = .returned (.slice (some ⟨h, 0, none⟩) n n) ∧ w.ownsRow B 69 2 (.slice (some ⟨h, 0, none⟩) n n) n (cellsW (enL f 0 n))

set_option maxRecDepth 100000 in
set_option maxHeartbeats 16000000 in
theorem slideC_any (gl n cl bk ah : Nat) (f : Nat → Nat × Nat) (w : World) (hL : LineC w gl n f) (hgl : gl < w.heap.size) (hn : n ≤ 1000) (hbk : bk ≤ 1000) (hah : ah ≤ 1000) (hcl : n ≤ cl) :
    Calls Tryd.prog 151 #[.slice (some ⟨gl, 0, none⟩) n cl, .func (.func 137) #[] #[], .int .i64 (bk : Int), .int .i64 (ah : Int)] w fun e w' => OwnC w.heap.size n (slF wOr (0, 0) f n bk ah) e w' ∧ Below w.heap.size w w' := by
  obtain ⟨i0, hi, hz0, hz1, hz2⟩ := info_parts infoCol
  have HL := Lib.hid hL
  clear hL
  have hb3 : i0.bytes * n ≤ 281474976710656 := by rw [hz2]; omega
  have hb4 : n ≤ maxLen := by unfold maxLen; omega
  go_enter Tryd.func151, Tryd.ntmps151
  go_wp2_with (at_make; refine wpList_make_own _ rfl _ _ 147 rfl (w.heap.size + 1) 69 i0 (.agg #[.int .u64 0, .int .u64 0]) 2 Tryd.underlying147 hi hz0 hz1 .i64 .i64 (n : Int) n rfl rfl rfl hb3 hb4 (by simp) ?_; intro w1 own1 grow1)
  rw [World.size_alloc] at own1
  have hb1 : w1.heap[w.heap.size]? = some (.cells #[.func (.func 137) #[] #[], .slice none 0 0, .slice none 0 0, .int .u64 0, .int .u64 0] 165 (0, 0)) := (grow1.block _ (by simp) (fun e => by cases e)).trans (heap_alloc_new _ _)
  have b1 : Below w.heap.size w w1 := ((Below.refl _ _).alloc (Nat.le_refl _) _).grown grow1 (by simp) (fun j hj => by cases hj)
  have s1 : w.heap.size + 1 < w1.heap.size := (own_at own1 rfl).2.1
  have HW0 : Hid (WinC (w.heap.size + 2) w1 w.heap.size [] [] (0, 0)) := Lib.hid ⟨_, _, hb1, World.ownsRow_nil _ _ _ _, World.ownsRow_nil _ _ _ _, fun g hg => by simp [Value.ownBlock] at hg, by simp, by simp, OKW.zero⟩
  have HO0 := Lib.hid own1
  have HB0 := Lib.hid b1
  clear own1 grow1 hb1 b1 hb3 hb4
  have hline : Hid (∀ (W' : World) (k : Nat), k < n → Below w.heap.size w W' → (W'.cell? ⟨gl, k * 2, none⟩ = some (.int .u64 ((f k).1 : Int)) ∧ W'.cell? ⟨gl, k * 2 + 1, none⟩ = some (.int .u64 ((f k).2 : Int))) ∧ OKW (f k)) := Lib.hid fun W' k hk hb => ⟨⟨(hb.cell (p := ⟨gl, k * 2, none⟩) hgl).trans (HL.out k hk).1.1, (hb.cell (p := ⟨gl, k * 2 + 1, none⟩) hgl).trans (HL.out k hk).1.2⟩, (HL.out k hk).2⟩
  go_loopw [10, 21] (fun s10 s21 wr => ∃ (k : Nat) (lv en : List (Nat × Nat)) (lat : Nat × Nat), k ≤ n + ah ∧ s21 = .int .i64 (k : Int) ∧ s10 = .slice (some ⟨w.heap.size + 1, 0, none⟩) (k - ah) n ∧ w.heap.size + 2 ≤ wr.heap.size ∧ Hid (WinC (w.heap.size + 2) wr w.heap.size lv en lat) ∧ Hid (WinOK wOr (0, 0) f lv en lat (k - (bk + ah + 1)) (min n k)) ∧
      Hid (wr.ownsRow w.heap.size 69 2 (.slice (some ⟨w.heap.size + 1, 0, none⟩) (k - ah) n) (k - ah) (cellsW (enL (slF wOr (0, 0) f n bk ah) 0 (k - ah)))) ∧ Hid (Below w.heap.size w wr)) (fun _ s21 _ => n + ah - (intOf s21).toNat)
  case atStart =>
    refine ⟨0, [], [], (0, 0), by omega, rfl, by rw [Nat.zero_sub], by omega, HW0, Lib.hid (by rw [Nat.zero_sub, Nat.min_zero]; exact WinOK.start _ _ _), Lib.hid ?_, HB0⟩
    have e0 : cellsW (enL (slF wOr (0, 0) f n bk ah) 0 0) = [] := rfl
    rw [Nat.zero_sub, e0]
    exact ⟨rfl, HO0.out.2.imp id fun ⟨g, cap, cur, h1, h2, h3⟩ => ⟨g, cap, cur, h1, Nat.le_trans (by omega) h2, h3⟩⟩
  case round =>
    obtain ⟨k, lv, en, lat, hk, rfl, rfl, hsz, HW, HK, HO, HB⟩ := hrel
    by_cases hlt : k < n + ah
    · have q0 : (0 : Int) ≤ (k : Int) := by omega
      have q1 : (k : Int) < (n : Int) + (ah : Int) := by omega
      have hlen := HK.out.len
      have hlen1 : lv.length + en.length ≤ 1000 := by omega
      by_cases he : k < n
      · by_cases hl : bk + ah < k
        · by_cases hj : ah ≤ k
          · skip
            -- enter True, leave True, join True
            have qe : (k : Int) < (n : Int) := by omega
            obtain ⟨⟨hfk, hfk1⟩, hfo⟩ := hline.out _ k he HB.out
            have HFO := Lib.hid hfo
            clear hfo
            have ql : (bk : Int) + (ah : Int) < (k : Int) := by omega
            have qj : (ah : Int) ≤ (k : Int) := by omega
            clear hlen
            go_wp2_with fail
            refine (enterC_any (w.heap.size + 2) w.heap.size lv en lat (f k) _ HW.out hsz (by omega) HFO.out).mono ?_
            rintro r9 w3 ⟨rfl, hW3, k3⟩
            have HW := Lib.hid hW3
            have HK : Hid (WinOK wOr (0, 0) f lv (en ++ [f k]) (wOr lat (f k)) (k - (bk + ah + 1)) (min n (k + 1))) := Lib.hid (by have := HK.out.enter; rw [show min n k = k by omega] at this; rw [show min n (k + 1) = k + 1 by omega]; exact this)
            have HO := Lib.hid (own_same HO.out fun g hg => by obtain rfl : w.heap.size + 1 = g := (by simpa [Value.ownBlock] using hg); exact k3.block _ (by omega) (by omega))
            have HB := Lib.hid (HB.out.trans (k3.below (n := w.heap.size) (by omega) (fun j hj => by omega)))
            have hsz := Nat.le_trans hsz k3.size
            clear hW3 k3 hfk hfk1
            go_wp2_with fail
            have hlen := HK.out.len
            have hln : 0 < lv.length + (en ++ [f k]).length := by omega
            have hln2 : lv.length + (en ++ [f k]).length ≤ 100000 := by omega
            clear hlen
            refine (leaveC_any (w.heap.size + 2) w.heap.size _ _ _ _ HW.out hsz hln hln2).mono ?_
            rintro r9 w4 ⟨rfl, hW4, k4⟩
            have HW := Lib.hid hW4
            have HK := Lib.hid (HK.out.leave' join_wOr (by omega))
            have HO := Lib.hid (own_same HO.out fun g hg => by obtain rfl : w.heap.size + 1 = g := (by simpa [Value.ownBlock] using hg); exact k4.block _ (by omega) (by omega))
            have HB := Lib.hid (HB.out.trans (k4.below (n := w.heap.size) (by omega) (fun j hj => by omega)))
            have hsz := Nat.le_trans hsz k4.size
            have hl9 : k - (bk + ah + 1) + 1 = k + 1 - (bk + ah + 1) := by omega
            rw [hl9] at HK
            clear hW4 k4 hln hln2 hl9
            generalize lvN wOr (0, 0) lv _ = lv' at HW HK
            generalize enN lv _ = en' at HW HK
            generalize laN (0, 0) lv _ = lat' at HW HK
            go_wp2_with fail
            have hlen := HK.out.len
            have hl5 : lv'.length ≤ 100000 := by omega
            clear hlen
            refine (joinedC_any (w.heap.size + 2) w.heap.size lv' en' lat' _ HW.out hl5).mono ?_
            rintro r9 w5 ⟨rfl, b5⟩
            have HW := Lib.hid (HW.out.ext b5)
            have HO := Lib.hid (own_keep HO.out b5)
            have HB := Lib.hid (HB.out.trans (b5.mono (by omega)))
            have hsz := Nat.le_trans hsz b5.size
            have hv := slF_of (n := n) (bk := bk) (ah := ah) (k := k) join_wOr HK.out (by omega) rfl (by omega)
            rw [hv]
            have hkn : k - ah < n := by omega
            obtain ⟨i, hi9⟩ : ∃ i, i = k - ah := ⟨_, rfl⟩
            rw [← hi9] at HO hkn ⊢
            have HI := Lib.hid hi9
            obtain ⟨v, hv9⟩ : ∃ v, v = slF wOr (0, 0) f n bk ah i := ⟨_, rfl⟩
            rw [← hv9]
            have HV := Lib.hid hv9
            clear hv hi9 hv9 b5
            go_wp2_with (at_builtin; refine wpList_append_fits _ rfl _ _ 147 rfl w.heap.size 69 i0 2 Tryd.underlying147 hi hz1 (w.heap.size + 1) i n (cellsW (enL (slF wOr (0, 0) f n bk ah) 0 i)) rfl (HO.out.alloc _) ⟨w5.heap.size, 0, none⟩ 1 1 [.int .u64 (v.1 : Int), .int .u64 (v.2 : Int)] rfl rfl (cell_two_new _ _ _ _) (oneW v) (by omega) ?_; intro w6 own6 grow6)
            have k6 : Kept (fun j => j = w.heap.size + 1) w5 w6 := ⟨grow6.os, grow6.tape, grow6.output, Nat.le_trans (by simp) grow6.size, fun j h1 h2 => (grow6.block j (by simp only [World.size_alloc]; omega) (fun e => h2 (by simpa using e))).trans (heap_alloc_old _ _ h1)⟩
            have HW := Lib.hid (HW.out.kept k6 (fun j hj => by omega))
            have HB := Lib.hid (HB.out.trans (k6.below (n := w.heap.size) (by omega) (fun j hj => by omega)))
            have hsz := Nat.le_trans hsz k6.size
            have HO := Lib.hid own6
            clear own6 grow6 k6
            go_wp2_with fail
            go_roundw
            case rel => exact ⟨k + 1, lv', en', lat', by omega, by go_num, by rw [show k + 1 - ah = i + 1 by have := HI.out; omega], hsz, HW, HK, Lib.hid (by rw [show k + 1 - ah = i + 1 by have := HI.out; omega, enL_snoc, cellsW_append, cellsW_one, Nat.zero_add, ← HV.out]; exact HO.out), HB⟩
            case measure => simp [intOf]; omega
          · exfalso; omega
        · by_cases hj : ah ≤ k
          · skip
            -- enter True, leave False, join True
            have qe : (k : Int) < (n : Int) := by omega
            obtain ⟨⟨hfk, hfk1⟩, hfo⟩ := hline.out _ k he HB.out
            have HFO := Lib.hid hfo
            clear hfo
            have ql : ¬ (bk : Int) + (ah : Int) < (k : Int) := by omega
            have qj : (ah : Int) ≤ (k : Int) := by omega
            clear hlen
            go_wp2_with fail
            refine (enterC_any (w.heap.size + 2) w.heap.size lv en lat (f k) _ HW.out hsz (by omega) HFO.out).mono ?_
            rintro r9 w3 ⟨rfl, hW3, k3⟩
            have HW := Lib.hid hW3
            have HK : Hid (WinOK wOr (0, 0) f lv (en ++ [f k]) (wOr lat (f k)) (k - (bk + ah + 1)) (min n (k + 1))) := Lib.hid (by have := HK.out.enter; rw [show min n k = k by omega] at this; rw [show min n (k + 1) = k + 1 by omega]; exact this)
            have HO := Lib.hid (own_same HO.out fun g hg => by obtain rfl : w.heap.size + 1 = g := (by simpa [Value.ownBlock] using hg); exact k3.block _ (by omega) (by omega))
            have HB := Lib.hid (HB.out.trans (k3.below (n := w.heap.size) (by omega) (fun j hj => by omega)))
            have hsz := Nat.le_trans hsz k3.size
            clear hW3 k3 hfk hfk1
            go_wp2_with fail
            have hlen := HK.out.len
            have HK : Hid (WinOK wOr (0, 0) f lv (en ++ [f k]) (wOr lat (f k)) (k + 1 - (bk + ah + 1)) (min n (k + 1))) := Lib.hid (by have := HK.out; rw [show k - (bk + ah + 1) = k + 1 - (bk + ah + 1) by omega] at this; exact this)
            clear hlen
            generalize en ++ [f k] = en' at HW HK
            generalize wOr lat (f k) = lat' at HW HK
            have hlen := HK.out.len
            have hl5 : lv.length ≤ 100000 := by omega
            clear hlen
            refine (joinedC_any (w.heap.size + 2) w.heap.size lv en' lat' _ HW.out hl5).mono ?_
            rintro r9 w5 ⟨rfl, b5⟩
            have HW := Lib.hid (HW.out.ext b5)
            have HO := Lib.hid (own_keep HO.out b5)
            have HB := Lib.hid (HB.out.trans (b5.mono (by omega)))
            have hsz := Nat.le_trans hsz b5.size
            have hv := slF_of (n := n) (bk := bk) (ah := ah) (k := k) join_wOr HK.out (by omega) rfl (by omega)
            rw [hv]
            have hkn : k - ah < n := by omega
            obtain ⟨i, hi9⟩ : ∃ i, i = k - ah := ⟨_, rfl⟩
            rw [← hi9] at HO hkn ⊢
            have HI := Lib.hid hi9
            obtain ⟨v, hv9⟩ : ∃ v, v = slF wOr (0, 0) f n bk ah i := ⟨_, rfl⟩
            rw [← hv9]
            have HV := Lib.hid hv9
            clear hv hi9 hv9 b5
            go_wp2_with (at_builtin; refine wpList_append_fits _ rfl _ _ 147 rfl w.heap.size 69 i0 2 Tryd.underlying147 hi hz1 (w.heap.size + 1) i n (cellsW (enL (slF wOr (0, 0) f n bk ah) 0 i)) rfl (HO.out.alloc _) ⟨w5.heap.size, 0, none⟩ 1 1 [.int .u64 (v.1 : Int), .int .u64 (v.2 : Int)] rfl rfl (cell_two_new _ _ _ _) (oneW v) (by omega) ?_; intro w6 own6 grow6)
            have k6 : Kept (fun j => j = w.heap.size + 1) w5 w6 := ⟨grow6.os, grow6.tape, grow6.output, Nat.le_trans (by simp) grow6.size, fun j h1 h2 => (grow6.block j (by simp only [World.size_alloc]; omega) (fun e => h2 (by simpa using e))).trans (heap_alloc_old _ _ h1)⟩
            have HW := Lib.hid (HW.out.kept k6 (fun j hj => by omega))
            have HB := Lib.hid (HB.out.trans (k6.below (n := w.heap.size) (by omega) (fun j hj => by omega)))
            have hsz := Nat.le_trans hsz k6.size
            have HO := Lib.hid own6
            clear own6 grow6 k6
            go_wp2_with fail
            go_roundw
            case rel => exact ⟨k + 1, lv, en', lat', by omega, by go_num, by rw [show k + 1 - ah = i + 1 by have := HI.out; omega], hsz, HW, HK, Lib.hid (by rw [show k + 1 - ah = i + 1 by have := HI.out; omega, enL_snoc, cellsW_append, cellsW_one, Nat.zero_add, ← HV.out]; exact HO.out), HB⟩
            case measure => simp [intOf]; omega
          · skip
            -- enter True, leave False, join False
            have qe : (k : Int) < (n : Int) := by omega
            obtain ⟨⟨hfk, hfk1⟩, hfo⟩ := hline.out _ k he HB.out
            have HFO := Lib.hid hfo
            clear hfo
            have ql : ¬ (bk : Int) + (ah : Int) < (k : Int) := by omega
            have qj : ¬ (ah : Int) ≤ (k : Int) := by omega
            clear hlen
            go_wp2_with fail
            refine (enterC_any (w.heap.size + 2) w.heap.size lv en lat (f k) _ HW.out hsz (by omega) HFO.out).mono ?_
            rintro r9 w3 ⟨rfl, hW3, k3⟩
            have HW := Lib.hid hW3
            have HK : Hid (WinOK wOr (0, 0) f lv (en ++ [f k]) (wOr lat (f k)) (k - (bk + ah + 1)) (min n (k + 1))) := Lib.hid (by have := HK.out.enter; rw [show min n k = k by omega] at this; rw [show min n (k + 1) = k + 1 by omega]; exact this)
            have HO := Lib.hid (own_same HO.out fun g hg => by obtain rfl : w.heap.size + 1 = g := (by simpa [Value.ownBlock] using hg); exact k3.block _ (by omega) (by omega))
            have HB := Lib.hid (HB.out.trans (k3.below (n := w.heap.size) (by omega) (fun j hj => by omega)))
            have hsz := Nat.le_trans hsz k3.size
            clear hW3 k3 hfk hfk1
            go_wp2_with fail
            have hlen := HK.out.len
            have HK : Hid (WinOK wOr (0, 0) f lv (en ++ [f k]) (wOr lat (f k)) (k + 1 - (bk + ah + 1)) (min n (k + 1))) := Lib.hid (by have := HK.out; rw [show k - (bk + ah + 1) = k + 1 - (bk + ah + 1) by omega] at this; exact this)
            clear hlen
            generalize en ++ [f k] = en' at HW HK
            generalize wOr lat (f k) = lat' at HW HK
            go_roundw
            case rel => exact ⟨k + 1, lv, en', lat', by omega, by go_num, by rw [show k + 1 - ah = k - ah by omega], hsz, HW, HK, Lib.hid (by rw [show k + 1 - ah = k - ah by omega]; exact HO.out), HB⟩
            case measure => simp [intOf]; omega
      · by_cases hl : bk + ah < k
        · by_cases hj : ah ≤ k
          · skip
            -- enter False, leave True, join True
            have qe : ¬ (k : Int) < (n : Int) := by omega
            have ql : (bk : Int) + (ah : Int) < (k : Int) := by omega
            have qj : (ah : Int) ≤ (k : Int) := by omega
            clear hlen
            go_wp2_with fail
            have HK : Hid (WinOK wOr (0, 0) f lv en lat (k - (bk + ah + 1)) (min n (k + 1))) := Lib.hid (by have := HK.out; rw [show min n k = min n (k + 1) by omega] at this; exact this)
            have hlen := HK.out.len
            have hln : 0 < lv.length + (en).length := by omega
            have hln2 : lv.length + (en).length ≤ 100000 := by omega
            clear hlen
            refine (leaveC_any (w.heap.size + 2) w.heap.size _ _ _ _ HW.out hsz hln hln2).mono ?_
            rintro r9 w4 ⟨rfl, hW4, k4⟩
            have HW := Lib.hid hW4
            have HK := Lib.hid (HK.out.leave' join_wOr (by omega))
            have HO := Lib.hid (own_same HO.out fun g hg => by obtain rfl : w.heap.size + 1 = g := (by simpa [Value.ownBlock] using hg); exact k4.block _ (by omega) (by omega))
            have HB := Lib.hid (HB.out.trans (k4.below (n := w.heap.size) (by omega) (fun j hj => by omega)))
            have hsz := Nat.le_trans hsz k4.size
            have hl9 : k - (bk + ah + 1) + 1 = k + 1 - (bk + ah + 1) := by omega
            rw [hl9] at HK
            clear hW4 k4 hln hln2 hl9
            generalize lvN wOr (0, 0) lv _ = lv' at HW HK
            generalize enN lv _ = en' at HW HK
            generalize laN (0, 0) lv _ = lat' at HW HK
            go_wp2_with fail
            have hlen := HK.out.len
            have hl5 : lv'.length ≤ 100000 := by omega
            clear hlen
            refine (joinedC_any (w.heap.size + 2) w.heap.size lv' en' lat' _ HW.out hl5).mono ?_
            rintro r9 w5 ⟨rfl, b5⟩
            have HW := Lib.hid (HW.out.ext b5)
            have HO := Lib.hid (own_keep HO.out b5)
            have HB := Lib.hid (HB.out.trans (b5.mono (by omega)))
            have hsz := Nat.le_trans hsz b5.size
            have hv := slF_of (n := n) (bk := bk) (ah := ah) (k := k) join_wOr HK.out (by omega) rfl (by omega)
            rw [hv]
            have hkn : k - ah < n := by omega
            obtain ⟨i, hi9⟩ : ∃ i, i = k - ah := ⟨_, rfl⟩
            rw [← hi9] at HO hkn ⊢
            have HI := Lib.hid hi9
            obtain ⟨v, hv9⟩ : ∃ v, v = slF wOr (0, 0) f n bk ah i := ⟨_, rfl⟩
            rw [← hv9]
            have HV := Lib.hid hv9
            clear hv hi9 hv9 b5
            go_wp2_with (at_builtin; refine wpList_append_fits _ rfl _ _ 147 rfl w.heap.size 69 i0 2 Tryd.underlying147 hi hz1 (w.heap.size + 1) i n (cellsW (enL (slF wOr (0, 0) f n bk ah) 0 i)) rfl (HO.out.alloc _) ⟨w5.heap.size, 0, none⟩ 1 1 [.int .u64 (v.1 : Int), .int .u64 (v.2 : Int)] rfl rfl (cell_two_new _ _ _ _) (oneW v) (by omega) ?_; intro w6 own6 grow6)
            have k6 : Kept (fun j => j = w.heap.size + 1) w5 w6 := ⟨grow6.os, grow6.tape, grow6.output, Nat.le_trans (by simp) grow6.size, fun j h1 h2 => (grow6.block j (by simp only [World.size_alloc]; omega) (fun e => h2 (by simpa using e))).trans (heap_alloc_old _ _ h1)⟩
            have HW := Lib.hid (HW.out.kept k6 (fun j hj => by omega))
            have HB := Lib.hid (HB.out.trans (k6.below (n := w.heap.size) (by omega) (fun j hj => by omega)))
            have hsz := Nat.le_trans hsz k6.size
            have HO := Lib.hid own6
            clear own6 grow6 k6
            go_wp2_with fail
            go_roundw
            case rel => exact ⟨k + 1, lv', en', lat', by omega, by go_num, by rw [show k + 1 - ah = i + 1 by have := HI.out; omega], hsz, HW, HK, Lib.hid (by rw [show k + 1 - ah = i + 1 by have := HI.out; omega, enL_snoc, cellsW_append, cellsW_one, Nat.zero_add, ← HV.out]; exact HO.out), HB⟩
            case measure => simp [intOf]; omega
          · exfalso; omega
        · by_cases hj : ah ≤ k
          · skip
            -- enter False, leave False, join True
            have qe : ¬ (k : Int) < (n : Int) := by omega
            have ql : ¬ (bk : Int) + (ah : Int) < (k : Int) := by omega
            have qj : (ah : Int) ≤ (k : Int) := by omega
            clear hlen
            go_wp2_with fail
            have HK : Hid (WinOK wOr (0, 0) f lv en lat (k - (bk + ah + 1)) (min n (k + 1))) := Lib.hid (by have := HK.out; rw [show min n k = min n (k + 1) by omega] at this; exact this)
            have hlen := HK.out.len
            have HK : Hid (WinOK wOr (0, 0) f lv en lat (k + 1 - (bk + ah + 1)) (min n (k + 1))) := Lib.hid (by have := HK.out; rw [show k - (bk + ah + 1) = k + 1 - (bk + ah + 1) by omega] at this; exact this)
            clear hlen
            have hlen := HK.out.len
            have hl5 : lv.length ≤ 100000 := by omega
            clear hlen
            refine (joinedC_any (w.heap.size + 2) w.heap.size lv en lat _ HW.out hl5).mono ?_
            rintro r9 w5 ⟨rfl, b5⟩
            have HW := Lib.hid (HW.out.ext b5)
            have HO := Lib.hid (own_keep HO.out b5)
            have HB := Lib.hid (HB.out.trans (b5.mono (by omega)))
            have hsz := Nat.le_trans hsz b5.size
            have hv := slF_of (n := n) (bk := bk) (ah := ah) (k := k) join_wOr HK.out (by omega) rfl (by omega)
            rw [hv]
            have hkn : k - ah < n := by omega
            obtain ⟨i, hi9⟩ : ∃ i, i = k - ah := ⟨_, rfl⟩
            rw [← hi9] at HO hkn ⊢
            have HI := Lib.hid hi9
            obtain ⟨v, hv9⟩ : ∃ v, v = slF wOr (0, 0) f n bk ah i := ⟨_, rfl⟩
            rw [← hv9]
            have HV := Lib.hid hv9
            clear hv hi9 hv9 b5
            go_wp2_with (at_builtin; refine wpList_append_fits _ rfl _ _ 147 rfl w.heap.size 69 i0 2 Tryd.underlying147 hi hz1 (w.heap.size + 1) i n (cellsW (enL (slF wOr (0, 0) f n bk ah) 0 i)) rfl (HO.out.alloc _) ⟨w5.heap.size, 0, none⟩ 1 1 [.int .u64 (v.1 : Int), .int .u64 (v.2 : Int)] rfl rfl (cell_two_new _ _ _ _) (oneW v) (by omega) ?_; intro w6 own6 grow6)
            have k6 : Kept (fun j => j = w.heap.size + 1) w5 w6 := ⟨grow6.os, grow6.tape, grow6.output, Nat.le_trans (by simp) grow6.size, fun j h1 h2 => (grow6.block j (by simp only [World.size_alloc]; omega) (fun e => h2 (by simpa using e))).trans (heap_alloc_old _ _ h1)⟩
            have HW := Lib.hid (HW.out.kept k6 (fun j hj => by omega))
            have HB := Lib.hid (HB.out.trans (k6.below (n := w.heap.size) (by omega) (fun j hj => by omega)))
            have hsz := Nat.le_trans hsz k6.size
            have HO := Lib.hid own6
            clear own6 grow6 k6
            go_wp2_with fail
            go_roundw
            case rel => exact ⟨k + 1, lv, en, lat, by omega, by go_num, by rw [show k + 1 - ah = i + 1 by have := HI.out; omega], hsz, HW, HK, Lib.hid (by rw [show k + 1 - ah = i + 1 by have := HI.out; omega, enL_snoc, cellsW_append, cellsW_one, Nat.zero_add, ← HV.out]; exact HO.out), HB⟩
            case measure => simp [intOf]; omega
          · skip
            -- enter False, leave False, join False
            have qe : ¬ (k : Int) < (n : Int) := by omega
            have ql : ¬ (bk : Int) + (ah : Int) < (k : Int) := by omega
            have qj : ¬ (ah : Int) ≤ (k : Int) := by omega
            clear hlen
            go_wp2_with fail
            have HK : Hid (WinOK wOr (0, 0) f lv en lat (k - (bk + ah + 1)) (min n (k + 1))) := Lib.hid (by have := HK.out; rw [show min n k = min n (k + 1) by omega] at this; exact this)
            have hlen := HK.out.len
            have HK : Hid (WinOK wOr (0, 0) f lv en lat (k + 1 - (bk + ah + 1)) (min n (k + 1))) := Lib.hid (by have := HK.out; rw [show k - (bk + ah + 1) = k + 1 - (bk + ah + 1) by omega] at this; exact this)
            clear hlen
            go_roundw
            case rel => exact ⟨k + 1, lv, en, lat, by omega, by go_num, by rw [show k + 1 - ah = k - ah by omega], hsz, HW, HK, Lib.hid (by rw [show k + 1 - ah = k - ah by omega]; exact HO.out), HB⟩
            case measure => simp [intOf]; omega
    · have q1 : ¬ (k : Int) < (n : Int) + (ah : Int) := by omega
      obtain rfl : k = n + ah := by omega
      have e9 : n + ah - ah = n := by omega
      rw [e9] at HO ⊢
      go_wp2_with fail
      go_ret
      exact ⟨⟨_, rfl, HO.out⟩, HB.out⟩
end Go.Proofs.YtgccnongfdbalaaDoor
