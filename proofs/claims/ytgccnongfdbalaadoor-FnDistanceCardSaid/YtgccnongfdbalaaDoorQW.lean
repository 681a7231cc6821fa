/- The program's sliding window over flags: enter, joined. Conditions: the window's block and its two rows are in memory. -/
import Derived.Test.YtgccnongfdbalaaDoorQU
import Derived.Test.YtgccnongfdbalaaDoorQB
import Derived.Deep.RegionWith
import Derived.RangeFuncBox
import Derived.Test.YtgccnongfdbalaaDoorQH
import Derived.Test.YtgccnongfdbalaaDoorQK
namespace Go.Proofs.YtgccnongfdbalaaDoor
open Go.RowKit
set_option linter.unusedVariables false
set_option linter.unusedSimpArgs false
attribute [local go_sem ↓] Go.wp_at_zero Go.wp_at_succ

def orB (a b : Bool) : Bool := a || b
theorem either_any (a b : Bool) (w : World) : Calls Tryd.prog 150 #[.bool a, .bool b] w fun e w' => e = .returned (.bool (orB a b)) ∧ w = w' := by
  cases a <;> cases b <;> (go_enter Tryd.func150, Tryd.ntmps150; go_wp2_with fail; go_ret; exact ⟨rfl, rfl⟩)
theorem join_orB : JoinOK orB false := join_or

/-- The window lies in block b; its two rows are the call's own, from block B on. -/
def WinB (B : Nat) (W : World) (b : Nat) (lv en : List Bool) (lat : Bool) : Prop :=
  ∃ vl ve, W.heap[b]? = some (.cells #[.func (.func 150) #[] #[], vl, ve, .bool lat] 162 (0, 0)) ∧ W.ownsRow B 4 1 vl lv.length (lv.map Value.bool) ∧ W.ownsRow B 4 1 ve en.length (en.map Value.bool) ∧ (∀ g, vl.ownBlock = some g → ve.ownBlock ≠ some g)
theorem winB_ne {W : World} {B b : Nat} {cs : Array Value} {v : Value} {n : Nat} {xs : List Value} (hb : W.heap[b]? = some (.cells cs 162 (0, 0))) (h : W.ownsRow B 4 1 v n xs) : ∀ g, v.ownBlock = some g → g ≠ b := fun g hg e => by
  subst e
  obtain ⟨_, _, cur, h3⟩ := own_at h hg
  rw [hb] at h3
  cases h3
/-- What lies elsewhere lies as it lay. -/
theorem WinB.kept {B b : Nat} {W W' : World} {lv en : List Bool} {lat : Bool} {X : Nat → Prop} (h : WinB B W b lv en lat) (hk : Kept X W W') (hX : ∀ k, X k → k < B ∧ k ≠ b) : WinB B W' b lv en lat := by
  obtain ⟨vl, ve, hb, ol, oe, hne⟩ := h
  refine ⟨vl, ve, (hk.block b (blk_lt hb) (fun x => (hX b x).2 rfl)).trans hb, own_same ol fun g hg => ?_, own_same oe fun g hg => ?_, hne⟩
  · obtain ⟨h1, h2, _⟩ := own_at ol hg
    exact hk.block g h2 (fun x => by have := (hX g x).1; omega)
  · obtain ⟨h1, h2, _⟩ := own_at oe hg
    exact hk.block g h2 (fun x => by have := (hX g x).1; omega)
theorem WinB.ext {B b : Nat} {W W' : World} {lv en : List Bool} {lat : Bool} (h : WinB B W b lv en lat) (hk : Below W.heap.size W W') : WinB B W' b lv en lat :=
  h.kept (X := fun _ => False) (Kept.of_below hk) (fun _ x => x.elim)
theorem cellsB_own {W : World} {b : Nat} {vl ve : Value} {lat : Bool} (hb : W.heap[b]? = some (.cells #[.func (.func 150) #[] #[], vl, ve, .bool lat] 162 (0, 0))) :
    (W.cell? ⟨b, 0, none⟩ = some (.func (.func 150) #[] #[]) ∧ W.cell? ⟨b, 1, none⟩ = some vl ∧ W.cell? ⟨b, 2, none⟩ = some ve ∧ W.cell? ⟨b, 3, none⟩ = some (.bool lat)) ∧ (W.frozen? ⟨b, 1, none⟩ = false ∧ W.frozen? ⟨b, 2, none⟩ = false ∧ W.frozen? ⟨b, 3, none⟩ = false) := by
  refine ⟨⟨?_, ?_, ?_, ?_⟩, frozen_of_row _ _ _ _ _ hb, frozen_of_row _ _ _ _ _ hb, frozen_of_row _ _ _ _ _ hb⟩
  · rw [cell_of_row _ _ 0 _ _ _ hb]; rfl
  · rw [cell_of_row _ _ 1 _ _ _ hb]; rfl
  · rw [cell_of_row _ _ 2 _ _ _ hb]; rfl
  · rw [cell_of_row _ _ 3 _ _ _ hb]; rfl
/-- Behind a store to the last cell. -/
theorem winB_mk {B b n : Nat} {W : World} {lv en : List Bool} {lat : Bool} {vl ve : Value} {xs : List Value} (hb : W.heap[b]? = some (.cells #[.func (.func 150) #[] #[], vl, ve, .bool lat] 162 (0, 0)))
    (ol : W.ownsRow B 4 1 vl lv.length (lv.map Value.bool)) (oe : W.ownsRow B 4 1 ve n xs) (hne : ∀ g, vl.ownBlock = some g → ve.ownBlock ≠ some g) (hn : n = en.length) (hx : xs = en.map Value.bool) (lat' : Bool) :
    WinB B ((W.setCell ⟨b, 3, none⟩ (.bool lat')).drew) b lv en lat' := by
  subst hn hx
  exact ⟨vl, ve, set_block (j := 3) hb (.bool lat'), own_same ol fun g hg => set_other (winB_ne hb ol g hg) _, own_same oe fun g hg => set_other (winB_ne hb oe g hg) _, hne⟩
theorem oneB (l : List Bool) : ∀ u ∈ l.map Value.bool, u.oneCell' = true := by
  intro u hu
  obtain ⟨x, _, rfl⟩ := List.mem_map.1 hu
  rfl

set_option maxRecDepth 100000 in
set_option maxHeartbeats 4000000 in
theorem enterB_any (B b : Nat) (lv en : List Bool) (lat e : Bool) (w : World) (hW : WinB B w b lv en lat) (hB : B ≤ w.heap.size) (hlen : en.length ≤ 100000) :
    Calls Tryd.prog 157 #[.pointer (some ⟨b, 0, none⟩), .bool e] w fun r w' => r = .returned (.tuple #[]) ∧ WinB B w' b lv (en ++ [e]) (orB lat e) ∧ Kept (fun k => k = b ∨ B ≤ k) w w' := by
  obtain ⟨i0, hi, hz0, hz1, hz2⟩ := info_parts infoB
  obtain ⟨vl, ve, hb, ol, oe, hne⟩ := hW
  obtain ⟨⟨c0, c1, c2, c3⟩, f1, f2, f3⟩ := cellsB_own hb
  have hbl := blk_lt hb
  have nel := winB_ne hb ol
  have nee := winB_ne hb oe
  have HB := Lib.hid hb
  have OL := Lib.hid ol
  have OE := Lib.hid oe
  have HNE := Lib.hid hne
  have NEL := Lib.hid nel
  have NEE := Lib.hid nee
  clear hb ol oe hne nel nee
  go_enter Tryd.func157, Tryd.ntmps157
  go_wp2_with (at_builtin; refine wpList_append_own_at _ rfl _ _ 63 rfl B 4 i0 (.bool false) 1 1 Tryd.underlying63 hi hz0 hz1 hz2 rfl (by decide) ve en.length (en.map Value.bool) rfl (OE.out.alloc _) ⟨w.heap.size, 0, none⟩ 1 1 [.bool e] rfl rfl (cell_one_new _ _ _) ?c2 ?c3 ?c4 ?c5 ?_)
  case c2 => intro u hu; simp at hu; subst hu; rfl
  case c3 => unfold maxLen; omega
  case c4 => omega
  case c5 => simp only [World.size_alloc]; omega
  intro v' w4 hown4 hgrow hnil hat
  have hne4 : ∀ k, some k ≠ ve.ownBlock → k < w.heap.size → w4.heap[k]? = w.heap[k]? := fun k h1 h2 => (hgrow.block k (by simp only [World.size_alloc]; omega) h1).trans (heap_alloc_old _ _ h2)
  have hb4 := (hne4 b (fun e => NEE.out b e.symm rfl) hbl).trans HB.out
  have hv4 : ∀ g, v'.ownBlock = some g → g ≠ b ∧ vl.ownBlock ≠ some g := fun g hg => by
    rcases hat with h | h
    · exact ⟨NEE.out g (h ▸ hg), fun e => HNE.out g e (h ▸ hg)⟩
    · have : g = w.heap.size + 1 := by rw [h] at hg; simpa using hg.symm
      exact ⟨by omega, fun e => by have := (own_at OL.out e).2.1; omega⟩
  have ol4 := own_same OL.out fun g hg => hne4 g (fun e => HNE.out g hg e.symm) (own_at OL.out hg).2.1
  have hsz4 : w.heap.size + 1 ≤ w4.heap.size := by have := hgrow.size; simpa using this
  have k4 : Kept (fun k => k = b ∨ B ≤ k) w w4 := ⟨hgrow.os, hgrow.tape, hgrow.output, by omega, fun k h1 h2 => hne4 k (fun e => h2 (.inr (own_at OE.out e.symm).1)) h1⟩
  obtain ⟨⟨d0, d1, d2, d3⟩, g1, g2, g3⟩ := cellsB_own hb4
  obtain ⟨g4, cap4, rfl⟩ := ownsRow_succ hown4
  have HB4 := Lib.hid hb4
  have HV4 := Lib.hid hv4
  have HO4 := Lib.hid hown4
  have OL4 := Lib.hid ol4
  have K4 := Lib.hid k4
  clear c0 c1 c2 c3 f1 f2 f3 hne4 hgrow hnil hat hb4 hv4 hown4 ol4 k4
  go_wp2_with fail
  obtain ⟨w5, hw5⟩ : ∃ w5, w5 = w4.setCell ⟨b, 2, none⟩ (.slice (some ⟨g4, 0, none⟩) (en.length + 1) cap4) := ⟨_, rfl⟩
  have hb5 : w5.heap[b]? = some (.cells #[.func (.func 150) #[] #[], vl, .slice (some ⟨g4, 0, none⟩) (en.length + 1) cap4, .bool lat] 162 (0, 0)) := by rw [hw5]; exact set_block HB4.out _
  have e5 : ∀ k, k ≠ b → w5.heap[k]? = w4.heap[k]? := fun k hk => by rw [hw5]; exact set_other hk _
  have s5 : w5.heap.size = w4.heap.size := by rw [hw5]; simp
  have ol5 := own_same OL4.out fun g hg => e5 g (NEL.out g hg)
  have oe5 := own_same HO4.out fun g hg => e5 g (HV4.out g hg).1
  have k5 : Kept (fun k => k = b ∨ B ≤ k) w w5 := by rw [hw5]; exact K4.out.setCell (.inl rfl) _
  obtain ⟨⟨d0, d1, d2, d3⟩, g1, g2, g3⟩ := cellsB_own hb5
  have HB5 := Lib.hid hb5
  have OL5 := Lib.hid ol5
  have OE5 := Lib.hid oe5
  have K5 := Lib.hid k5
  have hbl5 : b < w5.heap.size := by omega
  rw [← hw5]
  clear hw5 hb5 ol5 oe5 k5 e5
  go_region_with (go_at_call 150; refine (either_any _ _ _).mono ?_; rintro r v0 ⟨rfl, rfl⟩)
  all_goals
    go_wp2_with fail
    go_end0
    exact ⟨rfl, winB_mk HB5.out OL5.out OE5.out (fun g h1 h2 => (HV4.out g h2).2 h1) (by simp) (by simp) _, (K5.out.setCell (X := fun k => k = b ∨ B ≤ k) (p := ⟨b, 3, none⟩) (.inl rfl) _).drew⟩

set_option maxRecDepth 100000 in
set_option maxHeartbeats 4000000 in
theorem joinedB_any (B b : Nat) (lv en : List Bool) (lat : Bool) (w : World) (hW : WinB B w b lv en lat) (hlen : lv.length ≤ 100000) :
    Calls Tryd.prog 159 #[.pointer (some ⟨b, 0, none⟩)] w fun r w' => r = .returned (.bool (jnd orB lv lat)) ∧ Below w.heap.size w w' := by
  obtain ⟨vl, ve, hb, ol, oe, hne⟩ := hW
  obtain ⟨⟨c0, c1, c2, c3⟩, f1, f2, f3⟩ := cellsB_own hb
  clear f1 f2 f3 c2 hne oe hb
  rcases List.eq_nil_or_concat lv with rfl | ⟨l0, x, rfl⟩
  · obtain ⟨a, c, rfl⟩ := own_slice ol
    clear ol
    rw [jnd_nil]
    go_enter Tryd.func159, Tryd.ntmps159
    go_wp2_with fail
    go_ret
    exact ⟨rfl, Below.refl _ _⟩
  · rw [List.concat_eq_append] at *
    rw [jnd_last orB (by simp : (l0 ++ [x]).getLast? = some x)]
    obtain ⟨g, c, rfl, h1, h2, h3⟩ := own_slice' (n := l0.length) (by simpa using ol)
    have hx : w.cell? ⟨g, l0.length, none⟩ = some (.bool x) := by
      have := ol.cells (g := g) rfl l0.length (.bool x) (by simp)
      rwa [addG] at this
    have hn : l0.length ≤ 100000 := by simp at hlen; omega
    obtain ⟨n, hnn⟩ : ∃ n, n = l0.length := ⟨_, rfl⟩
    rw [← hnn] at hx h1 hn
    rw [← hnn] at c1
    have q1 : ¬ ((n : Int) + 1 = 0) := by omega
    have q2 : (((n : Int) + 1) == 0) = false := by simp; omega
    have q3 : (0 : Int) ≤ (n : Int) := by omega
    clear ol hnn hlen
    go_enter Tryd.func159, Tryd.ntmps159
    go_wp2_with fail
    go_quiet ((go_at_call 150; exact Calls.quiet_of_same ((either_any _ _ _).mono fun _ _ h => ⟨h.1, h.2.symm⟩)))
    all_goals go_wp2_with fail
    go_ret
    exact ⟨rfl, by (repeat (first | (with_reducible exact Below.refl _ _) | (with_reducible refine Ext.drewN ?_ _) | (with_reducible refine Below.drew ?_) | (with_reducible refine Ext.alloc ?_ _) | (with_reducible refine Ext.setCell ?_ (by simp; try omega) _) | (with_reducible refine Ext.trans ?_ (by assumption)) | (with_reducible assumption) | exact Below.refl _ _))⟩
end Go.Proofs.YtgccnongfdbalaaDoor

namespace Go.Proofs.YtgccnongfdbalaaDoor
open Go.RowKit Go.Shelf
set_option linter.unusedVariables false
set_option linter.unusedSimpArgs false
attribute [local go_sem ↓] Go.wp_at_zero Go.wp_at_succ

def bwG (en : List Bool) (t : Nat) : Int × Bool := (((en.length : Int) - 1 - t), en.getD (en.length - 1 - t) false)
/-- What Backward hands over, the first t of it. -/
def bwT (en : List Bool) (t : Nat) : List (Int × Bool) := (List.range t).map (bwG en)
theorem bwT_succ (en : List Bool) (t : Nat) : bwT en (t + 1) = bwT en t ++ [bwG en t] := by simp [bwT, List.range_succ]
theorem bwT_len (en : List Bool) (t : Nat) : (bwT en t).length = t := by simp [bwT]
theorem map_split {α : Type} (g : Nat → α) {n t : Nat} (h : t < n) : ∃ l : List α, (List.range n).map g = (List.range t).map g ++ g t :: l :=
  ⟨(List.range (n - t - 1)).map (fun k => g (t + 1 + k)), by
    apply List.ext_getElem?
    intro i
    rcases Nat.lt_trichotomy i t with h1 | h1 | h1
    · rw [List.getElem?_append_left (by simp; omega), List.getElem?_map, List.getElem?_map, List.getElem?_range (by omega), List.getElem?_range h1]
    · subst h1
      rw [List.getElem?_append_right (by simp), List.getElem?_map, List.getElem?_range h]
      simp
    · rw [List.getElem?_append_right (by simp; omega), List.length_map, List.length_range, show i - t = (i - t - 1) + 1 by omega, List.getElem?_cons_succ]
      by_cases hi : i < n
      · rw [List.getElem?_map, List.getElem?_map, List.getElem?_range hi, List.getElem?_range (by omega)]
        simp only [Option.map_some]
        rw [show t + 1 + (i - t - 1) = i by omega]
      · rw [List.getElem?_eq_none (by simp; omega), List.getElem?_eq_none (by simp; omega)]⟩

theorem backB_any (a : Option Addr) (n c : Nat) (w : World) : Calls Tryd.prog 165 #[.slice a n c] w fun e w' => e = .returned (.func (.func 167) #[] #[.pointer (some ⟨w.heap.size, 0, none⟩)]) ∧ w' = w.alloc (.cells #[.slice a n c] 63) := by
  have hmf : ∀ (fn : Fn) (first cap : Array Value) (w : World), (Instr.makeFunc fn first cap).run Tryd.prog w = .ok (.func fn first cap) w := fun _ _ _ _ => rfl
  go_enter Tryd.func165, Tryd.ntmps165
  go_wp2
  go_ret
  exact ⟨rfl, rfl⟩
set_option maxRecDepth 100000 in
set_option maxHeartbeats 4000000 in
theorem backB_seqU (X : Nat → Prop) (N B0 g c base : Nat) (en : List Bool) (W : World) (h0 : W.cell? ⟨B0, 0, none⟩ = some (.slice (some ⟨g, 0, none⟩) en.length c)) (ho : W.ownsRow base 4 1 (.slice (some ⟨g, 0, none⟩) en.length c) en.length (en.map Value.bool))
    (x0 : ¬ X B0) (n0 : B0 < N) (x1 : ¬ X g) (n1 : g < N) (hlen : en.length ≤ 100000) :
    SeqU Tryd.prog 167 #[.pointer (some ⟨B0, 0, none⟩)] (fun e : Int × Bool => #[.int .i64 e.1, .bool e.2]) X N (fun t => t = 4) (fun _ => False) (bwT en en.length) W := by
  intro l J Jx hJ hJx hY hJ0
  obtain ⟨L, hL⟩ : ∃ L, L = bwT en en.length := ⟨_, rfl⟩
  rw [← hL] at hY ⊢
  have hbB := World.block_lt_of_cell? W ⟨B0, 0, none⟩ h0
  obtain ⟨-, hgl, cur, hcur⟩ := own_at ho rfl
  have hrow : Hid (∀ W' : World, W'.heap[g]? = W.heap[g]? → ∀ j, j < en.length → W'.cell? ⟨g, j, none⟩ = some (.bool (en.getD j false))) := Lib.hid fun W' e j hj => by
    have := (own_same (W' := W') ho fun g' hg' => by obtain rfl : g = g' := (by simpa [Value.ownBlock] using hg'); exact e).cells (g := g) rfl j (.bool (en.getD j false)) (by rw [List.getElem?_map, List.getD, List.getElem?_eq_getElem hj]; rfl)
    rwa [addG] at this
  have HL := Lib.hid hL
  obtain ⟨n, hn⟩ : ∃ n, n = en.length := ⟨_, rfl⟩
  rw [← hn] at h0 hrow hlen
  have HN := Lib.hid hn
  clear ho hL hcur hn
  go_enter Tryd.func167, Tryd.ntmps167
  go_wp2_with fail
  go_loopw [3] (fun s3 wr => ∃ t : Nat, t ≤ n ∧ s3 = .int .i64 ((n : Int) - 1 - t) ∧ J (bwT en t) wr ∧ W.heap.size ≤ wr.heap.size ∧ wr.cell? ⟨B0, 0, none⟩ = some (.slice (some ⟨g, 0, none⟩) n c) ∧ wr.heap[g]? = W.heap[g]?) (fun s3 _ => (intOf s3 + 1).toNat)
  case atStart => exact ⟨0, by omega, by go_num, hJ0, Nat.le_refl _, h0, rfl⟩
  case round =>
    obtain ⟨t, ht, rfl, hJq, hsq, hc0, hg0⟩ := hrel
    by_cases hlt : t < n
    · have q0 : (0 : Int) ≤ (n : Int) - 1 - t := by omega
      obtain ⟨k, hk⟩ : ∃ k : Nat, (n : Int) - 1 - t = (k : Int) := ⟨n - 1 - t, by omega⟩
      have hkn : k < n := by omega
      have hcell := hrow.out wr hg0 k hkn
      obtain ⟨rest, hsp⟩ := map_split (bwG en) hlt
      have hbg : bwG en t = ((k : Int), en.getD k false) := by
        unfold bwG
        rw [← HN.out]
        have : n - 1 - t = k := by omega
        rw [this, hk]
      have hLq : L = bwT en t ++ ((k : Int), en.getD k false) :: rest := by
        rw [HL.out, ← HN.out, ← hbg]
        exact hsp
      have hbs : bwT en (t + 1) = bwT en t ++ [((k : Int), en.getD k false)] := by rw [bwT_succ, hbg]
      obtain ⟨fn, tmps, assign, body, hy, hR8⟩ := hY _ _ _ wr hLq hJq hsq 8
      dsimp only at hy
      have HK := Lib.hid hk
      have HG0 := Lib.hid hg0
      rw [hk]
      have q1 : (0 : Int) ≤ (k : Int) := by omega
      have q2 : (k : Int) < (n : Int) := by omega
      obtain ⟨v, hv⟩ : ∃ v, v = en.getD k false := ⟨_, rfl⟩
      rw [← hv] at hcell hR8 hy
      rw [← hv] at hLq hbs
      have HLQ := Lib.hid hLq
      have HBS := Lib.hid hbs
      have HVV := Lib.hid hv
      clear hLq hbs hk hbg hsp hg0 hv q0
      go_upto_region 3 with fail
      refine (wpIn_wide (n := 9)).1 ?_
      gi_wp2
      refine hR8.mono ?_
      rintro e W3 (⟨rfl, hJ3, hk3⟩ | ⟨rfl, hJx3, -⟩)
      · have hcB := (hk3.cell (p := ⟨B0, 0, none⟩) (show B0 < wr.heap.size by omega) (Ex.not_lt x0 n0)).trans hc0
        have hgB : Hid (W3.heap[g]? = W.heap[g]?) := Lib.hid ((hk3.block g (by omega) (Ex.not_lt x1 n1)).trans HG0.out)
        have hs3 := Nat.le_trans hsq hk3.size
        rw [← HBS.out] at hJ3
        clear hk3 hc0 hcell hR8 hy
        gi_wp2
        go_wp2_with fail
        go_roundw
        case rel => exact ⟨t + 1, hlt, by have := HK.out; go_num, hJ3, hs3, hcB, hgB.out⟩
        case measure => have := HK.out; simp only [intOf]; omega
      · gi_wp2
        go_wp2_with fail
        exact bodyPost_ret (v := .tuple #[]) (by simp [results, Tryd.results167, go_sem]) rfl ⟨⟨_, rfl⟩, .inr ⟨_, ⟨rest, by rw [HLQ.out]; simp only [List.append_assoc, List.cons_append, List.nil_append]⟩, hJx3⟩⟩
    · obtain rfl : t = n := by omega
      have q0 : ¬ (0 : Int) ≤ (t : Int) - 1 - t := by omega
      go_wp2_with fail
      go_end0
      exact ⟨⟨_, rfl⟩, .inl (by rw [HL.out, ← HN.out]; exact hJq)⟩
end Go.Proofs.YtgccnongfdbalaaDoor

namespace Go.Proofs.YtgccnongfdbalaaDoor
open Go.RowKit Go.Shelf
set_option linter.unusedVariables false
set_option linter.unusedSimpArgs false
attribute [local go_sem] Oper.semAt_some

theorem own_stepB {A B : World} {base n' n : Nat} {v : Value} {xs : List Value} (h : A.ownsRow base 4 1 v n xs) (hs : StepX n' (fun _ => False) A B) : B.ownsRow base 4 1 v n xs :=
  own_same h fun g hg => by
    obtain ⟨_, _, cur, h3⟩ := own_at h hg
    exact hs.cells g cur _ (fun x => x) h3
theorem scT_all {E : Type} (op : E → E → E) (z : E) (l : List E) : scT op z l l.length = scn op z l := rfl

set_option maxRecDepth 100000 in
set_option maxHeartbeats 8000000 in
theorem turnB_any (B b : Nat) (en : List Bool) (lat : Bool) (w : World) (hW : WinB B w b [] en lat) (hB : B ≤ w.heap.size) (h0 : 0 < en.length) (hlen : en.length ≤ 100000) :
    Calls Tryd.prog 163 #[.pointer (some ⟨b, 0, none⟩)] w fun r w' => r = .returned (.tuple #[]) ∧ WinB B w' b (scn orB false en) [] false ∧ Kept (fun k => k = b ∨ B ≤ k) w w' := by
  obtain ⟨i0, hi, hz0, hz1, hz2⟩ := info_parts infoB
  obtain ⟨vl, ve, hb, ol, oe, hne⟩ := hW
  obtain ⟨m, hm⟩ : ∃ m, en.length = m + 1 := ⟨en.length - 1, by omega⟩
  obtain ⟨g, c, hve, hc1, hg1, hg2⟩ := own_slice' (n := m) (by rw [← hm]; exact oe)
  rw [← hm] at hve hc1
  subst hve
  obtain ⟨⟨c0, c1, c2, c3⟩, f1, f2, f3⟩ := cellsB_own hb
  have hbl := blk_lt hb
  have nel := winB_ne hb ol
  have nee := winB_ne hb oe g rfl
  have hgl : ∀ k, vl.ownBlock = some k → k ≠ g := fun k hk e => hne k hk (by rw [e]; rfl)
  obtain ⟨n, hn⟩ : ∃ n, n = en.length := ⟨_, rfl⟩
  rw [← hn] at hb c2 hlen h0 hc1
  have HN := Lib.hid hn
  have HB := Lib.hid hb
  have OL := Lib.hid ol
  have OE := Lib.hid oe
  have HNE := Lib.hid hne
  have NEL := Lib.hid nel
  have HGL := Lib.hid hgl
  have HM := Lib.hid hm
  clear hb ol oe hne nel hgl hm hn
  refine calls_of_marks Tryd.func163 rfl ?_
  simp only [Tryd.ntmps163, List.size_toArray, List.length_cons, List.length_nil, Nat.reduceAdd, Nat.reduceSub, Array.replicate_succ, Array.replicate_zero, List.push_toArray, List.append_toArray, List.nil_append, List.cons_append]
  go_wp2_with (go_at_call 165; refine (backB_any _ _ _ _).mono ?_; rintro e w2 ⟨rfl, hw2⟩; subst hw2)
  obtain ⟨wS, hwS⟩ : ∃ wS, wS = ((w.alloc (.cells #[.pointer (some ⟨b, 0, none⟩)] 168)).alloc (.cells #[.bool false] 4)).alloc (.cells #[.slice (some ⟨g, 0, none⟩) n c] 63) := ⟨_, rfl⟩
  have sS : wS.heap.size = w.heap.size + 3 := by rw [hwS]; simp
  have bS : Below w.heap.size w wS := by rw [hwS]; (repeat (first | (with_reducible exact Below.refl _ _) | (with_reducible refine Ext.drewN ?_ _) | (with_reducible refine Below.drew ?_) | (with_reducible refine Ext.alloc ?_ _) | (with_reducible refine Ext.setCell ?_ (by simp; try omega) _) | (with_reducible refine Ext.trans ?_ (by assumption)) | (with_reducible assumption) | exact Below.refl _ _))
  have p0 : wS.heap[w.heap.size]? = some (.cells #[.pointer (some ⟨b, 0, none⟩)] 168 (0, 0)) := by
    rw [hwS]
    exact (heap_alloc_old _ _ (by simp; omega)).trans ((heap_alloc_old _ _ (by simp)).trans (heap_alloc_new _ _))
  have p1 : wS.heap[w.heap.size + 1]? = some (.cells #[.bool false] 4 (0, 0)) := by
    rw [hwS]
    refine (heap_alloc_old _ _ (by simp)).trans ?_
    have := heap_alloc_new (w.alloc (.cells #[.pointer (some ⟨b, 0, none⟩)] 168)) (.cells #[.bool false] 4)
    rwa [World.size_alloc] at this
  have p2 : wS.cell? ⟨w.heap.size + 2, 0, none⟩ = some (.slice (some ⟨g, 0, none⟩) n c) := by rw [hwS]; simp [go_sem]
  have hbS := (bS.block b hbl).trans HB.out
  have olS := own_same OL.out fun k hk => bS.block k (own_at OL.out hk).2.1
  have oeS := own_same OE.out fun k hk => bS.block k (own_at OE.out hk).2.1
  rw [← hwS]
  clear hwS c0 c1 c2 c3 f1 f2 f3
  refine rangeU1 (gf := 167) (lb := #[.pointer (some ⟨w.heap.size + 2, 0, none⟩)]) rfl (enters_of Tryd.func167 (by kernel_rfl) rfl) (encs := fun e : Int × Bool => #[.int .i64 e.1, .bool e.2]) (L := bwT en en.length) (fun k => k = b ∨ k = w.heap.size + 1 ∨ vl.ownBlock = some k) (fun k hk => by
      rcases hk with rfl | rfl | hk
      · omega
      · omega
      · have := (own_at OL.out hk).2.1; omega) (w.heap.size + 3) (fun t => t = 4) (fun _ => False) ?hseq (fun _ => rfl)
    (fun ps V => ∃ v', V.heap[b]? = some (.cells #[.func (.func 150) #[] #[], v', .slice (some ⟨g, 0, none⟩) n c, .bool lat] 162 (0, 0)) ∧ V.ownsRow B 4 1 v' ps.length ((scT orB false en ps.length).map Value.bool) ∧ V.heap[w.heap.size + 1]? = some (.cells #[.bool (ltr orB false (en.drop (n - ps.length)))] 4 (0, 0)) ∧ V.heap[w.heap.size]? = some (.cells #[.pointer (some ⟨b, 0, none⟩)] 168 (0, 0)) ∧ (∀ k, v'.ownBlock = some k → k ≠ g ∧ (vl.ownBlock = some k ∨ w.heap.size + 3 ≤ k)) ∧ V.heap[g]? = wS.heap[g]? ∧ Kept (fun k => k = b ∨ B ≤ k) w V)
    (fun _ _ _ => False)
    (fun s A A' hs hb => by
      obtain ⟨v', u1, u2, u3, u4, u5, u6, u7⟩ := hs
      have hA : wS.heap.size = w.heap.size + 3 := sS
      exact ⟨v', (hb.cells b _ _ (fun x => x) u1).trans u1, own_stepB u2 hb, (hb.cells _ _ _ (fun x => x) u3).trans u3, (hb.cells _ _ _ (fun x => x) u4).trans u4, u5, (hb.below.block g (by omega)).trans u6, ⟨hb.below.os.trans u7.os, hb.below.tape.trans u7.tape, hb.below.output.trans u7.output, Nat.le_trans u7.size hb.below.size, fun k hk hX => (hb.below.block k (by omega)).trans (u7.block k hk hX)⟩⟩)
    (fun _ _ _ _ h _ => h)
    ⟨vl, hbS, by simpa [scT] using olS, by rw [p1]; simp [HN.out, ltr], p0, fun k hk => ⟨HGL.out k hk, .inl hk⟩, rfl, Kept.of_below bS⟩
    (fun T e => ((T.setIfInBounds 11 (.int .i64 e.1)).setIfInBounds 12 (.bool e.2)).setIfInBounds 5 (.bool e.2)) ?assign ?body ?done ?stop
  case hseq =>
    intro V hV hVs
    refine backB_seqU _ _ (w.heap.size + 2) g c B en V ?_ ?_ ?_ (by omega) ?_ (by omega) (by rw [← HN.out]; exact hlen)
    · rw [← HN.out]
      exact (hV.cell (p := ⟨w.heap.size + 2, 0, none⟩) (show w.heap.size + 2 < wS.heap.size by omega)).trans p2
    · have := own_same oeS fun k hk => hV.block k (own_at oeS hk).2.1
      exact this
    · rintro ((h | h | h) | h | h)
      · omega
      · omega
      · have := (own_at OL.out h).2.1; omega
      · omega
      · omega
    · rintro ((h | h | h) | h | h)
      · omega
      · omega
      · exact HGL.out g h rfl
      · omega
      · omega
  case assign =>
    intro l e V K hK
    gi_wp2
    exact hK
  case body =>
    rintro l ps ⟨y, e⟩ post V hL hsV ⟨v', u1, u2, u3, u4, u5, u6, u7⟩
    obtain ⟨t, ht⟩ : ∃ t, t = ps.length := ⟨_, rfl⟩
    have htn : t < n := by
      have := congrArg List.length hL
      rw [bwT_len, ← HN.out] at this
      simp only [List.length_append, List.length_cons] at this
      omega
    have hel : en[n - 1 - t]? = some e := by
      have h1 : (bwT en en.length)[t]? = some (y, e) := by rw [hL, ht, List.getElem?_append_right (Nat.le_refl _)]; simp
      unfold bwT at h1
      rw [List.getElem?_map, List.getElem?_range (by rw [← HN.out]; exact htn)] at h1
      simp only [Option.map_some, bwG, Option.some.injEq, Prod.mk.injEq] at h1
      have h2 : n - 1 - t < en.length := by rw [← HN.out]; omega
      rw [← HN.out] at h1
      rw [← h1.2, List.getD, List.getElem?_eq_getElem h2]
      rfl
    have hltr : ltr orB false (en.drop (n - (t + 1))) = orB e (ltr orB false (en.drop (n - t))) := by
      have h2 : n - 1 - t < en.length := by rw [← HN.out]; omega
      rw [show n - (t + 1) = n - 1 - t by omega, ltr_drop _ _ _ _ h2, show n - 1 - t + 1 = n - t by omega]
      rw [List.getElem?_eq_getElem h2] at hel
      rw [Option.some.inj hel]
    rw [← ht] at u2 u3
    have hsc : scT orB false en (t + 1) = scT orB false en t ++ [orB e (ltr orB false (en.drop (n - t)))] := by
      rw [scT_succ, ← hltr]
      congr 4
      rw [← HN.out]; omega
    have HSC := Lib.hid hsc
    have HT := Lib.hid ht
    have HLT := Lib.hid hltr
    obtain ⟨acc, hacc⟩ : ∃ acc, acc = ltr orB false (en.drop (n - t)) := ⟨_, rfl⟩
    rw [← hacc] at u3
    have HACC := Lib.hid hacc
    have hbV := blk_lt u1
    obtain ⟨⟨d0, d1, d2, d3⟩, g1, g2, g3⟩ := cellsB_own u1
    have k0 : V.cell? ⟨w.heap.size, 0, none⟩ = some (.pointer (some ⟨b, 0, none⟩)) := by rw [cell_of_row _ _ 0 _ _ _ u4]; rfl
    have k1 : V.cell? ⟨w.heap.size + 1, 0, none⟩ = some (.bool acc) := by rw [cell_of_row _ _ 0 _ _ _ u3]; rfl
    have fz1 := frozen_of_row _ _ 0 _ _ u3
    have U1 := Lib.hid u1
    have U2 := Lib.hid u2
    have U3 := Lib.hid u3
    have U4 := Lib.hid u4
    have U5 := Lib.hid u5
    have U6 := Lib.hid u6
    have U7 := Lib.hid u7
    have hlV := blk_lt u3
    have hsz := u7.size
    have hNb : ∀ k, v'.ownBlock = some k → k ≠ b ∧ k ≠ w.heap.size + 1 ∧ k ≠ w.heap.size := fun k hk => by
      have a1 := winB_ne U1.out U2.out k hk
      rcases (U5.out k hk).2 with h | h
      · have := (own_at OL.out h).2.1
        exact ⟨a1, by omega, by omega⟩
      · exact ⟨a1, by omega, by omega⟩
    have HNB := Lib.hid hNb
    have HL := Lib.hid hL
    clear u1 u2 u3 u4 u5 u6 u7 hacc hltr hsc ht hel hNb hL
    have hmix : Tryd.prog.follows .mixedOrders = true := by kernel_rfl
    have hent := enters_of Tryd.func150 (by kernel_rfl) rfl
    dsimp only
    gi_wp2
    refine regionT (S := fun w' => w'.cell? ⟨w.heap.size, 0, none⟩ = some (.pointer (some ⟨b, 0, none⟩)) ∧ w'.cell? ⟨b, 0, none⟩ = some (.func (.func 150) #[] #[]) ∧ w'.cell? ⟨w.heap.size + 1, 0, none⟩ = some (.bool acc)) (tl := fun j => j == 7) hmix ?_
    have hS : V.drew.cell? ⟨w.heap.size, 0, none⟩ = some (.pointer (some ⟨b, 0, none⟩)) ∧ V.drew.cell? ⟨b, 0, none⟩ = some (.func (.func 150) #[] #[]) ∧ V.drew.cell? ⟨w.heap.size + 1, 0, none⟩ = some (.bool acc) := ⟨k0, d0, k1⟩
    refine takeT (i := 0) (.pointer (some ⟨b, 0, none⟩)) rfl (by kernel_rfl) (by kernel_rfl) (by kernel_rfl) (by kernel_rfl) (by kernel_rfl) (fun _ _ _ h => h) (by rfl) ?_ (fun _ => rfl) hS ?_
    · intro w' h9
      simp [go_sem, h9.1, h9.2.1, h9.2.2, Act.put]
    simp only [go_sem, Act.put, List.getElem_toArray, List.getElem_cons_succ, List.getElem_cons_zero, List.setIfInBounds_toArray, List.set_cons_succ, List.set_cons_zero]
    refine takeT (i := 1) (.pointer (some ⟨b, 0, none⟩)) rfl (by kernel_rfl) (by kernel_rfl) (by kernel_rfl) (by kernel_rfl) (by kernel_rfl) (fun _ _ _ h => h) (by rfl) ?_ (fun _ => rfl) hS ?_
    · intro w' h9
      simp [go_sem, h9.1, h9.2.1, h9.2.2, Act.put]
    simp only [go_sem, Act.put, List.getElem_toArray, List.getElem_cons_succ, List.getElem_cons_zero, List.setIfInBounds_toArray, List.set_cons_succ, List.set_cons_zero]
    refine takeT (i := 2) (.pointer (some ⟨b, 0, none⟩)) rfl (by kernel_rfl) (by kernel_rfl) (by kernel_rfl) (by kernel_rfl) (by kernel_rfl) (fun _ _ _ h => h) (by rfl) ?_ (fun _ => rfl) hS ?_
    · intro w' h9
      simp [go_sem, h9.1, h9.2.1, h9.2.2, Act.put]
    simp only [go_sem, Act.put, List.getElem_toArray, List.getElem_cons_succ, List.getElem_cons_zero, List.setIfInBounds_toArray, List.set_cons_succ, List.set_cons_zero]
    refine takeT (i := 3) (.func (.func 150) #[] #[]) rfl (by kernel_rfl) (by kernel_rfl) (by kernel_rfl) (by kernel_rfl) (by kernel_rfl) (fun _ _ _ h => h) (by rfl) ?_ (fun _ => rfl) hS ?_
    · intro w' h9
      simp [go_sem, h9.1, h9.2.1, h9.2.2, Act.put]
    simp only [go_sem, Act.put, List.getElem_toArray, List.getElem_cons_succ, List.getElem_cons_zero, List.setIfInBounds_toArray, List.set_cons_succ, List.set_cons_zero]
    refine takeT (i := 4) (.bool e) rfl (by kernel_rfl) (by kernel_rfl) (by kernel_rfl) (by kernel_rfl) (by kernel_rfl) (fun _ _ _ h => h) (by rfl) ?_ (fun _ => rfl) hS ?_
    · intro w' h9
      simp [go_sem, h9.1, h9.2.1, h9.2.2, Act.put]
    simp only [go_sem, Act.put, List.getElem_toArray, List.getElem_cons_succ, List.getElem_cons_zero, List.setIfInBounds_toArray, List.set_cons_succ, List.set_cons_zero]
    refine takeT (i := 5) (.bool acc) rfl (by kernel_rfl) (by kernel_rfl) (by kernel_rfl) (by kernel_rfl) (by kernel_rfl) (fun _ _ _ h => h) (by rfl) ?_ (fun _ => rfl) hS ?_
    · intro w' h9
      simp [go_sem, h9.1, h9.2.1, h9.2.2, Act.put]
    simp only [go_sem, Act.put, List.getElem_toArray, List.getElem_cons_succ, List.getElem_cons_zero, List.setIfInBounds_toArray, List.set_cons_succ, List.set_cons_zero]
    refine oneN (i := 6) (by kernel_rfl) (wpOpIn_step rfl fun K' hK' => ?_)
    rw [if_pos (by rfl)]
    refine ⟨fun _ _ => trivial, ?_⟩
    simp only [go_sem, Act.put]
    simp [go_sem, hent]
    refine (CallsIn.inRound l (callsIn_wide.2 (either_any _ _ _))).mono ?_
    rintro e9 W9 ⟨rfl, rfl⟩
    dsimp only
    refine hK' _ _ ⟨hS, ?_⟩
    clear hK'
    refine oneT (i := 7) (by kernel_rfl) (by decide) (wpOpIn_step rfl fun K' hK' => ?_)
    rw [if_pos (by rfl)]
    refine ⟨fun _ _ => trivial, ?_⟩
    simp only [go_sem, Act.put]
    have fz1' : V.drew.frozen? ⟨w.heap.size + 1, 0, none⟩ = false := fz1
    simp [go_sem, hS.2.2, fz1', k1, fz1]
    refine hK' _ _ ?_
    clear hK'
    refine doneT (by kernel_rfl) ?_ _
    obtain ⟨acc', hacc'⟩ : ∃ acc', acc' = orB e acc := ⟨_, rfl⟩
    rw [← hacc']
    have HACC' := Lib.hid hacc'
    clear hacc'
    obtain ⟨V1, hV1⟩ : ∃ V1, V1 = (V.setCell ⟨w.heap.size + 1, 0, none⟩ (.bool acc')).drew := ⟨_, rfl⟩
    have e1 : ∀ k, k ≠ w.heap.size + 1 → V1.heap[k]? = V.heap[k]? := fun k hk => by rw [hV1]; exact set_other (W := V) hk _
    have y3 : V1.heap[w.heap.size + 1]? = some (.cells #[.bool acc'] 4 (0, 0)) := by rw [hV1]; exact set_block (W := V) U3.out _
    have y1 := (e1 b (by omega)).trans U1.out
    have y4 := (e1 w.heap.size (by omega)).trans U4.out
    have y2 := own_same U2.out fun k hk => e1 k (HNB.out k hk).2.1
    have s1 : V1.heap.size = V.heap.size := by rw [hV1]; simp
    have k7 : Kept (fun k => k = b ∨ B ≤ k) w V1 := by rw [hV1]; exact (U7.out.setCell (X := fun k => k = b ∨ B ≤ k) (p := ⟨w.heap.size + 1, 0, none⟩) (.inr (by show B ≤ w.heap.size + 1; omega)) _).drew
    have kx : Kept (fun k => k = w.heap.size + 1) V V1 := by rw [hV1]; exact ((Kept.refl _ V).setCell (X := fun k => k = w.heap.size + 1) (p := ⟨w.heap.size + 1, 0, none⟩) rfl _).drew
    rw [← hV1]
    clear hV1 k0 k1 d0 d1 d2 d3 g1 g2 g3 fz1 fz1' hS
    have j0 : V1.cell? ⟨w.heap.size, 0, none⟩ = some (.pointer (some ⟨b, 0, none⟩)) := by rw [cell_of_row _ _ 0 _ _ _ y4]; rfl
    have j1 : V1.cell? ⟨w.heap.size + 1, 0, none⟩ = some (.bool acc') := by rw [cell_of_row _ _ 0 _ _ _ y3]; rfl
    obtain ⟨⟨d0, d1, d2, d3⟩, g1, g2, g3⟩ := cellsB_own y1
    have Y1 := Lib.hid y1
    have Y2 := Lib.hid y2
    have Y3 := Lib.hid y3
    have Y4 := Lib.hid y4
    have K7 := Lib.hid k7
    have KX := Lib.hid kx
    have E1 := Lib.hid e1
    clear y1 y2 y3 y4 k7 kx e1
    gi_wp2
    refine regionT (S := fun w' => w'.cell? ⟨w.heap.size, 0, none⟩ = some (.pointer (some ⟨b, 0, none⟩)) ∧ w'.cell? ⟨b, 1, none⟩ = some v' ∧ w'.cell? ⟨w.heap.size + 1, 0, none⟩ = some (.bool acc')) (tl := fun j => j == 10) hmix ?_
    have hS : V1.drew.cell? ⟨w.heap.size, 0, none⟩ = some (.pointer (some ⟨b, 0, none⟩)) ∧ V1.drew.cell? ⟨b, 1, none⟩ = some v' ∧ V1.drew.cell? ⟨w.heap.size + 1, 0, none⟩ = some (.bool acc') := ⟨j0, d1, j1⟩
    refine takeT (i := 0) (.pointer (some ⟨b, 0, none⟩)) rfl (by kernel_rfl) (by kernel_rfl) (by kernel_rfl) (by kernel_rfl) (by kernel_rfl) (fun _ _ _ h => h) (by rfl) ?_ (fun _ => rfl) hS ?_
    · intro w' h9
      simp [go_sem, h9.1, h9.2.1, h9.2.2, Act.put]
    simp only [go_sem, Act.put, List.getElem_toArray, List.getElem_cons_succ, List.getElem_cons_zero, List.setIfInBounds_toArray, List.set_cons_succ, List.set_cons_zero]
    refine takeT (i := 1) (.pointer (some ⟨b, 0, none⟩)) rfl (by kernel_rfl) (by kernel_rfl) (by kernel_rfl) (by kernel_rfl) (by kernel_rfl) (fun _ _ _ h => h) (by rfl) ?_ (fun _ => rfl) hS ?_
    · intro w' h9
      simp [go_sem, h9.1, h9.2.1, h9.2.2, Act.put]
    simp only [go_sem, Act.put, List.getElem_toArray, List.getElem_cons_succ, List.getElem_cons_zero, List.setIfInBounds_toArray, List.set_cons_succ, List.set_cons_zero]
    refine takeT (i := 2) (.pointer (some ⟨b, 0, none⟩)) rfl (by kernel_rfl) (by kernel_rfl) (by kernel_rfl) (by kernel_rfl) (by kernel_rfl) (fun _ _ _ h => h) (by rfl) ?_ (fun _ => rfl) hS ?_
    · intro w' h9
      simp [go_sem, h9.1, h9.2.1, h9.2.2, Act.put]
    simp only [go_sem, Act.put, List.getElem_toArray, List.getElem_cons_succ, List.getElem_cons_zero, List.setIfInBounds_toArray, List.set_cons_succ, List.set_cons_zero]
    refine takeT (i := 3) (.pointer (some ⟨b, 1, none⟩)) rfl (by kernel_rfl) (by kernel_rfl) (by kernel_rfl) (by kernel_rfl) (by kernel_rfl) (fun _ _ _ h => h) (by rfl) ?_ (fun _ => rfl) hS ?_
    · intro w' h9
      simp [go_sem, h9.1, h9.2.1, h9.2.2, Act.put]
    simp only [go_sem, Act.put, List.getElem_toArray, List.getElem_cons_succ, List.getElem_cons_zero, List.setIfInBounds_toArray, List.set_cons_succ, List.set_cons_zero]
    refine takeT (i := 4) (v') rfl (by kernel_rfl) (by kernel_rfl) (by kernel_rfl) (by kernel_rfl) (by kernel_rfl) (fun _ _ _ h => h) (by rfl) ?_ (fun _ => rfl) hS ?_
    · intro w' h9
      simp [go_sem, h9.1, h9.2.1, h9.2.2, Act.put]
    simp only [go_sem, Act.put, List.getElem_toArray, List.getElem_cons_succ, List.getElem_cons_zero, List.setIfInBounds_toArray, List.set_cons_succ, List.set_cons_zero]
    refine takeT (i := 5) (.bool acc') rfl (by kernel_rfl) (by kernel_rfl) (by kernel_rfl) (by kernel_rfl) (by kernel_rfl) (fun _ _ _ h => h) (by rfl) ?_ (fun _ => rfl) hS ?_
    · intro w' h9
      simp [go_sem, h9.1, h9.2.1, h9.2.2, Act.put]
    simp only [go_sem, Act.put, List.getElem_toArray, List.getElem_cons_succ, List.getElem_cons_zero, List.setIfInBounds_toArray, List.set_cons_succ, List.set_cons_zero]
    refine oneN (i := 6) (by kernel_rfl) (wpOpIn_step rfl fun K' hK' => ?_)
    rw [if_pos (by rfl)]
    refine ⟨fun _ _ => trivial, ?_⟩
    simp only [go_sem, Act.put]
    simp [go_sem]
    refine hK' _ _ ⟨⟨keepA j0 _, keepA d1 _, keepA j1 _⟩, ?_⟩
    clear hK'
    obtain ⟨v2, w2, hr, h2, h3, h4, h5⟩ := run_append_own_at (P := Tryd.prog) ((V1.alloc (.cells #[.bool acc'] 4)).drew) B 63 63 4 i0 (.bool false) 1 1 Tryd.underlying63 hi hz0 hz1 hz2 rfl (by decide) v' t ((scT orB false en t).map Value.bool) (Y2.out.alloc _) ⟨V1.heap.size, 0, none⟩ 1 1 [.bool acc'] rfl (cell_one_new V1 _ _) (by intro u hu; simp at hu; subst hu; rfl) (by unfold maxLen; omega) (by omega) (by show B ≤ (V1.alloc _).heap.size; simp only [World.size_alloc]; omega)
    refine oneN (i := 7) (by kernel_rfl) (wpOpIn_step rfl fun K' hK' => ?_)
    rw [if_pos (by rfl)]
    refine wpIn_append_run (.tmp 24) (.tmp 26) 63 rfl rfl rfl hr ?_
    have ew : ∀ k, some k ≠ v'.ownBlock → k < V1.heap.size → w2.heap[k]? = V1.heap[k]? := fun k h7 h8 => (h3.block k (by show k < (V1.alloc _).heap.size; simp only [World.size_alloc]; omega) h7).trans (heap_alloc_old V1 _ h8)
    have sw : V1.heap.size + 1 ≤ w2.heap.size := by have := h3.size; exact Nat.le_trans (by show _ ≤ (V1.alloc _).heap.size; simp) this
    have z1 := (ew b (fun h7 => (HNB.out b h7.symm).1 rfl) (by omega)).trans Y1.out
    have z3 := (ew (w.heap.size + 1) (fun h7 => (HNB.out _ h7.symm).2.1 rfl) (by omega)).trans Y3.out
    have z4 := (ew w.heap.size (fun h7 => (HNB.out _ h7.symm).2.2 rfl) (by omega)).trans Y4.out
    have hb2 : ∀ k, v2.ownBlock = some k → k ≠ b ∧ k ≠ g ∧ (vl.ownBlock = some k ∨ w.heap.size + 3 ≤ k) := fun k hk => by
      rcases h5 with h6 | h6
      · rw [h6] at hk
        exact ⟨(HNB.out k hk).1, (U5.out k hk).1, (U5.out k hk).2⟩
      · rw [h6] at hk
        have : k = V1.heap.size + 1 := by have h9 : (V1.alloc (.cells #[.bool acc'] 4)).heap.size = k := by simpa using hk
                                          simp at h9; exact h9.symm
        exact ⟨by omega, by omega, .inr (by omega)⟩
    obtain ⟨g4, cap4, rfl⟩ := ownsRow_succ h2
    have f1' := frozen_of_row _ _ 1 _ _ z1
    have c1' : w2.cell? ⟨b, 1, none⟩ = some v' := by rw [cell_of_row _ _ 1 _ _ _ z1]; rfl
    have c0' : w2.cell? ⟨w.heap.size, 0, none⟩ = some (.pointer (some ⟨b, 0, none⟩)) := by rw [cell_of_row _ _ 0 _ _ _ z4]; rfl
    have cl' : w2.cell? ⟨w.heap.size + 1, 0, none⟩ = some (.bool acc') := by rw [cell_of_row _ _ 0 _ _ _ z3]; rfl
    refine hK' _ _ ⟨⟨c0', c1', cl'⟩, ?_⟩
    have hS2 := And.intro c0' (And.intro c1' cl')
    clear hK'
    refine oneN (i := 8) (by kernel_rfl) (wpOpIn_step rfl fun K' hK' => ?_)
    rw [if_pos (by rfl)]
    refine ⟨fun _ _ => trivial, ?_⟩
    simp only [go_sem, Act.put]
    simp [go_sem]
    refine hK' _ _ ⟨hS2, ?_⟩
    clear hK'
    refine oneN (i := 9) (by kernel_rfl) (wpOpIn_step rfl fun K' hK' => ?_)
    rw [if_pos (by rfl)]
    refine ⟨fun _ _ => trivial, ?_⟩
    simp only [go_sem, Act.put]
    simp [go_sem]
    refine hK' _ _ ⟨hS2, ?_⟩
    clear hK'
    refine oneT (i := 10) (by kernel_rfl) (by decide) (wpOpIn_step rfl fun K' hK' => ?_)
    rw [if_pos (by rfl)]
    refine ⟨fun _ _ => trivial, ?_⟩
    simp only [go_sem, Act.put]
    simp [go_sem, c1', f1']
    refine hK' _ _ ?_
    clear hK'
    refine doneT (by kernel_rfl) ?_ _
    gi_wp2
    have ewg : w2.heap[g]? = wS.heap[g]? := (ew g (fun h7 => (U5.out g h7.symm).1 rfl) (by omega)).trans ((E1.out g (by omega)).trans U6.out)
    refine ⟨⟨(show w2.os = V.os from h3.os.trans KX.out.os), (show w2.tape = V.tape from h3.tape.trans KX.out.tape), (show w2.output = V.output from h3.output.trans KX.out.output), (by simp; omega), fun k hk hE => ?_⟩, _, set_block (j := 1) z1 _, ?_, ?_, (set_other (by omega) _).trans z4, fun k hk => (hb2 k hk).2, (set_other (by omega) _).trans ewg, ⟨(show w2.os = w.os from h3.os.trans K7.out.os), (show w2.tape = w.tape from h3.tape.trans K7.out.tape), (show w2.output = w.output from h3.output.trans K7.out.output), (by simp; have := K7.out.size; omega), fun k hk hX => ?_⟩⟩
    · have hkb : k ≠ b := fun e => hE (.inl (.inl e))
      have hkl : k ≠ w.heap.size + 1 := fun e => hE (.inl (.inr (.inl e)))
      have hkv : some k ≠ v'.ownBlock := fun e => by
        rcases (U5.out k e.symm).2 with h | h
        · exact hE (.inl (.inr (.inr h)))
        · obtain ⟨_, _, cur, h9⟩ := own_at U2.out e.symm
          exact hE (.inr ⟨h, cur, _, h9, rfl⟩)
      exact (set_other hkb _).trans ((ew k hkv (by omega)).trans (E1.out k hkl))
    · have hown := own_same h2 fun k hk => set_other (j := 1) (v := (.slice (some ⟨g4, 0, none⟩) (t + 1) cap4)) (hb2 k hk).1
      have e8 : (ps ++ [(y, e)]).length = t + 1 := by rw [List.length_append, HT.out]; rfl
      rw [e8, HSC.out, List.map_append, ← HACC.out, ← HACC'.out]
      exact hown
    · have e8 : (ps ++ [(y, e)]).length = t + 1 := by rw [List.length_append, HT.out]; rfl
      rw [e8, HLT.out, ← HACC.out, ← HACC'.out]
      exact (set_other (by omega) _).trans z3
    · exact (set_other (fun e => hX (.inl e)) _).trans ((ew k (fun h7 => by have := (own_at Y2.out h7.symm).1; exact hX (.inr this)) (by have := K7.out.size; omega)).trans (K7.out.block k hk hX))
  case done =>
    rintro D V hDq ⟨v', u1, u2, u3, u4, u5, u6, u7⟩ hDV
    rw [bwT_len, scT_all] at u2
    have oeV := own_same oeS fun k hk => by
      obtain rfl : g = k := by simpa [Value.ownBlock] using hk
      exact u6
    obtain ⟨⟨d0, d1, d2, d3⟩, g1, g2, g3⟩ := cellsB_own u1
    have k0 : V.cell? ⟨w.heap.size, 0, none⟩ = some (.pointer (some ⟨b, 0, none⟩)) := by rw [cell_of_row _ _ 0 _ _ _ u4]; rfl
    have hbV := blk_lt u1
    have U1 := Lib.hid u1
    have U2 := Lib.hid u2
    have U5 := Lib.hid u5
    have U7 := Lib.hid u7
    have OEV := Lib.hid oeV
    clear u1 u2 u3 u4 u5 u6 u7 oeV
    have q1 : (0 : Int) ≤ (c : Int) := by omega
    dsimp only
    go_wp2_with fail
    go_region
    all_goals go_wp2_with fail
    have hDb : D ≠ b := fun e => by subst e; rw [hDV] at U1; have := U1.out; cases this
    refine leaves_one (D := D) (v := .tuple #[]) ((set_other hDb _).trans ((set_other hDb _).trans hDV)) (fun w' hw' => ⟨results_none rfl _ _ _, rfl, ?_⟩)
    have e6 : ∀ k, k ≠ b → k ≠ D → w'.heap[k]? = V.heap[k]? := fun k h7 h8 => by rw [hw']; exact (World.putObj_heap_other h8).trans ((set_other h7 _).trans (set_other h7 _))
    have b6 : w'.heap[b]? = some (.cells #[.func (.func 150) #[] #[], v', .slice (some ⟨g, 0, none⟩) 0 c, .bool false] 162 (0, 0)) := by
      rw [hw']
      exact (World.putObj_heap_other (Ne.symm hDb)).trans (set_block (j := 3) (set_block (j := 2) U1.out _) _)
    have nD : ∀ (cs : Array Value) (t : TypeId), V.heap[D]? ≠ some (.cells cs t (0, 0)) := fun cs t h9 => by rw [hDV] at h9; cases h9
    have z6 : V.heap.size ≤ w'.heap.size := by rw [hw']; simp
    refine ⟨⟨v', _, b6, ?_, ?_, fun k h7 h8 => ?_⟩, ⟨?_, ?_, ?_, by have := U7.out.size; omega, fun k hk hX => ?_⟩⟩
    · rw [scn_len]
      refine own_same U2.out fun k hk => e6 k (winB_ne U1.out U2.out k hk) fun e => ?_
      obtain ⟨_, _, cur, h9⟩ := own_at U2.out hk
      exact nD _ _ (e ▸ h9)
    · have := own_take (k := 0) OEV.out (Nat.zero_le _)
      refine own_same (by simpa using this) fun k hk => e6 k ?_ fun e => ?_
      · obtain rfl : g = k := by simpa [Value.ownBlock] using hk
        exact nee
      · obtain rfl : g = k := by simpa [Value.ownBlock] using hk
        obtain ⟨_, _, cur, h9⟩ := own_at OEV.out rfl
        exact nD _ _ (e ▸ h9)
    · have h9 := (U5.out k h7).1
      simp [Value.ownBlock] at h8
      exact h9 h8.symm
    · rw [hw']; exact U7.out.os
    · rw [hw']; exact U7.out.tape
    · rw [hw']; exact U7.out.output
    · exact (e6 k (fun e => hX (.inl e)) (fun e => by subst e; omega)).trans (U7.out.block k hk hX)
  case stop =>
    intro D c ps V _ _ h _
    exact h.elim
end Go.Proofs.YtgccnongfdbalaaDoor

namespace Go.Proofs.YtgccnongfdbalaaDoor
open Go.RowKit Go.Shelf
set_option linter.unusedVariables false
set_option linter.unusedSimpArgs false

/-- One of the elements that leave goes. -/
theorem winB_pop {B b n g c : Nat} {W : World} {lv en : List Bool} {lat : Bool} {ve : Value} (hb : W.heap[b]? = some (.cells #[.func (.func 150) #[] #[], .slice (some ⟨g, 0, none⟩) (n + 1) c, ve, .bool lat] 162 (0, 0)))
    (hl : lv.length = n + 1) (ol : W.ownsRow B 4 1 (.slice (some ⟨g, 0, none⟩) (n + 1) c) lv.length (lv.map Value.bool)) (oe : W.ownsRow B 4 1 ve en.length (en.map Value.bool)) (hne : ∀ k, some g = some k → ve.ownBlock ≠ some k) :
    WinB B ((W.setCell ⟨b, 1, none⟩ (.slice (some ⟨g, 0, none⟩) n c)).drew) b (lv.take n) en lat := by
  have o1 := own_take (k := n) (by rw [hl] at ol; exact ol) (by omega)
  have hlt : (lv.take n).length = n := by rw [List.length_take]; omega
  refine ⟨_, ve, set_block (j := 1) hb _, ?_, own_same oe fun k hk => set_other (winB_ne hb oe k hk) _, fun k h7 => hne k (by simpa [Value.ownBlock] using h7)⟩
  rw [hlt]
  refine own_same (by rw [List.map_take]; simpa using o1) fun k hk => set_other (winB_ne hb ol k (by simpa [Value.ownBlock] using hk)) _

set_option maxRecDepth 100000 in
set_option maxHeartbeats 8000000 in
theorem leaveB_any (B b : Nat) (lv en : List Bool) (lat : Bool) (w : World) (hW : WinB B w b lv en lat) (hB : B ≤ w.heap.size) (h0 : 0 < lv.length + en.length) (hlen : lv.length + en.length ≤ 100000) :
    Calls Tryd.prog 158 #[.pointer (some ⟨b, 0, none⟩)] w fun r w' => r = .returned (.tuple #[]) ∧ WinB B w' b (lvN orB false lv en) (enN lv en) (laN false lv lat) ∧ Kept (fun k => k = b ∨ B ≤ k) w w' := by
  unfold lvN enN laN
  by_cases hl : lv.length = 0
  · rw [if_pos hl, if_pos hl, if_pos hl]
    obtain rfl : lv = [] := List.eq_nil_of_length_eq_zero hl
    have hen : 0 < en.length := by simpa using h0
    have hlen' : en.length ≤ 100000 := by simpa using hlen
    have HW := Lib.hid hW
    obtain ⟨vl, ve, hb, ol, oe, hne⟩ := hW
    obtain ⟨a, c, rfl⟩ := own_slice ol
    obtain ⟨⟨c0, c1, c2, c3⟩, f1, f2, f3⟩ := cellsB_own hb
    clear f1 f2 f3 c2 c3 c0 hne oe ol hb h0 hlen hl
    go_enter Tryd.func158, Tryd.ntmps158
    go_wp2_with fail
    refine (turnB_any B b en lat _ HW.out hB hen hlen').mono ?_
    rintro r w1 ⟨rfl, hW1, k1⟩
    have K1 := Lib.hid k1
    obtain ⟨m, hm⟩ : ∃ m, en.length = m + 1 := ⟨en.length - 1, by omega⟩
    obtain ⟨vl, ve, hb, ol, oe, hne⟩ := hW1
    rw [scn_len, hm] at ol
    obtain ⟨g, c', rfl, h1, h2, h3⟩ := own_slice' ol
    obtain ⟨⟨c0, d1, c2, c3⟩, f1, f2, f3⟩ := cellsB_own hb
    have HB := Lib.hid hb
    have OL := Lib.hid ol
    have OE := Lib.hid oe
    have HNE := Lib.hid hne
    have HM := Lib.hid hm
    have q1 : (m : Int) + 1 - 1 = (m : Int) := by omega
    have q6 : m ≤ 100000 := by omega
    have hwr : IntKind.i64.wrap (m : Int) = (m : Int) := by rw [IntKind.wrap_i64]; omega
    have q2 : (m : Int) ≤ (c' : Int) := by omega
    have q3 : (0 : Int) ≤ (m : Int) := by omega
    clear hb ol oe hne k1 c0 c2 c3 f2 f3 c1 hm
    go_wp2_with fail
    go_region
    all_goals go_wp2_with fail
    all_goals go_end0
    all_goals
      refine ⟨rfl, ?_, (K1.out.setCell (X := fun k => k = b ∨ B ≤ k) (p := ⟨b, 1, none⟩) (.inl rfl) _).drew⟩
      have e1 : en.length - 1 = m := by have := HM.out; omega
      rw [e1]
      refine winB_pop HB.out (by rw [scn_len]; exact HM.out) ?_ OE.out HNE.out
      rw [scn_len, HM.out]
      exact OL.out
  · rw [if_neg hl, if_neg hl, if_neg hl]
    obtain ⟨m, hm⟩ : ∃ m, lv.length = m + 1 := ⟨lv.length - 1, by omega⟩
    obtain ⟨vl, ve, hb, ol, oe, hne⟩ := hW
    rw [hm] at ol
    obtain ⟨g, c', rfl, h1, h2, h3⟩ := own_slice' ol
    obtain ⟨⟨c0, d1, c2, c3⟩, f1, f2, f3⟩ := cellsB_own hb
    have HB := Lib.hid hb
    have OL := Lib.hid ol
    have OE := Lib.hid oe
    have HNE := Lib.hid hne
    have HM := Lib.hid hm
    have q1 : (m : Int) + 1 - 1 = (m : Int) := by omega
    have q6 : m ≤ 100000 := by omega
    have hwr : IntKind.i64.wrap (m : Int) = (m : Int) := by rw [IntKind.wrap_i64]; omega
    have q2 : (m : Int) ≤ (c' : Int) := by omega
    have q3 : (0 : Int) ≤ (m : Int) := by omega
    have q4 : (((m : Int) + 1) == 0) = false := by simp; omega
    have q5 : ¬ ((m : Int) + 1 = 0) := by omega
    clear hb ol oe hne c0 c2 c3 f2 f3 hm hl h0 hlen
    go_enter Tryd.func158, Tryd.ntmps158
    go_wp2_with fail
    go_region
    all_goals go_wp2_with fail
    all_goals go_end0
    all_goals
      refine ⟨rfl, ?_, ((Kept.refl _ w).setCell (X := fun k => k = b ∨ B ≤ k) (p := ⟨b, 1, none⟩) (.inl rfl) _).drew⟩
      have e1 : lv.length - 1 = m := by have := HM.out; omega
      rw [e1]
      refine winB_pop HB.out HM.out ?_ OE.out HNE.out
      rw [HM.out]
      exact OL.out
end Go.Proofs.YtgccnongfdbalaaDoor

namespace Go.Proofs.YtgccnongfdbalaaDoor
open Go.RowKit Go.Shelf
set_option linter.unusedVariables false
set_option linter.unusedSimpArgs false
attribute [local go_sem] run_store_fn

/-- The line: flags f 0 .. f (n - 1) at the head of block g. -/
def LineB (W : World) (g n : Nat) (f : Nat → Bool) : Prop := ∀ j, j < n → W.cell? ⟨g, j, none⟩ = some (.bool (f j))
theorem slF_of {E : Type} {op : E → E → E} {z : E} {f : Nat → E} {lv en : List E} {lat : E} {n bk ah k l r : Nat} (hj : JoinOK op z) (h : WinOK op z f lv en lat l r) (hl : l = k - (bk + ah)) (hr : r = min n (k + 1)) (hk : ah ≤ k) : jnd op lv lat = slF op z f n bk ah (k - ah) := by
  have := h.joined hj
  unfold slF
  rw [show k - ah - bk = l by omega, show min n (k - ah + ah + 1) = r by omega]
  exact this
/-- A line of flags in memory of its own. -/
def OwnB (B : Nat) (n : Nat) (f : Nat → Bool) (e : Ending) (w : World) : Prop := ∃ h, e = .returned (.slice (some ⟨h, 0, none⟩) n n) ∧ w.ownsRow B 4 1 (.slice (some ⟨h, 0, none⟩) n n) n ((enL f 0 n).map Value.bool)

set_option maxRecDepth 100000 in
set_option maxHeartbeats 16000000 in
theorem slideB_any (gl n cl bk ah : Nat) (f : Nat → Bool) (w : World) (hL : LineB w gl n f) (hgl : gl < w.heap.size) (hn : n ≤ 1000) (hbk : bk ≤ 1000) (hah : ah ≤ 1000) (hcl : n ≤ cl) :
    Calls Tryd.prog 148 #[.slice (some ⟨gl, 0, none⟩) n cl, .func (.func 150) #[] #[], .int .i64 (bk : Int), .int .i64 (ah : Int)] w fun e w' => OwnB w.heap.size n (slF orB false f n bk ah) e w' ∧ Below w.heap.size w w' := by
  obtain ⟨i0, hi, hz0, hz1, hz2⟩ := info_parts infoB
  have HL := Lib.hid hL
  clear hL
  have hb3 : i0.bytes * n ≤ 281474976710656 := by rw [hz2]; omega
  have hb4 : n ≤ maxLen := by unfold maxLen; omega
  go_enter Tryd.func148, Tryd.ntmps148
  go_wp2_with (at_make; refine wpList_make_own _ rfl _ _ 63 rfl (w.heap.size + 1) 4 i0 (.bool false) 1 Tryd.underlying63 hi hz0 hz1 .i64 .i64 (n : Int) n rfl rfl rfl hb3 hb4 (by simp) ?_; intro w1 own1 grow1)
  rw [World.size_alloc] at own1
  have hb1 : w1.heap[w.heap.size]? = some (.cells #[.func (.func 150) #[] #[], .slice none 0 0, .slice none 0 0, .bool false] 162 (0, 0)) := (grow1.block _ (by simp) (fun e => by cases e)).trans (heap_alloc_new _ _)
  have b1 : Below w.heap.size w w1 := ((Below.refl _ _).alloc (Nat.le_refl _) _).grown grow1 (by simp) (fun j hj => by cases hj)
  have s1 : w.heap.size + 1 < w1.heap.size := (own_at own1 rfl).2.1
  have HW0 : Hid (WinB (w.heap.size + 2) w1 w.heap.size [] [] false) := Lib.hid ⟨_, _, hb1, World.ownsRow_nil _ _ _ _, World.ownsRow_nil _ _ _ _, fun g hg => by simp [Value.ownBlock] at hg⟩
  have HO0 := Lib.hid own1
  have HB0 := Lib.hid b1
  clear own1 grow1 hb1 b1 hb3 hb4
  have hline : Hid (∀ (W' : World) (k : Nat), k < n → Below w.heap.size w W' → W'.cell? ⟨gl, k, none⟩ = some (.bool (f k))) := Lib.hid fun W' k hk hb => (hb.cell (p := ⟨gl, k, none⟩) hgl).trans (HL.out k hk)
  go_loopw [10, 21] (fun s10 s21 wr => ∃ (k : Nat) (lv en : List Bool) (lat : Bool), k ≤ n + ah ∧ s21 = .int .i64 (k : Int) ∧ s10 = .slice (some ⟨w.heap.size + 1, 0, none⟩) (k - ah) n ∧ w.heap.size + 2 ≤ wr.heap.size ∧ Hid (WinB (w.heap.size + 2) wr w.heap.size lv en lat) ∧ Hid (WinOK orB false f lv en lat (k - (bk + ah + 1)) (min n k)) ∧
      Hid (wr.ownsRow w.heap.size 4 1 (.slice (some ⟨w.heap.size + 1, 0, none⟩) (k - ah) n) (k - ah) ((enL (slF orB false f n bk ah) 0 (k - ah)).map Value.bool)) ∧ Hid (Below w.heap.size w wr)) (fun _ s21 _ => n + ah - (intOf s21).toNat)
  case atStart =>
    refine ⟨0, [], [], false, by omega, rfl, by rw [Nat.zero_sub], by omega, HW0, Lib.hid (by rw [Nat.zero_sub, Nat.min_zero]; exact WinOK.start _ _ _), Lib.hid ?_, HB0⟩
    have e0 : (enL (slF orB false f n bk ah) 0 0).map Value.bool = [] := rfl
    rw [Nat.zero_sub, e0]
    exact ⟨rfl, HO0.out.2.imp id fun ⟨g, cap, cur, h1, h2, h3⟩ => ⟨g, cap, cur, h1, Nat.le_trans (by omega) h2, h3⟩⟩
  case round =>
    obtain ⟨k, lv, en, lat, hk, rfl, rfl, hsz, HW, HK, HO, HB⟩ := hrel
    by_cases hlt : k < n + ah
    · have q0 : (0 : Int) ≤ (k : Int) := by omega
      have q1 : (k : Int) < (n : Int) + (ah : Int) := by omega
      have hlen := HK.out.len
      have hlen1 : lv.length + en.length ≤ 1000 := by omega
      by_cases he : k < n
      · by_cases hl : bk + ah < k
        · by_cases hj : ah ≤ k
          · skip
            -- enter True, leave True, join True
            have qe : (k : Int) < (n : Int) := by omega
            have hfk := hline.out _ k he HB.out
            have ql : (bk : Int) + (ah : Int) < (k : Int) := by omega
            have qj : (ah : Int) ≤ (k : Int) := by omega
            clear hlen
            go_wp2_with fail
            refine (enterB_any (w.heap.size + 2) w.heap.size lv en lat (f k) _ HW.out hsz (by omega)).mono ?_
            rintro r9 w3 ⟨rfl, hW3, k3⟩
            have HW := Lib.hid hW3
            have HK : Hid (WinOK orB false f lv (en ++ [f k]) (orB lat (f k)) (k - (bk + ah + 1)) (min n (k + 1))) := Lib.hid (by have := HK.out.enter; rw [show min n k = k by omega] at this; rw [show min n (k + 1) = k + 1 by omega]; exact this)
            have HO := Lib.hid (own_same HO.out fun g hg => by obtain rfl : w.heap.size + 1 = g := (by simpa [Value.ownBlock] using hg); exact k3.block _ (by omega) (by omega))
            have HB := Lib.hid (HB.out.trans (k3.below (n := w.heap.size) (by omega) (fun j hj => by omega)))
            have hsz := Nat.le_trans hsz k3.size
            clear hW3 k3 hfk
            go_wp2_with fail
            have hlen := HK.out.len
            have hln : 0 < lv.length + (en ++ [f k]).length := by omega
            have hln2 : lv.length + (en ++ [f k]).length ≤ 100000 := by omega
            clear hlen
            refine (leaveB_any (w.heap.size + 2) w.heap.size _ _ _ _ HW.out hsz hln hln2).mono ?_
            rintro r9 w4 ⟨rfl, hW4, k4⟩
            have HW := Lib.hid hW4
            have HK := Lib.hid (HK.out.leave' join_orB (by omega))
            have HO := Lib.hid (own_same HO.out fun g hg => by obtain rfl : w.heap.size + 1 = g := (by simpa [Value.ownBlock] using hg); exact k4.block _ (by omega) (by omega))
            have HB := Lib.hid (HB.out.trans (k4.below (n := w.heap.size) (by omega) (fun j hj => by omega)))
            have hsz := Nat.le_trans hsz k4.size
            have hl9 : k - (bk + ah + 1) + 1 = k + 1 - (bk + ah + 1) := by omega
            rw [hl9] at HK
            clear hW4 k4 hln hln2 hl9
            generalize lvN orB false lv _ = lv' at HW HK
            generalize enN lv _ = en' at HW HK
            generalize laN false lv _ = lat' at HW HK
            go_wp2_with fail
            have hlen := HK.out.len
            have hl5 : lv'.length ≤ 100000 := by omega
            clear hlen
            refine (joinedB_any (w.heap.size + 2) w.heap.size lv' en' lat' _ HW.out hl5).mono ?_
            rintro r9 w5 ⟨rfl, b5⟩
            have HW := Lib.hid (HW.out.ext b5)
            have HO := Lib.hid (own_keep HO.out b5)
            have HB := Lib.hid (HB.out.trans (b5.mono (by omega)))
            have hsz := Nat.le_trans hsz b5.size
            have hv := slF_of (n := n) (bk := bk) (ah := ah) (k := k) join_orB HK.out (by omega) rfl (by omega)
            rw [hv]
            have hkn : k - ah < n := by omega
            obtain ⟨i, hi9⟩ : ∃ i, i = k - ah := ⟨_, rfl⟩
            rw [← hi9] at HO hkn ⊢
            have HI := Lib.hid hi9
            obtain ⟨v, hv9⟩ : ∃ v, v = slF orB false f n bk ah i := ⟨_, rfl⟩
            rw [← hv9]
            have HV := Lib.hid hv9
            clear hv hi9 hv9 b5
            go_wp2_with (at_builtin; refine wpList_append_fits _ rfl _ _ 63 rfl w.heap.size 4 i0 1 Tryd.underlying63 hi hz1 (w.heap.size + 1) i n ((enL (slF orB false f n bk ah) 0 i).map Value.bool) rfl (HO.out.alloc _) ⟨w5.heap.size, 0, none⟩ 1 1 [.bool v] rfl rfl (cell_one_new _ _ _) (oneB [v]) (by omega) ?_; intro w6 own6 grow6)
            have k6 : Kept (fun j => j = w.heap.size + 1) w5 w6 := ⟨grow6.os, grow6.tape, grow6.output, Nat.le_trans (by simp) grow6.size, fun j h1 h2 => (grow6.block j (by simp only [World.size_alloc]; omega) (fun e => h2 (by simpa using e))).trans (heap_alloc_old _ _ h1)⟩
            have HW := Lib.hid (HW.out.kept k6 (fun j hj => by omega))
            have HB := Lib.hid (HB.out.trans (k6.below (n := w.heap.size) (by omega) (fun j hj => by omega)))
            have hsz := Nat.le_trans hsz k6.size
            have HO := Lib.hid own6
            clear own6 grow6 k6
            go_wp2_with fail
            go_roundw
            case rel => exact ⟨k + 1, lv', en', lat', by omega, by go_num, by rw [show k + 1 - ah = i + 1 by have := HI.out; omega], hsz, HW, HK, Lib.hid (by rw [show k + 1 - ah = i + 1 by have := HI.out; omega, enL_snoc, List.map_append, Nat.zero_add, ← HV.out]; exact HO.out), HB⟩
            case measure => simp [intOf]; omega
          · exfalso; omega
        · by_cases hj : ah ≤ k
          · skip
            -- enter True, leave False, join True
            have qe : (k : Int) < (n : Int) := by omega
            have hfk := hline.out _ k he HB.out
            have ql : ¬ (bk : Int) + (ah : Int) < (k : Int) := by omega
            have qj : (ah : Int) ≤ (k : Int) := by omega
            clear hlen
            go_wp2_with fail
            refine (enterB_any (w.heap.size + 2) w.heap.size lv en lat (f k) _ HW.out hsz (by omega)).mono ?_
            rintro r9 w3 ⟨rfl, hW3, k3⟩
            have HW := Lib.hid hW3
            have HK : Hid (WinOK orB false f lv (en ++ [f k]) (orB lat (f k)) (k - (bk + ah + 1)) (min n (k + 1))) := Lib.hid (by have := HK.out.enter; rw [show min n k = k by omega] at this; rw [show min n (k + 1) = k + 1 by omega]; exact this)
            have HO := Lib.hid (own_same HO.out fun g hg => by obtain rfl : w.heap.size + 1 = g := (by simpa [Value.ownBlock] using hg); exact k3.block _ (by omega) (by omega))
            have HB := Lib.hid (HB.out.trans (k3.below (n := w.heap.size) (by omega) (fun j hj => by omega)))
            have hsz := Nat.le_trans hsz k3.size
            clear hW3 k3 hfk
            go_wp2_with fail
            have hlen := HK.out.len
            have HK : Hid (WinOK orB false f lv (en ++ [f k]) (orB lat (f k)) (k + 1 - (bk + ah + 1)) (min n (k + 1))) := Lib.hid (by have := HK.out; rw [show k - (bk + ah + 1) = k + 1 - (bk + ah + 1) by omega] at this; exact this)
            clear hlen
            generalize en ++ [f k] = en' at HW HK
            generalize orB lat (f k) = lat' at HW HK
            have hlen := HK.out.len
            have hl5 : lv.length ≤ 100000 := by omega
            clear hlen
            refine (joinedB_any (w.heap.size + 2) w.heap.size lv en' lat' _ HW.out hl5).mono ?_
            rintro r9 w5 ⟨rfl, b5⟩
            have HW := Lib.hid (HW.out.ext b5)
            have HO := Lib.hid (own_keep HO.out b5)
            have HB := Lib.hid (HB.out.trans (b5.mono (by omega)))
            have hsz := Nat.le_trans hsz b5.size
            have hv := slF_of (n := n) (bk := bk) (ah := ah) (k := k) join_orB HK.out (by omega) rfl (by omega)
            rw [hv]
            have hkn : k - ah < n := by omega
            obtain ⟨i, hi9⟩ : ∃ i, i = k - ah := ⟨_, rfl⟩
            rw [← hi9] at HO hkn ⊢
            have HI := Lib.hid hi9
            obtain ⟨v, hv9⟩ : ∃ v, v = slF orB false f n bk ah i := ⟨_, rfl⟩
            rw [← hv9]
            have HV := Lib.hid hv9
            clear hv hi9 hv9 b5
            go_wp2_with (at_builtin; refine wpList_append_fits _ rfl _ _ 63 rfl w.heap.size 4 i0 1 Tryd.underlying63 hi hz1 (w.heap.size + 1) i n ((enL (slF orB false f n bk ah) 0 i).map Value.bool) rfl (HO.out.alloc _) ⟨w5.heap.size, 0, none⟩ 1 1 [.bool v] rfl rfl (cell_one_new _ _ _) (oneB [v]) (by omega) ?_; intro w6 own6 grow6)
            have k6 : Kept (fun j => j = w.heap.size + 1) w5 w6 := ⟨grow6.os, grow6.tape, grow6.output, Nat.le_trans (by simp) grow6.size, fun j h1 h2 => (grow6.block j (by simp only [World.size_alloc]; omega) (fun e => h2 (by simpa using e))).trans (heap_alloc_old _ _ h1)⟩
            have HW := Lib.hid (HW.out.kept k6 (fun j hj => by omega))
            have HB := Lib.hid (HB.out.trans (k6.below (n := w.heap.size) (by omega) (fun j hj => by omega)))
            have hsz := Nat.le_trans hsz k6.size
            have HO := Lib.hid own6
            clear own6 grow6 k6
            go_wp2_with fail
            go_roundw
            case rel => exact ⟨k + 1, lv, en', lat', by omega, by go_num, by rw [show k + 1 - ah = i + 1 by have := HI.out; omega], hsz, HW, HK, Lib.hid (by rw [show k + 1 - ah = i + 1 by have := HI.out; omega, enL_snoc, List.map_append, Nat.zero_add, ← HV.out]; exact HO.out), HB⟩
            case measure => simp [intOf]; omega
          · skip
            -- enter True, leave False, join False
            have qe : (k : Int) < (n : Int) := by omega
            have hfk := hline.out _ k he HB.out
            have ql : ¬ (bk : Int) + (ah : Int) < (k : Int) := by omega
            have qj : ¬ (ah : Int) ≤ (k : Int) := by omega
            clear hlen
            go_wp2_with fail
            refine (enterB_any (w.heap.size + 2) w.heap.size lv en lat (f k) _ HW.out hsz (by omega)).mono ?_
            rintro r9 w3 ⟨rfl, hW3, k3⟩
            have HW := Lib.hid hW3
            have HK : Hid (WinOK orB false f lv (en ++ [f k]) (orB lat (f k)) (k - (bk + ah + 1)) (min n (k + 1))) := Lib.hid (by have := HK.out.enter; rw [show min n k = k by omega] at this; rw [show min n (k + 1) = k + 1 by omega]; exact this)
            have HO := Lib.hid (own_same HO.out fun g hg => by obtain rfl : w.heap.size + 1 = g := (by simpa [Value.ownBlock] using hg); exact k3.block _ (by omega) (by omega))
            have HB := Lib.hid (HB.out.trans (k3.below (n := w.heap.size) (by omega) (fun j hj => by omega)))
            have hsz := Nat.le_trans hsz k3.size
            clear hW3 k3 hfk
            go_wp2_with fail
            have hlen := HK.out.len
            have HK : Hid (WinOK orB false f lv (en ++ [f k]) (orB lat (f k)) (k + 1 - (bk + ah + 1)) (min n (k + 1))) := Lib.hid (by have := HK.out; rw [show k - (bk + ah + 1) = k + 1 - (bk + ah + 1) by omega] at this; exact this)
            clear hlen
            generalize en ++ [f k] = en' at HW HK
            generalize orB lat (f k) = lat' at HW HK
            go_roundw
            case rel => exact ⟨k + 1, lv, en', lat', by omega, by go_num, by rw [show k + 1 - ah = k - ah by omega], hsz, HW, HK, Lib.hid (by rw [show k + 1 - ah = k - ah by omega]; exact HO.out), HB⟩
            case measure => simp [intOf]; omega
      · by_cases hl : bk + ah < k
        · by_cases hj : ah ≤ k
          · skip
            -- enter False, leave True, join True
            have qe : ¬ (k : Int) < (n : Int) := by omega
            have ql : (bk : Int) + (ah : Int) < (k : Int) := by omega
            have qj : (ah : Int) ≤ (k : Int) := by omega
            clear hlen
            go_wp2_with fail
            have HK : Hid (WinOK orB false f lv en lat (k - (bk + ah + 1)) (min n (k + 1))) := Lib.hid (by have := HK.out; rw [show min n k = min n (k + 1) by omega] at this; exact this)
            have hlen := HK.out.len
            have hln : 0 < lv.length + (en).length := by omega
            have hln2 : lv.length + (en).length ≤ 100000 := by omega
            clear hlen
            refine (leaveB_any (w.heap.size + 2) w.heap.size _ _ _ _ HW.out hsz hln hln2).mono ?_
            rintro r9 w4 ⟨rfl, hW4, k4⟩
            have HW := Lib.hid hW4
            have HK := Lib.hid (HK.out.leave' join_orB (by omega))
            have HO := Lib.hid (own_same HO.out fun g hg => by obtain rfl : w.heap.size + 1 = g := (by simpa [Value.ownBlock] using hg); exact k4.block _ (by omega) (by omega))
            have HB := Lib.hid (HB.out.trans (k4.below (n := w.heap.size) (by omega) (fun j hj => by omega)))
            have hsz := Nat.le_trans hsz k4.size
            have hl9 : k - (bk + ah + 1) + 1 = k + 1 - (bk + ah + 1) := by omega
            rw [hl9] at HK
            clear hW4 k4 hln hln2 hl9
            generalize lvN orB false lv _ = lv' at HW HK
            generalize enN lv _ = en' at HW HK
            generalize laN false lv _ = lat' at HW HK
            go_wp2_with fail
            have hlen := HK.out.len
            have hl5 : lv'.length ≤ 100000 := by omega
            clear hlen
            refine (joinedB_any (w.heap.size + 2) w.heap.size lv' en' lat' _ HW.out hl5).mono ?_
            rintro r9 w5 ⟨rfl, b5⟩
            have HW := Lib.hid (HW.out.ext b5)
            have HO := Lib.hid (own_keep HO.out b5)
            have HB := Lib.hid (HB.out.trans (b5.mono (by omega)))
            have hsz := Nat.le_trans hsz b5.size
            have hv := slF_of (n := n) (bk := bk) (ah := ah) (k := k) join_orB HK.out (by omega) rfl (by omega)
            rw [hv]
            have hkn : k - ah < n := by omega
            obtain ⟨i, hi9⟩ : ∃ i, i = k - ah := ⟨_, rfl⟩
            rw [← hi9] at HO hkn ⊢
            have HI := Lib.hid hi9
            obtain ⟨v, hv9⟩ : ∃ v, v = slF orB false f n bk ah i := ⟨_, rfl⟩
            rw [← hv9]
            have HV := Lib.hid hv9
            clear hv hi9 hv9 b5
            go_wp2_with (at_builtin; refine wpList_append_fits _ rfl _ _ 63 rfl w.heap.size 4 i0 1 Tryd.underlying63 hi hz1 (w.heap.size + 1) i n ((enL (slF orB false f n bk ah) 0 i).map Value.bool) rfl (HO.out.alloc _) ⟨w5.heap.size, 0, none⟩ 1 1 [.bool v] rfl rfl (cell_one_new _ _ _) (oneB [v]) (by omega) ?_; intro w6 own6 grow6)
            have k6 : Kept (fun j => j = w.heap.size + 1) w5 w6 := ⟨grow6.os, grow6.tape, grow6.output, Nat.le_trans (by simp) grow6.size, fun j h1 h2 => (grow6.block j (by simp only [World.size_alloc]; omega) (fun e => h2 (by simpa using e))).trans (heap_alloc_old _ _ h1)⟩
            have HW := Lib.hid (HW.out.kept k6 (fun j hj => by omega))
            have HB := Lib.hid (HB.out.trans (k6.below (n := w.heap.size) (by omega) (fun j hj => by omega)))
            have hsz := Nat.le_trans hsz k6.size
            have HO := Lib.hid own6
            clear own6 grow6 k6
            go_wp2_with fail
            go_roundw
            case rel => exact ⟨k + 1, lv', en', lat', by omega, by go_num, by rw [show k + 1 - ah = i + 1 by have := HI.out; omega], hsz, HW, HK, Lib.hid (by rw [show k + 1 - ah = i + 1 by have := HI.out; omega, enL_snoc, List.map_append, Nat.zero_add, ← HV.out]; exact HO.out), HB⟩
            case measure => simp [intOf]; omega
          · exfalso; omega
        · by_cases hj : ah ≤ k
          · skip
            -- enter False, leave False, join True
            have qe : ¬ (k : Int) < (n : Int) := by omega
            have ql : ¬ (bk : Int) + (ah : Int) < (k : Int) := by omega
            have qj : (ah : Int) ≤ (k : Int) := by omega
            clear hlen
            go_wp2_with fail
            have HK : Hid (WinOK orB false f lv en lat (k - (bk + ah + 1)) (min n (k + 1))) := Lib.hid (by have := HK.out; rw [show min n k = min n (k + 1) by omega] at this; exact this)
            have hlen := HK.out.len
            have HK : Hid (WinOK orB false f lv en lat (k + 1 - (bk + ah + 1)) (min n (k + 1))) := Lib.hid (by have := HK.out; rw [show k - (bk + ah + 1) = k + 1 - (bk + ah + 1) by omega] at this; exact this)
            clear hlen
            have hlen := HK.out.len
            have hl5 : lv.length ≤ 100000 := by omega
            clear hlen
            refine (joinedB_any (w.heap.size + 2) w.heap.size lv en lat _ HW.out hl5).mono ?_
            rintro r9 w5 ⟨rfl, b5⟩
            have HW := Lib.hid (HW.out.ext b5)
            have HO := Lib.hid (own_keep HO.out b5)
            have HB := Lib.hid (HB.out.trans (b5.mono (by omega)))
            have hsz := Nat.le_trans hsz b5.size
            have hv := slF_of (n := n) (bk := bk) (ah := ah) (k := k) join_orB HK.out (by omega) rfl (by omega)
            rw [hv]
            have hkn : k - ah < n := by omega
            obtain ⟨i, hi9⟩ : ∃ i, i = k - ah := ⟨_, rfl⟩
            rw [← hi9] at HO hkn ⊢
            have HI := Lib.hid hi9
            obtain ⟨v, hv9⟩ : ∃ v, v = slF orB false f n bk ah i := ⟨_, rfl⟩
            rw [← hv9]
            have HV := Lib.hid hv9
            clear hv hi9 hv9 b5
            go_wp2_with (at_builtin; refine wpList_append_fits _ rfl _ _ 63 rfl w.heap.size 4 i0 1 Tryd.underlying63 hi hz1 (w.heap.size + 1) i n ((enL (slF orB false f n bk ah) 0 i).map Value.bool) rfl (HO.out.alloc _) ⟨w5.heap.size, 0, none⟩ 1 1 [.bool v] rfl rfl (cell_one_new _ _ _) (oneB [v]) (by omega) ?_; intro w6 own6 grow6)
            have k6 : Kept (fun j => j = w.heap.size + 1) w5 w6 := ⟨grow6.os, grow6.tape, grow6.output, Nat.le_trans (by simp) grow6.size, fun j h1 h2 => (grow6.block j (by simp only [World.size_alloc]; omega) (fun e => h2 (by simpa using e))).trans (heap_alloc_old _ _ h1)⟩
            have HW := Lib.hid (HW.out.kept k6 (fun j hj => by omega))
            have HB := Lib.hid (HB.out.trans (k6.below (n := w.heap.size) (by omega) (fun j hj => by omega)))
            have hsz := Nat.le_trans hsz k6.size
            have HO := Lib.hid own6
            clear own6 grow6 k6
            go_wp2_with fail
            go_roundw
            case rel => exact ⟨k + 1, lv, en, lat, by omega, by go_num, by rw [show k + 1 - ah = i + 1 by have := HI.out; omega], hsz, HW, HK, Lib.hid (by rw [show k + 1 - ah = i + 1 by have := HI.out; omega, enL_snoc, List.map_append, Nat.zero_add, ← HV.out]; exact HO.out), HB⟩
            case measure => simp [intOf]; omega
          · skip
            -- enter False, leave False, join False
            have qe : ¬ (k : Int) < (n : Int) := by omega
            have ql : ¬ (bk : Int) + (ah : Int) < (k : Int) := by omega
            have qj : ¬ (ah : Int) ≤ (k : Int) := by omega
            clear hlen
            go_wp2_with fail
            have HK : Hid (WinOK orB false f lv en lat (k - (bk + ah + 1)) (min n (k + 1))) := Lib.hid (by have := HK.out; rw [show min n k = min n (k + 1) by omega] at this; exact this)
            have hlen := HK.out.len
            have HK : Hid (WinOK orB false f lv en lat (k + 1 - (bk + ah + 1)) (min n (k + 1))) := Lib.hid (by have := HK.out; rw [show k - (bk + ah + 1) = k + 1 - (bk + ah + 1) by omega] at this; exact this)
            clear hlen
            go_roundw
            case rel => exact ⟨k + 1, lv, en, lat, by omega, by go_num, by rw [show k + 1 - ah = k - ah by omega], hsz, HW, HK, Lib.hid (by rw [show k + 1 - ah = k - ah by omega]; exact HO.out), HB⟩
            case measure => simp [intOf]; omega
    · have q1 : ¬ (k : Int) < (n : Int) + (ah : Int) := by omega
      obtain rfl : k = n + ah := by omega
      have e9 : n + ah - ah = n := by omega
      rw [e9] at HO ⊢
      go_wp2_with fail
      go_ret
      exact ⟨⟨_, rfl, HO.out⟩, HB.out⟩
end Go.Proofs.YtgccnongfdbalaaDoor
