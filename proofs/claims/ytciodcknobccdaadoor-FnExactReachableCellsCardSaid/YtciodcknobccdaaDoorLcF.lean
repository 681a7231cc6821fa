/- CellDepth, by the model. Conditions: the cells' parts are in memory. -/
import Derived.Test.YtciodcknobccdaaDoorLcB
import Derived.Laws.AppendOwn
import Derived.OwnWalk
import Derived.Laws.Rows
import Derived.Laws.OwnMore
import Derived.Deep.RegionWith
import Derived.Deep.AppendLies
namespace Go.Proofs.YtciodcknobccdaaDoor
open Go.RowKit
set_option linter.unusedVariables false
set_option linter.unusedSimpArgs false
attribute [local go_sem ↓] Go.wp_at_zero Go.wp_at_succ

theorem infoI64 : (Tryd.prog.info? 2).map (fun i => (i.zero, i.size, i.bytes)) = some (some (.int .i64 0), 1, 8) := by kernel_rfl
/-- The first n numbers as cells. -/
def rowI (V : Nat → Int) (n : Nat) : List Value := (List.range n).map fun j => .int .i64 (V j)
theorem rowI_succ (V : Nat → Int) (n : Nat) : rowI V (n + 1) = rowI V n ++ [.int .i64 (V n)] := by unfold rowI; rw [List.range_succ, List.map_append]; rfl
theorem rowI_at (V : Nat → Int) {n j : Nat} (h : j < n) : (rowI V n)[j]? = some (.int .i64 (V j)) := by
  unfold rowI
  rw [List.getElem?_map, List.getElem?_range h]
  rfl
theorem own_slI {w : World} {B E sz n : Nat} {v : Value} {xs : List Value} (h : w.ownsRow B E sz v n xs) : ∃ a c, v = .slice a n c := by
  rcases h.2 with ⟨rfl, rfl⟩ | ⟨g, cap, cur, rfl, h1, h2, h3, h4, h5, _⟩
  · exact ⟨none, 0, rfl⟩
  · exact ⟨_, cap, rfl⟩
theorem own_intAt {w : World} {B n c j : Nat} {a : Option Addr} {V : Nat → Int} (h : w.ownsRow B 2 1 (.slice a n c) n (rowI V n)) (hj : j < n) : ∃ g : Nat, a = some ⟨g, 0, none⟩ ∧ g < w.heap.size ∧ w.cell? ⟨g, j, none⟩ = some (.int .i64 (V j)) := by
  rcases h.2 with ⟨e, h0⟩ | ⟨g, cap, cur, e, _⟩
  · omega
  · cases e
    have hl := h.lt g rfl
    have hc := h.cellAt j (by omega)
    rw [rowI_at V hj] at hc
    exact ⟨g, rfl, hl.2, hc⟩
theorem totV_le (add : Int → Ins → Int → Int) (first : Int) (L : List Cel) {i j : Nat} (h : j < i) (hi : i ≤ L.length) : totV add first L i j = totV add first L L.length j := (totV_keep add first L h L.length hi).symm
theorem max_if (x y : Int) : max x y = if x < y then y else x := by split <;> omega
theorem dp_bound' {L : List Cel} (h : libB L = true) {i j : Nat} (hi : i ≤ L.length) (hj : j < i) : 0 ≤ totV dpAdd 0 L i j ∧ totV dpAdd 0 L i j ≤ 8 := by
  have h1 := dp_bound h i hi j hj
  have h2 := (lib_len h).2
  omega
theorem dp_part {L : List Cel} (h : libB L = true) {i t : Nat} {c : Cel} (hi : L[i]? = some c) (ht : t ≤ c.d.length) : 0 ≤ accF dpAdd (totV dpAdd 0 L i) c.d 0 t ∧ accF dpAdd (totV dpAdd 0 L i) c.d 0 t ≤ 8 := by
  have hl := get_lt hi
  have h1 := dp_acc (i := i) (dp_bound h i (by omega)) (fun k s hk => (lib_ins h hi hk).1) t ht
  have h2 := (lib_len h).2
  omega
set_option maxRecDepth 100000 in
set_option maxHeartbeats 8000000 in
theorem specCellDepth_any (a : Option Addr) (L : List Cel) (cap : Nat) (k : Int) (w : World) (hs : szCs L ≤ 1048576) (hL : CelsAt w.heap.size w a L) :
    Calls Tryd.prog 26 #[.agg #[.slice a L.length cap], .int .i64 k] w fun e w' => e = .returned (.int .i64 (if hasC L k = true then totV dpAdd 0 L L.length k.toNat else -1)) ∧ Below w.heap.size w w' := by
  have HL := Lib.hid hL
  have HZ := Lib.hid hs
  clear hL hs
  cases hp : hasC L k with
  | false =>
    rw [if_neg (by decide)]
    go_enter Tryd.func26, Tryd.ntmps26
    go_wp2_with (first | (go_at_call 63; refine (l09Has_any a L cap k _ HZ.out (HL.out.ext (by (repeat (first | (with_reducible exact Below.refl _ _) | (with_reducible refine Ext.drewN ?_ _) | (with_reducible refine Below.drew ?_) | (with_reducible refine Ext.alloc ?_ _) | (with_reducible refine Ext.setCell ?_ (by simp; try omega) _) | (with_reducible refine Ext.trans ?_ (by assumption)) | (with_reducible assumption) | exact Below.refl _ _))))).mono ?_; rintro e v1 ⟨rfl, bv1⟩; rw [hp]))
    go_ret
    exact ⟨rfl, by (repeat (first | (with_reducible exact Below.refl _ _) | (with_reducible refine Ext.drewN ?_ _) | (with_reducible refine Below.drew ?_) | (with_reducible refine Ext.alloc ?_ _) | (with_reducible refine Ext.setCell ?_ (by simp; try omega) _) | (with_reducible refine Ext.trans ?_ (by assumption)) | (with_reducible assumption) | exact Below.refl _ _))⟩
  | true =>
    rw [if_pos rfl]
    obtain ⟨hp1, hk0, hk1⟩ := hasC_yes hp
    have HP := Lib.hid hp1
    have hlen := lib_len hp1
    obtain ⟨hl1, hl2⟩ := hlen
    clear hp1
    obtain ⟨i0, hi, hz0, hz1, hz2⟩ := info_parts infoI64
    go_enter Tryd.func26, Tryd.ntmps26
    go_wp2_with (first | (go_at_call 63; refine (l09Has_any a L cap k _ HZ.out (HL.out.ext (by (repeat (first | (with_reducible exact Below.refl _ _) | (with_reducible refine Ext.drewN ?_ _) | (with_reducible refine Below.drew ?_) | (with_reducible refine Ext.alloc ?_ _) | (with_reducible refine Ext.setCell ?_ (by simp; try omega) _) | (with_reducible refine Ext.trans ?_ (by assumption)) | (with_reducible assumption) | exact Below.refl _ _))))).mono ?_; rintro e v1 ⟨rfl, bv1⟩; obtain ⟨sv1, zv1, cv1, fv1⟩ := bcell bv1; (try simp only [World.size_alloc, World.size_setCell, World.size_drew] at sv1); rw [hp]))
    have y0 : v1.cell? ⟨w.heap.size, 0, none⟩ = some (.slice a L.length cap) := keepC bv1 (by simp [go_sem])
    have hw1 : w.heap.size < v1.heap.size := Nat.lt_of_lt_of_le (by simp) bv1.size
    have W1 := Lib.hid (show Below w.heap.size w v1 by (repeat (first | (with_reducible exact Below.refl _ _) | (with_reducible refine Ext.drewN ?_ _) | (with_reducible refine Below.drew ?_) | (with_reducible refine Ext.alloc ?_ _) | (with_reducible refine Ext.setCell ?_ (by simp; try omega) _) | (with_reducible refine Ext.trans ?_ (by assumption)) | (with_reducible assumption) | exact Below.refl _ _)))
    have HL1 := Lib.hid (HL.out.ext W1.out)
    have Y0 := Lib.hid y0
    have HO0 : Hid ((v1.alloc (.cells #[] 2)).ownsRow v1.heap.size 2 1 (.slice (some ⟨v1.heap.size, 0, none⟩) 0 0) 0 (rowI (totV dpAdd 0 L L.length) 0)) := Lib.hid ⟨by simp [rowI], .inr ⟨v1.heap.size, _, _, rfl, Nat.le_refl _, heap_alloc_new v1 _, by omega, by unfold maxLen; omega, by simp, by simp [rowI]⟩⟩
    clear bv1 y0 sv1 zv1 cv1 fv1 HL
    go_loopw [5, 6] (fun s5 s6 wr => ∃ (i c5 : Nat) (a5 : Option Addr), i ≤ L.length ∧ s5 = .slice a5 i c5 ∧ s6 = .int .i64 (i : Nat) ∧ Hid (Below v1.heap.size v1 wr) ∧ Hid (wr.ownsRow v1.heap.size 2 1 (.slice a5 i c5) i (rowI (totV dpAdd 0 L L.length) i))) (fun _ s6 _ => L.length - (intOf s6).toNat)
    case atStart => exact ⟨0, 0, _, by omega, rfl, rfl, Lib.hid (by (repeat (first | (with_reducible exact Below.refl _ _) | (with_reducible refine Ext.drewN ?_ _) | (with_reducible refine Below.drew ?_) | (with_reducible refine Ext.alloc ?_ _) | (with_reducible refine Ext.setCell ?_ (by simp; try omega) _) | (with_reducible refine Ext.trans ?_ (by assumption)) | (with_reducible assumption) | exact Below.refl _ _))), HO0⟩
    case round =>
      clear HO0
      obtain ⟨i, c5, a5, hik, rfl, rfl, HW, HO⟩ := hrel
      have yb := keepC HW.out Y0.out
      have hws := HW.out.size
      by_cases hlt : i < L.length
      · obtain ⟨c, hc⟩ := get_some hlt
        obtain ⟨b, off, a1, a2, a3, k1, k2, k3, rfl, hb, c0, c1, c2, c3, hC⟩ := (HL1.out.below HW.out) i c hc
        have HI := Lib.hid hc
        have HC := Lib.hid hC
        have hd8 := (lib_lens HP.out hc).2.2.1
        have q1 : ((i : Nat) : Int) < (L.length : Int) := by omega
        have q0 : (0 : Int) ≤ ((i : Nat) : Int) := by omega
        clear hc hC
        go_wp2_with fail
        go_loopw [7, 9] (fun s7 s9 wr2 => ∃ t : Nat, t ≤ c.d.length ∧ s7 = .int .i64 (accF dpAdd (totV dpAdd 0 L i) c.d 0 t) ∧ s9 = .int .i64 (t : Nat) ∧ wr2 = wr) (fun _ s9 _ => c.d.length - (intOf s9).toNat)
        case atStart => exact ⟨0, by omega, by rw [accF_zero], rfl, rfl⟩
        case round =>
          obtain ⟨t, htk, rfl, rfl, rfl⟩ := hrel
          by_cases hlt2 : t < c.d.length
          · obtain ⟨s, hsi⟩ := get_some hlt2
            obtain ⟨b', off', hab, hb', x0, x1, x2, x3, x4, x5, x6, x7⟩ := ins_at HC.out.2.2 hsi
            have hin := (lib_ins HP.out HI.out hsi)
            obtain ⟨g5, hg5, hg6, e0⟩ := own_intAt HO.out (show s.c.toNat < i by omega)
            subst hab hg5
            rw [← totV_le dpAdd 0 L (show s.c.toNat < i by omega) hik] at e0
            have hvb := dp_bound' HP.out hik (show s.c.toNat < i by omega)
            have hac := dp_part HP.out HI.out htk
            have hw2 : IntKind.i64.wrap (1 + totV dpAdd 0 L i s.c.toNat) = 1 + totV dpAdd 0 L i s.c.toNat := by rw [IntKind.wrap_i64]; omega
            have HAC : Hid (accF dpAdd (totV dpAdd 0 L i) c.d 0 (t + 1) = max (accF dpAdd (totV dpAdd 0 L i) c.d 0 t) (1 + totV dpAdd 0 L i s.c.toNat)) := Lib.hid (accF_succ hsi)
            obtain ⟨⟨r1, r2⟩, ⟨m1, m2⟩, n1, n2⟩ := hin
            have q5 : ((t : Nat) : Int) < (c.d.length : Int) := by omega
            have q6 : (0 : Int) ≤ ((t : Nat) : Int) := by omega
            have HS := Lib.hid hsi
            clear hsi
            go_wp2_with fail
            go_roundw
            case rel => exact ⟨t + 1, by omega, by rw [HAC.out, max_if], by go_num, by trivial⟩
            case measure => simp [intOf]; omega
          · have q5 : ¬ ((t : Nat) : Int) < (c.d.length : Int) := by omega
            have HAC : Hid (accF dpAdd (totV dpAdd 0 L i) c.d 0 t = totV dpAdd 0 L L.length i) := Lib.hid (by rw [show t = c.d.length by omega, ← totV_same HI.out]; exact totV_le dpAdd 0 L (Nat.lt_succ_self i) hlt)
            rw [HAC.out]
            go_wp2_with (at_builtin; refine wpList_append_own_at _ rfl _ _ 29 rfl v1.heap.size 2 i0 (.int .i64 0) 1 8 Tryd.underlying29 hi hz0 hz1 hz2 rfl (by decide) _ _ _ rfl (HO.out.alloc _) ⟨wr.heap.size, 0, none⟩ 1 1 [.int .i64 (totV dpAdd 0 L L.length i)] rfl rfl ?c1 ?c2 ?c3 ?c4 ?c5 ?_)
            try
              case c1 =>
                intro j u hj
                match j, hj with
                | 0, hj => simp at hj; subst hj; simp [Addr.add, go_sem]
            case c2 => first | rfl | (intro u hu; simp at hu; subst hu; rfl)
            case c3 => unfold maxLen; omega
            case c4 => omega
            case c5 => (try simp only [World.size_alloc]); omega
            intro v' wn hown' hgrow _ hat
            rw [← rowI_succ] at hown'
            obtain ⟨a9, c9, rfl⟩ := own_slI hown'
            have HO6 := Lib.hid hown'
            have HB6 := Lib.hid (show Below v1.heap.size v1 wn from Below.grown (by have b := HW.out; (repeat (first | (with_reducible exact Below.refl _ _) | (with_reducible refine Ext.drewN ?_ _) | (with_reducible refine Below.drew ?_) | (with_reducible refine Ext.alloc ?_ _) | (with_reducible refine Ext.setCell ?_ (by simp; try omega) _) | (with_reducible refine Ext.trans ?_ (by assumption)) | (with_reducible assumption) | exact Below.refl _ _))) hgrow (by simp; omega) (fun t ht => (HO.out.lt t ht).1))
            clear hown' hgrow hat
            go_wp2_with fail
            go_roundw
            case rel => exact ⟨i + 1, c9, a9, by omega, rfl, by go_num, HB6, HO6⟩
            case measure => simp [intOf]; omega
      · have q1 : ¬ ((i : Nat) : Int) < (L.length : Int) := by omega
        have hi1 : i = L.length := by omega
        obtain ⟨g5, hg5, hg6, e0⟩ := own_intAt HO.out (show k.toNat < i by omega)
        subst hg5
        have r1 : k < (i : Int) := by omega
        have HW9 := Lib.hid (show Below w.heap.size w wr from Ext.trans W1.out HW.out)
        go_wp2_with fail
        go_ret
        exact ⟨by first | rfl | simp, HW9.out⟩
end Go.Proofs.YtciodcknobccdaaDoor
