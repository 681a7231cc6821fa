/- Rectangles: BoundingBox, the model's and the program's. Conditions: the elements' cells are in memory. -/
import Derived.Test.YtdcddneanbplpaaDoorReJ
namespace Go.Proofs.YtdcddneanbplpaaDoor
open Go.RowKit
set_option linter.unusedVariables false
set_option linter.unusedSimpArgs false
attribute [local go_sem ↓] Go.wp_at_zero Go.wp_at_succ

def bbB (P Q R S : Nat → Int) (len : Nat) : Bool := decide (0 < len ∧ len ≤ 3200) && allV P Q R S len
def bb0 (P Q R S : Nat → Int) (len : Nat) : Int := if bbB P Q R S len = true then mn (sh P) (P 0) (len - 1) else 0
def bb1 (P Q R S : Nat → Int) (len : Nat) : Int := if bbB P Q R S len = true then mn (sh Q) (Q 0) (len - 1) else 0
def bb2 (P Q R S : Nat → Int) (len : Nat) : Int := if bbB P Q R S len = true then mx (sh R) (R 0) (len - 1) else 0
def bb3 (P Q R S : Nat → Int) (len : Nat) : Int := if bbB P Q R S len = true then mx (sh S) (S 0) (len - 1) else 0
/-- What BoundingBox answers. -/
def bbV (P Q R S : Nat → Int) (len : Nat) : Value := .tuple #[.agg #[.int .i64 (bb0 P Q R S len), .int .i64 (bb1 P Q R S len), .int .i64 (bb2 P Q R S len), .int .i64 (bb3 P Q R S len)], .bool (bbB P Q R S len)]
theorem bbV_no {P Q R S : Nat → Int} {len : Nat} (h : bbB P Q R S len = false) : bbV P Q R S len = .tuple #[.agg #[.int .i64 0, .int .i64 0, .int .i64 0, .int .i64 0], .bool false] := by simp [bbV, bb0, bb1, bb2, bb3, h]
theorem bbV_yes {P Q R S : Nat → Int} {len : Nat} (h : bbB P Q R S len = true) : bbV P Q R S len = .tuple #[.agg #[.int .i64 (mn (sh P) (P 0) (len - 1)), .int .i64 (mn (sh Q) (Q 0) (len - 1)), .int .i64 (mx (sh R) (R 0) (len - 1)), .int .i64 (mx (sh S) (S 0) (len - 1))], .bool true] := by simp [bbV, bb0, bb1, bb2, bb3, h]

set_option maxHeartbeats 4000000 in
theorem specBB_any (m : Option Addr) (len cap : Nat) (P Q R S : Nat → Int) (w : World) (hlen : len ≤ 1048576) (hR : RectsIs w.heap.size w m len P Q R S) :
    Calls Tryd.prog 32 #[.slice m len cap] w fun e w' => e = .returned (bbV P Q R S len) ∧ Below w.heap.size w w' := by
  by_cases h1 : 0 < len ∧ len ≤ 3200
  case neg =>
    rw [bbV_no (by simp [bbB, h1])]
    by_cases h0 : len = 0
    · subst h0
      go_enter Tryd.func32, Tryd.ntmps32
      go_wp2_with fail
      refine bodyPost_ret (v := .tuple #[.agg #[.int .i64 0, .int .i64 0, .int .i64 0, .int .i64 0], .bool false]) (by simp [*, results, Tryd.results32, go_sem]) rfl ⟨rfl, ?_⟩
      (repeat (first | (with_reducible exact Below.refl _ _) | (with_reducible refine Ext.drewN ?_ _) | (with_reducible refine Below.drew ?_) | (with_reducible refine Ext.alloc ?_ _) | (with_reducible refine Ext.setCell ?_ (by simp; try omega) _) | (with_reducible refine Ext.trans ?_ (by assumption)) | (with_reducible assumption) | exact Below.refl _ _))
    · have h3 : (3200 : Int) < (len : Int) := by omega
      have h4 : ¬ (len : Int) = 0 := by omega
      have h5 : ((len : Int) == 0) = false := by simp; omega
      go_enter Tryd.func32, Tryd.ntmps32
      go_wp2_with fail
      refine bodyPost_ret (v := .tuple #[.agg #[.int .i64 0, .int .i64 0, .int .i64 0, .int .i64 0], .bool false]) (by simp [*, results, Tryd.results32, go_sem]) rfl ⟨rfl, ?_⟩
      (repeat (first | (with_reducible exact Below.refl _ _) | (with_reducible refine Ext.drewN ?_ _) | (with_reducible refine Below.drew ?_) | (with_reducible refine Ext.alloc ?_ _) | (with_reducible refine Ext.setCell ?_ (by simp; try omega) _) | (with_reducible refine Ext.trans ?_ (by assumption)) | (with_reducible assumption) | exact Below.refl _ _))
  case pos =>
    have h3 : ¬ (3200 : Int) < (len : Int) := by omega
    have h4 : ¬ (len : Int) = 0 := by omega
    have h5 : ((len : Int) == 0) = false := by simp; omega
    go_enter Tryd.func32, Tryd.ntmps32
    go_wp2_with fail
    go_loopw [4] (fun s5 wr => ∃ i : Nat, i ≤ len ∧ s5 = .int .i64 i ∧ w.heap.size < wr.heap.size ∧ Below w.heap.size w wr ∧ RectAt wr w.heap.size 0 0 0 0 ∧ ∀ k, k < i → rvB (P k) (Q k) (R k) (S k) = true) (fun s5 _ => len - (intOf s5).toNat)
    case atStart => exact ⟨0, by omega, rfl, by simp, by (repeat (first | (with_reducible exact Below.refl _ _) | (with_reducible refine Ext.drewN ?_ _) | (with_reducible refine Below.drew ?_) | (with_reducible refine Ext.alloc ?_ _) | (with_reducible refine Ext.setCell ?_ (by simp; try omega) _) | (with_reducible refine Ext.trans ?_ (by assumption)) | (with_reducible assumption) | exact Below.refl _ _)), by unfold RectAt; simp [go_sem], fun k hk => absurd hk (by omega)⟩
    case round =>
      obtain ⟨i, hi, rfl, hsz, hW, hZ, hon⟩ := hrel
      have HON := Lib.hid hon
      have HZ := Lib.hid hZ
      clear hon
      obtain ⟨z0, z1, z2, z3, y0, y1, y2, y3⟩ := hZ
      by_cases hlt : i < len
      · obtain ⟨b1, o1, rfl, hb1, c0, c1, c2, c3⟩ := hR.below hW i hlt
        have q1 : (i : Int) < (len : Int) := by omega
        have q0 : (0 : Int) ≤ (i : Int) := by omega
        cases ho : rvB (P i) (Q i) (R i) (S i) with
        | false =>
          go_wp2_with fail
          go_call (specValidRect_any) as e w2 ⟨rfl, bw2⟩
          obtain ⟨sw2, zw2, cw2, fw2⟩ := bcell bw2
          try simp only [World.size_alloc, World.size_setCell, World.size_drew] at sw2
          try have lw2_w_0 : w.heap.size < w2.heap.size := by omega
          try have lw2_w_1 : w.heap.size + 1 < w2.heap.size := by omega
          try have lw2_w_2 : w.heap.size + 1 + 1 < w2.heap.size := by omega
          try have lw2_w_3 : w.heap.size + 1 + 1 + 1 < w2.heap.size := by omega
          try have lw2_w_4 : w.heap.size + 1 + 1 + 1 + 1 < w2.heap.size := by omega
          try have lw2_w_5 : w.heap.size + 1 + 1 + 1 + 1 + 1 < w2.heap.size := by omega
          try have lw2_w_6 : w.heap.size + 1 + 1 + 1 + 1 + 1 + 1 < w2.heap.size := by omega
          try have lw2_wr_0 : wr.heap.size < w2.heap.size := by omega
          try have lw2_wr_1 : wr.heap.size + 1 < w2.heap.size := by omega
          try have lw2_wr_2 : wr.heap.size + 1 + 1 < w2.heap.size := by omega
          try have lw2_wr_3 : wr.heap.size + 1 + 1 + 1 < w2.heap.size := by omega
          try have lw2_wr_4 : wr.heap.size + 1 + 1 + 1 + 1 < w2.heap.size := by omega
          try have lw2_wr_5 : wr.heap.size + 1 + 1 + 1 + 1 + 1 < w2.heap.size := by omega
          try have lw2_wr_6 : wr.heap.size + 1 + 1 + 1 + 1 + 1 + 1 < w2.heap.size := by omega
          rw [ho]
          go_wp2_with fail
          refine bodyPost_ret (v := .tuple #[.agg #[.int .i64 0, .int .i64 0, .int .i64 0, .int .i64 0], .bool false]) (by simp [*, results, Tryd.results32, go_sem]) rfl ⟨congrArg Ending.returned (bbV_no (by simp [bbB, allV_f hlt ho])).symm, ?_⟩
          (repeat (first | (with_reducible exact Below.refl _ _) | (with_reducible refine Ext.drewN ?_ _) | (with_reducible refine Below.drew ?_) | (with_reducible refine Ext.alloc ?_ _) | (with_reducible refine Ext.setCell ?_ (by simp; try omega) _) | (with_reducible refine Ext.trans ?_ (by assumption)) | (with_reducible assumption) | exact Below.refl _ _))
        | true =>
          go_wp2_with fail
          go_call (specValidRect_any) as e w2 ⟨rfl, bw2⟩
          obtain ⟨sw2, zw2, cw2, fw2⟩ := bcell bw2
          try simp only [World.size_alloc, World.size_setCell, World.size_drew] at sw2
          try have lw2_w_0 : w.heap.size < w2.heap.size := by omega
          try have lw2_w_1 : w.heap.size + 1 < w2.heap.size := by omega
          try have lw2_w_2 : w.heap.size + 1 + 1 < w2.heap.size := by omega
          try have lw2_w_3 : w.heap.size + 1 + 1 + 1 < w2.heap.size := by omega
          try have lw2_w_4 : w.heap.size + 1 + 1 + 1 + 1 < w2.heap.size := by omega
          try have lw2_w_5 : w.heap.size + 1 + 1 + 1 + 1 + 1 < w2.heap.size := by omega
          try have lw2_w_6 : w.heap.size + 1 + 1 + 1 + 1 + 1 + 1 < w2.heap.size := by omega
          try have lw2_wr_0 : wr.heap.size < w2.heap.size := by omega
          try have lw2_wr_1 : wr.heap.size + 1 < w2.heap.size := by omega
          try have lw2_wr_2 : wr.heap.size + 1 + 1 < w2.heap.size := by omega
          try have lw2_wr_3 : wr.heap.size + 1 + 1 + 1 < w2.heap.size := by omega
          try have lw2_wr_4 : wr.heap.size + 1 + 1 + 1 + 1 < w2.heap.size := by omega
          try have lw2_wr_5 : wr.heap.size + 1 + 1 + 1 + 1 + 1 < w2.heap.size := by omega
          try have lw2_wr_6 : wr.heap.size + 1 + 1 + 1 + 1 + 1 + 1 < w2.heap.size := by omega
          rw [ho]
          go_wp2_with fail
          go_roundw
          case rel => exact ⟨i + 1, by omega, by go_num, by omega, by (repeat (first | (with_reducible exact Below.refl _ _) | (with_reducible refine Ext.drewN ?_ _) | (with_reducible refine Below.drew ?_) | (with_reducible refine Ext.alloc ?_ _) | (with_reducible refine Ext.setCell ?_ (by simp; try omega) _) | (with_reducible refine Ext.trans ?_ (by assumption)) | (with_reducible assumption) | exact Below.refl _ _)), HZ.out.below bw2, fun k hk => by
            by_cases e : k = i
            · subst e; exact ho
            · exact HON.out k (by omega)⟩
          case measure => simp [intOf]; omega
      · have q1 : ¬ (i : Int) < (len : Int) := by omega
        obtain rfl : i = len := by omega
        go_wp2_with fail
        go_call (l02Box_any m i cap P Q R S _ hlen h1.1 (hR.ext hW)) as e w3 ⟨rfl, bw3⟩
        obtain ⟨sw3, zw3, cw3, fw3⟩ := bcell bw3
        try simp only [World.size_alloc, World.size_setCell, World.size_drew] at sw3
        try have lw3_w_0 : w.heap.size < w3.heap.size := by omega
        try have lw3_w_1 : w.heap.size + 1 < w3.heap.size := by omega
        try have lw3_w_2 : w.heap.size + 1 + 1 < w3.heap.size := by omega
        try have lw3_w_3 : w.heap.size + 1 + 1 + 1 < w3.heap.size := by omega
        try have lw3_w_4 : w.heap.size + 1 + 1 + 1 + 1 < w3.heap.size := by omega
        try have lw3_w_5 : w.heap.size + 1 + 1 + 1 + 1 + 1 < w3.heap.size := by omega
        try have lw3_w_6 : w.heap.size + 1 + 1 + 1 + 1 + 1 + 1 < w3.heap.size := by omega
        try have lw3_wr_0 : wr.heap.size < w3.heap.size := by omega
        try have lw3_wr_1 : wr.heap.size + 1 < w3.heap.size := by omega
        try have lw3_wr_2 : wr.heap.size + 1 + 1 < w3.heap.size := by omega
        try have lw3_wr_3 : wr.heap.size + 1 + 1 + 1 < w3.heap.size := by omega
        try have lw3_wr_4 : wr.heap.size + 1 + 1 + 1 + 1 < w3.heap.size := by omega
        try have lw3_wr_5 : wr.heap.size + 1 + 1 + 1 + 1 + 1 < w3.heap.size := by omega
        try have lw3_wr_6 : wr.heap.size + 1 + 1 + 1 + 1 + 1 + 1 < w3.heap.size := by omega
        go_wp2_with fail
        refine bodyPost_ret (v := .tuple #[.agg #[.int .i64 (mn (sh P) (P 0) (i - 1)), .int .i64 (mn (sh Q) (Q 0) (i - 1)), .int .i64 (mx (sh R) (R 0) (i - 1)), .int .i64 (mx (sh S) (S 0) (i - 1))], .bool true]) (by simp [*, results, Tryd.results32, go_sem]) rfl ⟨congrArg Ending.returned (bbV_yes (by simp [bbB, h1, allV_t HON.out])).symm, ?_⟩
        (repeat (first | (with_reducible exact Below.refl _ _) | (with_reducible refine Ext.drewN ?_ _) | (with_reducible refine Below.drew ?_) | (with_reducible refine Ext.alloc ?_ _) | (with_reducible refine Ext.setCell ?_ (by simp; try omega) _) | (with_reducible refine Ext.trans ?_ (by assumption)) | (with_reducible assumption) | exact Below.refl _ _))

def rd (w : World) (g j : Nat) : Value := (w.cell? ⟨g, j, none⟩).getD (.bool false)
theorem rd_of {w : World} {g j : Nat} {v : Value} (h : w.cell? ⟨g, j, none⟩ = some v) : w.cell? ⟨g, j, none⟩ = some (rd w g j) := by
  unfold rd; rw [h]; rfl
theorem rdB {w w' : World} {g j : Nat} (h : w.cell? ⟨g, j, none⟩ = some (rd w g j)) (hb : Below w.heap.size w w') : w'.cell? ⟨g, j, none⟩ = some (rd w' g j) := rd_of (keepC hb h)
theorem rdS {w : World} {g j : Nat} (h : w.cell? ⟨g, j, none⟩ = some (rd w g j)) (p : Addr) (u : Value) : (w.setCell p u).cell? ⟨g, j, none⟩ = some (rd (w.setCell p u) g j) := by
  by_cases e : p = ⟨g, j, none⟩
  · subst e
    exact rd_of (World.cell?_setCell_same _ _ _ h)
  · exact rd_of (v := rd w g j) (by rw [World.cell?_setCell_other _ _ _ _ (by first | exact e | exact Ne.symm e)]; exact h)
theorem keepF {w1 w2 : World} {b o : Nat} (hb : Below w1.heap.size w1 w2) (hl : b < w1.heap.size) (h : w1.frozen? ⟨b, o, none⟩ = false) : w2.frozen? ⟨b, o, none⟩ = false :=
  (hb.frozen (p := ⟨b, o, none⟩) hl).trans h
theorem RectsIs.tail {B : Nat} {w : World} {b off len : Nat} {P Q R S : Nat → Int} (h : RectsIs B w (some ⟨b, off, none⟩) len P Q R S) : RectsIs B w (some ⟨b, off + 4, none⟩) (len - 1) (sh P) (sh Q) (sh R) (sh S) := fun i hi => by
  obtain ⟨b1, o1, h1, h2, h3, h4, h5, h6⟩ := h (i + 1) (by omega)
  obtain ⟨rfl, rfl⟩ : b = b1 ∧ off = o1 := by simpa using h1
  refine ⟨b, off + 4, rfl, h2, ?_, ?_, ?_, ?_⟩
  · rw [show off + 4 + i * 4 = off + (i + 1) * 4 by omega]; exact h3
  · rw [show off + 4 + i * 4 = off + (i + 1) * 4 by omega]; exact h4
  · rw [show off + 4 + i * 4 = off + (i + 1) * 4 by omega]; exact h5
  · rw [show off + 4 + i * 4 = off + (i + 1) * 4 by omega]; exact h6

end Go.Proofs.YtdcddneanbplpaaDoor
