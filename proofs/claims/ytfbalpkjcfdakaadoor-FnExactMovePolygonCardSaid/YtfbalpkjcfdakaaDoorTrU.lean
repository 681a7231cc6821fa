/- Slices of points: copied into the program's type, compared, measured. Conditions: the elements' cells are in memory. -/
import Derived.Test.YtfbalpkjcfdakaaDoorQR
import Derived.Laws.OwnMore
namespace Go.Proofs.YtfbalpkjcfdakaaDoor
open Go.RowKit
set_option linter.unusedVariables false
set_option linter.unusedSimpArgs false
attribute [local go_sem ↓] Go.wp_at_zero Go.wp_at_succ

/-- The slice's elements are the points (X i, Y i), below block B. -/
def PtsIs (B : Nat) (w : World) (a : Option Addr) (len : Nat) (X Y : Nat → Int) : Prop :=
  ∀ i, i < len → ∃ b off : Nat, a = some ⟨b, off, none⟩ ∧ b < B ∧ w.cell? ⟨b, off + i * 2, none⟩ = some (.int .i64 (X i)) ∧ w.cell? ⟨b, off + i * 2 + 1, none⟩ = some (.int .i64 (Y i))
theorem PtsIs.below {B : Nat} {w w' : World} {a : Option Addr} {len : Nat} {X Y : Nat → Int} (h : PtsIs B w a len X Y) (hb : Below B w w') : PtsIs B w' a len X Y := fun i hi => by
  obtain ⟨b, off, h1, h2, h3, h4⟩ := h i hi
  exact ⟨b, off, h1, h2, (hb.cell (p := ⟨b, off + i * 2, none⟩) h2).trans h3, (hb.cell (p := ⟨b, off + i * 2 + 1, none⟩) h2).trans h4⟩
theorem PtsIs.ext {w w' : World} {a : Option Addr} {len : Nat} {X Y : Nat → Int} (h : PtsIs w.heap.size w a len X Y) (hb : Below w.heap.size w w') : PtsIs w'.heap.size w' a len X Y := fun i hi => by
  obtain ⟨b, off, h1, h2, h3, h4⟩ := h.below hb i hi
  exact ⟨b, off, h1, Nat.lt_of_lt_of_le h2 hb.size, h3, h4⟩

/-- The first i points of a new row at block g have been filled in; the others are zero. -/
def Filling (g len i : Nat) (w : World) (X Y : Nat → Int) : Prop :=
  ∀ k, k < len → w.cell? ⟨g, k * 2, none⟩ = some (.int .i64 (if k < i then X k else 0)) ∧ w.cell? ⟨g, k * 2 + 1, none⟩ = some (.int .i64 (if k < i then Y k else 0)) ∧ w.frozen? ⟨g, k * 2, none⟩ = false ∧ w.frozen? ⟨g, k * 2 + 1, none⟩ = false
theorem Filling.step {g len i : Nat} {w : World} {X Y : Nat → Int} (h : Filling g len i w X Y) (hi : i < len) : Filling g len (i + 1) ((w.setCell ⟨g, i * 2, none⟩ (.int .i64 (X i))).setCell ⟨g, i * 2 + 1, none⟩ (.int .i64 (Y i))) X Y := by
  intro k hk
  obtain ⟨c0, c1, f0, f1⟩ := h k hk
  refine ⟨?_, ?_, by simpa using f0, by simpa using f1⟩
  · rw [World.cell?_setCell_other _ _ _ _ (by simp <;> omega)]
    by_cases e : k = i
    · subst e
      rw [if_pos (by omega)]
      exact World.cell?_setCell_same _ _ _ c0
    · rw [World.cell?_setCell_other _ _ _ _ (by simp <;> omega), c0]
      by_cases q : k < i
      · rw [if_pos q, if_pos (by omega)]
      · rw [if_neg q, if_neg (by omega)]
  · by_cases e : k = i
    · subst e
      rw [if_pos (by omega)]
      exact World.cell?_setCell_same _ _ _ (by rw [World.cell?_setCell_other _ _ _ _ (by simp)]; exact c1)
    · rw [World.cell?_setCell_other _ _ _ _ (by simp <;> omega), World.cell?_setCell_other _ _ _ _ (by simp <;> omega), c1]
      by_cases q : k < i
      · rw [if_pos q, if_pos (by omega)]
      · rw [if_neg q, if_neg (by omega)]
theorem Filling.below {g len i : Nat} {w w' : World} {X Y : Nat → Int} (h : Filling g len i w X Y) (hb : Below w.heap.size w w') (hg : g < w.heap.size) : Filling g len i w' X Y := fun k hk => by
  obtain ⟨c0, c1, f0, f1⟩ := h k hk
  exact ⟨keepC hb c0, keepC hb c1, (hb.frozen (p := ⟨g, k * 2, none⟩) hg).trans f0, (hb.frozen (p := ⟨g, k * 2 + 1, none⟩) hg).trans f1⟩

theorem szPointS_any (a : Option Addr) (len cap : Nat) (l : Int) (w : World) (h0 : 0 ≤ l) (h1 : l ≤ 1048576) (hlen : len ≤ maxLen) : Calls Tryd.prog 10 #[.slice a len cap, .int .i64 l] w fun e w' => e = .returned (.int .i64 (if (len : Int) ≤ l then l - len else -1)) ∧ w = w' := by
  unfold maxLen at hlen
  by_cases h : (len : Int) ≤ l
  · rw [if_pos h]
    have h2 : ¬ (l - (len : Int) < 0) := by omega
    go_enter Tryd.func10, Tryd.ntmps10
    go_wp2
    go_ret
    exact ⟨rfl, rfl⟩
  · rw [if_neg h]
    have h2 : l - (len : Int) < 0 := by omega
    go_enter Tryd.func10, Tryd.ntmps10
    go_wp2
    go_ret
    exact ⟨rfl, rfl⟩

/-- What copying a slice of points gives: a new row with the same points. -/
def Copied (w : World) (len : Nat) (X Y : Nat → Int) (e : Ending) (w' : World) : Prop :=
  ∃ g : Nat, w.heap.size ≤ g ∧ g < w'.heap.size ∧ e = .returned (.slice (some ⟨g, 0, none⟩) len len) ∧ Below w.heap.size w w' ∧ PtsIs w'.heap.size w' (some ⟨g, 0, none⟩) len X Y

theorem made2 (n j : Nat) (h : j < n) : (madeCells (Value.agg #[.int .i64 0, .int .i64 0]).cells n).toList[j]? = some (.int .i64 0) := by
  have e : (Value.agg #[.int .i64 0, .int .i64 0]).cells = #[.int .i64 0, .int .i64 0] := rfl
  rw [e]
  simp only [madeCells, Array.getElem?_toList, Array.getElem?_map]
  rw [Array.getElem?_eq_getElem (by simpa using h)]
  simp only [Option.map_some, Array.getElem_range]
  rcases Nat.mod_two_eq_zero_or_one j with q | q <;> simp [q]
theorem A.infoP : (Tryd.prog.info? 66).map (fun i => (i.zero, i.size, i.bytes)) = some (some (.agg #[.int .i64 0, .int .i64 0]), 2, 16) := by kernel_rfl

set_option maxHeartbeats 4000000 in
theorem toPointS_any (a : Option Addr) (len cap : Nat) (X Y : Nat → Int) (w : World) (hlen : len ≤ 1048576) (hP : PtsIs w.heap.size w a len X Y) :
    Calls Tryd.prog 13 #[.slice a len cap] w (Copied w len X Y) := by
  obtain ⟨i0, hi, hz0, hz1, hz2⟩ := info_parts A.infoP
  go_enter Tryd.func13, Tryd.ntmps13
  go_wp2_with (at_make; refine wpList_make_full _ rfl _ _ 26 rfl w.heap.size 66 i0 (.agg #[.int .i64 0, .int .i64 0]) 2 Tryd.underlying26 hi hz0 hz1 .i64 .i64 len len len rfl rfl rfl rfl (by rw [hz2]; omega) (by unfold maxLen; omega) (Nat.le_refl _) ?_; intro w1 own1 grow1)
  have hB1 : Below w.heap.size w w1 := (Below.refl _ _).grown grow1 (Nat.le_refl _) (fun k hk => by cases hk)
  have hlt1 := (own1.lt w.heap.size rfl).2
  have hF1 : Filling w.heap.size len 0 w1 X Y := fun k hk => by
    refine ⟨?_, ?_, own1.frozenAt _, own1.frozenAt _⟩
    · rw [own1.cellAt _ (by omega)]
      exact made2 _ _ (by omega)
    · rw [own1.cellAt _ (by omega)]
      exact made2 _ _ (by omega)
  clear own1 grow1 hi hz0 hz1 hz2
  go_loopw [4] (fun s4 wr => ∃ i : Nat, i ≤ len ∧ s4 = .int .i64 i ∧ w.heap.size < wr.heap.size ∧ Below w.heap.size w wr ∧ Filling w.heap.size len i wr X Y) (fun s4 _ => len - (intOf s4).toNat)
  case atStart => exact ⟨0, by omega, rfl, hlt1, hB1, hF1⟩
  case round =>
    obtain ⟨i, hi, rfl, hsz, hW, hF⟩ := hrel
    clear hF1 hB1 hlt1
    by_cases hlt : i < len
    · obtain ⟨b, off, rfl, hb, cx, cy⟩ := hP i hlt
      have dx : wr.cell? ⟨b, off + i * 2, none⟩ = some (.int .i64 (X i)) := (hW.cell (p := ⟨b, off + i * 2, none⟩) hb).trans cx
      have dy : wr.cell? ⟨b, off + i * 2 + 1, none⟩ = some (.int .i64 (Y i)) := (hW.cell (p := ⟨b, off + i * 2 + 1, none⟩) hb).trans cy
      have q1 : (i : Int) < (len : Int) := by omega
      have q0 : (0 : Int) ≤ (i : Int) := by omega
      go_wp2_with fail
      refine (toPoint_any _ _ _).mono ?_
      rintro e w2 ⟨rfl, bw2⟩
      have hF2 := hF.below bw2 hsz
      have hs2 := bw2.size
      obtain ⟨c0, c1, f0, f1⟩ := hF2 i hlt
      have HF := hF2.step hlt
      go_wp2_with fail
      go_roundw
      case rel => exact ⟨i + 1, by omega, by go_num, by simp; omega, by (repeat (first | (with_reducible exact Below.refl _ _) | (with_reducible refine Ext.drewN ?_ _) | (with_reducible refine Below.drew ?_) | (with_reducible refine Ext.alloc ?_ _) | (with_reducible refine Ext.setCell ?_ (by simp; try omega) _) | (with_reducible refine Ext.trans ?_ (by assumption)) | (with_reducible assumption) | exact Below.refl _ _)), HF⟩
      case measure => simp [intOf]; omega
    · have q1 : ¬ (i : Int) < (len : Int) := by omega
      obtain rfl : i = len := by omega
      go_wp2_with fail
      go_ret
      exact ⟨w.heap.size, Nat.le_refl _, hsz, rfl, hW, fun k hk => by
        obtain ⟨c0, c1, f0, f1⟩ := hF k hk
        rw [if_pos hk] at c0 c1
        exact ⟨w.heap.size, 0, rfl, hsz, by simpa using c0, by simpa using c1⟩⟩

/-- Two slices of the same points are equal. -/
theorem eqPointS_any (a b : Option Addr) (len c1 c2 : Nat) (X Y : Nat → Int) (w : World) (hlen : len ≤ 1048576) (hP : PtsIs w.heap.size w a len X Y) (hQ : PtsIs w.heap.size w b len X Y) :
    Calls Tryd.prog 15 #[.slice a len c1, .slice b len c2] w fun e w' => e = .returned (.bool true) ∧ Below w.heap.size w w' := by
  go_enter Tryd.func15, Tryd.ntmps15
  go_wp2_with fail
  go_loopw [5] (fun s5 wr => ∃ i : Nat, i ≤ len ∧ s5 = .int .i64 i ∧ Below w.heap.size w wr) (fun s5 _ => len - (intOf s5).toNat)
  case atStart => exact ⟨0, by omega, rfl, Below.refl _ _⟩
  case round =>
    obtain ⟨i, hi, rfl, hW⟩ := hrel
    by_cases hlt : i < len
    · obtain ⟨b1, o1, rfl, hb1, cx, cy⟩ := hP.below hW i hlt
      obtain ⟨b2, o2, rfl, hb2, dx, dy⟩ := hQ.below hW i hlt
      have q1 : (i : Int) < (len : Int) := by omega
      have q0 : (0 : Int) ≤ (i : Int) := by omega
      have he : eqPB (X i) (Y i) (X i) (Y i) = true := by simp [eqPB]
      go_wp2_with fail
      go_region_held3 (fun w' => w'.cell? ⟨b1, o1 + i * 2, none⟩ = some (.int .i64 (X i)) ∧ w'.cell? ⟨b1, o1 + i * 2 + 1, none⟩ = some (.int .i64 (Y i)) ∧ w'.cell? ⟨b2, o2 + i * 2, none⟩ = some (.int .i64 (X i)) ∧ w'.cell? ⟨b2, o2 + i * 2 + 1, none⟩ = some (.int .i64 (Y i)))
        (first | ((try dsimp only); go_split_ands; (repeat' (with_reducible refine And.intro ?_ ?_)) <;> first | (with_reducible assumption) | (with_reducible exact keepC (by assumption) (by assumption)) | (go_keep; done)))
        (first | (go_at_call 59; refine (eqPoint_any _ _ _ _ _).mono ?_; rintro e w2 ⟨rfl, bw2⟩))
      go_wp2_with fail
      go_roundw
      case rel => exact ⟨i + 1, by omega, by go_num, by (repeat (first | (with_reducible exact Below.refl _ _) | (with_reducible refine Ext.drewN ?_ _) | (with_reducible refine Below.drew ?_) | (with_reducible refine Ext.alloc ?_ _) | (with_reducible refine Ext.setCell ?_ (by simp; try omega) _) | (with_reducible refine Ext.trans ?_ (by assumption)) | (with_reducible assumption) | exact Below.refl _ _))⟩
      case measure => simp [intOf]; omega
    · have q1 : ¬ (i : Int) < (len : Int) := by omega
      go_wp2_with fail
      go_ret
      exact ⟨rfl, hW⟩

def allOn (X Y : Nat → Int) (len : Nat) : Bool := (List.range len).all fun i => onB (X i) (Y i)
theorem allOn_f {X Y : Nat → Int} {len i : Nat} (h : i < len) (hf : onB (X i) (Y i) = false) : allOn X Y len = false := by
  unfold allOn
  rw [List.all_eq_false]
  exact ⟨i, List.mem_range.2 h, by simp [hf]⟩
theorem allOn_t {X Y : Nat → Int} {len : Nat} (h : ∀ i, i < len → onB (X i) (Y i) = true) : allOn X Y len = true := by
  unfold allOn
  rw [List.all_eq_true]
  exact fun i hi => h i (List.mem_range.1 hi)
theorem allOn_at {X Y : Nat → Int} {len i : Nat} (h : allOn X Y len = true) (hi : i < len) : onB (X i) (Y i) = true := by
  unfold allOn at h
  exact List.all_eq_true.1 h i (List.mem_range.2 hi)

theorem areOnChip_any (a : Option Addr) (len cap : Nat) (X Y : Nat → Int) (w : World) (hlen : len ≤ 1048576) (hP : PtsIs w.heap.size w a len X Y) :
    Calls Tryd.prog 56 #[.slice a len cap] w fun e w' => e = .returned (.bool (allOn X Y len)) ∧ Below w.heap.size w w' := by
  go_enter Tryd.func56, Tryd.ntmps56
  go_wp2_with fail
  go_loopw [7] (fun s5 wr => ∃ i : Nat, i ≤ len ∧ s5 = .int .i64 i ∧ Below w.heap.size w wr ∧ ∀ k, k < i → onB (X k) (Y k) = true) (fun s5 _ => len - (intOf s5).toNat)
  case atStart => exact ⟨0, by omega, rfl, Below.refl _ _, fun k hk => absurd hk (by omega)⟩
  case round =>
    obtain ⟨i, hi, rfl, hW, hon⟩ := hrel
    have HON := Lib.hid hon
    clear hon
    by_cases hlt : i < len
    · obtain ⟨b1, o1, rfl, hb1, cx, cy⟩ := hP.below hW i hlt
      have q1 : (i : Int) < (len : Int) := by omega
      have q0 : (0 : Int) ≤ (i : Int) := by omega
      go_wp2_with fail
      refine (isOnChip_any _ _ _).mono ?_
      rintro e w2 ⟨rfl, bw2⟩
      cases ho : onB (X i) (Y i) with
      | false =>
        go_wp2_with fail
        go_ret
        exact ⟨ret_bool (allOn_f hlt ho).symm, by (repeat (first | (with_reducible exact Below.refl _ _) | (with_reducible refine Ext.drewN ?_ _) | (with_reducible refine Below.drew ?_) | (with_reducible refine Ext.alloc ?_ _) | (with_reducible refine Ext.setCell ?_ (by simp; try omega) _) | (with_reducible refine Ext.trans ?_ (by assumption)) | (with_reducible assumption) | exact Below.refl _ _))⟩
      | true =>
        go_wp2_with fail
        go_roundw
        case rel => exact ⟨i + 1, by omega, by go_num, by (repeat (first | (with_reducible exact Below.refl _ _) | (with_reducible refine Ext.drewN ?_ _) | (with_reducible refine Below.drew ?_) | (with_reducible refine Ext.alloc ?_ _) | (with_reducible refine Ext.setCell ?_ (by simp; try omega) _) | (with_reducible refine Ext.trans ?_ (by assumption)) | (with_reducible assumption) | exact Below.refl _ _)), fun k hk => by
          by_cases e : k = i
          · subst e; exact ho
          · exact HON.out k (by omega)⟩
        case measure => simp [intOf]; omega
    · have q1 : ¬ (i : Int) < (len : Int) := by omega
      obtain rfl : i = len := by omega
      go_wp2_with fail
      go_ret
      exact ⟨ret_bool (allOn_t HON.out).symm, hW⟩
end Go.Proofs.YtfbalpkjcfdakaaDoor
