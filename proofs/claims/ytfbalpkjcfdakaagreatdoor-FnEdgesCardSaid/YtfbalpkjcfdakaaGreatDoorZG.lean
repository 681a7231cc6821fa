/- Slices of points: copied into the program's type, compared, measured. Conditions: the elements' cells are in memory. -/
import Derived.Test.YtfbalpkjcfdakaaGreatDoorQR
import Derived.Laws.OwnMore
import Derived.Test.YtfbalpkjcfdakaaGreatDoorZF
import Derived.Test.YtfbalpkjcfdakaaGreatDoorQA
import Derived.Test.YtfbalpkjcfdakaaGreatDoorQB
import Derived.Laws.AppendOwn
import Derived.Deep.AppendLies
import Derived.Deep.RegionLaw
import Derived.Laws.Rows
import Derived.OwnWalk
namespace Go.Proofs.YtfbalpkjcfdakaaGreatDoor
open Go.RowKit
set_option linter.unusedVariables false
set_option linter.unusedSimpArgs false
attribute [local go_sem ↓] Go.wp_at_zero Go.wp_at_succ

/-- The slice's elements are the points (X i, Y i), below block B. -/
def PtsIs (B : Nat) (w : World) (a : Option Addr) (len : Nat) (X Y : Nat → Int) : Prop :=
  ∀ i, i < len → ∃ b off : Nat, a = some ⟨b, off, none⟩ ∧ b < B ∧ w.cell? ⟨b, off + i * 2, none⟩ = some (.int .i64 (X i)) ∧ w.cell? ⟨b, off + i * 2 + 1, none⟩ = some (.int .i64 (Y i))
theorem PtsIs.below {B : Nat} {w w' : World} {a : Option Addr} {len : Nat} {X Y : Nat → Int} (h : PtsIs B w a len X Y) (hb : Below B w w') : PtsIs B w' a len X Y := fun i hi => by
  obtain ⟨b, off, h1, h2, h3, h4⟩ := h i hi
  exact ⟨b, off, h1, h2, (hb.cell (p := ⟨b, off + i * 2, none⟩) h2).trans h3, (hb.cell (p := ⟨b, off + i * 2 + 1, none⟩) h2).trans h4⟩
theorem PtsIs.ext {w w' : World} {a : Option Addr} {len : Nat} {X Y : Nat → Int} (h : PtsIs w.heap.size w a len X Y) (hb : Below w.heap.size w w') : PtsIs w'.heap.size w' a len X Y := fun i hi => by
  obtain ⟨b, off, h1, h2, h3, h4⟩ := h.below hb i hi
  exact ⟨b, off, h1, Nat.lt_of_lt_of_le h2 hb.size, h3, h4⟩

/-- The first i points of a new row at block g have been filled in; the others are zero. -/
def Filling (g len i : Nat) (w : World) (X Y : Nat → Int) : Prop :=
  ∀ k, k < len → w.cell? ⟨g, k * 2, none⟩ = some (.int .i64 (if k < i then X k else 0)) ∧ w.cell? ⟨g, k * 2 + 1, none⟩ = some (.int .i64 (if k < i then Y k else 0)) ∧ w.frozen? ⟨g, k * 2, none⟩ = false ∧ w.frozen? ⟨g, k * 2 + 1, none⟩ = false
theorem Filling.step {g len i : Nat} {w : World} {X Y : Nat → Int} (h : Filling g len i w X Y) (hi : i < len) : Filling g len (i + 1) ((w.setCell ⟨g, i * 2, none⟩ (.int .i64 (X i))).setCell ⟨g, i * 2 + 1, none⟩ (.int .i64 (Y i))) X Y := by
  intro k hk
  obtain ⟨c0, c1, f0, f1⟩ := h k hk
  refine ⟨?_, ?_, by simpa using f0, by simpa using f1⟩
  · rw [World.cell?_setCell_other _ _ _ _ (by simp <;> omega)]
    by_cases e : k = i
    · subst e
      rw [if_pos (by omega)]
      exact World.cell?_setCell_same _ _ _ c0
    · rw [World.cell?_setCell_other _ _ _ _ (by simp <;> omega), c0]
      by_cases q : k < i
      · rw [if_pos q, if_pos (by omega)]
      · rw [if_neg q, if_neg (by omega)]
  · by_cases e : k = i
    · subst e
      rw [if_pos (by omega)]
      exact World.cell?_setCell_same _ _ _ (by rw [World.cell?_setCell_other _ _ _ _ (by simp)]; exact c1)
    · rw [World.cell?_setCell_other _ _ _ _ (by simp <;> omega), World.cell?_setCell_other _ _ _ _ (by simp <;> omega), c1]
      by_cases q : k < i
      · rw [if_pos q, if_pos (by omega)]
      · rw [if_neg q, if_neg (by omega)]
theorem Filling.below {g len i : Nat} {w w' : World} {X Y : Nat → Int} (h : Filling g len i w X Y) (hb : Below w.heap.size w w') (hg : g < w.heap.size) : Filling g len i w' X Y := fun k hk => by
  obtain ⟨c0, c1, f0, f1⟩ := h k hk
  exact ⟨keepC hb c0, keepC hb c1, (hb.frozen (p := ⟨g, k * 2, none⟩) hg).trans f0, (hb.frozen (p := ⟨g, k * 2 + 1, none⟩) hg).trans f1⟩

/-- What copying a slice of points gives: a new row with the same points. -/
def Copied (w : World) (len : Nat) (X Y : Nat → Int) (e : Ending) (w' : World) : Prop :=
  ∃ g : Nat, w.heap.size ≤ g ∧ g < w'.heap.size ∧ e = .returned (.slice (some ⟨g, 0, none⟩) len len) ∧ Below w.heap.size w w' ∧ PtsIs w'.heap.size w' (some ⟨g, 0, none⟩) len X Y

theorem made2 (n j : Nat) (h : j < n) : (madeCells (Value.agg #[.int .i64 0, .int .i64 0]).cells n).toList[j]? = some (.int .i64 0) := by
  have e : (Value.agg #[.int .i64 0, .int .i64 0]).cells = #[.int .i64 0, .int .i64 0] := rfl
  rw [e]
  simp only [madeCells, Array.getElem?_toList, Array.getElem?_map]
  rw [Array.getElem?_eq_getElem (by simpa using h)]
  simp only [Option.map_some, Array.getElem_range]
  rcases Nat.mod_two_eq_zero_or_one j with q | q <;> simp [q]
theorem A.infoP : (Tryz.prog.info? 107).map (fun i => (i.zero, i.size, i.bytes)) = some (some (.agg #[.int .i64 0, .int .i64 0]), 2, 16) := by kernel_rfl

/-- Two slices of the same points are equal. -/
theorem eqPointS_any (a b : Option Addr) (len c1 c2 : Nat) (X Y : Nat → Int) (w : World) (hlen : len ≤ 1048576) (hP : PtsIs w.heap.size w a len X Y) (hQ : PtsIs w.heap.size w b len X Y) :
    Calls Tryz.prog 51 #[.slice a len c1, .slice b len c2] w fun e w' => e = .returned (.bool true) ∧ Below w.heap.size w w' := by
  go_enter Tryz.func51, Tryz.ntmps51
  go_wp2_with fail
  go_loopw [5] (fun s5 wr => ∃ i : Nat, i ≤ len ∧ s5 = .int .i64 i ∧ Below w.heap.size w wr) (fun s5 _ => len - (intOf s5).toNat)
  case atStart => exact ⟨0, by omega, rfl, Below.refl _ _⟩
  case round =>
    obtain ⟨i, hi, rfl, hW⟩ := hrel
    by_cases hlt : i < len
    · obtain ⟨b1, o1, rfl, hb1, cx, cy⟩ := hP.below hW i hlt
      obtain ⟨b2, o2, rfl, hb2, dx, dy⟩ := hQ.below hW i hlt
      have q1 : (i : Int) < (len : Int) := by omega
      have q0 : (0 : Int) ≤ (i : Int) := by omega
      have he : eqPB (X i) (Y i) (X i) (Y i) = true := by simp [eqPB]
      go_wp2_with fail
      go_region_held3 (fun w' => w'.cell? ⟨b1, o1 + i * 2, none⟩ = some (.int .i64 (X i)) ∧ w'.cell? ⟨b1, o1 + i * 2 + 1, none⟩ = some (.int .i64 (Y i)) ∧ w'.cell? ⟨b2, o2 + i * 2, none⟩ = some (.int .i64 (X i)) ∧ w'.cell? ⟨b2, o2 + i * 2 + 1, none⟩ = some (.int .i64 (Y i)))
        (first | ((try dsimp only); go_split_ands; (repeat' (with_reducible refine And.intro ?_ ?_)) <;> first | (with_reducible assumption) | (with_reducible exact keepC (by assumption) (by assumption)) | (go_keep; done)))
        (first | (go_at_call 102; refine (eqPoint_any _ _ _ _ _).mono ?_; rintro e w2 ⟨rfl, bw2⟩))
      go_wp2_with fail
      go_roundw
      case rel => exact ⟨i + 1, by omega, by go_num, by (repeat (first | (with_reducible exact Below.refl _ _) | (with_reducible refine Ext.drewN ?_ _) | (with_reducible refine Below.drew ?_) | (with_reducible refine Ext.alloc ?_ _) | (with_reducible refine Ext.setCell ?_ (by simp; try omega) _) | (with_reducible refine Ext.trans ?_ (by assumption)) | (with_reducible assumption) | exact Below.refl _ _))⟩
      case measure => simp [intOf]; omega
    · have q1 : ¬ (i : Int) < (len : Int) := by omega
      go_wp2_with fail
      go_ret
      exact ⟨rfl, hW⟩

def allOn (X Y : Nat → Int) (len : Nat) : Bool := (List.range len).all fun i => onB (X i) (Y i)
theorem allOn_f {X Y : Nat → Int} {len i : Nat} (h : i < len) (hf : onB (X i) (Y i) = false) : allOn X Y len = false := by
  unfold allOn
  rw [List.all_eq_false]
  exact ⟨i, List.mem_range.2 h, by simp [hf]⟩
theorem allOn_t {X Y : Nat → Int} {len : Nat} (h : ∀ i, i < len → onB (X i) (Y i) = true) : allOn X Y len = true := by
  unfold allOn
  rw [List.all_eq_true]
  exact fun i hi => h i (List.mem_range.1 hi)
theorem allOn_at {X Y : Nat → Int} {len i : Nat} (h : allOn X Y len = true) (hi : i < len) : onB (X i) (Y i) = true := by
  unfold allOn at h
  exact List.all_eq_true.1 h i (List.mem_range.2 hi)

theorem areOnChip_any (a : Option Addr) (len cap : Nat) (X Y : Nat → Int) (w : World) (hlen : len ≤ 1048576) (hP : PtsIs w.heap.size w a len X Y) :
    Calls Tryz.prog 78 #[.slice a len cap] w fun e w' => e = .returned (.bool (allOn X Y len)) ∧ Below w.heap.size w w' := by
  go_enter Tryz.func78, Tryz.ntmps78
  go_wp2_with fail
  go_loopw [7] (fun s5 wr => ∃ i : Nat, i ≤ len ∧ s5 = .int .i64 i ∧ Below w.heap.size w wr ∧ ∀ k, k < i → onB (X k) (Y k) = true) (fun s5 _ => len - (intOf s5).toNat)
  case atStart => exact ⟨0, by omega, rfl, Below.refl _ _, fun k hk => absurd hk (by omega)⟩
  case round =>
    obtain ⟨i, hi, rfl, hW, hon⟩ := hrel
    have HON := Lib.hid hon
    clear hon
    by_cases hlt : i < len
    · obtain ⟨b1, o1, rfl, hb1, cx, cy⟩ := hP.below hW i hlt
      have q1 : (i : Int) < (len : Int) := by omega
      have q0 : (0 : Int) ≤ (i : Int) := by omega
      go_wp2_with fail
      refine (isOnChip_any _ _ _).mono ?_
      rintro e w2 ⟨rfl, bw2⟩
      cases ho : onB (X i) (Y i) with
      | false =>
        go_wp2_with fail
        go_ret
        exact ⟨ret_bool (allOn_f hlt ho).symm, by (repeat (first | (with_reducible exact Below.refl _ _) | (with_reducible refine Ext.drewN ?_ _) | (with_reducible refine Below.drew ?_) | (with_reducible refine Ext.alloc ?_ _) | (with_reducible refine Ext.setCell ?_ (by simp; try omega) _) | (with_reducible refine Ext.trans ?_ (by assumption)) | (with_reducible assumption) | exact Below.refl _ _))⟩
      | true =>
        go_wp2_with fail
        go_roundw
        case rel => exact ⟨i + 1, by omega, by go_num, by (repeat (first | (with_reducible exact Below.refl _ _) | (with_reducible refine Ext.drewN ?_ _) | (with_reducible refine Below.drew ?_) | (with_reducible refine Ext.alloc ?_ _) | (with_reducible refine Ext.setCell ?_ (by simp; try omega) _) | (with_reducible refine Ext.trans ?_ (by assumption)) | (with_reducible assumption) | exact Below.refl _ _)), fun k hk => by
          by_cases e : k = i
          · subst e; exact ho
          · exact HON.out k (by omega)⟩
        case measure => simp [intOf]; omega
    · have q1 : ¬ (i : Int) < (len : Int) := by omega
      obtain rfl : i = len := by omega
      go_wp2_with fail
      go_ret
      exact ⟨ret_bool (allOn_t HON.out).symm, hW⟩
end Go.Proofs.YtfbalpkjcfdakaaGreatDoor

namespace Go.Proofs.YtfbalpkjcfdakaaGreatDoor
open Go.RowKit
set_option linter.unusedVariables false
set_option linter.unusedSimpArgs false
attribute [local go_sem ↓] Go.wp_at_zero Go.wp_at_succ

theorem tmod_nat (a b : Nat) : ((a : Int)).tmod (b : Int) = ((a % b : Nat) : Int) := by
  rw [Int.tmod_eq_emod_of_nonneg (by omega)]; omega
theorem tmod_add {i n j : Nat} (k : Nat) (h : j = (i + k) % n) : ((i : Int) + (k : Int)).tmod (n : Int) = (j : Int) := by
  have := tmod_nat (i + k) n
  rw [h, ← this]; congr 1
/-- Point i of the slice. -/
theorem PtsIs.at {B : Nat} {w : World} {a : Option Addr} {n : Nat} {X Y : Nat → Int} (h : PtsIs B w a n X Y) {b off : Nat} (ha : a = some ⟨b, off, none⟩) {i : Nat} (hi : i < n) : b < B ∧ w.cell? ⟨b, off + i * 2, none⟩ = some (.int .i64 (X i)) ∧ w.cell? ⟨b, off + i * 2 + 1, none⟩ = some (.int .i64 (Y i)) := by
  obtain ⟨b', off', h1, h2, h3, h4⟩ := h i hi
  rw [ha] at h1
  cases h1
  exact ⟨h2, h3, h4⟩
theorem PtsIs.base {B : Nat} {w : World} {a : Option Addr} {n : Nat} {X Y : Nat → Int} (h : PtsIs B w a n X Y) (hn : 0 < n) : ∃ b off : Nat, a = some ⟨b, off, none⟩ := by
  obtain ⟨b, off, h1, _⟩ := h 0 hn
  exact ⟨b, off, h1⟩

end Go.Proofs.YtfbalpkjcfdakaaGreatDoor

namespace Go.Proofs.YtfbalpkjcfdakaaGreatDoor
open Go.RowKit
set_option linter.unusedVariables false
set_option linter.unusedSimpArgs false
attribute [local go_sem ↓] Go.wp_at_zero Go.wp_at_succ

theorem Tryz.infoE : (Tryz.prog.info? 55).map (fun i => (i.zero, i.size, i.bytes)) = some (some (.agg #[.int .i64 0, .int .i64 0, .int .i64 0, .int .i64 0]), 4, 32) := by kernel_rfl

set_option maxHeartbeats 4000000 in
theorem sidesOf_any (a : Option Addr) (n cap : Nat) (X Y : Nat → Int) (w : World) (hn : n ≤ 1048576) (hP : PtsIs w.heap.size w a n X Y) :
    Calls Tryz.prog 60 #[.slice a n cap] w (CopiedR w n X Y (fun i => X ((i + 1) % n)) (fun i => Y ((i + 1) % n))) := by
  obtain ⟨i0, hi, hz0, hz1, hz2⟩ := info_parts Tryz.infoE
  go_enter Tryz.func60, Tryz.ntmps60
  go_wp2_with (at_make; refine wpList_make_full _ rfl _ _ 47 rfl w.heap.size 55 i0 (.agg #[.int .i64 0, .int .i64 0, .int .i64 0, .int .i64 0]) 4 Tryz.underlying47 hi hz0 hz1 .i64 .i64 n n n rfl rfl rfl rfl (by rw [hz2]; omega) (by unfold maxLen; omega) (Nat.le_refl _) ?_; intro w1 own1 grow1)
  have hB1 : Below w.heap.size w w1 := (Below.refl _ _).grown grow1 (Nat.le_refl _) (fun k hk => by cases hk)
  have hlt1 := (own1.lt w.heap.size rfl).2
  have hF1 : FillR w.heap.size n 0 w1 X Y (fun i => X ((i + 1) % n)) (fun i => Y ((i + 1) % n)) := fun k hk => by
    refine ⟨⟨?_, ?_, ?_, ?_⟩, own1.frozenAt _, own1.frozenAt _, own1.frozenAt _, own1.frozenAt _⟩
    all_goals
      rw [own1.cellAt _ (by omega)]
      exact made4 _ _ (by omega)
  clear own1 grow1 hi hz0 hz1 hz2
  have HF1 := Lib.hid hF1
  have HP := Lib.hid hP
  clear hF1 hP
  go_loopw [11] (fun s wr => ∃ i : Nat, i ≤ n ∧ s = .int .i64 i ∧ w.heap.size < wr.heap.size ∧ Below w.heap.size w wr ∧ Hid (FillR w.heap.size n i wr X Y (fun i => X ((i + 1) % n)) (fun i => Y ((i + 1) % n)))) (fun s _ => n - (intOf s).toNat)
  case atStart => exact ⟨0, by omega, rfl, hlt1, hB1, HF1⟩
  case round =>
    obtain ⟨i, hi, rfl, hsz, hW, HF⟩ := hrel
    clear HF1 hB1 hlt1
    by_cases hlt : i < n
    · obtain ⟨j, hj⟩ : ∃ j, j = (i + 1) % n := ⟨_, rfl⟩
      have hjn : j < n := by rw [hj]; exact Nat.mod_lt _ (by omega)
      have t1 : ((i : Int) + 1).tmod (n : Int) = (j : Int) := tmod_add 1 hj
      have HJ := Lib.hid hj
      clear hj
      obtain ⟨b, off, rfl⟩ := HP.out.base (by omega)
      obtain ⟨hb, cx, cy⟩ := (HP.out.below hW).at rfl hlt
      obtain ⟨_, dx, dy⟩ := (HP.out.below hW).at rfl hjn
      have q1 : (i : Int) < (n : Int) := by omega
      have q0 : (0 : Int) ≤ (i : Int) := by omega
      have q2 : (j : Int) < (n : Int) := by omega
      have q3 : (0 : Int) ≤ (j : Int) := by omega
      have e1 : IntKind.i64.wrap ((i : Int) + 1) = (i : Int) + 1 := by rw [IntKind.wrap_i64]; omega
      have hn0 : ¬ n = 0 := by omega
      have hn0' : ¬ (n : Int) = 0 := by omega
      have e2 : IntKind.i64.wrap (j : Int) = (j : Int) := by rw [IntKind.wrap_i64]; omega
      have hW0 : Below wr.heap.size wr (wr.alloc (.cells #[.int .i64 (X i), .int .i64 (Y i)] 107)) := by (repeat (first | (with_reducible exact Below.refl _ _) | (with_reducible refine Ext.drewN ?_ _) | (with_reducible refine Below.drew ?_) | (with_reducible refine Ext.alloc ?_ _) | (with_reducible refine Ext.setCell ?_ (by simp; try omega) _) | (with_reducible refine Ext.trans ?_ (by assumption)) | (with_reducible assumption) | exact Below.refl _ _))
      go_wp2_with fail
      have hbw := Nat.lt_of_lt_of_le hb hW.size
      have HF0 := Lib.hid (HF.out.below hW0.drew hsz)
      go_region_with (go_at_call 109; refine (edgeBetween_any _ _ _ _ _).mono ?_; rintro e v1 ⟨rfl, bv1⟩; have hF2 := HF0.out.below bv1 (by simp <;> omega); obtain ⟨⟨d0, d1, d2, d3⟩, f0, f1, f2, f3⟩ := hF2 i hlt)
      all_goals
        have HF3 := hF2.step hlt
        simp only [← HJ.out] at HF3
        have hW2 : Below w.heap.size w v1 := hW.trans ((hW0.drew.trans (bv1.mono (by simp))).mono hW.size)
        have hs1 := hW2.size
        have hsv := bv1.size
        simp at hsv
        go_wp2_with fail
        go_roundw
        case rel => exact ⟨i + 1, by omega, by go_num, by simp; omega, by (repeat (first | (with_reducible exact Below.refl _ _) | (with_reducible refine Ext.drewN ?_ _) | (with_reducible refine Below.drew ?_) | (with_reducible refine Ext.alloc ?_ _) | (with_reducible refine Ext.setCell ?_ (by simp; try omega) _) | (with_reducible refine Ext.trans ?_ (by assumption)) | (with_reducible assumption) | exact Below.refl _ _)), Lib.hid HF3⟩
        case measure => simp [intOf]; omega
    · have q1 : ¬ (i : Int) < (n : Int) := by omega
      obtain rfl : i = n := by omega
      go_wp2_with fail
      go_ret
      exact ⟨w.heap.size, Nat.le_refl _, hsz, rfl, hW, fun k hk => by
        obtain ⟨⟨c0, c1, c2, c3⟩, f0, f1, f2, f3⟩ := HF.out k hk
        rw [if_pos hk] at c0 c1 c2 c3
        exact ⟨w.heap.size, 0, rfl, hsz, by simpa using c0, by simpa using c1, by simpa using c2, by simpa using c3⟩⟩
end Go.Proofs.YtfbalpkjcfdakaaGreatDoor

namespace Go.Proofs.YtfbalpkjcfdakaaGreatDoor
open Go.RowKit
set_option linter.unusedVariables false
set_option linter.unusedSimpArgs false
attribute [local go_sem ↓] Go.wp_at_zero Go.wp_at_succ

theorem upright_any (a b c d : Int) (w : World) : Calls Tryz.prog 139 #[.agg #[.int .i64 a, .int .i64 b, .int .i64 c, .int .i64 d]] w fun e w' => e = .returned (.bool (decide (a = c))) ∧ Below w.heap.size w w' := by
  by_cases h : a = c
  · subst h
    go_enter Tryz.func139, Tryz.ntmps139
    go_wp2_with fail
    first | go_ret | (refine bodyPost_ret (v := .bool true) (by simp [*, results, Tryz.results139, go_sem]) rfl ?_)
    exact ⟨by simp, by (repeat (first | (with_reducible exact Below.refl _ _) | (with_reducible refine Ext.drewN ?_ _) | (with_reducible refine Below.drew ?_) | (with_reducible refine Ext.alloc ?_ _) | (with_reducible refine Ext.setCell ?_ (by simp; try omega) _) | (with_reducible refine Ext.trans ?_ (by assumption)) | (with_reducible assumption) | exact Below.refl _ _))⟩
  · go_enter Tryz.func139, Tryz.ntmps139
    go_wp2_with fail
    first | go_ret | (refine bodyPost_ret (v := .bool false) (by simp [*, results, Tryz.results139, go_sem]) rfl ?_)
    exact ⟨by simp [h], by (repeat (first | (with_reducible exact Below.refl _ _) | (with_reducible refine Ext.drewN ?_ _) | (with_reducible refine Below.drew ?_) | (with_reducible refine Ext.alloc ?_ _) | (with_reducible refine Ext.setCell ?_ (by simp; try omega) _) | (with_reducible refine Ext.trans ?_ (by assumption)) | (with_reducible assumption) | exact Below.refl _ _))⟩

theorem RectsIs.at {B : Nat} {w : World} {a : Option Addr} {n : Nat} {P Q R S : Nat → Int} (h : RectsIs B w a n P Q R S) {b off : Nat} (ha : a = some ⟨b, off, none⟩) {i : Nat} (hi : i < n) : b < B ∧ w.cell? ⟨b, off + i * 4, none⟩ = some (.int .i64 (P i)) ∧ w.cell? ⟨b, off + i * 4 + 1, none⟩ = some (.int .i64 (Q i)) ∧ w.cell? ⟨b, off + i * 4 + 2, none⟩ = some (.int .i64 (R i)) ∧ w.cell? ⟨b, off + i * 4 + 3, none⟩ = some (.int .i64 (S i)) := by
  obtain ⟨b', off', h1, h2, h3⟩ := h i hi
  rw [ha] at h1
  cases h1
  exact ⟨h2, h3⟩

/-- An edge in a block of its own, which may be written. -/
def Row4 (w : World) (g : Nat) (a b c d : Int) : Prop := (w.cell? ⟨g, 0, none⟩ = some (.int .i64 a) ∧ w.cell? ⟨g, 1, none⟩ = some (.int .i64 b) ∧ w.cell? ⟨g, 2, none⟩ = some (.int .i64 c) ∧ w.cell? ⟨g, 3, none⟩ = some (.int .i64 d)) ∧ w.frozen? ⟨g, 0, none⟩ = false ∧ w.frozen? ⟨g, 1, none⟩ = false ∧ w.frozen? ⟨g, 2, none⟩ = false ∧ w.frozen? ⟨g, 3, none⟩ = false
theorem Row4.below {w w' : World} {g B : Nat} {a b c d : Int} (h : Row4 w g a b c d) (hb : Below B w w') (hg : g < B) : Row4 w' g a b c d := by
  obtain ⟨⟨c0, c1, c2, c3⟩, f0, f1, f2, f3⟩ := h
  exact ⟨⟨(hb.cell (p := ⟨g, 0, none⟩) hg).trans c0, (hb.cell (p := ⟨g, 1, none⟩) hg).trans c1, (hb.cell (p := ⟨g, 2, none⟩) hg).trans c2, (hb.cell (p := ⟨g, 3, none⟩) hg).trans c3⟩, (hb.frozen (p := ⟨g, 0, none⟩) hg).trans f0, (hb.frozen (p := ⟨g, 1, none⟩) hg).trans f1, (hb.frozen (p := ⟨g, 2, none⟩) hg).trans f2, (hb.frozen (p := ⟨g, 3, none⟩) hg).trans f3⟩
theorem Row4.set {w : World} {g : Nat} {a b c d : Int} (h : Row4 w g a b c d) (p q r s : Int) : Row4 ((((w.setCell ⟨g, 0, none⟩ (.int .i64 p)).setCell ⟨g, 1, none⟩ (.int .i64 q)).setCell ⟨g, 2, none⟩ (.int .i64 r)).setCell ⟨g, 3, none⟩ (.int .i64 s)) g p q r s := by
  obtain ⟨⟨c0, c1, c2, c3⟩, f0, f1, f2, f3⟩ := h
  have hr : RectAt w g a b c d := ⟨c0, c1, c2, c3, f0, f1, f2, f3⟩
  obtain ⟨d0, d1, d2, d3, g0, g1, g2, g3⟩ := hr.set p q r s
  exact ⟨⟨d0, d1, d2, d3⟩, g0, g1, g2, g3⟩
set_option maxHeartbeats 4000000 in
theorem alternate_any (b off n cap : Nat) (P Q R S : Nat → Int) (w : World) (hn : n ≤ 1048576) (h0 : 0 < n) (hR : RectsIs w.heap.size w (some ⟨b, off, none⟩) n P Q R S) :
    Calls Tryz.prog 106 #[.slice (some ⟨b, off, none⟩) n cap] w fun e w' => e = .returned (.bool (altsB P Q R S n)) ∧ Below w.heap.size w w' := by
  obtain ⟨j, hj⟩ : ∃ j, j = n - 1 := ⟨_, rfl⟩
  have hjn : j < n := by omega
  have e1 : IntKind.i64.wrap ((n : Int) - 1) = (j : Int) := by rw [IntKind.wrap_i64]; omega
  have e1' : (n : Int) - 1 = (j : Int) := by omega
  have HJ := Lib.hid hj
  clear hj
  obtain ⟨hb, c0, c1, c2, c3⟩ := hR.at rfl hjn
  have q2 : (j : Int) < (n : Int) := by omega
  have q3 : (0 : Int) ≤ (j : Int) := by omega
  have HR := Lib.hid hR
  clear hR
  go_enter Tryz.func106, Tryz.ntmps106
  go_wp2_with fail
  go_loopw [14] (fun s wr => ∃ i : Nat, i ≤ n ∧ s = .int .i64 i ∧ w.heap.size < wr.heap.size ∧ Below w.heap.size w wr ∧ Row4 wr w.heap.size (P (pv n i)) (Q (pv n i)) (R (pv n i)) (S (pv n i)) ∧ Hid (∀ k, k < i → alt4 P Q R S n k = true)) (fun s _ => n - (intOf s).toNat)
  case atStart => exact ⟨0, by omega, rfl, by simp, by (repeat (first | (with_reducible exact Below.refl _ _) | (with_reducible refine Ext.drewN ?_ _) | (with_reducible refine Below.drew ?_) | (with_reducible refine Ext.alloc ?_ _) | (with_reducible refine Ext.setCell ?_ (by simp; try omega) _) | (with_reducible refine Ext.trans ?_ (by assumption)) | (with_reducible assumption) | exact Below.refl _ _)), by rw [show pv n 0 = j by rw [HJ.out]; rfl]; unfold Row4; simp [go_sem], Lib.hid fun k hk => absurd hk (by omega)⟩
  case round =>
    obtain ⟨i, hi, rfl, hsz, hW, hpr, HA⟩ := hrel
    by_cases hlt : i < n
    · obtain ⟨h, hh⟩ : ∃ h, h = pv n i := ⟨_, rfl⟩
      have hal : alt4 P Q R S n i = (elB (P i) (Q i) (R i) (S i) && (decide (P i = R i) != decide (P h = R h))) := by rw [hh]; rfl
      rw [← hh] at hpr
      have HAL := Lib.hid hal
      clear hh hal
      have HPR := Lib.hid hpr
      obtain ⟨⟨y0, y1, y2, y3⟩, g0, g1, g2, g3⟩ := hpr
      obtain ⟨_, d0, d1, d2, d3⟩ := (HR.out.below hW).at rfl hlt
      have q1 : (i : Int) < (n : Int) := by omega
      have q0 : (0 : Int) ≤ (i : Int) := by omega
      have hbw := Nat.lt_of_lt_of_le hb hW.size
      cases hel : elB (P i) (Q i) (R i) (S i) with
      | false =>
        have hE := fun w => implEdgeLength_any (P i) (Q i) (R i) (S i) w
        rw [elV_f hel] at hE
        rw [hel, Bool.false_and] at HAL
        go_wp2_with fail
        go_region_with (first | (go_at_call 35; refine (hE _).mono ?_; rintro e v1 ⟨rfl, bv1⟩))
        all_goals
          go_wp2_with fail
          go_ret
          exact ⟨ret_bool (altsB_f hlt HAL.out).symm, by first | assumption | (repeat (first | (with_reducible exact Below.refl _ _) | (with_reducible refine Ext.drewN ?_ _) | (with_reducible refine Below.drew ?_) | (with_reducible refine Ext.alloc ?_ _) | (with_reducible refine Ext.setCell ?_ (by simp; try omega) _) | (with_reducible refine Ext.trans ?_ (by assumption)) | (with_reducible assumption) | exact Below.refl _ _))⟩
      | true =>
        have hE := fun w => implEdgeLength_any (P i) (Q i) (R i) (S i) w
        have hz := elV_ne hel
        have hz0 : (elV (P i) (Q i) (R i) (S i) == -1) = false := by simpa using hz
        generalize elV (P i) (Q i) (R i) (S i) = z at hE hz hz0
        rw [hel, Bool.true_and] at HAL
        cases hp : decide (P i = R i)
        all_goals
          cases hq : decide (P h = R h)
          all_goals
            have hU1 := fun w => upright_any (P i) (Q i) (R i) (S i) w
            have hU2 := fun w => upright_any (P h) (Q h) (R h) (S h) w
            rw [hp] at HAL hU1
            rw [hq] at HAL hU2
            go_wp2_with fail
            go_region_with (first | (go_at_call 35; refine (hE _).mono ?_; rintro e v1 ⟨rfl, bv1⟩; obtain ⟨sv1, zv1, cv1, fv1⟩ := bcell bv1; (try simp only [World.size_alloc, World.size_setCell, World.size_drew] at sv1); (try have nv1_w : w.heap.size < v1.heap.size := by omega); (try have nv1_0 : wr.heap.size < v1.heap.size := by omega)) | (go_at_call_of 139 (Value.agg #[Value.int IntKind.i64 (P i), Value.int IntKind.i64 (Q i), Value.int IntKind.i64 (R i), Value.int IntKind.i64 (S i)]); refine (hU1 _).mono ?_; rintro e v2 ⟨rfl, bv2⟩; obtain ⟨sv2, zv2, cv2, fv2⟩ := bcell bv2; (try simp only [World.size_alloc, World.size_setCell, World.size_drew] at sv2); (try have nv2_w : w.heap.size < v2.heap.size := by omega); (try have nv2_0 : wr.heap.size < v2.heap.size := by omega)) | (go_at_call_of 139 (Value.agg #[Value.int IntKind.i64 (P h), Value.int IntKind.i64 (Q h), Value.int IntKind.i64 (R h), Value.int IntKind.i64 (S h)]); refine (hU2 _).mono ?_; rintro e v3 ⟨rfl, bv3⟩; obtain ⟨sv3, zv3, cv3, fv3⟩ := bcell bv3; (try simp only [World.size_alloc, World.size_setCell, World.size_drew] at sv3)))
            all_goals
              have BW : Below wr.heap.size wr v3 := by (repeat (first | (with_reducible exact Below.refl _ _) | (with_reducible refine Ext.drewN ?_ _) | (with_reducible refine Below.drew ?_) | (with_reducible refine Ext.alloc ?_ _) | (with_reducible refine Ext.setCell ?_ (by simp; try omega) _) | (with_reducible refine Ext.trans ?_ (by assumption)) | (with_reducible assumption) | exact Below.refl _ _))
              have BWw : Below w.heap.size w v3 := hW.trans (BW.mono hW.size)
              have hrow := HPR.out.below BW hsz
              have hset := hrow.set (P i) (Q i) (R i) (S i)
              obtain ⟨⟨x0, x1, x2, x3⟩, k0, k1, k2, k3⟩ := hrow
              have hs3 : w.heap.size < v3.heap.size := by omega
              go_wp2_with fail
              first
                | (go_ret; exact ⟨ret_bool (altsB_f hlt HAL.out).symm, BWw⟩)
                | (go_roundw
                   case rel => exact ⟨i + 1, by omega, by go_num, by simp; omega, by (repeat (first | (with_reducible exact Below.refl _ _) | (with_reducible refine Ext.drewN ?_ _) | (with_reducible refine Below.drew ?_) | (with_reducible refine Ext.alloc ?_ _) | (with_reducible refine Ext.setCell ?_ (by simp; try omega) _) | (with_reducible refine Ext.trans ?_ (by assumption)) | (with_reducible assumption) | exact Below.refl _ _)), hset, Lib.hid fun k hk => by
                     by_cases e : k = i
                     · subst e; exact HAL.out
                     · exact HA.out k (by omega)⟩
                   case measure => simp [intOf]; omega)
    · have q1 : ¬ (i : Int) < (n : Int) := by omega
      obtain rfl : i = n := by omega
      go_wp2_with fail
      go_ret
      exact ⟨ret_bool (altsB_t HA.out).symm, hW⟩

set_option maxHeartbeats 4000000 in
theorem implIsValidPolygon_any (a : Option Addr) (n cap : Nat) (X Y : Nat → Int) (w : World) (hn : n ≤ 1048576) (hP : PtsIs w.heap.size w a n X Y) :
    Calls Tryz.prog 58 #[.slice a n cap] w fun e w' => e = .returned (.bool (polyB X Y n)) ∧ Below w.heap.size w w' := by
  have m2 : ((n : Int)).tmod 2 = ((n % 2 : Nat) : Int) := tmod_nat n 2
  have hr : inB (n : Int) 4 12800 = decide (4 ≤ n ∧ n ≤ 12800) := by unfold inB; exact decide_eq_decide.2 (by omega)
  by_cases h3 : n % 2 = 0
  case neg =>
    have h3' : n % 2 = 1 := by omega
    rw [h3'] at m2
    rw [polyB_f (by omega)]
    go_enter Tryz.func58, Tryz.ntmps58
    go_wp2_with fail
    go_ret
    exact ⟨rfl, by (repeat (first | (with_reducible exact Below.refl _ _) | (with_reducible refine Ext.drewN ?_ _) | (with_reducible refine Below.drew ?_) | (with_reducible refine Ext.alloc ?_ _) | (with_reducible refine Ext.setCell ?_ (by simp; try omega) _) | (with_reducible refine Ext.trans ?_ (by assumption)) | (with_reducible assumption) | exact Below.refl _ _))⟩
  rw [h3] at m2
  by_cases h1 : 4 ≤ n ∧ n ≤ 12800
  case neg =>
    rw [decide_eq_false h1] at hr
    rw [polyB_f (by omega)]
    go_enter Tryz.func58, Tryz.ntmps58
    go_wp2_with (go_at_call 84; refine (inRange_any _ _ _ _).mono ?_; rintro e v1 ⟨rfl, rfl⟩; rw [hr])
    go_ret
    exact ⟨rfl, by (repeat (first | (with_reducible exact Below.refl _ _) | (with_reducible refine Ext.drewN ?_ _) | (with_reducible refine Below.drew ?_) | (with_reducible refine Ext.alloc ?_ _) | (with_reducible refine Ext.setCell ?_ (by simp; try omega) _) | (with_reducible refine Ext.trans ?_ (by assumption)) | (with_reducible assumption) | exact Below.refl _ _))⟩
  rw [decide_eq_true h1] at hr
  rw [polyB_mk h1.1 h1.2 h3, ← alts_turns X Y n]
  go_enter Tryz.func58, Tryz.ntmps58
  go_wp2_with (first | (go_at_call 84; refine (inRange_any _ _ _ _).mono ?_; rintro e v1 ⟨rfl, rfl⟩; rw [hr]) | (go_at_call 60; refine (sidesOf_any a n cap X Y _ hn (hP.ext (by (repeat (first | (with_reducible exact Below.refl _ _) | (with_reducible refine Ext.drewN ?_ _) | (with_reducible refine Below.drew ?_) | (with_reducible refine Ext.alloc ?_ _) | (with_reducible refine Ext.setCell ?_ (by simp; try omega) _) | (with_reducible refine Ext.trans ?_ (by assumption)) | (with_reducible assumption) | exact Below.refl _ _))))).mono ?_; rintro e v2 ⟨g2, hg2, hg2', rfl, bv2, R2⟩) | (go_at_call 106; refine (alternate_any g2 0 n n _ _ _ _ _ hn (by omega) R2).mono ?_; rintro e v3 ⟨rfl, bv3⟩))
  go_ret
  exact ⟨rfl, by (repeat (first | (with_reducible exact Below.refl _ _) | (with_reducible refine Ext.drewN ?_ _) | (with_reducible refine Below.drew ?_) | (with_reducible refine Ext.alloc ?_ _) | (with_reducible refine Ext.setCell ?_ (by simp; try omega) _) | (with_reducible refine Ext.trans ?_ (by assumption)) | (with_reducible assumption) | exact Below.refl _ _))⟩
end Go.Proofs.YtfbalpkjcfdakaaGreatDoor

namespace Go.Proofs.YtfbalpkjcfdakaaGreatDoor
open Go.RowKit
set_option linter.unusedVariables false
set_option linter.unusedSimpArgs false
attribute [local go_sem ↓] Go.wp_at_zero Go.wp_at_succ

theorem addS (b o j : Nat) : (⟨b, o, none⟩ : Addr).add j = ⟨b, o + j, none⟩ := by
  unfold Addr.add
  split
  · rename_i h; subst h; rfl
  · rfl
theorem s8news {w1 : World} {t : TypeId} (a b c d : Int) : ∀ j u, ([.int .i64 a, .int .i64 b, .int .i64 c, .int .i64 d] : List Value)[j]? = some u → (w1.alloc (.cells #[.int .i64 a, .int .i64 b, .int .i64 c, .int .i64 d] t)).cell? ((⟨w1.heap.size, 0, none⟩ : Addr).add j) = some u := by
  intro j u hj
  match j, hj with
  | 0, hj => simp at hj; subst hj; rw [addS]; simp [go_sem]
  | 1, hj => simp at hj; subst hj; rw [addS]; simp [go_sem]
  | 2, hj => simp at hj; subst hj; rw [addS]; simp [go_sem]
  | 3, hj => simp at hj; subst hj; rw [addS]; simp [go_sem]
  | (k + 4), hj => simp at hj
theorem s8ints (a b c d : Int) : ∀ u ∈ ([.int .i64 a, .int .i64 b, .int .i64 c, .int .i64 d] : List Value), u.oneCell' = true := fun u hu => by
  simp at hu
  rcases hu with rfl | rfl | rfl | rfl <;> rfl
/-- The edges of a list, read from a row of a list's own. -/
theorem s8rects {w : World} {B g n cap : Nat} {P Q R S : Nat → Int} (h : w.ownsRow B 55 4 (.slice (some ⟨g, 0, none⟩) n cap) n (recCells (listR P Q R S n))) : RectsIs w.heap.size w (some ⟨g, 0, none⟩) n P Q R S := fun i hi => by
  have hl := h.lt g rfl
  obtain ⟨h0, h1, h2, h3⟩ := recCells_at _ i _ (listR_get P Q R S n i hi)
  have c0 := h.cells (g := g) rfl _ _ h0
  have c1 := h.cells (g := g) rfl _ _ h1
  have c2 := h.cells (g := g) rfl _ _ h2
  have c3 := h.cells (g := g) rfl _ _ h3
  rw [addS] at c0 c1 c2 c3
  exact ⟨g, 0, rfl, hl.2, c0, c1, c2, c3⟩
theorem listR_snoc (P Q R S : Nat → Int) (n : Nat) : recCells (listR P Q R S (n + 1)) = recCells (listR P Q R S n) ++ [.int .i64 (P n), .int .i64 (Q n), .int .i64 (R n), .int .i64 (S n)] := by
  have : listR P Q R S (n + 1) = listR P Q R S n ++ [⟨P n, Q n, R n, S n⟩] := by simp [listR, List.range_succ]
  rw [this, recCells_snoc]; rfl

/-- A new list of edges at a block, no older than B. -/
def SidesRes (B n : Nat) (P Q R S : Nat → Int) (e : Ending) (w : World) : Prop := ∃ g c, e = .returned (.slice (some ⟨g, 0, none⟩) n c) ∧ n ≤ c ∧ B ≤ g ∧ RectsIs w.heap.size w (some ⟨g, 0, none⟩) n P Q R S

end Go.Proofs.YtfbalpkjcfdakaaGreatDoor
