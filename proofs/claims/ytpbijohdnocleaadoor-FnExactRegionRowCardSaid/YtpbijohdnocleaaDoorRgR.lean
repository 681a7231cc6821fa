/- The laws' marks in rows of numbers. -/
import Derived.Test.YtpbijohdnocleaaDoorRgN
namespace Go.Proofs.YtpbijohdnocleaaDoor
open Go.RowKit
set_option linter.unusedVariables false
set_option linter.unusedSimpArgs false
attribute [local go_sem ↓] Go.wp_at_zero Go.wp_at_succ

/-- A row of numbers at block g, which may be written. -/
def RowI (w : World) (g n : Nat) (X : Nat → Int) : Prop := ∀ k, k < n → w.cell? ⟨g, k, none⟩ = some (.int .i64 (X k)) ∧ w.frozen? ⟨g, k, none⟩ = false
theorem RowI.below {g n B : Nat} {w w' : World} {X : Nat → Int} (h : RowI w g n X) (hb : Below B w w') (hg : g < B) : RowI w' g n X := fun k hk =>
  ⟨(hb.cell (p := ⟨g, k, none⟩) hg).trans (h k hk).1, (hb.frozen (p := ⟨g, k, none⟩) hg).trans (h k hk).2⟩
theorem RowI.step {g n i : Nat} {w : World} {X : Nat → Int} (h : RowI w g n X) (v : Int) : RowI (w.setCell ⟨g, i, none⟩ (.int .i64 v)) g n (updI X i v) := fun k hk => by
  refine ⟨?_, by simpa using (h k hk).2⟩
  unfold updI
  by_cases e : k = i
  · subst e
    rw [if_pos rfl]
    exact World.cell?_setCell_same _ _ _ (h k hk).1
  · rw [if_neg e]
    exact other_cell e (h k hk).1
theorem Wr.rowI {g b n : Nat} {w w' : World} {X : Nat → Int} (h : Wr g w w') (hr : RowI w b n X) (hne : b ≠ g) (hb : b < w.heap.size) : RowI w' b n X := fun k hk =>
  ⟨h.cell (hr k hk).1 hne, (World.frozen?_of_block (h.block b hb (by intro e; exact hne (Option.some.inj e)))).trans (hr k hk).2⟩
def mvV (k : Int) (i : Nat) : Int := k + (i : Int)
def mvI (f : Nat → Int) (k : Int) (n : Nat) (i : Nat) : Int := if i < n then mvV k i else f i
theorem mvI_step (f : Nat → Int) (k : Int) (n : Nat) : updI (mvI f k n) n (mvV k n) = mvI f k (n + 1) := by
  funext i
  unfold updI mvI
  by_cases h : i = n
  · subst h; rw [if_pos rfl, if_pos (by omega)]
  · rw [if_neg h]
    by_cases h2 : i < n
    · rw [if_pos h2, if_pos (by omega)]
    · rw [if_neg h2, if_neg (by omega)]
theorem mvI_zero (f : Nat → Int) (k : Int) : mvI f k 0 = f := by funext i; unfold mvI; rw [if_neg (by omega)]

theorem markInt64S_nil (a : Option Addr) (c : Nat) (k : Int) (w : World) : Calls Tryd.prog 38 #[.slice a 0 c, .int .i64 k] w fun e w' => e = .returned (.int .i64 k) ∧ w = w' := by
  go_enter Tryd.func38, Tryd.ntmps38
  go_wp2_with fail
  refine wp_loop_rounds 1 ?_
  rw [rounds_succ]
  go_wp2_with fail
  go_ret
  exact ⟨rfl, rfl⟩
theorem heldInt64S_nil (a : Option Addr) (c : Nat) (k : Int) (w : World) : Calls Tryd.prog 39 #[.slice a 0 c, .int .i64 k] w fun e w' => e = .returned (.int .i64 k) ∧ w = w' := by
  go_enter Tryd.func39, Tryd.ntmps39
  go_wp2_with fail
  refine wp_loop_rounds 1 ?_
  rw [rounds_succ]
  go_wp2_with fail
  go_ret
  exact ⟨rfl, rfl⟩

set_option maxHeartbeats 8000000 in
theorem markInt64S_row (g n c : Nat) (k : Int) (X : Nat → Int) (w : World) (hn : n ≤ 1048576) (k0 : 0 ≤ k) (k1 : k ≤ 16) (hr : RowI w g n X) :
    Calls Tryd.prog 38 #[.slice (some ⟨g, 0, none⟩) n c, .int .i64 k] w fun e w' => e = .returned (.int .i64 (k + (n : Int))) ∧ RowI w' g n (mvV k) ∧ Wr g w w' := by
  have HR := Lib.hid hr
  clear hr
  go_enter Tryd.func38, Tryd.ntmps38
  go_wp2_with fail
  go_loopw [1, 5] (fun s t wr => ∃ i : Nat, i ≤ n ∧ t = .int .i64 i ∧ s = .int .i64 (k + (i : Int)) ∧ Wr g w wr ∧ Hid (RowI wr g n (mvI X k i))) (fun _ t _ => n - (intOf t).toNat)
  case atStart => exact ⟨0, by omega, rfl, by simp, Wr.refl _ _, Lib.hid (by rw [mvI_zero]; exact HR.out)⟩
  case round =>
    obtain ⟨i, hi, rfl, rfl, hW, HM⟩ := hrel
    by_cases hlt : i < n
    · obtain ⟨c0, f0⟩ := HM.out i hlt
      have q1 : (i : Int) < (n : Int) := by omega
      have q0 : (0 : Int) ≤ (i : Int) := by omega
      have hst := HM.out.step (i := i) (mvV k i)
      rw [mvI_step] at hst
      obtain ⟨v, hv⟩ : ∃ v, v = k + (i : Int) := ⟨_, rfl⟩
      rw [show mvV k i = v by unfold mvV; omega] at hst
      have HS := Lib.hid hst
      have v0 : 0 ≤ v := by omega
      have v1 : v ≤ 100000000 := by omega
      rw [← hv]
      have HV := Lib.hid hv
      clear hst hv
      go_wp2_with fail
      go_roundw
      case rel => exact ⟨i + 1, by omega, by go_num, by rw [show v + 1 = k + ((i + 1 : Nat) : Int) by have := HV.out; omega], hW.set _, HS⟩
      case measure => simp [intOf]; omega
    · have q1 : ¬ (i : Int) < (n : Int) := by omega
      obtain rfl : i = n := by omega
      go_wp2_with fail
      go_ret
      exact ⟨rfl, fun j hj => by have := HM.out j hj; unfold mvI at this; rw [if_pos hj] at this; exact this, hW⟩

set_option maxHeartbeats 8000000 in
theorem heldInt64S_row (g n c : Nat) (k : Int) (w : World) (hn : n ≤ 1048576) (k0 : 0 ≤ k) (k1 : k ≤ 16) (hr : RowI w g n (mvV k)) :
    Calls Tryd.prog 39 #[.slice (some ⟨g, 0, none⟩) n c, .int .i64 k] w fun e w' => e = .returned (.int .i64 (k + (n : Int))) ∧ w = w' := by
  have HR := Lib.hid hr
  clear hr
  go_enter Tryd.func39, Tryd.ntmps39
  go_wp2_with fail
  go_loopw [1, 5] (fun s t wr => ∃ i : Nat, i ≤ n ∧ t = .int .i64 i ∧ s = .int .i64 (k + (i : Int)) ∧ wr = w) (fun _ t _ => n - (intOf t).toNat)
  case atStart => exact ⟨0, by omega, rfl, by simp, rfl⟩
  case round =>
    obtain ⟨i, hi, rfl, rfl, rfl⟩ := hrel
    by_cases hlt : i < n
    · have c0 := (HR.out i hlt).1
      have q1 : (i : Int) < (n : Int) := by omega
      have q0 : (0 : Int) ≤ (i : Int) := by omega
      obtain ⟨v, hv⟩ : ∃ v, v = k + (i : Int) := ⟨_, rfl⟩
      rw [show mvV k i = v by unfold mvV; omega] at c0
      have v0 : 0 ≤ v := by omega
      have v1 : v ≤ 100000000 := by omega
      rw [← hv]
      have HV := Lib.hid hv
      have n0 : (v != v) = false := by simp
      clear hv
      go_wp2_with fail
      go_roundw
      case rel => exact ⟨i + 1, by omega, by go_num, by rw [show v + 1 = k + ((i + 1 : Nat) : Int) by have := HV.out; omega], by trivial⟩
      case measure => simp [intOf]; omega
    · have q1 : ¬ (i : Int) < (n : Int) := by omega
      obtain rfl : i = n := by omega
      go_wp2_with fail
      go_ret
      exact ⟨rfl, rfl⟩

/-- The numbers of list l are read through slice a. -/
def IntsL (B : Nat) (w : World) (a : Option Addr) (l : List Int) : Prop := ∀ k, k < l.length → ∃ b, a = some ⟨b, 0, none⟩ ∧ b < B ∧ w.cell? ⟨b, k, none⟩ = some (.int .i64 (l.getD k 0))
theorem IntsL.below {B C : Nat} {w w' : World} {a : Option Addr} {l : List Int} (h : IntsL B w a l) (hb : Below C w w') (hBC : B ≤ C) : IntsL B w' a l := fun k hk => by
  obtain ⟨b, e, h1, h2⟩ := h k hk
  exact ⟨b, e, h1, (hb.cell (p := ⟨b, k, none⟩) (Nat.lt_of_lt_of_le h1 hBC)).trans h2⟩
theorem IntsL.mono {B C : Nat} {w : World} {a : Option Addr} {l : List Int} (h : IntsL B w a l) (hBC : B ≤ C) : IntsL C w a l := fun k hk => by
  obtain ⟨b, e, h1, h2⟩ := h k hk
  exact ⟨b, e, Nat.lt_of_lt_of_le h1 hBC, h2⟩
theorem IntsIs.ints {B : Nat} {w : World} {h : Nat} {l : List Int} (hI : IntsIs B w h l) : IntsL w.heap.size w (some ⟨h, 0, none⟩) l := fun k hk => ⟨h, rfl, hI.lt, hI.at hk⟩
theorem IntsL.nil (B : Nat) (w : World) (a : Option Addr) : IntsL B w a [] := fun i hi => absurd hi (Nat.not_lt_zero _)
/-- List l lies in a row of its own, from block B on, which may be written. -/
def OwnsI (B : Nat) (w : World) (a : Option Addr) (l : List Int) : Prop := l = [] ∨ ∃ h, a = some ⟨h, 0, none⟩ ∧ B ≤ h ∧ h < w.heap.size ∧ RowI w h l.length (fun i => l.getD i 0)
theorem OwnsI.ints {B : Nat} {w : World} {a : Option Addr} {l : List Int} (h : OwnsI B w a l) : IntsL w.heap.size w a l := by
  rcases h with rfl | ⟨h, rfl, _, h2, hr⟩
  · exact IntsL.nil _ _ _
  · exact fun k hk => ⟨h, rfl, h2, (hr k hk).1⟩
theorem OwnsI.below {B : Nat} {w w' : World} {a : Option Addr} {l : List Int} (h : OwnsI B w a l) (hb : Below w.heap.size w w') : OwnsI B w' a l := by
  rcases h with rfl | ⟨h, rfl, h1, h2, hr⟩
  · exact .inl rfl
  · exact .inr ⟨h, rfl, h1, Nat.lt_of_lt_of_le h2 hb.size, hr.below hb h2⟩
theorem OwnsI.wr {B g : Nat} {w w' : World} {a : Option Addr} {l : List Int} (h : OwnsI B w a l) (hw : Wr g w w') (hg : g < B) : OwnsI B w' a l := by
  rcases h with rfl | ⟨h, rfl, h1, h2, hr⟩
  · exact .inl rfl
  · exact .inr ⟨h, rfl, h1, Nat.lt_of_lt_of_le h2 hw.size, hw.rowI hr (by omega) h2⟩
def HeldI (B : Nat) (w : World) (a : Option Addr) (n : Nat) (k : Int) : Prop := n = 0 ∨ ∃ h, a = some ⟨h, 0, none⟩ ∧ B ≤ h ∧ h < w.heap.size ∧ RowI w h n (mvV k)
theorem HeldI.below {B : Nat} {w w' : World} {a : Option Addr} {n : Nat} {k : Int} (h : HeldI B w a n k) (hb : Below w.heap.size w w') : HeldI B w' a n k := by
  rcases h with rfl | ⟨h, rfl, h1, h2, hr⟩
  · exact .inl rfl
  · exact .inr ⟨h, rfl, h1, Nat.lt_of_lt_of_le h2 hb.size, hr.below hb h2⟩
theorem markOwnI (B : Nat) (a : Option Addr) (l : List Int) (c : Nat) (k : Int) (w : World) (hB : B ≤ w.heap.size) (hl : l.length ≤ 1048576) (k0 : 0 ≤ k) (k1 : k ≤ 16) (hO : OwnsI B w a l) :
    Calls Tryd.prog 38 #[.slice a l.length c, .int .i64 k] w fun e w' => e = .returned (.int .i64 (k + (l.length : Int))) ∧ HeldI B w' a l.length k ∧ Below B w w' := by
  rcases hO with rfl | ⟨h, rfl, h1, h2, hr⟩
  · refine (markInt64S_nil a c k w).mono ?_
    rintro e w' ⟨rfl, rfl⟩
    exact ⟨by simp, .inl rfl, Below.refl _ _⟩
  · refine (markInt64S_row h l.length c k _ w hl k0 k1 hr).mono ?_
    rintro e w' ⟨rfl, hm, hw⟩
    exact ⟨rfl, .inr ⟨h, rfl, h1, Nat.lt_of_lt_of_le h2 hw.size, hm⟩, Wr.below (Below.refl _ _) hw hB h1⟩
theorem heldOwnI (B : Nat) (a : Option Addr) (n c : Nat) (k : Int) (w : World) (hn : n ≤ 1048576) (k0 : 0 ≤ k) (k1 : k ≤ 16) (hH : HeldI B w a n k) :
    Calls Tryd.prog 39 #[.slice a n c, .int .i64 k] w fun e w' => e = .returned (.int .i64 (k + (n : Int))) ∧ w = w' := by
  rcases hH with rfl | ⟨h, rfl, h1, h2, hr⟩
  · refine (heldInt64S_nil a c k w).mono ?_
    rintro e w' ⟨rfl, rfl⟩
    exact ⟨by simp, rfl⟩
  · exact heldInt64S_row h n c k w hn k0 k1 hr

set_option maxHeartbeats 8000000 in
theorem eqInt64S_any (a b : Option Addr) (c c' : Nat) (l : List Int) (w : World) (hl : l.length ≤ 1048576) (hA : IntsL w.heap.size w a l) (hB : IntsL w.heap.size w b l) :
    Calls Tryd.prog 37 #[.slice a l.length c, .slice b l.length c'] w fun e w' => e = .returned (.bool true) ∧ Below w.heap.size w w' := by
  have HA := Lib.hid hA
  have HB := Lib.hid hB
  clear hA hB
  obtain ⟨n, hn⟩ : ∃ n, n = l.length := ⟨_, rfl⟩
  have HN := Lib.hid hn
  rw [← hn]
  rw [← hn] at hl
  clear hn
  have e0 : ((n : Int) != (n : Int)) = false := by simp
  go_enter Tryd.func37, Tryd.ntmps37
  go_wp2_with fail
  go_loopw [5] (fun s wr => ∃ k : Nat, k ≤ n ∧ s = .int .i64 k ∧ Below w.heap.size w wr) (fun s _ => n - (intOf s).toNat)
  case atStart => exact ⟨0, by omega, rfl, Below.refl _ _⟩
  case round =>
    obtain ⟨k, hk, rfl, hW⟩ := hrel
    by_cases hlt : k < n
    · have q1 : (k : Int) < (n : Int) := by omega
      have q0 : (0 : Int) ≤ (k : Int) := by omega
      obtain ⟨g, rfl, hg, a1⟩ := HA.out k (by have := HN.out; omega)
      obtain ⟨h, rfl, hh, a2⟩ := HB.out k (by have := HN.out; omega)
      have x1 := keepC hW a1
      have x2 := keepC hW a2
      generalize l.getD k 0 = u at x1 x2
      have e1 : (u != u) = false := by simp
      clear a1 a2
      go_wp2_with fail
      go_region_held3 (fun w' => Below wr.heap.size wr w' ∧ w'.cell? ⟨g, k, none⟩ = some (.int .i64 u) ∧ w'.cell? ⟨h, k, none⟩ = some (.int .i64 u))
        (first | ((try dsimp only); go_split_ands; (repeat' (with_reducible refine And.intro ?_ ?_)) <;> first | ((repeat (with_reducible refine keepS ?_ (by simp; try omega) _)); (first | (with_reducible assumption) | (with_reducible exact keepC (by assumption) (by assumption)) | (with_reducible exact keepA (by assumption) _) | (with_reducible exact keepR (by assumption) (by omega) _))) | ((try simp only [World.size_alloc, World.size_setCell, World.size_drew]); omega) | (refine Mats.below hM ?_ hM.size; (repeat (first | (with_reducible exact Below.refl _ _) | (with_reducible refine Ext.drewN ?_ _) | (with_reducible refine Below.drew ?_) | (with_reducible refine Ext.alloc ?_ _) | (with_reducible refine Ext.setCell ?_ (by simp; try omega) _) | (with_reducible refine Ext.trans ?_ (by assumption)) | (with_reducible assumption) | exact Below.refl _ _)); done) | ((repeat (first | (with_reducible exact Below.refl _ _) | (with_reducible refine Ext.drewN ?_ _) | (with_reducible refine Below.drew ?_) | (with_reducible refine Ext.alloc ?_ _) | (with_reducible refine Ext.setCell ?_ (by simp; try omega) _) | (with_reducible refine Ext.trans ?_ (by assumption)) | (with_reducible assumption) | exact Below.refl _ _)); done) | (go_keep; done)))
        (fail)
      go_wp2_with fail
      go_roundw
      case rel => exact ⟨k + 1, by omega, by go_num, by (repeat (first | (with_reducible exact Below.refl _ _) | (with_reducible refine Ext.drewN ?_ _) | (with_reducible refine Below.drew ?_) | (with_reducible refine Ext.alloc ?_ _) | (with_reducible refine Ext.setCell ?_ (by simp; try omega) _) | (with_reducible refine Ext.trans ?_ (by assumption)) | (with_reducible assumption) | exact Below.refl _ _))⟩
      case measure => simp [intOf]; omega
    · have q1 : ¬ (k : Int) < (n : Int) := by omega
      obtain rfl : k = n := by omega
      go_wp2_with fail
      go_ret
      exact ⟨rfl, hW⟩
end Go.Proofs.YtpbijohdnocleaaDoor
