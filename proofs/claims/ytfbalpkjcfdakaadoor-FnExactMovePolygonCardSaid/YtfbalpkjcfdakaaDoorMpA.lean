/- Lists of points in memory of their own; the program's slices.Reverse of points; what MovePolygon answers. Condition: the points' cells are in memory. -/
import Derived.Test.YtfbalpkjcfdakaaDoorPtX
import Derived.Test.YtfbalpkjcfdakaaDoorPgD
import Derived.Test.YtfbalpkjcfdakaaDoorQS
namespace Go.Proofs.YtfbalpkjcfdakaaDoor
open Go.RowKit
set_option linter.unusedVariables false
set_option linter.unusedSimpArgs false
attribute [local go_sem ↓] Go.wp_at_zero Go.wp_at_succ

/-- A list of points in a row of its own, from block B on, which may be written. -/
def OwnsP (B : Nat) (w : World) (a : Option Addr) (n : Nat) (X Y : Nat → Int) : Prop := n = 0 ∨ ∃ h, a = some ⟨h, 0, none⟩ ∧ B ≤ h ∧ h < w.heap.size ∧ RowP w h n X Y
theorem OwnsP.pts {B : Nat} {w : World} {a : Option Addr} {n : Nat} {X Y : Nat → Int} (h : OwnsP B w a n X Y) : PtsIs w.heap.size w a n X Y := by
  rcases h with rfl | ⟨h, rfl, _, _, hr⟩
  · exact fun i hi => absurd hi (Nat.not_lt_zero _)
  · exact hr.pts
theorem OwnsP.mono {B C : Nat} {w : World} {a : Option Addr} {n : Nat} {X Y : Nat → Int} (h : OwnsP B w a n X Y) (hBC : C ≤ B) : OwnsP C w a n X Y := by
  rcases h with rfl | ⟨h, rfl, h1, r⟩
  · exact .inl rfl
  · exact .inr ⟨h, rfl, Nat.le_trans hBC h1, r⟩
theorem OwnsP.below {B : Nat} {w w' : World} {a : Option Addr} {n : Nat} {X Y : Nat → Int} (h : OwnsP B w a n X Y) (hb : Below w.heap.size w w') : OwnsP B w' a n X Y := by
  rcases h with rfl | ⟨h, rfl, h1, h2, hr⟩
  · exact .inl rfl
  · exact .inr ⟨h, rfl, h1, Nat.lt_of_lt_of_le h2 hb.size, hr.below hb h2⟩
theorem OwnsP.wr {B g : Nat} {w w' : World} {a : Option Addr} {n : Nat} {X Y : Nat → Int} (h : OwnsP B w a n X Y) (hw : Wr g w w') (hg : g < B) : OwnsP B w' a n X Y := by
  rcases h with rfl | ⟨h, rfl, h1, h2, hr⟩
  · exact .inl rfl
  · exact .inr ⟨h, rfl, h1, Nat.lt_of_lt_of_le h2 hw.size, hw.rowp hr (by omega) h2⟩
def HeldP (B : Nat) (w : World) (a : Option Addr) (n : Nat) (k : Int) : Prop := OwnsP B w a n (mkP k 0) (mkP k 1)
theorem HeldP.below {B : Nat} {w w' : World} {a : Option Addr} {n : Nat} {k : Int} (h : HeldP B w a n k) (hb : Below w.heap.size w w') : HeldP B w' a n k := OwnsP.below h hb
theorem markOwnP (B : Nat) (a : Option Addr) (n c : Nat) (X Y : Nat → Int) (k : Int) (w : World) (hB : B ≤ w.heap.size) (hl : n ≤ 1048576) (k0 : 0 ≤ k) (k1 : k ≤ 16) (hO : OwnsP B w a n X Y) :
    Calls Tryd.prog 16 #[.slice a n c, .int .i64 k] w fun e w' => e = .returned (.int .i64 (k + 2 * (n : Int))) ∧ HeldP B w' a n k ∧ Below B w w' := by
  rcases hO with rfl | ⟨h, rfl, h1, h2, hr⟩
  · refine (markPointS_nil a c k w).mono ?_
    rintro e w' ⟨rfl, rfl⟩
    exact ⟨by simp, .inl rfl, Below.refl _ _⟩
  · refine (markPointS_row h n c k _ _ w hl k0 k1 h2 hr).mono ?_
    rintro e w' ⟨rfl, hm, hw⟩
    exact ⟨rfl, .inr ⟨h, rfl, h1, Nat.lt_of_lt_of_le h2 hw.size, hm⟩, Wr.below (Below.refl _ _) hw hB h1⟩
theorem heldOwnP (B : Nat) (a : Option Addr) (n c : Nat) (k : Int) (w : World) (hn : n ≤ 1048576) (k0 : 0 ≤ k) (k1 : k ≤ 16) (hH : HeldP B w a n k) :
    Calls Tryd.prog 17 #[.slice a n c, .int .i64 k] w fun e w' => e = .returned (.int .i64 (k + 2 * (n : Int))) ∧ w = w' := by
  rcases hH with rfl | ⟨h, rfl, h1, h2, hr⟩
  · refine (heldPointS_nil a c k w).mono ?_
    rintro e w' ⟨rfl, rfl⟩
    exact ⟨by simp, rfl⟩
  · exact heldPointS_row h n c k w hn k0 k1 hr
/-- A call that hands back a list of points (and a flag), read through a slice; in memory of its own. -/
def PRes2 (n : Nat) (X Y : Nat → Int) (b : Bool) (e : Ending) (w : World) : Prop := ∃ a c, e = .returned (.tuple #[.slice a n c, .bool b]) ∧ PtsIs w.heap.size w a n X Y
def POwn2 (B n : Nat) (X Y : Nat → Int) (b : Bool) (e : Ending) (w : World) : Prop := ∃ a c, e = .returned (.tuple #[.slice a n c, .bool b]) ∧ OwnsP B w a n X Y

theorem Wr.drew {g : Nat} {a w : World} (h : Wr g a w) : Wr g a w.drew := ⟨h.os, h.tape, h.output, h.size, h.block⟩
/-- The first and the last i points changed for each other. -/
def rvF (f : Nat → Int) (n i k : Nat) : Int := if k < i ∨ n - 1 - i < k then f (n - 1 - k) else f k
theorem rvF_zero (f : Nat → Int) (n k : Nat) (hk : k < n) : rvF f n 0 k = f k := by unfold rvF; rw [if_neg (by omega)]
theorem rvF_step (f : Nat → Int) (n i j k : Nat) (hj : j = n - 1 - i) (hi : i < j) (hk : k < n) : updI (updI (rvF f n i) i (f j)) j (f i) k = rvF f n (i + 1) k := by
  subst hj
  unfold updI rvF
  by_cases e : k = n - 1 - i
  · subst e
    rw [if_pos rfl, if_pos (by omega), show n - 1 - (n - 1 - i) = i by omega]
  · rw [if_neg e]
    by_cases e2 : k = i
    · subst e2
      rw [if_pos rfl, if_pos (by omega)]
    · rw [if_neg e2]
      by_cases e3 : k < i ∨ n - 1 - i < k
      · rw [if_pos e3, if_pos (by omega)]
      · rw [if_neg e3, if_neg (by omega)]
theorem rvF_at (f : Nat → Int) (n i : Nat) (hi : i ≤ n - 1 - i) : rvF f n i i = f i := by unfold rvF; rw [if_neg (by omega)]
theorem rvF_at' (f : Nat → Int) (n i j : Nat) (hj : j = n - 1 - i) (hi : i < j) : rvF f n i j = f j := by unfold rvF; rw [if_neg (by omega)]
theorem rvF_end (f : Nat → Int) (n i k : Nat) (hi : ¬ i < n - 1 - i) (h2 : 2 * i ≤ n) (hk : k < n) : rvF f n i k = f (n - 1 - k) := by
  unfold rvF
  by_cases e : k < i ∨ n - 1 - i < k
  · rw [if_pos e]
  · rw [if_neg e]
    congr 1
    omega

set_option maxRecDepth 100000 in
set_option maxHeartbeats 8000000 in
theorem reverseP_any (g n c : Nat) (X Y : Nat → Int) (w : World) (hn : n ≤ 1048576) (hg : g < w.heap.size) (hr : RowP w g n X Y) :
    Calls Tryd.prog 58 #[.slice (some ⟨g, 0, none⟩) n c] w fun e w' => e = .returned (.tuple #[]) ∧ RowP w' g n (fun k => X (n - 1 - k)) (fun k => Y (n - 1 - k)) ∧ Wr g w w' := by
  have HR := Lib.hid hr
  clear hr
  have e0 : IntKind.i64.wrap ((n : Int) - 1) = (n : Int) - 1 := by rw [IntKind.wrap_i64]; omega
  go_enter Tryd.func58, Tryd.ntmps58
  go_wp2_with fail
  go_loopw [2, 3] (fun s2 s3 wr => ∃ i : Nat, 2 * i ≤ n ∧ s2 = .int .i64 (i : Nat) ∧ s3 = .int .i64 ((n : Int) - 1 - (i : Int)) ∧ Wr g w wr ∧ Hid (RowP wr g n (rvF X n i) (rvF Y n i))) (fun s2 _ _ => n - (intOf s2).toNat)
  case atStart => exact ⟨0, by omega, rfl, by simp, Wr.refl _ _, Lib.hid (HR.out.congr fun k hk => ⟨(rvF_zero X n k hk).symm, (rvF_zero Y n k hk).symm⟩)⟩
  case round =>
    obtain ⟨i, hi, rfl, rfl, hW, HM⟩ := hrel
    by_cases hlt : i < n - 1 - i
    · obtain ⟨j, hj⟩ : ∃ j, j = n - 1 - i := ⟨_, rfl⟩
      have hij : i < j := by omega
      have hjn : j < n := by omega
      have hJ : (n : Int) - 1 - (i : Int) = (j : Int) := by omega
      rw [hJ]
      have HX : Hid (∀ f : Nat → Int, (rvF f n i i = f i ∧ rvF f n i j = f j) ∧ ∀ k, k < n → updI (updI (rvF f n i) i (f j)) j (f i) k = rvF f n (i + 1) k) := Lib.hid fun f => ⟨⟨rvF_at f n i (by omega), rvF_at' f n i j hj hij⟩, fun k hk => rvF_step f n i j k hj hij hk⟩
      have HJ2 : Hid ((n : Int) - 1 - ((i + 1 : Nat) : Int) = (j : Int) - 1) := Lib.hid (by omega)
      obtain ⟨⟨c0, c1⟩, f0, f1⟩ := HM.out i (by omega)
      obtain ⟨⟨d0, d1⟩, k0, k1⟩ := HM.out j hjn
      rw [(HX.out X).1.1] at c0
      rw [(HX.out Y).1.1] at c1
      rw [(HX.out X).1.2] at d0
      rw [(HX.out Y).1.2] at d1
      have HST := Lib.hid (((HM.out.step (i := i) (X j) (Y j)).step (i := j) (X i) (Y i)).congr fun k hk => ⟨(HX.out X).2 k hk, (HX.out Y).2 k hk⟩)
      have q0 : (0 : Int) ≤ (i : Int) := by omega
      have q1 : (i : Int) < (n : Int) := by omega
      have q2 : (0 : Int) ≤ (j : Int) := by omega
      have q3 : (j : Int) < (n : Int) := by omega
      have q4 : (i : Int) < (j : Int) := by omega
      have e1 : IntKind.i64.wrap ((i : Int) + 1) = (i : Int) + 1 := by rw [IntKind.wrap_i64]; omega
      have e2 : IntKind.i64.wrap ((j : Int) - 1) = (j : Int) - 1 := by rw [IntKind.wrap_i64]; omega
      have hji : ¬ j = i := by omega
      clear hj hJ
      go_wp2_with fail
      go_region
      all_goals
        go_wp2_with fail
        go_roundw
        case rel => exact ⟨i + 1, by omega, by go_num, by rw [HJ2.out], Wr.drew ((((hW.set _).set _).set _).set _), Lib.hid (show RowP (World.drew _) _ _ _ _ from HST.out)⟩
        case measure => simp [intOf]; omega
    · have q4 : ¬ (i : Int) < (n : Int) - 1 - (i : Int) := by omega
      go_wp2_with fail
      go_end0
      exact ⟨rfl, HM.out.congr fun k hk => ⟨rvF_end X n i k hlt (by omega) hk, rvF_end Y n i k hlt (by omega) hk⟩, hW⟩
end Go.Proofs.YtfbalpkjcfdakaaDoor
