/- The model's text of a transform. -/
import Derived.Test.YtlbanaoabifaiaaDoorTrItoa
import Derived.Test.YtlbanaoabifaiaaDoorTrD
import Derived.Laws.Concat
namespace Go.Proofs.YtlbanaoabifaiaaDoor
open Go.RowKit
set_option linter.unusedVariables false
set_option linter.unusedSimpArgs false

def itoaB (n : Int) : ByteArray := ⟨(Lib.itoa n).toArray⟩

theorem itoaB_size (n : Int) (h1 : -99 ≤ n) (h2 : n ≤ 99) : (itoaB n).size ≤ 3 := by
  show (Lib.itoa n).toArray.size ≤ 3
  rcases (show n ≤ -10 ∨ (-9 ≤ n ∧ n ≤ -1) ∨ (0 ≤ n ∧ n ≤ 9) ∨ 10 ≤ n by omega) with h | h | h | h
  · obtain ⟨u, rfl⟩ : ∃ u : Nat, n = -(u : Int) := ⟨n.natAbs, by omega⟩
    rw [itoa_neg2 u (by omega) (by omega)]; simp
  · obtain ⟨u, rfl⟩ : ∃ u : Nat, n = -(u : Int) := ⟨n.natAbs, by omega⟩
    rw [itoa_neg1 u (by omega) (by omega)]; simp
  · obtain ⟨u, rfl⟩ : ∃ u : Nat, n = (u : Int) := ⟨n.toNat, by omega⟩
    rw [itoa_one u (by omega)]; simp
  · obtain ⟨u, rfl⟩ : ∃ u : Nat, n = (u : Int) := ⟨n.toNat, by omega⟩
    rw [itoa_two u (by omega) (by omega)]; simp
theorem l01Number_itoa (n : Int) (w : World) (h1 : -99 ≤ n) (h2 : n ≤ 99) : Calls Tryd.prog 49 #[.int .i64 n] w fun e w' => e = .returned (.string (itoaB n)) ∧ Below w.heap.size w w' := l01Number_any n w h1 h2
theorem addR (a b : ByteArray) (h : a.size + b.size ≤ 1000) : ∀ W, (Op.stringOp .add a b).run Tryd.prog W = .ok (.string (a ++ b)) W := fun W => run_string_add_sum W a b (by omega)
def letterB (o : Int) : ByteArray := if o < 4 then ⟨#[114]⟩ else ⟨#[109]⟩
def blankB : ByteArray := ⟨#[32]⟩
/-- The text of a transform. -/
def fmtB (o x y : Int) : ByteArray := if vldB o x y = true then letterB o ++ itoaB (o % 4) ++ blankB ++ itoaB x ++ blankB ++ itoaB y else ⟨#[]⟩

set_option maxHeartbeats 4000000 in
theorem specFormat_any (o x y : Int) (w : World) : Calls Tryd.prog 37 #[.agg #[.int .i64 o, .int .i64 x, .int .i64 y]] w fun e w' => e = .returned (.string (fmtB o x y)) ∧ Below w.heap.size w w' := by
  by_cases hv : vldB o x y = true
  · obtain ⟨⟨o0, o7⟩, ⟨x0, x1⟩, y0, y1⟩ := vldB_t hv
    have m4 : o.tmod 4 = o % 4 := Int.tmod_eq_emod_of_nonneg (by omega)
    by_cases h4 : o < 4
    · skip
      have z0 := itoaB_size (o % 4) (by omega) (by omega)
      have z1 := itoaB_size x (by omega) (by omega)
      have z2 := itoaB_size y (by omega) (by omega)
      have zL : (⟨#[114]⟩ : ByteArray).size = 1 := rfl
      have zB : (⟨#[32]⟩ : ByteArray).size = 1 := rfl
      have r1 := addR ⟨#[114]⟩ (itoaB (o % 4)) (by omega)
      have r2 := addR (⟨#[114]⟩ ++ itoaB (o % 4)) ⟨#[32]⟩ (by simp only [ByteArray.size_append]; omega)
      have r3 := addR (⟨#[114]⟩ ++ itoaB (o % 4) ++ ⟨#[32]⟩) (itoaB x) (by simp only [ByteArray.size_append]; omega)
      have r4 := addR (⟨#[114]⟩ ++ itoaB (o % 4) ++ ⟨#[32]⟩ ++ itoaB x) ⟨#[32]⟩ (by simp only [ByteArray.size_append]; omega)
      have r5 := addR (⟨#[114]⟩ ++ itoaB (o % 4) ++ ⟨#[32]⟩ ++ itoaB x ++ ⟨#[32]⟩) (itoaB y) (by simp only [ByteArray.size_append]; omega)
      clear zL zB
      go_enter Tryd.func37, Tryd.ntmps37
      go_wp2_with (go_at_call 8; refine (specValid_any _ _ _ _).mono ?_; rintro e w1 ⟨rfl, hb1⟩; rw [hv]; obtain ⟨hs, hz, hc, hf⟩ := bcell hb1; (try simp only [World.size_alloc, World.size_setCell, World.size_drew] at hs))
      have q0 : w1.cell? ⟨w.heap.size, 0, none⟩ = some (.int .i64 o) := by rw [hc _ _ (by simp)]; simp [go_sem]
      have q1 : w1.cell? ⟨w.heap.size, 1, none⟩ = some (.int .i64 x) := by rw [hc _ _ (by simp)]; simp [go_sem]
      have q2 : w1.cell? ⟨w.heap.size, 2, none⟩ = some (.int .i64 y) := by rw [hc _ _ (by simp)]; simp [go_sem]
      have bB : Below w.heap.size w w1 := (Ext.alloc (Below.refl _ _) _).trans (hb1.mono (by simp))
      clear hc hf hb1
      go_cut [2] (fun s2 wx => s2 = .string (fmtB o x y) ∧ Below w.heap.size w wx)
      case first =>
        go_region_held3 (fun w' => w.heap.size < w'.heap.size ∧ Below w.heap.size w w' ∧ w'.cell? ⟨w.heap.size, 0, none⟩ = some (.int .i64 o) ∧ w'.cell? ⟨w.heap.size, 1, none⟩ = some (.int .i64 x) ∧ w'.cell? ⟨w.heap.size, 2, none⟩ = some (.int .i64 y))
          (first | ((try dsimp only); go_split_ands; (repeat' (with_reducible refine And.intro ?_ ?_)) <;> first | ((repeat (with_reducible refine keepS ?_ (by simp; try omega) _)); (first | (with_reducible assumption) | (with_reducible exact keepC (by assumption) (by assumption)) | (with_reducible exact keepA (by assumption) _) | (with_reducible exact keepR (by assumption) (by omega) _))) | ((try simp only [World.size_alloc, World.size_setCell, World.size_drew]); omega) | (refine Mats.below hM ?_ hM.size; (repeat (first | (with_reducible exact Below.refl _ _) | (with_reducible refine Ext.drewN ?_ _) | (with_reducible refine Below.drew ?_) | (with_reducible refine Ext.alloc ?_ _) | (with_reducible refine Ext.setCell ?_ (by simp; try omega) _) | (with_reducible refine Ext.trans ?_ (by assumption)) | (with_reducible assumption) | exact Below.refl _ _)); done) | ((repeat (first | (with_reducible exact Below.refl _ _) | (with_reducible refine Ext.drewN ?_ _) | (with_reducible refine Below.drew ?_) | (with_reducible refine Ext.alloc ?_ _) | (with_reducible refine Ext.setCell ?_ (by simp; try omega) _) | (with_reducible refine Ext.trans ?_ (by assumption)) | (with_reducible assumption) | exact Below.refl _ _)); done) | (go_keep; done)))
          (first | (go_at_call 49; refine (l01Number_itoa _ _ (by omega) (by omega)).mono ?_; rintro e w2 ⟨rfl, bw2⟩; obtain ⟨sw2, zw2, cw2, fw2⟩ := bcell bw2; (try simp only [World.size_alloc, World.size_setCell, World.size_drew] at sw2)))
        all_goals
          go_wp2_with fail
          go_meet
          rename_i hh
          exact ⟨by rw [fmtB, if_pos hv]; simp [letterB, blankB, h4], hh.2.1⟩
      case rest =>
        obtain ⟨rfl, bw3⟩ := hcut
        go_wp2_with fail
        go_ret
        exact ⟨rfl, bw3⟩
    · skip
      have z0 := itoaB_size (o % 4) (by omega) (by omega)
      have z1 := itoaB_size x (by omega) (by omega)
      have z2 := itoaB_size y (by omega) (by omega)
      have zL : (⟨#[109]⟩ : ByteArray).size = 1 := rfl
      have zB : (⟨#[32]⟩ : ByteArray).size = 1 := rfl
      have r1 := addR ⟨#[109]⟩ (itoaB (o % 4)) (by omega)
      have r2 := addR (⟨#[109]⟩ ++ itoaB (o % 4)) ⟨#[32]⟩ (by simp only [ByteArray.size_append]; omega)
      have r3 := addR (⟨#[109]⟩ ++ itoaB (o % 4) ++ ⟨#[32]⟩) (itoaB x) (by simp only [ByteArray.size_append]; omega)
      have r4 := addR (⟨#[109]⟩ ++ itoaB (o % 4) ++ ⟨#[32]⟩ ++ itoaB x) ⟨#[32]⟩ (by simp only [ByteArray.size_append]; omega)
      have r5 := addR (⟨#[109]⟩ ++ itoaB (o % 4) ++ ⟨#[32]⟩ ++ itoaB x ++ ⟨#[32]⟩) (itoaB y) (by simp only [ByteArray.size_append]; omega)
      clear zL zB
      go_enter Tryd.func37, Tryd.ntmps37
      go_wp2_with (go_at_call 8; refine (specValid_any _ _ _ _).mono ?_; rintro e w1 ⟨rfl, hb1⟩; rw [hv]; obtain ⟨hs, hz, hc, hf⟩ := bcell hb1; (try simp only [World.size_alloc, World.size_setCell, World.size_drew] at hs))
      have q0 : w1.cell? ⟨w.heap.size, 0, none⟩ = some (.int .i64 o) := by rw [hc _ _ (by simp)]; simp [go_sem]
      have q1 : w1.cell? ⟨w.heap.size, 1, none⟩ = some (.int .i64 x) := by rw [hc _ _ (by simp)]; simp [go_sem]
      have q2 : w1.cell? ⟨w.heap.size, 2, none⟩ = some (.int .i64 y) := by rw [hc _ _ (by simp)]; simp [go_sem]
      have bB : Below w.heap.size w w1 := (Ext.alloc (Below.refl _ _) _).trans (hb1.mono (by simp))
      clear hc hf hb1
      go_cut [2] (fun s2 wx => s2 = .string (fmtB o x y) ∧ Below w.heap.size w wx)
      case first =>
        go_region_held3 (fun w' => w.heap.size < w'.heap.size ∧ Below w.heap.size w w' ∧ w'.cell? ⟨w.heap.size, 0, none⟩ = some (.int .i64 o) ∧ w'.cell? ⟨w.heap.size, 1, none⟩ = some (.int .i64 x) ∧ w'.cell? ⟨w.heap.size, 2, none⟩ = some (.int .i64 y))
          (first | ((try dsimp only); go_split_ands; (repeat' (with_reducible refine And.intro ?_ ?_)) <;> first | ((repeat (with_reducible refine keepS ?_ (by simp; try omega) _)); (first | (with_reducible assumption) | (with_reducible exact keepC (by assumption) (by assumption)) | (with_reducible exact keepA (by assumption) _) | (with_reducible exact keepR (by assumption) (by omega) _))) | ((try simp only [World.size_alloc, World.size_setCell, World.size_drew]); omega) | (refine Mats.below hM ?_ hM.size; (repeat (first | (with_reducible exact Below.refl _ _) | (with_reducible refine Ext.drewN ?_ _) | (with_reducible refine Below.drew ?_) | (with_reducible refine Ext.alloc ?_ _) | (with_reducible refine Ext.setCell ?_ (by simp; try omega) _) | (with_reducible refine Ext.trans ?_ (by assumption)) | (with_reducible assumption) | exact Below.refl _ _)); done) | ((repeat (first | (with_reducible exact Below.refl _ _) | (with_reducible refine Ext.drewN ?_ _) | (with_reducible refine Below.drew ?_) | (with_reducible refine Ext.alloc ?_ _) | (with_reducible refine Ext.setCell ?_ (by simp; try omega) _) | (with_reducible refine Ext.trans ?_ (by assumption)) | (with_reducible assumption) | exact Below.refl _ _)); done) | (go_keep; done)))
          (first | (go_at_call 49; refine (l01Number_itoa _ _ (by omega) (by omega)).mono ?_; rintro e w2 ⟨rfl, bw2⟩; obtain ⟨sw2, zw2, cw2, fw2⟩ := bcell bw2; (try simp only [World.size_alloc, World.size_setCell, World.size_drew] at sw2)))
        all_goals
          go_wp2_with fail
          go_meet
          rename_i hh
          exact ⟨by rw [fmtB, if_pos hv]; simp [letterB, blankB, h4], hh.2.1⟩
      case rest =>
        obtain ⟨rfl, bw3⟩ := hcut
        go_wp2_with fail
        go_ret
        exact ⟨rfl, bw3⟩
  · go_enter Tryd.func37, Tryd.ntmps37
    have hv' : vldB o x y = false := by simpa using hv
    go_wp2_with (go_at_call 8; refine (specValid_any _ _ _ _).mono ?_; rintro e w1 ⟨rfl, hb1⟩; rw [hv']; obtain ⟨hs, hz, hc, hf⟩ := bcell hb1; (try simp only [World.size_alloc, World.size_setCell, World.size_drew] at hs))
    go_ret
    exact ⟨by rw [fmtB, if_neg hv]; rfl, (Ext.alloc (Below.refl _ _) _).trans (hb1.mono (by simp))⟩

end Go.Proofs.YtlbanaoabifaiaaDoor
