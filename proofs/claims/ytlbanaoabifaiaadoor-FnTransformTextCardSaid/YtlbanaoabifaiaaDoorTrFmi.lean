/- The program's text of a transform. -/
import Derived.Test.YtlbanaoabifaiaaDoorTrWord
import Derived.Lib.SmallJoins
import Derived.Lib.AppendIntMem
namespace Go.Proofs.YtlbanaoabifaiaaDoor
open Go.RowKit
set_option linter.unusedVariables false
set_option linter.unusedSimpArgs false

/-- The table of powers of ten that strconv reads. -/
def TabW (w : World) : Prop := Lib.TabIs Tryd.prog w "internal/strconv.uint64pow10" .u64 Lib.pow10Tab
theorem TabW.below {W W' : World} (h : TabW W) (hb : Below W.heap.size W W') : TabW W' :=
  Go.Joins.var_stays (g := 3) (by kernel_rfl) h hb (Nat.le_refl _)

theorem fmtInt_itoa (n : Int) (w : World) (h0 : -99 ≤ n) (h1 : n ≤ 99) (hT : TabW w) : Calls Tryd.prog 29 #[.int .i64 n, .int .i64 10] w fun e w' => e = .returned (.string (itoaB n)) ∧ Below w.heap.size w w' := by
  refine (Tryd.strconv_FormatInt_10 n (by omega) (by omega) w hT).mono ?_
  rintro e w' ⟨rfl, k, os, rfl⟩
  exact ⟨rfl, Lib.below_grow _ _ (Nat.le_refl _) _ _⟩

theorem letterB_size (o : Int) : (letterB o).size = 1 := by unfold letterB; split <;> rfl

set_option maxHeartbeats 4000000 in
theorem implFormat_any (o x y : Int) (w : World) (hT : TabW w) : Calls Tryd.prog 10 #[.agg #[.int .i64 o, .int .i64 x, .int .i64 y]] w fun e w' => e = .returned (.string (fmtB o x y)) ∧ Below w.heap.size w w' := by
  by_cases hv : vldB o x y = true
  · obtain ⟨⟨o0, o7⟩, ⟨x0, x1⟩, y0, y1⟩ := vldB_t hv
    have z0 := itoaB_size (o % 4) (by omega) (by omega)
    have z1 := itoaB_size x (by omega) (by omega)
    have z2 := itoaB_size y (by omega) (by omega)
    have zL := letterB_size o
    have zB : (⟨#[32]⟩ : ByteArray).size = 1 := rfl
    have r2 := addR (letterB o ++ itoaB (o % 4)) ⟨#[32]⟩ (by simp only [ByteArray.size_append]; omega)
    have r3 := addR (letterB o ++ itoaB (o % 4) ++ ⟨#[32]⟩) (itoaB x) (by simp only [ByteArray.size_append]; omega)
    have r4 := addR (letterB o ++ itoaB (o % 4) ++ ⟨#[32]⟩ ++ itoaB x) ⟨#[32]⟩ (by simp only [ByteArray.size_append]; omega)
    have r5 := addR (letterB o ++ itoaB (o % 4) ++ ⟨#[32]⟩ ++ itoaB x ++ ⟨#[32]⟩) (itoaB y) (by simp only [ByteArray.size_append]; omega)
    clear zL zB
    go_enter Tryd.func10, Tryd.ntmps10
    go_wp2_with (go_at_call 26; refine (implValid_any _ _ _ _).mono ?_; rintro e w1 ⟨rfl, hb1⟩; rw [hv]; obtain ⟨hs, hz, hc, hf⟩ := bcell hb1; (try simp only [World.size_alloc, World.size_setCell, World.size_drew] at hs))
    have q0 : w1.cell? ⟨w.heap.size, 0, none⟩ = some (.int .i64 o) := by rw [hc _ _ (by simp)]; simp [go_sem]
    have q1 : w1.cell? ⟨w.heap.size, 1, none⟩ = some (.int .i64 x) := by rw [hc _ _ (by simp)]; simp [go_sem]
    have q2 : w1.cell? ⟨w.heap.size, 2, none⟩ = some (.int .i64 y) := by rw [hc _ _ (by simp)]; simp [go_sem]
    have bB : Below w.heap.size w w1 := (Ext.alloc (Below.refl _ _) _).trans (hb1.mono (by simp))
    clear hc hf hb1
    go_cut [2] (fun s2 wx => s2 = .string (fmtB o x y) ∧ Below w.heap.size w wx)
    case first =>
      go_region_held3 (fun w' => w.heap.size < w'.heap.size ∧ Below w.heap.size w w' ∧ w'.cell? ⟨w.heap.size, 0, none⟩ = some (.int .i64 o) ∧ w'.cell? ⟨w.heap.size, 1, none⟩ = some (.int .i64 x) ∧ w'.cell? ⟨w.heap.size, 2, none⟩ = some (.int .i64 y))
        (first | ((try dsimp only); go_split_ands; (repeat' (with_reducible refine And.intro ?_ ?_)) <;> first | ((repeat (with_reducible refine keepS ?_ (by simp; try omega) _)); (first | (with_reducible assumption) | (with_reducible exact keepC (by assumption) (by assumption)) | (with_reducible exact keepA (by assumption) _) | (with_reducible exact keepR (by assumption) (by omega) _))) | ((try simp only [World.size_alloc, World.size_setCell, World.size_drew]); omega) | (refine Mats.below hM ?_ hM.size; (repeat (first | (with_reducible exact Below.refl _ _) | (with_reducible refine Ext.drewN ?_ _) | (with_reducible refine Below.drew ?_) | (with_reducible refine Ext.alloc ?_ _) | (with_reducible refine Ext.setCell ?_ (by simp; try omega) _) | (with_reducible refine Ext.trans ?_ (by assumption)) | (with_reducible assumption) | exact Below.refl _ _)); done) | ((repeat (first | (with_reducible exact Below.refl _ _) | (with_reducible refine Ext.drewN ?_ _) | (with_reducible refine Below.drew ?_) | (with_reducible refine Ext.alloc ?_ _) | (with_reducible refine Ext.setCell ?_ (by simp; try omega) _) | (with_reducible refine Ext.trans ?_ (by assumption)) | (with_reducible assumption) | exact Below.refl _ _)); done) | (go_keep; done)))
        (first | (go_at_call 27; refine (orientation_any _ _ _ _).mono ?_; rintro e w2 ⟨rfl, bw2⟩; obtain ⟨sw2, zw2, cw2, fw2⟩ := bcell bw2; (try simp only [World.size_alloc, World.size_setCell, World.size_drew] at sw2)) | (go_at_call 28; refine (word_any _ _ o0 o7).mono ?_; rintro e w2 ⟨rfl, bw2⟩; obtain ⟨sw2, zw2, cw2, fw2⟩ := bcell bw2; (try simp only [World.size_alloc, World.size_setCell, World.size_drew] at sw2)) | (go_at_call 29; refine (fmtInt_itoa _ _ (by omega) (by omega) ?_).mono ?_; (go_split_ands; refine TabW.below hT ?_; assumption); rintro e w2 ⟨rfl, bw2⟩; obtain ⟨sw2, zw2, cw2, fw2⟩ := bcell bw2; (try simp only [World.size_alloc, World.size_setCell, World.size_drew] at sw2)))
      all_goals
        go_wp2_with fail
        go_meet
        rename_i hh
        exact ⟨by rw [fmtB, if_pos hv]; simp [blankB], hh.2.1⟩
    case rest =>
      obtain ⟨rfl, bw3⟩ := hcut
      go_wp2_with fail
      go_ret
      exact ⟨rfl, bw3⟩
  · go_enter Tryd.func10, Tryd.ntmps10
    have hv' : vldB o x y = false := by simpa using hv
    go_wp2_with (go_at_call 26; refine (implValid_any _ _ _ _).mono ?_; rintro e w1 ⟨rfl, hb1⟩; rw [hv']; obtain ⟨hs, hz, hc, hf⟩ := bcell hb1; (try simp only [World.size_alloc, World.size_setCell, World.size_drew] at hs))
    go_ret
    exact ⟨by rw [fmtB, if_neg hv]; rfl, (Ext.alloc (Below.refl _ _) _).trans (hb1.mono (by simp))⟩

end Go.Proofs.YtlbanaoabifaiaaDoor
