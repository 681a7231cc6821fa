/- A drawn transform of the text's law; equality of transforms; the transform that three images determine. -/
import Derived.Test.YtlbanaoabifaiaaDoorTrT
import Derived.Test.YtlbanaoabifaiaaDoorTrW
namespace Go.Proofs.YtlbanaoabifaiaaDoor
open Go.RowKit
set_option linter.unusedVariables false
set_option linter.unusedSimpArgs false

def DrawnF (w : World) (e : Ending) (w' : World) : Prop :=
  ∃ o x y : Int, (0 ≤ o ∧ o ≤ 7) ∧ (-100 ≤ x ∧ x ≤ 100) ∧ (-100 ≤ y ∧ y ≤ 100) ∧ e = .returned (.agg #[.int .i64 o, .int .i64 x, .int .i64 y]) ∧ Below w.heap.size w w'

set_option maxHeartbeats 4000000 in
theorem drawFT_any (a : Option Addr) (len cap : Nat) (w : World) (hlen : len ≤ 4096) (hC : CodeIs w.heap.size w a len) :
    Calls Tryd.prog 7 #[.slice a len cap] w (DrawnF w) := by
  go_enter Tryd.func7, Tryd.ntmps7
  go_wp2_with fail
  refine (l01From_any w.heap.size a len cap _ hlen (by simp) (hC.alloc (Nat.le_refl _) _)).mono ?_
  rintro e w1 ⟨g, hg0, hg1, rfl, bw1, hS1⟩
  simp only [World.size_alloc] at hg0
  have hC1 : CodeIs w.heap.size w1 a len := hC.below (((Below.refl _ _).alloc (Nat.le_refl _) _).trans (bw1.mono (by simp)))
  have s1 := bw1.size
  simp only [World.size_alloc] at s1
  have z0 : w1.cell? ⟨w.heap.size, 0, none⟩ = some (.int .i64 0) := keepC bw1 (by simp)
  have z1 : w1.cell? ⟨w.heap.size, 1, none⟩ = some (.int .i64 0) := keepC bw1 (by simp)
  have z2 : w1.cell? ⟨w.heap.size, 2, none⟩ = some (.int .i64 0) := keepC bw1 (by simp)
  have f0 : w1.frozen? ⟨w.heap.size, 0, none⟩ = false := by rw [bw1.frozen (by simp <;> omega)]; simp [go_sem]
  have f1 : w1.frozen? ⟨w.heap.size, 1, none⟩ = false := by rw [bw1.frozen (by simp <;> omega)]; simp [go_sem]
  have f2 : w1.frozen? ⟨w.heap.size, 2, none⟩ = false := by rw [bw1.frozen (by simp <;> omega)]; simp [go_sem]
  have B1 : Below w.heap.size w w1 := by (repeat (first | (with_reducible exact Below.refl _ _) | (with_reducible refine Ext.drewN ?_ _) | (with_reducible refine Below.drew ?_) | (with_reducible refine Ext.alloc ?_ _) | (with_reducible refine Ext.setCell ?_ (by simp; try omega) _) | (with_reducible refine Ext.trans ?_ (by assumption)) | (with_reducible assumption) | exact Below.refl _ _))
  clear bw1
  go_wp2_with fail
  refine (drawT_any w.heap.size g a len cap _ hlen (by omega) (by omega) hC1 hS1).mono ?_
  rintro e w2 ⟨o, x, y, ho, hx, hy, rfl, on2, hS2⟩
  have s2 := on2.size
  have z0 := on2.cell z0 (by omega)
  have z1 := on2.cell z1 (by omega)
  have z2 := on2.cell z2 (by omega)
  have f0 := on2.frz f0 (by omega) (by omega)
  have f1 := on2.frz f1 (by omega) (by omega)
  have f2 := on2.frz f2 (by omega) (by omega)
  have B2 : Below w.heap.size w w2 := Only.below B1 on2 (by omega) (by omega)
  clear on2 hS2 hS1 hC1 B1
  go_wp2_with fail
  refine bodyPost_ret (v := .agg #[.int .i64 o, .int .i64 x, .int .i64 y]) (by simp [*, results, Tryd.results7, go_sem]) rfl ⟨o, x, y, ho, hx, hy, rfl, ?_⟩
  (repeat (first | (with_reducible exact Below.refl _ _) | (with_reducible refine Ext.drewN ?_ _) | (with_reducible refine Below.drew ?_) | (with_reducible refine Ext.alloc ?_ _) | (with_reducible refine Ext.setCell ?_ (by simp; try omega) _) | (with_reducible refine Ext.trans ?_ (by assumption)) | (with_reducible assumption) | exact Below.refl _ _))

/-- The three points. -/
def pX (j : Nat) : Int := if j = 1 then 1 else 0
def pY (j : Nat) : Int := if j = 2 then 2 else 0
theorem pOn (j : Nat) : onB (pX j) (pY j) = true := by
  unfold pX pY onB
  by_cases h1 : j = 1 <;> by_cases h2 : j = 2 <;> simp [h1, h2, inB]
theorem t00 (o : Int) : tX o 0 0 = 0 ∧ tY o 0 0 = 0 := by unfold tX tY; constructor <;> (repeat' split) <;> rfl
theorem t_det : ∀ k o : Nat, k < 8 → o < 8 → k ≠ o → (tX k 1 0 ≠ tX o 1 0 ∨ tY k 1 0 ≠ tY o 1 0) ∨ tX k 0 2 ≠ tX o 0 2 ∨ tY k 0 2 ≠ tY o 0 2 := by
  have h : ∀ k o : Fin 8, k ≠ o → (tX k.val 1 0 ≠ tX o.val 1 0 ∨ tY k.val 1 0 ≠ tY o.val 1 0) ∨ tX k.val 0 2 ≠ tX o.val 0 2 ∨ tY k.val 0 2 ≠ tY o.val 0 2 := by decide
  intro k o hk ho hne
  exact h ⟨k, hk⟩ ⟨o, ho⟩ (by intro e; exact hne (Fin.val_eq_of_eq e))

theorem ft_three (o : Nat) (x y : Int) (ho : o < 8) (hon : ∀ j, j < 3 → onB (tX o (pX j) (pY j) + x) (tY o (pX j) (pY j) + y) = true) :
    f0 pX pY (fun j => tX o (pX j) (pY j) + x) (fun j => tY o (pX j) (pY j) + y) 3 3 = o ∧ f1 pX pY (fun j => tX o (pX j) (pY j) + x) (fun j => tY o (pX j) (pY j) + y) 3 3 = x ∧
    f2 pX pY (fun j => tX o (pX j) (pY j) + x) (fun j => tY o (pX j) (pY j) + y) 3 3 = y ∧ fB pX pY (fun j => tX o (pX j) (pY j) + x) (fun j => tY o (pX j) (pY j) + y) 3 3 = true := by
  have z : ∀ k : Int, tX k (pX 0) (pY 0) = 0 ∧ tY k (pX 0) (pY 0) = 0 := fun k => t00 k
  have hfit : ∀ k : Nat, fit pX pY (fun j => tX o (pX j) (pY j) + x) (fun j => tY o (pX j) (pY j) + y) 3 k = mapB k x y pX pY (fun j => tX o (pX j) (pY j) + x) (fun j => tY o (pX j) (pY j) + y) 3 := fun k => by
    unfold fit
    congr 1
    · show tX o (pX 0) (pY 0) + x - tX k (pX 0) (pY 0) = x
      rw [(z o).1, (z k).1]; omega
    · show tY o (pX 0) (pY 0) + y - tY k (pX 0) (pY 0) = y
      rw [(z o).2, (z k).2]; omega
  obtain ⟨h0, h1, h2, h3⟩ := f_yes (X := pX) (Y := pY) (U := fun j => tX o (pX j) (pY j) + x) (V := fun j => tY o (pX j) (pY j) + y) (n := 3) (m := 3) (o := o) (fpre_t (by omega) (by omega) (allOn_t fun i _ => pOn i) (allOn_t fun i hi => hon i hi)) ho
    (by rw [hfit]; exact allB_t fun i _ => by simp [hitB])
    (fun k hk => by
      rw [hfit]
      rcases t_det k o (by omega) ho (by omega) with h | h
      · refine allB_f (i := 1) (by omega) ?_
        show (tX k 1 0 + x == tX o 1 0 + x && tY k 1 0 + y == tY o 1 0 + y) = false
        rw [Bool.and_eq_false_iff]
        rcases h with h | h
        · exact .inl (by rw [beq_eq_false_iff_ne]; omega)
        · exact .inr (by rw [beq_eq_false_iff_ne]; omega)
      · refine allB_f (i := 2) (by omega) ?_
        show (tX k 0 2 + x == tX o 0 2 + x && tY k 0 2 + y == tY o 0 2 + y) = false
        rw [Bool.and_eq_false_iff]
        rcases h with h | h
        · exact .inl (by rw [beq_eq_false_iff_ne]; omega)
        · exact .inr (by rw [beq_eq_false_iff_ne]; omega))
  refine ⟨h0, ?_, ?_, h3⟩
  · rw [h1]
    show tX o (pX 0) (pY 0) + x - tX o (pX 0) (pY 0) = x
    omega
  · rw [h2]
    show tY o (pX 0) (pY 0) + y - tY o (pX 0) (pY 0) = y
    omega
def imU (o : Int) (x : Int) (j : Nat) : Int := tX o (pX j) (pY j) + x
def imV (o : Int) (y : Int) (j : Nat) : Int := tY o (pX j) (pY j) + y
/-- The cells of the first k images. -/
def imL (o x y : Int) (k : Nat) : List Value := (List.range k).flatMap fun j => [.int .i64 (imU o x j), .int .i64 (imV o y j)]
theorem imL_succ (o x y : Int) (k : Nat) : imL o x y (k + 1) = imL o x y k ++ [.int .i64 (imU o x k), .int .i64 (imV o y k)] := by
  unfold imL; rw [List.range_succ, List.flatMap_append]; simp
theorem imL_length (o x y : Int) (k : Nat) : (imL o x y k).length = k * 2 := by
  induction k with
  | zero => rfl
  | succ k ih => rw [imL_succ, List.length_append, ih]; simp; omega
theorem imL_at (o x y : Int) : ∀ (k j : Nat), j < k → (imL o x y k)[j * 2]? = some (.int .i64 (imU o x j)) ∧ (imL o x y k)[j * 2 + 1]? = some (.int .i64 (imV o y j))
  | 0, j, h => absurd h (Nat.not_lt_zero _)
  | k + 1, j, h => by
    have hl := imL_length o x y k
    rw [imL_succ]
    by_cases e : j = k
    · subst e
      rw [List.getElem?_append_right (by omega), List.getElem?_append_right (by omega), hl, Nat.sub_self, show j * 2 + 1 - j * 2 = 1 by omega]
      exact ⟨rfl, rfl⟩
    · rw [List.getElem?_append_left (by omega), List.getElem?_append_left (by omega)]
      exact imL_at o x y k j (by omega)
theorem pts_own {w : World} {B g n cap : Nat} {o x y : Int} (h : w.ownsRow B 32 2 (.slice (some ⟨g, 0, none⟩) n cap) n (imL o x y n)) : PtsIs w.heap.size w (some ⟨g, 0, none⟩) n (imU o x) (imV o y) := fun i hi => by
  have hl := h.lt g rfl
  obtain ⟨h1, h2⟩ := imL_at o x y n i hi
  have c1 := h.cells (g := g) rfl _ _ h1
  have c2 := h.cells (g := g) rfl _ _ h2
  have ad : ∀ k, (⟨g, 0, none⟩ : Addr).add k = ⟨g, k, none⟩ := fun k => by
    unfold Addr.add
    split
    · rename_i h; subst h; rfl
    · simp
  rw [ad] at c1 c2
  exact ⟨g, 0, rfl, hl.2, by simpa using c1, by simpa using c2⟩
/-- The three points as they lie. -/
theorem pts_from {w : World} {g : Nat} (h0 : w.cell? ⟨g, 0, none⟩ = some (.int .i64 0)) (h1 : w.cell? ⟨g, 1, none⟩ = some (.int .i64 0)) (h2 : w.cell? ⟨g, 2, none⟩ = some (.int .i64 1)) (h3 : w.cell? ⟨g, 3, none⟩ = some (.int .i64 0)) (h4 : w.cell? ⟨g, 4, none⟩ = some (.int .i64 0)) (h5 : w.cell? ⟨g, 5, none⟩ = some (.int .i64 2)) :
    PtsIs w.heap.size w (some ⟨g, 0, none⟩) 3 pX pY := fun i hi => by
  have hg : g < w.heap.size := World.block_lt_of_cell? w ⟨g, 0, none⟩ h0
  rcases (show i = 0 ∨ i = 1 ∨ i = 2 by omega) with rfl | rfl | rfl
  · exact ⟨g, 0, rfl, hg, h0, h1⟩
  · exact ⟨g, 0, rfl, hg, h2, h3⟩
  · exact ⟨g, 0, rfl, hg, h4, h5⟩
theorem out_cases (u v : Int) : u < -40 ∨ (¬ u < -40 ∧ 40 < u) ∨ (¬ u < -40 ∧ ¬ 40 < u ∧ v < -40) ∨ (¬ u < -40 ∧ ¬ 40 < u ∧ ¬ v < -40 ∧ 40 < v) ∨ (¬ u < -40 ∧ ¬ 40 < u ∧ ¬ v < -40 ∧ ¬ 40 < v) := by omega
theorem own_below {w w' : World} {B e sz n : Nat} {v : Value} {xs : List Value} (h : w.ownsRow B e sz v n xs) (hb : Below w.heap.size w w') : w'.ownsRow B e sz v n xs := by
  refine ⟨h.1, ?_⟩
  have hl := h.lt
  rcases h.2 with h' | ⟨g, cap, cur, e1, e2, e3, e4⟩
  · exact .inl h'
  · exact .inr ⟨g, cap, cur, e1, e2, (hb.block g (hl g (by rw [e1]; rfl)).2).trans e3, e4⟩
theorem ft_im (o : Nat) (x y : Int) (ho : o < 8) (hon : ∀ j, j < 3 → onB (imU o x j) (imV o y j) = true) :
    f0 pX pY (imU o x) (imV o y) 3 3 = o ∧ f1 pX pY (imU o x) (imV o y) 3 3 = x ∧ f2 pX pY (imU o x) (imV o y) 3 3 = y ∧ fB pX pY (imU o x) (imV o y) 3 3 = true := ft_three o x y ho hon
theorem own_pt {W : World} {B : Nat} {v : Value} {k : Nat} {o x y : Int} (h : W.ownsRow B 32 2 v (k + 1) (imL o x y k ++ [.int .i64 (imU o x k), .int .i64 (imV o y k)])) :
    ∃ g c, v = .slice (some ⟨g, 0, none⟩) (k + 1) c ∧ W.ownsRow B 32 2 (.slice (some ⟨g, 0, none⟩) (k + 1) c) (k + 1) (imL o x y (k + 1)) := by
  rw [← imL_succ] at h
  rcases h.2 with ⟨_, h0⟩ | ⟨g, cap, cur, rfl, _⟩
  · omega
  · exact ⟨g, cap, rfl, h⟩
theorem eqTrT (a b c : Int) (w : World) : (Op.equalIn 10000 25 (.agg #[.int .i64 a, .int .i64 b, .int .i64 c]) (.agg #[.int .i64 a, .int .i64 b, .int .i64 c])).run Tryd.prog w = .ok true w := by
  rw [eqTr]; simp
end Go.Proofs.YtlbanaoabifaiaaDoor
