/- The edges of a region's image; looking an edge up. Condition of the look-up: the list's cells are in memory. -/
import Derived.Test.YtmabdemdapnmkaaGreatDoorEgR
import Derived.Test.YtmabdemdapnmkaaGreatDoorEmB
namespace Go.Proofs.YtmabdemdapnmkaaGreatDoor
open Go.RowKit
set_option linter.unusedVariables false
set_option linter.unusedSimpArgs false
attribute [local go_sem ↓] Go.wp_at_zero Go.wp_at_succ

theorem IsEdge_congr {f g : Nat → Bool} (h : ∀ x y, hasB f x y = hasB g x y) (e : R4) : IsEdge f e ↔ IsEdge g e := by
  have hg : ∀ o c, gS f o c = gS g o c := fun o c => by
    funext t
    unfold gS
    split <;> rw [h, h]
  unfold IsEdge
  simp only [hg]
theorem edL_congr {f g : Nat → Bool} (h : ∀ x y, hasB f x y = hasB g x y) : edL f = edL g := by
  have h1 : EdgesOf f = EdgesOf g := by
    funext L
    unfold EdgesOf
    refine propext ⟨fun k => ⟨k.1, fun e => (k.2 e).trans (IsEdge_congr h e)⟩, fun k => ⟨k.1, fun e => (k.2 e).trans (IsEdge_congr h e).symm⟩⟩
  unfold edL
  rw [h1]
theorem edges_im {o x y : Int} {P Q R S : Nat → Int} {n : Nat} (h0 : 0 ≤ o) (h7 : o ≤ 7) (hok : okR P Q R S n = true) (hi : imV o x y P Q R S n = true) (g : R4) : IsEdge (imF o x y P Q R S n) g ↔ ∃ e, IsEdge (covF P Q R S n) e ∧ g = meE o x y e := by
  have hv := okR_all hok
  have hF : ∀ u v, hasB (imF o x y P Q R S n) (cmX o x y u v) (cmY o x y u v) = hasB (covF P Q R S n) u v := fun u v => by
    rw [imF_has h0 h7 hv hi, hasB_cov hv]
  have q : ∀ (o : Int) (F f : Nat → Bool) (X Y : Int → Int → Int), (∀ u v, hasB F (cmX o x y u v) (cmY o x y u v) = hasB f u v) → (∀ u v, cmX o x y u v = X u v) → (∀ u v, cmY o x y u v = Y u v) → ∀ u v, hasB F (X u v) (Y u v) = hasB f u v := fun o F f X Y h hX hY u v => by rw [← hX, ← hY]; exact h u v
  rcases o_cases h0 h7 with rfl | rfl | rfl | rfl | rfl | rfl | rfl | rfl
  · exact edges_o0 (q 0 _ _ _ _ hF (fun u v => by simp [cmX, mr0, mvX, tX, lo2]; try omega) (fun u v => by simp [cmY, mr1, mvY, tY, lo2]; try omega)) g
  · exact edges_o1 (q 1 _ _ _ _ hF (fun u v => by simp [cmX, mr0, mvX, tX, lo2]; try omega) (fun u v => by simp [cmY, mr1, mvY, tY, lo2]; try omega)) g
  · exact edges_o2 (q 2 _ _ _ _ hF (fun u v => by simp [cmX, mr0, mvX, tX, lo2]; try omega) (fun u v => by simp [cmY, mr1, mvY, tY, lo2]; try omega)) g
  · exact edges_o3 (q 3 _ _ _ _ hF (fun u v => by simp [cmX, mr0, mvX, tX, lo2]; try omega) (fun u v => by simp [cmY, mr1, mvY, tY, lo2]; try omega)) g
  · exact edges_o4 (q 4 _ _ _ _ hF (fun u v => by simp [cmX, mr0, mvX, tX, lo2]; try omega) (fun u v => by simp [cmY, mr1, mvY, tY, lo2]; try omega)) g
  · exact edges_o5 (q 5 _ _ _ _ hF (fun u v => by simp [cmX, mr0, mvX, tX, lo2]; try omega) (fun u v => by simp [cmY, mr1, mvY, tY, lo2]; try omega)) g
  · exact edges_o6 (q 6 _ _ _ _ hF (fun u v => by simp [cmX, mr0, mvX, tX, lo2]; try omega) (fun u v => by simp [cmY, mr1, mvY, tY, lo2]; try omega)) g
  · exact edges_o7 (q 7 _ _ _ _ hF (fun u v => by simp [cmX, mr0, mvX, tX, lo2]; try omega) (fun u v => by simp [cmY, mr1, mvY, tY, lo2]; try omega)) g
theorem meE_inj {o x y : Int} (h0 : 0 ≤ o) (h7 : o ≤ 7) {e g : R4} (h : meE o x y e = meE o x y g) : e = g := by
  unfold meE at h
  refine R4_ext ?_ ?_ ?_ ?_ <;> (rcases o_cases h0 h7 with rfl | rfl | rfl | rfl | rfl | rfl | rfl | rfl <;> simp [mvX, mvY, tX, tY] at h <;> omega)
/-- A region and its image have as many edges. -/
theorem edges_same {f F : Nat → Bool} {L M : List R4} {o x y : Int} (h0 : 0 ≤ o) (h7 : o ≤ 7) (hL : EdgesOf f L) (hM : EdgesOf F M) (h : ∀ g, IsEdge F g ↔ ∃ e, IsEdge f e ∧ g = meE o x y e) : L.length = M.length := by
  have h1 : (L.map (meE o x y)).Nodup := by
    rw [List.Nodup, List.pairwise_map]
    exact hL.nodup.imp fun {a b} hne he => hne (meE_inj h0 h7 he)
  have hp : (L.map (meE o x y)).Perm M := by
    refine (List.perm_ext_iff_of_nodup h1 hM.nodup).2 fun g => ?_
    rw [List.mem_map, hM.2, h]
    constructor
    · rintro ⟨e, he, rfl⟩; exact ⟨e, (hL.2 e).1 he, rfl⟩
    · rintro ⟨e, he, rfl⟩; exact ⟨e, (hL.2 e).2 he, rfl⟩
  rw [← hp.length_eq, List.length_map]
theorem IsEdge.el {f : Nat → Bool} {e : R4} (h : IsEdge f e) : elB e.a e.b e.c e.d = true ∧ onB e.a e.b = true ∧ onB e.c e.d = true := by
  obtain ⟨o, c, lo, hi, ho, hm, rfl⟩ := h
  have hb := hm.b
  have h1 := hm.1
  have on : ∀ x y : Int, -40 ≤ x → x ≤ 40 → -40 ≤ y → y ≤ 40 → onB x y = true := fun x y h1 h2 h3 h4 => by unfold onB; rw [inB_mk h1 h2, inB_mk h3 h4]; rfl
  have hB : elB (mkE o c lo hi).a (mkE o c lo hi).b (mkE o c lo hi).c (mkE o c lo hi).d = true := by
    rcases o4 ho with rfl | rfl | rfl | rfl
    · show ((onB lo c && onB hi c) && !(decide (lo = hi) == decide (c = c))) = true
      rw [on lo c (by omega) (by omega) (by omega) (by omega), on hi c (by omega) (by omega) (by omega) (by omega)]; simp; omega
    · show ((onB hi c && onB lo c) && !(decide (hi = lo) == decide (c = c))) = true
      rw [on lo c (by omega) (by omega) (by omega) (by omega), on hi c (by omega) (by omega) (by omega) (by omega)]; simp; omega
    · show ((onB c lo && onB c hi) && !(decide (c = c) == decide (lo = hi))) = true
      rw [on c lo (by omega) (by omega) (by omega) (by omega), on c hi (by omega) (by omega) (by omega) (by omega)]; simp; omega
    · show ((onB c hi && onB c lo) && !(decide (c = c) == decide (hi = lo))) = true
      rw [on c lo (by omega) (by omega) (by omega) (by omega), on c hi (by omega) (by omega) (by omega) (by omega)]; simp; omega
  exact ⟨hB, elB_t hB⟩
/-- Moving an edge of a region whose image is on the chip. -/
theorem meV_edge {o x y : Int} {f F : Nat → Bool} (ht : vldB o x y = true) {e : R4} (he : IsEdge f e) (hg : IsEdge F (meE o x y e)) :
    meV o x y e.a e.b e.c e.d = .tuple #[.agg #[.int .i64 (meE o x y e).a, .int .i64 (meE o x y e).b, .int .i64 (meE o x y e).c, .int .i64 (meE o x y e).d], .bool true] := by
  obtain ⟨h1, -, -⟩ := he.el
  obtain ⟨-, h2, h3⟩ := hg.el
  by_cases ho : 4 ≤ o
  · have hB : meB o x y e.a e.b e.c e.d = true := by
      unfold meE at h2 h3
      rw [if_pos ho] at h2 h3
      unfold meB
      rw [ht, h1]
      simp only [Bool.true_and, Bool.and_eq_true]
      exact ⟨h3, h2⟩
    rw [meV_hi hB ho]
    unfold meE
    rw [if_pos ho]
  · have hB : meB o x y e.a e.b e.c e.d = true := by
      unfold meE at h2 h3
      rw [if_neg ho] at h2 h3
      unfold meB
      rw [ht, h1]
      simp only [Bool.true_and, Bool.and_eq_true]
      exact ⟨h2, h3⟩
    rw [meV_lo hB ho]
    unfold meE
    rw [if_neg ho]
end Go.Proofs.YtmabdemdapnmkaaGreatDoor
