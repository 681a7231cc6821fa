/- The model's edges of a set. Condition: the flags are in memory. -/
import Derived.Test.YtmabdemdapnmkaaGreatDoorEgE
namespace Go.Proofs.YtmabdemdapnmkaaGreatDoor
open Go.RowKit
set_option linter.unusedVariables false
set_option linter.unusedSimpArgs false
attribute [local go_sem ↓] Go.wp_at_zero Go.wp_at_succ

/-- What has come of the first j sides. -/
def EdgesTo (f : Nat → Bool) (S : List R4) (j : Nat) (L : List R4) : Prop :=
  L.Pairwise ltE ∧ L.length ≤ j ∧ ∀ e, e ∈ L ↔ ∃ (i : Nat) (o : Nat) (c t lo hi : Int), i < j ∧ S[i]? = some (mkE o c t (t + 1)) ∧ o < 4 ∧ gS f o c t = true ∧ firstB f o c t = true ∧ MaxI (gS f o c) lo hi ∧ lo ≤ t ∧ t < hi ∧ e = mkE o c lo hi
theorem EdgesTo.start (f : Nat → Bool) (S : List R4) : EdgesTo f S 0 [] := ⟨.nil, Nat.le_refl _, fun e => ⟨fun h => by simp at h, fun ⟨i, o, c, t, lo, hi, h, _⟩ => absurd h (by omega)⟩⟩
theorem EdgesTo.skip {f : Nat → Bool} {S : List R4} {j o : Nat} {c t : Int} {L : List R4} (h : EdgesTo f S j L) (ho : o < 4) (hs : S[j]? = some (mkE o c t (t + 1))) (hf : firstB f o c t = false) : EdgesTo f S (j + 1) L :=
  ⟨h.1, by have := h.2.1; omega, fun e => (h.2.2 e).trans ⟨fun ⟨i, o', c', t', lo, hi, h1, r⟩ => ⟨i, o', c', t', lo, hi, by omega, r⟩, fun ⟨i, o', c', t', lo, hi, h1, h2, h3, h4, h5, r⟩ => by
    by_cases e : i = j
    · subst e
      rw [hs] at h2
      obtain ⟨rfl, rfl, rfl, -⟩ := mkE_inj ho h3 (by omega) (by omega) (Option.some.inj h2)
      rw [hf] at h5
      cases h5
    · exact ⟨i, o', c', t', lo, hi, by omega, h2, h3, h4, h5, r⟩⟩⟩
theorem EdgesTo.put {f : Nat → Bool} {S : List R4} {j o : Nat} {c t lo hi : Int} {L L' : List R4} (h : EdgesTo f S j L) (ho : o < 4) (hs : S[j]? = some (mkE o c t (t + 1))) (hg : gS f o c t = true) (hf : firstB f o c t = true)
    (hm : MaxI (gS f o c) lo hi) (t1 : lo ≤ t) (t2 : t < hi) (h1 : L'.Pairwise ltE) (h2 : ∀ a, a ∈ L' ↔ a = mkE o c lo hi ∨ a ∈ L) (h3 : L'.length ≤ L.length + 1) : EdgesTo f S (j + 1) L' :=
  ⟨h1, by have := h.2.1; omega, fun e => by
    rw [h2, h.2.2]
    constructor
    · rintro (rfl | ⟨i, o', c', t', lo', hi', k, r⟩)
      · exact ⟨j, o, c, t, lo, hi, by omega, hs, ho, hg, hf, hm, t1, t2, rfl⟩
      · exact ⟨i, o', c', t', lo', hi', by omega, r⟩
    · rintro ⟨i, o', c', t', lo', hi', k1, k2, k3, k4, k5, k6, k7, k8, k9⟩
      by_cases e' : i = j
      · subst e'
        rw [hs] at k2
        obtain ⟨rfl, rfl, rfl, -⟩ := mkE_inj ho k3 (by omega) (by omega) (Option.some.inj k2)
        obtain ⟨rfl, rfl⟩ := hm.eq k6 t1 t2 k7 k8
        exact .inl k9
      · exact .inr ⟨i, o', c', t', lo', hi', by omega, k2, k3, k4, k5, k6, k7, k8, k9⟩⟩
theorem EdgesTo.done {f : Nat → Bool} {L : List R4} (h : EdgesTo f (sidesU f 80) (sidesU f 80).length L) : EdgesOf f L :=
  ⟨h.1, fun e => by
    rw [h.2.2, edge_iff]
    constructor
    · rintro ⟨i, o, c, t, lo, hi, _, _, h3, h4, h5, h6, h7, h8, h9⟩
      exact ⟨o, c, t, lo, hi, h3, h4, h5, h6, h7, h8, h9⟩
    · rintro ⟨o, c, t, lo, hi, h3, h4, h5, h6, h7, h8, h9⟩
      obtain ⟨i, hi'⟩ := List.getElem?_of_mem (mem_sides.2 ⟨o, c, t, h3, h4, rfl⟩)
      exact ⟨i, o, c, t, lo, hi, (List.getElem?_eq_some_iff.1 hi').1, hi', h3, h4, h5, h6, h7, h8, h9⟩⟩

/-- A side's start and direction ask whether there is one before it. -/
theorem first_ask (f : Nat → Bool) {o : Nat} (ho : o < 4) (c t : Int) : sB f o ((mkE o c t (t + 1)).a - dX o) ((mkE o c t (t + 1)).b - dY o) = !firstB f o c t := by
  rcases o4 ho with rfl | rfl | rfl | rfl
  · simp only [sB, mkE, dX, dY, firstB, Int.sub_zero]
    simp
  · simp only [sB, mkE, dX, dY, firstB, Int.sub_zero]
    simp
  · simp only [sB, mkE, dX, dY, firstB, Int.sub_zero]
    simp
  · simp only [sB, mkE, dX, dY, firstB, Int.sub_zero]
    simp
theorem side_d {o : Nat} (ho : o < 4) (c t : Int) : (mkE o c t (t + 1)).c - (mkE o c t (t + 1)).a = dX o ∧ (mkE o c t (t + 1)).d - (mkE o c t (t + 1)).b = dY o := by
  rcases o4 ho with rfl | rfl | rfl | rfl <;> simp only [mkE, dX, dY] <;> omega
theorem side_b {f : Nat → Bool} {o : Nat} (ho : o < 4) {c t : Int} (h : gS f o c t = true) : (-40 ≤ (mkE o c t (t + 1)).a ∧ (mkE o c t (t + 1)).a ≤ 40) ∧ (-40 ≤ (mkE o c t (t + 1)).b ∧ (mkE o c t (t + 1)).b ≤ 40) ∧ (-40 ≤ (mkE o c t (t + 1)).c ∧ (mkE o c t (t + 1)).c ≤ 40) ∧ (-40 ≤ (mkE o c t (t + 1)).d ∧ (mkE o c t (t + 1)).d ≤ 40) := by
  have := gS_t h
  rcases o4 ho with rfl | rfl | rfl | rfl <;> simp only [mkE] <;> omega
theorem dir_b (o : Nat) : (-1 ≤ dX o ∧ dX o ≤ 1) ∧ (-1 ≤ dY o ∧ dY o ≤ 1) := by
  unfold dX dY
  constructor
  · split <;> omega
  · split <;> omega

/-- The answer is the list of the set's edges. -/
def EdgeRes (f : Nat → Bool) (r : Ending) (w : World) : Prop := ∃ L h c', r = .returned (.slice (some ⟨h, 0, none⟩) L.length c') ∧ L.length ≤ 25600 ∧ L.length ≤ c' ∧ RecIs 0 w h L ∧ EdgesOf f L
set_option maxRecDepth 100000 in
set_option maxHeartbeats 4000000 in
theorem l06Edges_any (g c : Nat) (f : Nat → Bool) (w : World) (hB : BitsIs w g f) :
    Calls Tryz.prog 64 #[.slice (some ⟨g, 0, none⟩) 6400 c] w fun r w' => EdgeRes f r w' ∧ Below w.heap.size w w' := by
  have HB := Lib.hid hB
  clear hB
  obtain ⟨S, hS⟩ : ∃ S, S = sidesU f 80 := ⟨_, rfl⟩
  have hSl : S.length ≤ 25600 := by rw [hS]; exact sidesU_len f 80
  have hsd := fun w' (hw : BitsIs w' g f) => l06Sides_any g c f w' hw
  rw [← hS] at hsd
  have HS := Lib.hid hS
  clear hS
  go_enter Tryz.func64, Tryz.ntmps64
  go_wp2_with (go_at_call 55; refine (hsd _ (HB.out.below (by (repeat (first | (with_reducible exact Below.refl _ _) | (with_reducible refine Ext.drewN ?_ _) | (with_reducible refine Below.drew ?_) | (with_reducible refine Ext.alloc ?_ _) | (with_reducible refine Ext.setCell ?_ (by simp; try omega) _) | (with_reducible refine Ext.trans ?_ (by assumption)) | (with_reducible assumption) | exact Below.refl _ _))))).mono ?_; rintro r w1 ⟨⟨h, c', rfl, hI⟩, bw1⟩)
  have B1 : Below w.heap.size w w1 := by (repeat (first | (with_reducible exact Below.refl _ _) | (with_reducible refine Ext.drewN ?_ _) | (with_reducible refine Below.drew ?_) | (with_reducible refine Ext.alloc ?_ _) | (with_reducible refine Ext.setCell ?_ (by simp; try omega) _) | (with_reducible refine Ext.trans ?_ (by assumption)) | (with_reducible assumption) | exact Below.refl _ _))
  have H0 : Hid (RecIs 0 w1 w.heap.size []) := Lib.hid ⟨Nat.zero_le _, Nat.lt_of_lt_of_le (by simp) bw1.size, fun i r hr => by simp at hr⟩
  have HI := Lib.hid hI
  clear hI
  go_loopw [3, 5] (fun s3 s5 wr => ∃ (j h1 c1 : Nat) (L : List R4), j ≤ S.length ∧ s5 = .int .i64 (j : Int) ∧ s3 = .slice (some ⟨h1, 0, none⟩) L.length c1 ∧ L.length ≤ c1 ∧ Hid (RecIs 0 wr h1 L) ∧ Hid (EdgesTo f S j L) ∧ Below w1.heap.size w1 wr) (fun _ s5 _ => S.length - (intOf s5).toNat)
  case atStart => exact ⟨0, w.heap.size, 0, [], by omega, rfl, rfl, by simp, H0, Lib.hid (EdgesTo.start f S), Below.refl _ _⟩
  case round =>
    obtain ⟨j, h1, c1, L, hj, rfl, rfl, hc1, HL, HE, hW⟩ := hrel
    have hLj : L.length ≤ j := HE.out.2.1
    by_cases hjs : j < S.length
    · obtain ⟨s, hs⟩ : ∃ s, S[j]? = some s := ⟨_, List.getElem?_eq_getElem hjs⟩
      obtain ⟨o, cc, t, ho, hg, rfl⟩ := mem_sides.1 (by rw [← HS.out]; exact List.mem_of_getElem? hs)
      obtain ⟨x0, x1, x2, x3⟩ := (HI.out.extE hW).2.2 j _ hs
      obtain ⟨ba, bb, bc, bd⟩ := side_b ho hg
      obtain ⟨d0, d1⟩ := side_d ho cc t
      obtain ⟨d2, d3⟩ := dir_b o
      have hask := first_ask f ho cc t
      have hwh := fun w' (hw : BitsIs w' g f) => l06Whole_any g c f o ho cc t w' hw hg
      have HSJ := Lib.hid hs
      have HG := Lib.hid hg
      obtain ⟨e, he⟩ : ∃ e, e = mkE o cc t (t + 1) := ⟨_, rfl⟩
      rw [← he] at x0 x1 x2 x3 ba bb bc bd d0 d1 hask hwh
      have HEE := Lib.hid he
      clear he hg hs
      have q0 : (0 : Int) ≤ (j : Int) := by omega
      have q1 : (j : Int) < (S.length : Int) := by omega
      have Bw := B1.trans (hW.mono B1.size)
      have HBr := Lib.hid (HB.out.below Bw)
      have his := fun (w' : World) (hB' : BitsIs w' g f) => l06Is_any g c f o ho (e.a - dX o) (e.b - dY o) w' hB' (by omega) (by omega)
      obtain ⟨ux, hux⟩ : ∃ ux, ux = dX o := ⟨_, rfl⟩
      obtain ⟨uy, huy⟩ : ∃ uy, uy = dY o := ⟨_, rfl⟩
      rw [← hux] at d0 d2 hask his
      rw [← huy] at d1 d3 hask his
      have w0 : IntKind.i64.wrap (e.c - e.a) = ux := by rw [IntKind.wrap_i64]; omega
      have w1' : IntKind.i64.wrap (e.d - e.b) = uy := by rw [IntKind.wrap_i64]; omega
      have w2 : IntKind.i64.wrap (e.a - ux) = e.a - ux := by rw [IntKind.wrap_i64]; omega
      have w3 : IntKind.i64.wrap (e.b - uy) = e.b - uy := by rw [IntKind.wrap_i64]; omega
      have HUX := Lib.hid hux
      have HUY := Lib.hid huy
      clear hux huy d0 d1
      rw [hask] at his
      clear hask
      cases hf : firstB f o cc t with
      | false =>
        rw [hf] at his
        have HF := Lib.hid hf
        clear hf
        go_wp2_with (go_at_call 108; refine (his _ (HBr.out.below (by (repeat (first | (with_reducible exact Below.refl _ _) | (with_reducible refine Ext.drewN ?_ _) | (with_reducible refine Below.drew ?_) | (with_reducible refine Ext.alloc ?_ _) | (with_reducible refine Ext.setCell ?_ (by simp; try omega) _) | (with_reducible refine Ext.trans ?_ (by assumption)) | (with_reducible assumption) | exact Below.refl _ _))))).mono ?_; rintro r w2 ⟨rfl, rfl⟩)
        go_roundw
        case rel => exact ⟨j + 1, h1, c1, L, by omega, by go_num, rfl, hc1, Lib.hid (HL.out.extE (by (repeat (first | (with_reducible exact Below.refl _ _) | (with_reducible refine Ext.drewN ?_ _) | (with_reducible refine Below.drew ?_) | (with_reducible refine Ext.alloc ?_ _) | (with_reducible refine Ext.setCell ?_ (by simp; try omega) _) | (with_reducible refine Ext.trans ?_ (by assumption)) | (with_reducible assumption) | exact Below.refl _ _)))), Lib.hid (HE.out.skip ho HSJ.out HF.out), Ext.alloc hW _⟩
        case measure => simp [intOf]; omega
      | true =>
        rw [hf] at his
        have HF := Lib.hid hf
        clear hf
        go_wp2_with (first | (go_at_call 108; refine (his _ (HBr.out.below (by (repeat (first | (with_reducible exact Below.refl _ _) | (with_reducible refine Ext.drewN ?_ _) | (with_reducible refine Below.drew ?_) | (with_reducible refine Ext.alloc ?_ _) | (with_reducible refine Ext.setCell ?_ (by simp; try omega) _) | (with_reducible refine Ext.trans ?_ (by assumption)) | (with_reducible assumption) | exact Below.refl _ _))))).mono ?_; rintro r w2 ⟨rfl, rfl⟩) | (go_at_call 110; refine (hwh _ (HBr.out.below (by (repeat (first | (with_reducible exact Below.refl _ _) | (with_reducible refine Ext.drewN ?_ _) | (with_reducible refine Below.drew ?_) | (with_reducible refine Ext.alloc ?_ _) | (with_reducible refine Ext.setCell ?_ (by simp; try omega) _) | (with_reducible refine Ext.trans ?_ (by assumption)) | (with_reducible assumption) | exact Below.refl _ _))))).mono ?_; rintro r w3 ⟨⟨lo, hi, hm, hlo, hhi, rfl⟩, bw3⟩; have B3 : Below wr.heap.size wr w3 := Ext.trans (Ext.alloc (Below.refl _ _) _) bw3) | (go_at_call 109; refine (l06Put_any h1 c1 L (mkE o cc lo hi) _ (HL.out.extE B3) (by omega) hc1 HE.out.1).mono ?_; rintro r w4 ⟨⟨L', h2, c2, rfl, hR2, hs2, hm2, hl2, hc2⟩, bw4⟩; have HR2 := Lib.hid hR2; have HS2 := Lib.hid hs2; have HM2 := Lib.hid hm2; clear hR2 hs2 hm2))
        go_roundw
        case rel => exact ⟨j + 1, h2, c2, L', by omega, by go_num, rfl, hc2, HR2, Lib.hid (HE.out.put ho HSJ.out HG.out HF.out hm hlo hhi HS2.out HM2.out hl2), hW.trans ((Ext.trans B3 bw4).mono hW.size)⟩
        case measure => simp [intOf]; omega
    · have q1 : ¬ (j : Int) < (S.length : Int) := by omega
      obtain rfl : j = S.length := by omega
      go_wp2_with fail
      refine bodyPost_ret (results_tmp rfl _ _ _) rfl ⟨⟨L, h1, c1, rfl, by omega, hc1, HL.out, ?_⟩, ?_⟩
      · have h9 := HE.out
        rw [HS.out] at h9
        exact h9.done
      · exact B1.trans (hW.mono B1.size)
end Go.Proofs.YtmabdemdapnmkaaGreatDoor
