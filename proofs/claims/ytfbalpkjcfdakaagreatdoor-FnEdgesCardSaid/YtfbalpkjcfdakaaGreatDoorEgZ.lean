/- Perimeter. Conditions: the rectangles' cells are in memory; the tables are in memory. -/
import Derived.Test.YtfbalpkjcfdakaaGreatDoorZE
import Derived.Test.YtfbalpkjcfdakaaGreatDoorZB
import Derived.Test.YtfbalpkjcfdakaaGreatDoorZA
namespace Go.Proofs.YtfbalpkjcfdakaaGreatDoor
open Go.RowKit Go.Shelf
set_option linter.unusedVariables false
set_option linter.unusedSimpArgs false
attribute [local go_sem ↓] Go.wp_at_zero Go.wp_at_succ

/-- What Perimeter answers. -/
def perV (P Q R S : Nat → Int) (n : Nat) : Int := if okR P Q R S n = true then ((sidesU (covF P Q R S n) 80).length : Int) else -1
theorem specPerimeter_any (m : Option Addr) (n cap : Nat) (P Q R S : Nat → Int) (w : World) (hn : n ≤ 1048576) (hR : RectsIs w.heap.size w m n P Q R S) :
    Calls Tryz.prog 37 #[.slice m n cap] w fun e w' => e = .returned (.int .i64 (perV P Q R S n)) ∧ Below w.heap.size w w' := by
  have HR := Lib.hid hR
  clear hR
  cases hok : okR P Q R S n with
  | false =>
    have e0 : perV P Q R S n = -1 := by unfold perV; rw [if_neg (by simp [hok])]
    rw [e0]
    clear e0
    go_enter Tryz.func37, Tryz.ntmps37
    go_wp2_with fail
    refine (l03Ok_any m n cap P Q R S _ hn HR.out).mono ?_
    rintro e w1 ⟨rfl, bw1⟩
    rw [hok]
    go_wp2_with fail
    go_ret
    exact ⟨rfl, bw1⟩
  | true =>
    have e0 : perV P Q R S n = ((sidesU (covF P Q R S n) 80).length : Int) := by unfold perV; rw [if_pos hok]
    rw [e0]
    clear e0
    have HV := Lib.hid (okR_all hok)
    have hsl := sidesU_len (covF P Q R S n) 80
    go_enter Tryz.func37, Tryz.ntmps37
    go_wp2_with fail
    refine (l03Ok_any m n cap P Q R S _ hn HR.out).mono ?_
    rintro e w1 ⟨rfl, bw1⟩
    rw [hok]
    go_wp2_with fail
    refine (l03Bits_any m n cap P Q R S _ hn (HR.out.ext bw1) HV.out).mono ?_
    rintro e w2 ⟨⟨g, rfl, hg, hB⟩, bw2⟩
    go_wp2_with fail
    refine (l06Sides_any g 6400 _ _ hB).mono ?_
    rintro e w3 ⟨⟨h, c, rfl, hI⟩, bw3⟩
    clear hI hB
    go_wp2_with fail
    go_ret
    exact ⟨rfl, Ext.trans (Ext.trans bw1 bw2) bw3⟩

theorem IsEdge.len {f : Nat → Bool} {e : R4} (h : IsEdge f e) : elV e.a e.b e.c e.d = lenE e ∧ 0 ≤ lenE e ∧ lenE e ≤ 80 := by
  obtain ⟨o, c, lo, hi, ho, hm, rfl⟩ := h
  have hb := hm.b
  have hl := lenE_mk ho hm.1 (c := c)
  have h1 := hm.1
  refine ⟨?_, by omega, by omega⟩
  have hB : elB (mkE o c lo hi).a (mkE o c lo hi).b (mkE o c lo hi).c (mkE o c lo hi).d = true := by
    have on : ∀ x y : Int, -40 ≤ x → x ≤ 40 → -40 ≤ y → y ≤ 40 → onB x y = true := fun x y h1 h2 h3 h4 => by unfold onB; rw [inB_mk h1 h2, inB_mk h3 h4]; rfl
    rcases o4 ho with rfl | rfl | rfl | rfl
    · show ((onB lo c && onB hi c) && !(decide (lo = hi) == decide (c = c))) = true
      rw [on lo c (by omega) (by omega) (by omega) (by omega), on hi c (by omega) (by omega) (by omega) (by omega)]; simp; omega
    · show ((onB hi c && onB lo c) && !(decide (hi = lo) == decide (c = c))) = true
      rw [on lo c (by omega) (by omega) (by omega) (by omega), on hi c (by omega) (by omega) (by omega) (by omega)]; simp; omega
    · show ((onB c lo && onB c hi) && !(decide (c = c) == decide (lo = hi))) = true
      rw [on c lo (by omega) (by omega) (by omega) (by omega), on c hi (by omega) (by omega) (by omega) (by omega)]; simp; omega
    · show ((onB c hi && onB c lo) && !(decide (c = c) == decide (hi = lo))) = true
      rw [on c lo (by omega) (by omega) (by omega) (by omega), on c hi (by omega) (by omega) (by omega) (by omega)]; simp; omega
  rw [elV_t hB]
  rfl
theorem lens_take {f : Nat → Bool} {L : List R4} (h : EdgesOf f L) (i : Nat) : 0 ≤ ((L.take i).map lenE).sum ∧ ((L.take i).map lenE).sum ≤ 80 * ((L.take i).length : Int) := by
  have hs : ∀ l : List R4, (∀ e ∈ l, 0 ≤ lenE e ∧ lenE e ≤ 80) → 0 ≤ (l.map lenE).sum ∧ (l.map lenE).sum ≤ 80 * (l.length : Int) := by
    intro l
    induction l with
    | nil => intro _; simp
    | cons e l ih =>
      intro hl
      have h1 := hl e (by simp)
      have h2 := ih fun g hg => hl g (by simp [hg])
      simp only [List.map_cons, List.sum_cons, List.length_cons]
      omega
  exact hs _ fun e he => ((h.2 e).1 (List.mem_of_mem_take he)).len.2
theorem lens_step {L : List R4} {i : Nat} (h : i < L.length) : ((L.take (i + 1)).map lenE).sum = ((L.take i).map lenE).sum + lenE (L.getD i default) := by
  rw [List.take_succ_eq_append_getElem h, List.map_append, List.sum_append]
  simp [h]

set_option maxRecDepth 100000 in
set_option maxHeartbeats 4000000 in
theorem implPerimeter_any (m : Option Addr) (n cap : Nat) (P Q R S : Nat → Int) (w : World) (hn : n ≤ 1048576) (hcap : n ≤ cap) (hD : EnvW w) (hM : Mats w) (hR : RectsIs w.heap.size w m n P Q R S) :
    Calls Tryz.prog 36 #[.slice m n cap] w fun e w' => e = .returned (.int .i64 (perV P Q R S n)) ∧ Below w.heap.size w w' := by
  have his := fun w' hD' hR' => isRegion_any m n cap P Q R S w' hn hcap hD' hR'
  cases hok : okR P Q R S n with
  | false =>
    have e0 : perV P Q R S n = -1 := by unfold perV; rw [if_neg (by simp [hok])]
    rw [e0]
    rw [hok] at his
    clear e0
    go_enter Tryz.func36, Tryz.ntmps36
    go_wp2_with (go_at_call 73; refine (his _ (hD.ext (by (repeat (first | (with_reducible exact Below.refl _ _) | (with_reducible refine Ext.drewN ?_ _) | (with_reducible refine Below.drew ?_) | (with_reducible refine Ext.alloc ?_ _) | (with_reducible refine Ext.setCell ?_ (by simp; try omega) _) | (with_reducible refine Ext.trans ?_ (by assumption)) | (with_reducible assumption) | exact Below.refl _ _)))) (hR.ext (by (repeat (first | (with_reducible exact Below.refl _ _) | (with_reducible refine Ext.drewN ?_ _) | (with_reducible refine Below.drew ?_) | (with_reducible refine Ext.alloc ?_ _) | (with_reducible refine Ext.setCell ?_ (by simp; try omega) _) | (with_reducible refine Ext.trans ?_ (by assumption)) | (with_reducible assumption) | exact Below.refl _ _))))).mono ?_; rintro e w1 ⟨rfl, bw1⟩)
    go_ret
    exact ⟨rfl, by (repeat (first | (with_reducible exact Below.refl _ _) | (with_reducible refine Ext.drewN ?_ _) | (with_reducible refine Below.drew ?_) | (with_reducible refine Ext.alloc ?_ _) | (with_reducible refine Ext.setCell ?_ (by simp; try omega) _) | (with_reducible refine Ext.trans ?_ (by assumption)) | (with_reducible assumption) | exact Below.refl _ _))⟩
  | true =>
    have e0 : perV P Q R S n = ((sidesU (covF P Q R S n) 80).length : Int) := by unfold perV; rw [if_pos hok]
    rw [e0]
    rw [hok] at his
    clear e0
    have hbe := fun w' hD' hM' hR' => implBoundaryEdges2_any m n cap P Q R S w' hn hcap hD' hM' hR'
    have hlen := beL_len P Q R S n
    obtain ⟨L, hL⟩ : ∃ L, L = beL P Q R S n := ⟨_, rfl⟩
    rw [← hL] at hbe hlen
    clear hL
    go_enter Tryz.func36, Tryz.ntmps36
    go_wp2_with (first | (go_at_call 73; refine (his _ (hD.ext (by (repeat (first | (with_reducible exact Below.refl _ _) | (with_reducible refine Ext.drewN ?_ _) | (with_reducible refine Below.drew ?_) | (with_reducible refine Ext.alloc ?_ _) | (with_reducible refine Ext.setCell ?_ (by simp; try omega) _) | (with_reducible refine Ext.trans ?_ (by assumption)) | (with_reducible assumption) | exact Below.refl _ _)))) (hR.ext (by (repeat (first | (with_reducible exact Below.refl _ _) | (with_reducible refine Ext.drewN ?_ _) | (with_reducible refine Below.drew ?_) | (with_reducible refine Ext.alloc ?_ _) | (with_reducible refine Ext.setCell ?_ (by simp; try omega) _) | (with_reducible refine Ext.trans ?_ (by assumption)) | (with_reducible assumption) | exact Below.refl _ _))))).mono ?_; rintro e w1 ⟨rfl, bw1⟩) | (go_at_call 34; refine (hbe _ (hD.ext (by (repeat (first | (with_reducible exact Below.refl _ _) | (with_reducible refine Ext.drewN ?_ _) | (with_reducible refine Below.drew ?_) | (with_reducible refine Ext.alloc ?_ _) | (with_reducible refine Ext.setCell ?_ (by simp; try omega) _) | (with_reducible refine Ext.trans ?_ (by assumption)) | (with_reducible assumption) | exact Below.refl _ _)))) (hM.below (by (repeat (first | (with_reducible exact Below.refl _ _) | (with_reducible refine Ext.drewN ?_ _) | (with_reducible refine Below.drew ?_) | (with_reducible refine Ext.alloc ?_ _) | (with_reducible refine Ext.setCell ?_ (by simp; try omega) _) | (with_reducible refine Ext.trans ?_ (by assumption)) | (with_reducible assumption) | exact Below.refl _ _))) hM.size) (hR.ext (by (repeat (first | (with_reducible exact Below.refl _ _) | (with_reducible refine Ext.drewN ?_ _) | (with_reducible refine Below.drew ?_) | (with_reducible refine Ext.alloc ?_ _) | (with_reducible refine Ext.setCell ?_ (by simp; try omega) _) | (with_reducible refine Ext.trans ?_ (by assumption)) | (with_reducible assumption) | exact Below.refl _ _))))).mono ?_; rintro e w2 ⟨⟨a, c, rfl, hO⟩, hE, bw2⟩))
    have HE := Lib.hid (hE hok)
    have HO0 := Lib.hid hO
    have HB0 : Hid (Below w.heap.size w w2) := Lib.hid (by (repeat (first | (with_reducible exact Below.refl _ _) | (with_reducible refine Ext.drewN ?_ _) | (with_reducible refine Below.drew ?_) | (with_reducible refine Ext.alloc ?_ _) | (with_reducible refine Ext.setCell ?_ (by simp; try omega) _) | (with_reducible refine Ext.trans ?_ (by assumption)) | (with_reducible assumption) | exact Below.refl _ _)))
    clear hE hO bw1 bw2 his hbe hD hM hR
    go_loopw [3, 12] (fun s3 s12 wr => ∃ i : Nat, i ≤ L.length ∧ s12 = .int .i64 (i : Nat) ∧ s3 = .int .i64 ((L.take i).map lenE).sum ∧ Hid (OwnsL w1.heap.size wr a L) ∧ Hid (Below w.heap.size w wr)) (fun _ s12 _ => L.length - (intOf s12).toNat)
    case atStart => exact ⟨0, by omega, rfl, by simp, HO0, HB0⟩
    case round =>
      obtain ⟨i, hil, rfl, rfl, HO, HW⟩ := hrel
      by_cases hlt : i < L.length
      · have q1 : ((i : Nat) : Int) < (L.length : Int) := by omega
        have q0 : (0 : Int) ≤ ((i : Nat) : Int) := by omega
        have hs1 := lens_take HE.out i
        have hs2 := lens_step hlt
        have hti : (L.take i).length = i := by rw [List.length_take]; omega
        rw [hti] at hs1
        have hmem : L.getD i default ∈ L := List.mem_of_getElem? (getD_get hlt)
        have hle := ((HE.out.2 _).1 hmem).len
        obtain ⟨e, he⟩ : ∃ e, e = L.getD i default := ⟨_, rfl⟩
        obtain ⟨b1, o1, rfl, hb1, c0, c1, c2, c3⟩ := HO.out.rects i hlt
        unfold pA at c0; unfold pB at c1; unfold pC at c2; unfold pD at c3
        rw [← he] at c0 c1 c2 c3 hle hs2
        have hIE := fun w => implEdgeLength_any e.a e.b e.c e.d w
        rw [hle.1] at hIE
        obtain ⟨d, hd⟩ : ∃ d, d = lenE e := ⟨_, rfl⟩
        obtain ⟨v, hv⟩ : ∃ v, v = ((L.take i).map lenE).sum := ⟨_, rfl⟩
        rw [← hd] at hIE hle hs2
        rw [← hv] at hs1 hs2 ⊢
        obtain ⟨d0, d1⟩ := hle.2
        obtain ⟨v0, v1⟩ := hs1
        have v2 : v ≤ 100000000 := by omega
        have HS := Lib.hid hs2
        clear he hd hv hmem hle hs2 hti
        go_wp2_with (go_at_call 35; refine (hIE _).mono ?_; rintro r w3 ⟨rfl, bw3⟩)
        have b3 : Below wr.heap.size wr w3 := by (repeat (first | (with_reducible exact Below.refl _ _) | (with_reducible refine Ext.drewN ?_ _) | (with_reducible refine Below.drew ?_) | (with_reducible refine Ext.alloc ?_ _) | (with_reducible refine Ext.setCell ?_ (by simp; try omega) _) | (with_reducible refine Ext.trans ?_ (by assumption)) | (with_reducible assumption) | exact Below.refl _ _))
        have HO3 := Lib.hid (HO.out.below b3)
        have HW3 := Lib.hid (Ext.trans HW.out b3)
        go_roundw
        case rel => exact ⟨i + 1, by omega, by go_num, by rw [HS.out], HO3, HW3⟩
        case measure => simp [intOf]; omega
      · have q1 : ¬ ((i : Nat) : Int) < (L.length : Int) := by omega
        obtain rfl : i = L.length := by omega
        have hs := edges_len HE.out
        rw [List.take_length, hs]
        clear hs HO
        go_wp2_with fail
        go_ret
        exact ⟨rfl, HW.out⟩
end Go.Proofs.YtfbalpkjcfdakaaGreatDoor
