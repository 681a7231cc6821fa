/- The program's bothWays at upright edges. Conditions: the rectangles' cells are in memory and make a region; the tables are in memory. -/
import Derived.Test.YtmabdemdapnmkaaGreatDoorEgU
import Derived.Test.YtmabdemdapnmkaaGreatDoorMgC
import Derived.Maps.AppendAt
namespace Go.Proofs.YtmabdemdapnmkaaGreatDoor
open Go.RowKit Go.Shelf
set_option linter.unusedVariables false
set_option linter.unusedSimpArgs false
attribute [local go_sem ↓] Go.wp_at_zero Go.wp_at_succ

theorem mirrored_any (e : R4) (w : World) : Calls Tryz.prog 191 #[.agg #[.int .i64 e.a, .int .i64 e.b, .int .i64 e.c, .int .i64 e.d]] w fun r w' => r = .returned (.agg #[.int .i64 (mirE e).a, .int .i64 (mirE e).b, .int .i64 (mirE e).c, .int .i64 (mirE e).d]) ∧ Below w.heap.size w w' := by
  go_enter Tryz.func191, Tryz.ntmps191
  go_wp2_with fail
  first | go_ret | (refine bodyPost_ret (v := .agg #[.int .i64 (mirE e).a, .int .i64 (mirE e).b, .int .i64 (mirE e).c, .int .i64 (mirE e).d]) (by simp [*, mirE, results, Tryz.results191, go_sem]) rfl ?_)
  exact ⟨rfl, by (repeat (first | (with_reducible exact Below.refl _ _) | (with_reducible refine Ext.drewN ?_ _) | (with_reducible refine Below.drew ?_) | (with_reducible refine Ext.alloc ?_ _) | (with_reducible refine Ext.setCell ?_ (by simp; try omega) _) | (with_reducible refine Ext.trans ?_ (by assumption)) | (with_reducible assumption) | exact Below.refl _ _))⟩

theorem rec_ownE {w : World} {B g n cap : Nat} {l : List R4} (h : w.ownsRow B 32 4 (.slice (some ⟨g, 0, none⟩) n cap) n (recCells l)) : RecIs B w g l := by
  have hl := h.lt g rfl
  refine ⟨hl.1, hl.2, fun i r hr => ?_⟩
  obtain ⟨h0, h1, h2, h3⟩ := recCells_at l i r hr
  have c0 := h.cells (g := g) rfl _ _ h0
  have c1 := h.cells (g := g) rfl _ _ h1
  have c2 := h.cells (g := g) rfl _ _ h2
  have c3 := h.cells (g := g) rfl _ _ h3
  rw [addG] at c0 c1 c2 c3
  exact ⟨c0, c1, c2, c3⟩
theorem own_edges {w : World} {B : Nat} {v : Value} {l : List R4} (h : w.ownsRow B 32 4 v l.length (recCells l)) : ∃ a c, v = .slice a l.length c ∧ l.length ≤ c ∧ OwnsL B w a l := by
  have hh := h
  rcases h.2 with ⟨rfl, h0⟩ | ⟨g, cap, cur, rfl, h1, h2, h3, h9⟩
  · have hl : l = [] := List.eq_nil_of_length_eq_zero h0
    subst hl
    exact ⟨none, 0, rfl, Nat.le_refl _, .inl rfl⟩
  · have hr := rec_ownE hh
    refine ⟨_, cap, rfl, h3, .inr ⟨g, rfl, h1, hr.2.1, fun k hk => ?_⟩⟩
    obtain ⟨c0, c1, c2, c3⟩ := hr.2.2 k _ (getD_get hk)
    exact ⟨⟨c0, c1, c2, c3⟩, frozen_of_row _ _ _ _ _ h2, frozen_of_row _ _ _ _ _ h2, frozen_of_row _ _ _ _ _ h2, frozen_of_row _ _ _ _ _ h2⟩

theorem own_at {w : World} {B : Nat} {a : Option Addr} {c : Nat} {l : List R4} (h : w.ownsRow B 32 4 (.slice a l.length c) l.length (recCells l)) : RectsL w.heap.size w a l := by
  obtain ⟨a', c', e, -, h'⟩ := own_edges h
  cases e
  exact h'.rects
theorem own_len {w : World} {B : Nat} {a : Option Addr} {c : Nat} {l : List R4} {j : Nat} (h : w.ownsRow B 32 4 (.slice a l.length c) l.length (recCells l)) (hj : (Value.slice a l.length c).ownBlock = some j) : B ≤ j ∧ j < w.heap.size := h.lt j hj
theorem take_mir {L2 L3 : List R4} {i : Nat} (h : i < L3.length) : L2 ++ (L3.take (i + 1)).map mirE = (L2 ++ (L3.take i).map mirE) ++ [mirE (L3.getD i default)] := by
  rw [List.take_succ_eq_append_getElem h, List.map_append, List.append_assoc]
  congr 2
  simp [h]

/-- What bothWays hands back: the edges, each once, in memory of its own. -/
def BRes (base : Nat) (f : Nat → Bool) (e : Ending) (w : World) : Prop := ∃ (v : Value) (L : List R4), e = .returned v ∧ w.ownsRow base 32 4 v L.length (recCells L) ∧ L.length ≤ 13122 ∧ L.Nodup ∧ ∀ g, g ∈ L ↔ IsEdge f g

set_option maxRecDepth 100000 in
set_option maxHeartbeats 4000000 in
theorem bothWays_any (m : Option Addr) (n cap : Nat) (P Q R S : Nat → Int) (w : World) (hn : n ≤ 1048576) (hcap : n ≤ cap) (hD : EnvW w) (hM : Mats w) (hR : RectsIs w.heap.size w m n P Q R S) (hok : okR P Q R S n = true) :
    Calls Tryz.prog 44 #[.slice m n cap, .func (.func 45) #[] #[]] w fun e w' => BRes w.heap.size (covF P Q R S n) e w' ∧ Below w.heap.size w w' := by
  obtain ⟨L9, hL9⟩ : ∃ L9, L9 = mgL 5 0 0 P Q R S n := ⟨_, rfl⟩
  have hlen9 : L9.length ≤ 3280 := by rw [hL9]; exact mgL_len _ _ _ _ _ _ _ _
  have hok9 := trC_ok hok
  have hE9 : Hid (∀ (L L' : List R4), L.Nodup → (∀ g, g ∈ L ↔ VertE (covF P Q R S n) g) → L'.Nodup → (∀ g, g ∈ L' ↔ VertE (trC P Q R S n) g) → (L ++ L'.map mirE).Nodup ∧ ∀ g, g ∈ L ++ L'.map mirE ↔ IsEdge (covF P Q R S n) g) := Lib.hid fun L L' h1 h2 h3 h4 => edges_both hok h1 h2 h3 h4
  have hmg := fun w' hD' hM' hR' => moveRegionC_any 5 0 0 m n cap P Q R S w' hn hcap hD' hM' hR'
  have hup1 := fun w' hD' hR' => uprightEdges_any m n cap P Q R S w' hn hcap hD' hR' hok
  rw [(mg5 hok).1] at hmg
  unfold trC at hE9
  rw [← hL9] at hmg hok9 hE9
  have hup2 := fun a9 c9 w' hc9 hD' hR' => uprightEdges_any a9 L9.length c9 (pA L9) (pB L9) (pC L9) (pD L9) w' (by omega) hc9 hD' hR' hok9
  obtain ⟨f, hf⟩ : ∃ f, f = covF P Q R S n := ⟨_, rfl⟩
  obtain ⟨f9, hf9⟩ : ∃ f9, f9 = covF (pA L9) (pB L9) (pC L9) (pD L9) L9.length := ⟨_, rfl⟩
  rw [← hf] at hup1 hE9 ⊢
  rw [← hf9] at hup2 hE9
  clear hf hf9 hok9 hok hL9
  obtain ⟨i0, hin, hz0, hz1, hz2⟩ := info_parts infoEg
  go_enter Tryz.func44, Tryz.ntmps44
  go_wp2_with (first | (have hx := bw2; clear hx; go_at_call 45; refine (hup2 a9 c9 _ hc9 (hD.ext (by (repeat (first | (with_reducible exact Below.refl _ _) | (with_reducible refine Ext.drewN ?_ _) | (with_reducible refine Below.drew ?_) | (with_reducible refine Ext.alloc ?_ _) | (with_reducible refine Ext.setCell ?_ (by simp; try omega) _) | (with_reducible refine Ext.trans ?_ (by assumption)) | (with_reducible assumption) | exact Below.refl _ _)))) (hR9.ext (by (repeat (first | (with_reducible exact Below.refl _ _) | (with_reducible refine Ext.drewN ?_ _) | (with_reducible refine Below.drew ?_) | (with_reducible refine Ext.alloc ?_ _) | (with_reducible refine Ext.setCell ?_ (by simp; try omega) _) | (with_reducible refine Ext.trans ?_ (by assumption)) | (with_reducible assumption) | exact Below.refl _ _))))).mono ?_; rintro e w3 ⟨⟨v3, L3, rfl, hown3, hl3, hn3, hm3⟩, bw3⟩; obtain ⟨a3, c3, rfl, hcp3, hol3⟩ := own_edges hown3) | (go_at_call 45; refine (hup1 _ (hD.ext (by (repeat (first | (with_reducible exact Below.refl _ _) | (with_reducible refine Ext.drewN ?_ _) | (with_reducible refine Below.drew ?_) | (with_reducible refine Ext.alloc ?_ _) | (with_reducible refine Ext.setCell ?_ (by simp; try omega) _) | (with_reducible refine Ext.trans ?_ (by assumption)) | (with_reducible assumption) | exact Below.refl _ _)))) (hR.ext (by (repeat (first | (with_reducible exact Below.refl _ _) | (with_reducible refine Ext.drewN ?_ _) | (with_reducible refine Below.drew ?_) | (with_reducible refine Ext.alloc ?_ _) | (with_reducible refine Ext.setCell ?_ (by simp; try omega) _) | (with_reducible refine Ext.trans ?_ (by assumption)) | (with_reducible assumption) | exact Below.refl _ _))))).mono ?_; rintro e w2 ⟨⟨v2, L2, rfl, hown2, hl2, hn2, hm2⟩, bw2⟩) | (go_at_call 90; refine (hmg _ (hD.ext (by (repeat (first | (with_reducible exact Below.refl _ _) | (with_reducible refine Ext.drewN ?_ _) | (with_reducible refine Below.drew ?_) | (with_reducible refine Ext.alloc ?_ _) | (with_reducible refine Ext.setCell ?_ (by simp; try omega) _) | (with_reducible refine Ext.trans ?_ (by assumption)) | (with_reducible assumption) | exact Below.refl _ _)))) (hM.below (by (repeat (first | (with_reducible exact Below.refl _ _) | (with_reducible refine Ext.drewN ?_ _) | (with_reducible refine Below.drew ?_) | (with_reducible refine Ext.alloc ?_ _) | (with_reducible refine Ext.setCell ?_ (by simp; try omega) _) | (with_reducible refine Ext.trans ?_ (by assumption)) | (with_reducible assumption) | exact Below.refl _ _))) hM.size) (hR.ext (by (repeat (first | (with_reducible exact Below.refl _ _) | (with_reducible refine Ext.drewN ?_ _) | (with_reducible refine Below.drew ?_) | (with_reducible refine Ext.alloc ?_ _) | (with_reducible refine Ext.setCell ?_ (by simp; try omega) _) | (with_reducible refine Ext.trans ?_ (by assumption)) | (with_reducible assumption) | exact Below.refl _ _))))).mono ?_; rintro e w1 ⟨⟨a9, c9, rfl, hc9, hol9⟩, bw1⟩; have hR9 := hol9.rects))
  have B1 : Below w.heap.size w w3 := Ext.trans (Ext.trans bw1 bw2) bw3
  have s12 := bw2.size
  have s23 := bw3.size
  have s01 := bw1.size
  have HB1 := Lib.hid B1
  have O2 := Lib.hid (own_keep hown2 bw3)
  have hb2 := Lib.hid fun j hj => (hown2.lt j hj).2
  have O3 := Lib.hid hown3
  have hFin := Lib.hid (hE9.out L2 L3 hn2 hm2 hn3 hm3)
  clear hown2 hown3 hol3 hup1 hup2 hmg bw1 bw2 bw3 B1 hE9 hn2 hn3 hm2 hm3 hR9 hol9 hD hM hR
  go_loopw [7, 23] (fun s7 s23 wr => ∃ i : Nat, i ≤ L3.length ∧ s23 = .int .i64 (i : Nat) ∧ Hid (wr.ownsRow w1.heap.size 32 4 s7 (L2 ++ (L3.take i).map mirE).length (recCells (L2 ++ (L3.take i).map mirE))) ∧ Hid (∀ j, s7.ownBlock = some j → j < w2.heap.size ∨ w3.heap.size ≤ j) ∧ Hid (wr.ownsRow w2.heap.size 32 4 (.slice a3 L3.length c3) L3.length (recCells L3)) ∧ Hid (Below w.heap.size w wr) ∧ Hid (∀ j, (Value.slice a3 L3.length c3).ownBlock = some j → j < w3.heap.size) ∧ w3.heap.size ≤ wr.heap.size) (fun _ s23 _ => L3.length - (intOf s23).toNat)
  case atStart => exact ⟨0, by omega, rfl, Lib.hid (by simpa using O2.out), Lib.hid fun j hj => .inl (hb2.out j hj), O3, HB1, Lib.hid fun j hj => (own_len O3.out hj).2, Nat.le_refl _⟩
  case round =>
    obtain ⟨i, hil, rfl, HO, HB, HO3, HW, HL3, hsz⟩ := hrel
    by_cases hlt : i < L3.length
    · have q1 : ((i : Nat) : Int) < (L3.length : Int) := by omega
      have q0 : (0 : Int) ≤ ((i : Nat) : Int) := by omega
      obtain ⟨e, he⟩ : ∃ e, e = L3.getD i default := ⟨_, rfl⟩
      obtain ⟨b1, o1, rfl, hb1, c0, c1, c2, c3'⟩ := own_at HO3.out i hlt
      unfold pA at c0; unfold pB at c1; unfold pC at c2; unfold pD at c3'
      rw [← he] at c0 c1 c2 c3'
      have HT := Lib.hid (take_mir (L2 := L2) hlt)
      rw [← he] at HT
      clear he
      have hne : ∀ j, u7.ownBlock = some j → j ≠ b1 := fun j hj e => by
        subst e
        have h1 := (own_len HO3.out rfl).1
        have h2 := HL3.out j rfl
        rcases HB.out j hj with h | h <;> simp at h1 h2 <;> omega
      have HNE := Lib.hid hne
      have hll : (L2 ++ (L3.take i).map mirE).length = L2.length + i := by rw [List.length_append, List.length_map, List.length_take, Nat.min_eq_left (by omega)]
      have HLL := Lib.hid hll
      clear hne hll
      have hW := HW.out
      go_wp2_with (first | (go_at_call 191; refine (mirrored_any e _).mono ?_; rintro r v1 ⟨rfl, bv1⟩) | (at_builtin; refine wpList_append_own_at _ rfl _ _ 27 rfl (w1.heap.size) 32 i0 (.agg #[.int .i64 0, .int .i64 0, .int .i64 0, .int .i64 0]) 4 32 Tryz.underlying27 hin hz0 hz1 hz2 rfl (by decide) _ _ _ rfl ((own_keep (HO.out.alloc _) bv1).alloc _) ⟨_, 0, none⟩ 1 1 [.int .i64 _, .int .i64 _, .int .i64 _, .int .i64 _] rfl rfl (e1_newsX rfl _ _ _ _) (ints_oneW _ _ _ _) (by rw [HLL.out]; unfold maxLen; omega) (by rw [HLL.out]; omega) (by have := bv1.size; simp at this ⊢; omega) ?_; intro v' w4 hown4 hgrow hnil hat))
      have hWz : Below w.heap.size w (v1.alloc (.cells #[.int .i64 (mirE e).a, .int .i64 (mirE e).b, .int .i64 (mirE e).c, .int .i64 (mirE e).d] 32)) := by (repeat (first | (with_reducible exact Below.refl _ _) | (with_reducible refine Ext.drewN ?_ _) | (with_reducible refine Below.drew ?_) | (with_reducible refine Ext.alloc ?_ _) | (with_reducible refine Ext.setCell ?_ (by simp; try omega) _) | (with_reducible refine Ext.trans ?_ (by assumption)) | (with_reducible assumption) | exact Below.refl _ _))
      have hsv := bv1.size
      simp only [World.size_alloc] at hsv
      have hw1 : ∀ j, u7.ownBlock = some j → w1.heap.size ≤ j := fun j hj => (HO.out.lt j hj).1
      have hW4 := hWz.grown hgrow hWz.size (fun j hj => by have := hw1 j hj; omega)
      have HO4 := Lib.hid (((own_keep (HO3.out.alloc (.cells #[.int .i64 e.a, .int .i64 e.b, .int .i64 e.c, .int .i64 e.d] 32)) bv1).alloc (.cells #[.int .i64 (mirE e).a, .int .i64 (mirE e).b, .int .i64 (mirE e).c, .int .i64 (mirE e).d] 32)).kept hgrow (.inr fun h => HNE.out b1 h.symm rfl))
      have HW4 := Lib.hid hW4
      have hs4 := hgrow.size
      simp only [World.size_alloc] at hs4
      have HB4 : Hid (∀ j, v'.ownBlock = some j → j < w2.heap.size ∨ w3.heap.size ≤ j) := Lib.hid fun j hj => by
        rcases hat with h | h
        · exact HB.out j (h.symm.trans hj)
        · rw [hj] at h
          simp only [World.size_alloc, Option.some.injEq] at h
          exact .inr (by omega)
      have OW : Hid (w4.ownsRow w1.heap.size 32 4 v' (L2 ++ (L3.take (i + 1)).map mirE).length (recCells (L2 ++ (L3.take (i + 1)).map mirE))) := Lib.hid (by rw [HT.out, recCells_snoc, List.length_append]; exact hown4)
      clear hown4 hgrow hnil hat hW4 hWz bv1 c0 c1 c2 c3' HNE
      go_wp2_with fail
      go_roundw
      case rel => exact ⟨i + 1, by omega, by go_num, OW, HB4, HO4, HW4, HL3, by omega⟩
      case measure => simp [intOf]; omega
    · have q1 : ¬ ((i : Nat) : Int) < (L3.length : Int) := by omega
      obtain rfl : i = L3.length := by omega
      have HF : Hid (wr.ownsRow w1.heap.size 32 4 u7 (L2 ++ L3.map mirE).length (recCells (L2 ++ L3.map mirE))) := Lib.hid (by have h := HO.out; rw [List.take_length] at h; exact h)
      clear HO HB HO3 HL3
      go_wp2_with fail
      refine bodyPost_ret (results_tmp rfl _ _ _) rfl ⟨⟨_, L2 ++ L3.map mirE, rfl, own_lower HF.out s01, by simp; omega, hFin.out.1, hFin.out.2⟩, HW.out⟩
end Go.Proofs.YtmabdemdapnmkaaGreatDoor
